import Derived.Test.YtmcbkmmipgaeoaaNC17
import Derived.KernelRfl
namespace Go.Proofs.Ytmcbkmmipgaeoaa
open Go Go.Proofs Go.RowKit
set_option linter.unusedSimpArgs false
set_option linter.unusedVariables false
open Go.Proofs.Abs
theorem fn42 : ctx.funs.get 42 = some Try.f42 := by kernel_rfl
/-- is a place in a set, and up to where is that so? -/
def st (p : Int) : List (Int × Int) → Bool × Int
  | [] => (false, 1073741824)
  | (a, b) :: _ => if p < a then (false, a) else (true, b)
def stV (r : Bool × Int) : AV := .tup [.lit (.bool r.1), I r.2]
set_option maxHeartbeats 1000000 in
theorem stretch_nil (d : Nat) (h : Hp) (p : Int) : Wv (runA ctx 5000 (d + 1) 42 [nilS, I p] h) (fun r h' => r = stV (st p []) ∧ h' = h) := by
  refine wv_run fn42 rfl ?_
  have a0 := enter_get1 nilS [I p] Try.f42.ntmps
  have a1 := enter_get2 nilS (I p) [] Try.f42.ntmps
  generalize enterEnv _ _ = e at a0 a1 ⊢
  unfold Try.f42
  dsimp only
  have c0 : ((0 : Int) == 0) = true := rfl
  repeat' (first
    | refine wc_seq ?_
    | (refine wc_region rfl ?_; simp only [List.toList_toArray, opsA_cons, opsA_nil, wantedA, guardA, yieldA, stepA_t, stepA_f, callA, calleeA, targetA, runOp_c, runOp_n, opA, ev, evs, evo, consO, consOO, withH, pickA, afterA_s, putA, T.get_put, Nat.reduceEqDiff, reduceIte, List.getElem?_toArray, List.getElem?_cons_zero, List.getElem?_cons_succ, oBuiltin, builtinA, oBin, binA, binG, binL, aggO, litA, intA, ltF_eq, eqF_eq, indexAddrA, oIndexAddr, fieldAddrA, oFieldAddr, oLoad, oStore, allocA, isAggD, aggH, oneH, skipH, newBlk, cond_true, cond_false, ty22, ty25, ty51, ty3, ty4, ty28, ty29, ti22, ti25, ti51, ti3, ti4, ti28, ti29, Bool.not_true, Bool.not_false, decide_true, decide_false, blt_eq, tt_beq, tf_beq, ft_beq, ff_beq, load_own, store_own, setCells_cons, setCells_nil, cellsOf, litCells_cons, litCells_nil, List.length_cons, List.length_nil, Nat.reduceAdd, Nat.zero_add, Nat.add_zero, Nat.mul_one, Nat.reduceMul, nbeq_self, known_s, known_zero, getCells1, getCells2, onesA_cons', onesA_nil, oneA, Value.oneCell', Bool.and_true, Bool.true_and, Nat.reduceLT, Option.some.injEq, I, oExtract, minI, maxI, List.getElem?_cons_zero, List.getElem?_cons_succ, a0, a1, c0]; refine ⟨_, _, rfl, ?_⟩)
    | (refine wc_cond (by simp only [List.toList_toArray, opsA_cons, opsA_nil, wantedA, guardA, yieldA, stepA_t, stepA_f, callA, calleeA, targetA, runOp_c, runOp_n, opA, ev, evs, evo, consO, consOO, withH, pickA, afterA_s, putA, T.get_put, Nat.reduceEqDiff, reduceIte, List.getElem?_toArray, List.getElem?_cons_zero, List.getElem?_cons_succ, oBuiltin, builtinA, oBin, binA, binG, binL, aggO, litA, intA, ltF_eq, eqF_eq, indexAddrA, oIndexAddr, fieldAddrA, oFieldAddr, oLoad, oStore, allocA, isAggD, aggH, oneH, skipH, newBlk, cond_true, cond_false, ty22, ty25, ty51, ty3, ty4, ty28, ty29, ti22, ti25, ti51, ti3, ti4, ti28, ti29, Bool.not_true, Bool.not_false, decide_true, decide_false, blt_eq, tt_beq, tf_beq, ft_beq, ff_beq, load_own, store_own, setCells_cons, setCells_nil, cellsOf, litCells_cons, litCells_nil, List.length_cons, List.length_nil, Nat.reduceAdd, Nat.zero_add, Nat.add_zero, Nat.mul_one, Nat.reduceMul, nbeq_self, known_s, known_zero, getCells1, getCells2, onesA_cons', onesA_nil, oneA, Value.oneCell', Bool.and_true, Bool.true_and, Nat.reduceLT, Option.some.injEq, I, oExtract, minI, maxI, List.getElem?_cons_zero, List.getElem?_cons_succ, a0, a1, c0]; rfl) ?_ ?_ <;> intro hb <;> first | (exfalso; exact Bool.noConfusion hb) | skip)
    | refine wc_block ?_
    | refine wc_skip ?_
    | refine wc_scope (by decide) ?_
    | refine wc_label ?_
    | refine wc_exit ?_
    | refine wc_ret ?_
    | refine wv_ret (by simp only [resA, resOne]; simp only [List.toList_toArray, opsA_cons, opsA_nil, wantedA, guardA, yieldA, stepA_t, stepA_f, callA, calleeA, targetA, runOp_c, runOp_n, opA, ev, evs, evo, consO, consOO, withH, pickA, afterA_s, putA, T.get_put, Nat.reduceEqDiff, reduceIte, List.getElem?_toArray, List.getElem?_cons_zero, List.getElem?_cons_succ, oBuiltin, builtinA, oBin, binA, binG, binL, aggO, litA, intA, ltF_eq, eqF_eq, indexAddrA, oIndexAddr, fieldAddrA, oFieldAddr, oLoad, oStore, allocA, isAggD, aggH, oneH, skipH, newBlk, cond_true, cond_false, ty22, ty25, ty51, ty3, ty4, ty28, ty29, ti22, ti25, ti51, ti3, ti4, ti28, ti29, Bool.not_true, Bool.not_false, decide_true, decide_false, blt_eq, tt_beq, tf_beq, ft_beq, ff_beq, load_own, store_own, setCells_cons, setCells_nil, cellsOf, litCells_cons, litCells_nil, List.length_cons, List.length_nil, Nat.reduceAdd, Nat.zero_add, Nat.add_zero, Nat.mul_one, Nat.reduceMul, nbeq_self, known_s, known_zero, getCells1, getCells2, onesA_cons', onesA_nil, oneA, Value.oneCell', Bool.and_true, Bool.true_and, Nat.reduceLT, Option.some.injEq, I, oExtract, minI, maxI, List.getElem?_cons_zero, List.getElem?_cons_succ, a0, a1, c0]; rfl) ?_)
  exact ⟨rfl, rfl⟩
set_option maxHeartbeats 1000000 in
theorem stretch_row (d : Nat) (h : Hp) (nm off : Nat) (rest : Bool) (cap z : Nat) (xs : List (Int × Int)) (p : Int) (hr : Rows h nm off xs) :
    Wv (runA ctx 5000 (d + 1) 42 [(.slice nm off xs.length rest cap z), I p] h) (fun r h' => r = stV (st p xs) ∧ h' = h) := by
  refine wv_run fn42 rfl ?_
  have a0 := enter_get1 (.slice nm off xs.length rest cap z) [I p] Try.f42.ntmps
  have a1 := enter_get2 (.slice nm off xs.length rest cap z) (I p) [] Try.f42.ntmps
  generalize enterEnv _ _ = e at a0 a1 ⊢
  unfold Try.f42
  dsimp only
  cases xs with
  | nil =>
    have c0 : ((([] : List (Int × Int)).length : Int) == 0) = true := rfl
    repeat' (first
      | refine wc_seq ?_
      | (refine wc_region rfl ?_; simp only [List.toList_toArray, opsA_cons, opsA_nil, wantedA, guardA, yieldA, stepA_t, stepA_f, callA, calleeA, targetA, runOp_c, runOp_n, opA, ev, evs, evo, consO, consOO, withH, pickA, afterA_s, putA, T.get_put, Nat.reduceEqDiff, reduceIte, List.getElem?_toArray, List.getElem?_cons_zero, List.getElem?_cons_succ, oBuiltin, builtinA, oBin, binA, binG, binL, aggO, litA, intA, ltF_eq, eqF_eq, indexAddrA, oIndexAddr, fieldAddrA, oFieldAddr, oLoad, oStore, allocA, isAggD, aggH, oneH, skipH, newBlk, cond_true, cond_false, ty22, ty25, ty51, ty3, ty4, ty28, ty29, ti22, ti25, ti51, ti3, ti4, ti28, ti29, Bool.not_true, Bool.not_false, decide_true, decide_false, blt_eq, tt_beq, tf_beq, ft_beq, ff_beq, load_own, store_own, setCells_cons, setCells_nil, cellsOf, litCells_cons, litCells_nil, Nat.reduceAdd, Nat.zero_add, Nat.add_zero, Nat.mul_one, Nat.reduceMul, nbeq_self, known_s, known_zero, getCells1, getCells2, onesA_cons', onesA_nil, oneA, Value.oneCell', Bool.and_true, Bool.true_and, Nat.reduceLT, Option.some.injEq, I, oExtract, minI, maxI, List.getElem?_cons_zero, List.getElem?_cons_succ, a0, a1, c0]; refine ⟨_, _, rfl, ?_⟩)
      | (refine wc_cond (by simp only [List.toList_toArray, opsA_cons, opsA_nil, wantedA, guardA, yieldA, stepA_t, stepA_f, callA, calleeA, targetA, runOp_c, runOp_n, opA, ev, evs, evo, consO, consOO, withH, pickA, afterA_s, putA, T.get_put, Nat.reduceEqDiff, reduceIte, List.getElem?_toArray, List.getElem?_cons_zero, List.getElem?_cons_succ, oBuiltin, builtinA, oBin, binA, binG, binL, aggO, litA, intA, ltF_eq, eqF_eq, indexAddrA, oIndexAddr, fieldAddrA, oFieldAddr, oLoad, oStore, allocA, isAggD, aggH, oneH, skipH, newBlk, cond_true, cond_false, ty22, ty25, ty51, ty3, ty4, ty28, ty29, ti22, ti25, ti51, ti3, ti4, ti28, ti29, Bool.not_true, Bool.not_false, decide_true, decide_false, blt_eq, tt_beq, tf_beq, ft_beq, ff_beq, load_own, store_own, setCells_cons, setCells_nil, cellsOf, litCells_cons, litCells_nil, Nat.reduceAdd, Nat.zero_add, Nat.add_zero, Nat.mul_one, Nat.reduceMul, nbeq_self, known_s, known_zero, getCells1, getCells2, onesA_cons', onesA_nil, oneA, Value.oneCell', Bool.and_true, Bool.true_and, Nat.reduceLT, Option.some.injEq, I, oExtract, minI, maxI, List.getElem?_cons_zero, List.getElem?_cons_succ, a0, a1, c0]; rfl) ?_ ?_ <;> intro hb <;> first | (exfalso; exact Bool.noConfusion hb) | skip)
      | refine wc_block ?_
      | refine wc_skip ?_
      | refine wc_scope (by decide) ?_
      | refine wc_label ?_
      | refine wc_exit ?_
      | refine wc_ret ?_
      | refine wv_ret (by simp only [resA, resOne]; simp only [List.toList_toArray, opsA_cons, opsA_nil, wantedA, guardA, yieldA, stepA_t, stepA_f, callA, calleeA, targetA, runOp_c, runOp_n, opA, ev, evs, evo, consO, consOO, withH, pickA, afterA_s, putA, T.get_put, Nat.reduceEqDiff, reduceIte, List.getElem?_toArray, List.getElem?_cons_zero, List.getElem?_cons_succ, oBuiltin, builtinA, oBin, binA, binG, binL, aggO, litA, intA, ltF_eq, eqF_eq, indexAddrA, oIndexAddr, fieldAddrA, oFieldAddr, oLoad, oStore, allocA, isAggD, aggH, oneH, skipH, newBlk, cond_true, cond_false, ty22, ty25, ty51, ty3, ty4, ty28, ty29, ti22, ti25, ti51, ti3, ti4, ti28, ti29, Bool.not_true, Bool.not_false, decide_true, decide_false, blt_eq, tt_beq, tf_beq, ft_beq, ff_beq, load_own, store_own, setCells_cons, setCells_nil, cellsOf, litCells_cons, litCells_nil, Nat.reduceAdd, Nat.zero_add, Nat.add_zero, Nat.mul_one, Nat.reduceMul, nbeq_self, known_s, known_zero, getCells1, getCells2, onesA_cons', onesA_nil, oneA, Value.oneCell', Bool.and_true, Bool.true_and, Nat.reduceLT, Option.some.injEq, I, oExtract, minI, maxI, List.getElem?_cons_zero, List.getElem?_cons_succ, a0, a1, c0]; rfl) ?_)
    exact ⟨rfl, rfl⟩
  | cons x xs =>
    obtain ⟨a, b⟩ := x
    have c0 : ((((a, b) :: xs).length : Int) == 0) = false := by rw [beq_eq_false_iff_ne, List.length_cons]; omega
    have hlt : 0 < ((a, b) :: xs).length := Nat.succ_pos _
    obtain ⟨la, lb⟩ := hr 0 a b rfl
    rw [Nat.zero_mul, Nat.add_zero] at la lb
    by_cases h1 : p < a
    · rw [st, if_pos h1]
      repeat' (first
        | refine wc_seq ?_
        | (refine wc_region rfl ?_; simp only [List.toList_toArray, opsA_cons, opsA_nil, wantedA, guardA, yieldA, stepA_t, stepA_f, callA, calleeA, targetA, runOp_c, runOp_n, opA, ev, evs, evo, consO, consOO, withH, pickA, afterA_s, putA, T.get_put, Nat.reduceEqDiff, reduceIte, List.getElem?_toArray, List.getElem?_cons_zero, List.getElem?_cons_succ, oBuiltin, builtinA, oBin, binA, binG, binL, aggO, litA, intA, ltF_eq, eqF_eq, indexAddrA, oIndexAddr, fieldAddrA, oFieldAddr, oLoad, oStore, allocA, isAggD, aggH, oneH, skipH, newBlk, cond_true, cond_false, ty22, ty25, ty51, ty3, ty4, ty28, ty29, ti22, ti25, ti51, ti3, ti4, ti28, ti29, Bool.not_true, Bool.not_false, decide_true, decide_false, blt_eq, tt_beq, tf_beq, ft_beq, ff_beq, load_own, store_own, setCells_cons, setCells_nil, cellsOf, litCells_cons, litCells_nil, Nat.reduceAdd, Nat.zero_add, Nat.add_zero, Nat.mul_one, Nat.reduceMul, nbeq_self, known_s, known_zero, getCells1, getCells2, onesA_cons', onesA_nil, oneA, Value.oneCell', Bool.and_true, Bool.true_and, Nat.reduceLT, Option.some.injEq, I, oExtract, minI, maxI, List.getElem?_cons_zero, List.getElem?_cons_succ, a0, a1, c0, hlt, la, lb, h1, Nat.zero_mul]; refine ⟨_, _, rfl, ?_⟩)
        | (refine wc_cond (by simp only [List.toList_toArray, opsA_cons, opsA_nil, wantedA, guardA, yieldA, stepA_t, stepA_f, callA, calleeA, targetA, runOp_c, runOp_n, opA, ev, evs, evo, consO, consOO, withH, pickA, afterA_s, putA, T.get_put, Nat.reduceEqDiff, reduceIte, List.getElem?_toArray, List.getElem?_cons_zero, List.getElem?_cons_succ, oBuiltin, builtinA, oBin, binA, binG, binL, aggO, litA, intA, ltF_eq, eqF_eq, indexAddrA, oIndexAddr, fieldAddrA, oFieldAddr, oLoad, oStore, allocA, isAggD, aggH, oneH, skipH, newBlk, cond_true, cond_false, ty22, ty25, ty51, ty3, ty4, ty28, ty29, ti22, ti25, ti51, ti3, ti4, ti28, ti29, Bool.not_true, Bool.not_false, decide_true, decide_false, blt_eq, tt_beq, tf_beq, ft_beq, ff_beq, load_own, store_own, setCells_cons, setCells_nil, cellsOf, litCells_cons, litCells_nil, Nat.reduceAdd, Nat.zero_add, Nat.add_zero, Nat.mul_one, Nat.reduceMul, nbeq_self, known_s, known_zero, getCells1, getCells2, onesA_cons', onesA_nil, oneA, Value.oneCell', Bool.and_true, Bool.true_and, Nat.reduceLT, Option.some.injEq, I, oExtract, minI, maxI, List.getElem?_cons_zero, List.getElem?_cons_succ, a0, a1, c0, hlt, la, lb, h1, Nat.zero_mul]; rfl) ?_ ?_ <;> intro hb <;> first | (exfalso; exact Bool.noConfusion hb) | skip)
        | refine wc_block ?_
        | refine wc_skip ?_
        | refine wc_scope (by decide) ?_
        | refine wc_label ?_
        | refine wc_exit ?_
        | refine wc_ret ?_
        | refine wv_ret (by simp only [resA, resOne]; simp only [List.toList_toArray, opsA_cons, opsA_nil, wantedA, guardA, yieldA, stepA_t, stepA_f, callA, calleeA, targetA, runOp_c, runOp_n, opA, ev, evs, evo, consO, consOO, withH, pickA, afterA_s, putA, T.get_put, Nat.reduceEqDiff, reduceIte, List.getElem?_toArray, List.getElem?_cons_zero, List.getElem?_cons_succ, oBuiltin, builtinA, oBin, binA, binG, binL, aggO, litA, intA, ltF_eq, eqF_eq, indexAddrA, oIndexAddr, fieldAddrA, oFieldAddr, oLoad, oStore, allocA, isAggD, aggH, oneH, skipH, newBlk, cond_true, cond_false, ty22, ty25, ty51, ty3, ty4, ty28, ty29, ti22, ti25, ti51, ti3, ti4, ti28, ti29, Bool.not_true, Bool.not_false, decide_true, decide_false, blt_eq, tt_beq, tf_beq, ft_beq, ff_beq, load_own, store_own, setCells_cons, setCells_nil, cellsOf, litCells_cons, litCells_nil, Nat.reduceAdd, Nat.zero_add, Nat.add_zero, Nat.mul_one, Nat.reduceMul, nbeq_self, known_s, known_zero, getCells1, getCells2, onesA_cons', onesA_nil, oneA, Value.oneCell', Bool.and_true, Bool.true_and, Nat.reduceLT, Option.some.injEq, I, oExtract, minI, maxI, List.getElem?_cons_zero, List.getElem?_cons_succ, a0, a1, c0, hlt, la, lb, h1, Nat.zero_mul]; rfl) ?_)
      exact ⟨rfl, rfl⟩
    · rw [st, if_neg h1]
      repeat' (first
        | refine wc_seq ?_
        | (refine wc_region rfl ?_; simp only [List.toList_toArray, opsA_cons, opsA_nil, wantedA, guardA, yieldA, stepA_t, stepA_f, callA, calleeA, targetA, runOp_c, runOp_n, opA, ev, evs, evo, consO, consOO, withH, pickA, afterA_s, putA, T.get_put, Nat.reduceEqDiff, reduceIte, List.getElem?_toArray, List.getElem?_cons_zero, List.getElem?_cons_succ, oBuiltin, builtinA, oBin, binA, binG, binL, aggO, litA, intA, ltF_eq, eqF_eq, indexAddrA, oIndexAddr, fieldAddrA, oFieldAddr, oLoad, oStore, allocA, isAggD, aggH, oneH, skipH, newBlk, cond_true, cond_false, ty22, ty25, ty51, ty3, ty4, ty28, ty29, ti22, ti25, ti51, ti3, ti4, ti28, ti29, Bool.not_true, Bool.not_false, decide_true, decide_false, blt_eq, tt_beq, tf_beq, ft_beq, ff_beq, load_own, store_own, setCells_cons, setCells_nil, cellsOf, litCells_cons, litCells_nil, Nat.reduceAdd, Nat.zero_add, Nat.add_zero, Nat.mul_one, Nat.reduceMul, nbeq_self, known_s, known_zero, getCells1, getCells2, onesA_cons', onesA_nil, oneA, Value.oneCell', Bool.and_true, Bool.true_and, Nat.reduceLT, Option.some.injEq, I, oExtract, minI, maxI, List.getElem?_cons_zero, List.getElem?_cons_succ, a0, a1, c0, hlt, la, lb, h1, Nat.zero_mul]; refine ⟨_, _, rfl, ?_⟩)
        | (refine wc_cond (by simp only [List.toList_toArray, opsA_cons, opsA_nil, wantedA, guardA, yieldA, stepA_t, stepA_f, callA, calleeA, targetA, runOp_c, runOp_n, opA, ev, evs, evo, consO, consOO, withH, pickA, afterA_s, putA, T.get_put, Nat.reduceEqDiff, reduceIte, List.getElem?_toArray, List.getElem?_cons_zero, List.getElem?_cons_succ, oBuiltin, builtinA, oBin, binA, binG, binL, aggO, litA, intA, ltF_eq, eqF_eq, indexAddrA, oIndexAddr, fieldAddrA, oFieldAddr, oLoad, oStore, allocA, isAggD, aggH, oneH, skipH, newBlk, cond_true, cond_false, ty22, ty25, ty51, ty3, ty4, ty28, ty29, ti22, ti25, ti51, ti3, ti4, ti28, ti29, Bool.not_true, Bool.not_false, decide_true, decide_false, blt_eq, tt_beq, tf_beq, ft_beq, ff_beq, load_own, store_own, setCells_cons, setCells_nil, cellsOf, litCells_cons, litCells_nil, Nat.reduceAdd, Nat.zero_add, Nat.add_zero, Nat.mul_one, Nat.reduceMul, nbeq_self, known_s, known_zero, getCells1, getCells2, onesA_cons', onesA_nil, oneA, Value.oneCell', Bool.and_true, Bool.true_and, Nat.reduceLT, Option.some.injEq, I, oExtract, minI, maxI, List.getElem?_cons_zero, List.getElem?_cons_succ, a0, a1, c0, hlt, la, lb, h1, Nat.zero_mul]; rfl) ?_ ?_ <;> intro hb <;> first | (exfalso; exact Bool.noConfusion hb) | skip)
        | refine wc_block ?_
        | refine wc_skip ?_
        | refine wc_scope (by decide) ?_
        | refine wc_label ?_
        | refine wc_exit ?_
        | refine wc_ret ?_
        | refine wv_ret (by simp only [resA, resOne]; simp only [List.toList_toArray, opsA_cons, opsA_nil, wantedA, guardA, yieldA, stepA_t, stepA_f, callA, calleeA, targetA, runOp_c, runOp_n, opA, ev, evs, evo, consO, consOO, withH, pickA, afterA_s, putA, T.get_put, Nat.reduceEqDiff, reduceIte, List.getElem?_toArray, List.getElem?_cons_zero, List.getElem?_cons_succ, oBuiltin, builtinA, oBin, binA, binG, binL, aggO, litA, intA, ltF_eq, eqF_eq, indexAddrA, oIndexAddr, fieldAddrA, oFieldAddr, oLoad, oStore, allocA, isAggD, aggH, oneH, skipH, newBlk, cond_true, cond_false, ty22, ty25, ty51, ty3, ty4, ty28, ty29, ti22, ti25, ti51, ti3, ti4, ti28, ti29, Bool.not_true, Bool.not_false, decide_true, decide_false, blt_eq, tt_beq, tf_beq, ft_beq, ff_beq, load_own, store_own, setCells_cons, setCells_nil, cellsOf, litCells_cons, litCells_nil, Nat.reduceAdd, Nat.zero_add, Nat.add_zero, Nat.mul_one, Nat.reduceMul, nbeq_self, known_s, known_zero, getCells1, getCells2, onesA_cons', onesA_nil, oneA, Value.oneCell', Bool.and_true, Bool.true_and, Nat.reduceLT, Option.some.injEq, I, oExtract, minI, maxI, List.getElem?_cons_zero, List.getElem?_cons_succ, a0, a1, c0, hlt, la, lb, h1, Nat.zero_mul]; rfl) ?_)
      exact ⟨rfl, rfl⟩

end Go.Proofs.Ytmcbkmmipgaeoaa
