import Derived.Test.YtgekfjndpbejoaaF1
import Derived.Test.YtgekfjndpbejoaaCtx
import Derived.KernelRfl
namespace Go.Proofs.Ytgekfjndpbejoaa
open Go Go.Proofs Go.RowKit
set_option linter.unusedSimpArgs false
set_option linter.unusedVariables false
open Go.Proofs.Abs
theorem fn3 : ctx.funs.get 3 = some Try.f3 := by kernel_rfl
theorem fn4 : ctx.funs.get 4 = some Try.f4 := by kernel_rfl
theorem fn5 : ctx.funs.get 5 = some Try.f5 := by kernel_rfl
theorem fn6 : ctx.funs.get 6 = some Try.f6 := by kernel_rfl
theorem fn7 : ctx.funs.get 7 = some Try.f7 := by kernel_rfl
theorem fn10 : ctx.funs.get 10 = some Try.f10 := by kernel_rfl
theorem fn11 : ctx.funs.get 11 = some Try.f11 := by kernel_rfl
theorem fn12 : ctx.funs.get 12 = some Try.f12 := by kernel_rfl
theorem fn13 : ctx.funs.get 13 = some Try.f13 := by kernel_rfl
theorem fn14 : ctx.funs.get 14 = some Try.f14 := by kernel_rfl
theorem fn15 : ctx.funs.get 15 = some Try.f15 := by kernel_rfl
theorem fn16 : ctx.funs.get 16 = some Try.f16 := by kernel_rfl
theorem fn17 : ctx.funs.get 17 = some Try.f17 := by kernel_rfl
theorem fn18 : ctx.funs.get 18 = some Try.f18 := by kernel_rfl
theorem fn19 : ctx.funs.get 19 = some Try.f19 := by kernel_rfl
theorem fn20 : ctx.funs.get 20 = some Try.f20 := by kernel_rfl
theorem fn21 : ctx.funs.get 21 = some Try.f21 := by kernel_rfl
theorem fn22 : ctx.funs.get 22 = some Try.f22 := by kernel_rfl
theorem fn23 : ctx.funs.get 23 = some Try.f23 := by kernel_rfl
theorem fn24 : ctx.funs.get 24 = some Try.f24 := by kernel_rfl
theorem fn25 : ctx.funs.get 25 = some Try.f25 := by kernel_rfl
theorem fn26 : ctx.funs.get 26 = some Try.f26 := by kernel_rfl
theorem fn27 : ctx.funs.get 27 = some Try.f27 := by kernel_rfl
theorem fn28 : ctx.funs.get 28 = some Try.f28 := by kernel_rfl
theorem fn29 : ctx.funs.get 29 = some Try.f29 := by kernel_rfl
theorem fn30 : ctx.funs.get 30 = some Try.f30 := by kernel_rfl
theorem fn31 : ctx.funs.get 31 = some Try.f31 := by kernel_rfl

theorem ty2 : ctx.tys.get 2 = some ti2 := by kernel_rfl
theorem ty3 : ctx.tys.get 3 = some ti3 := by kernel_rfl
theorem ty4 : ctx.tys.get 4 = some ti4 := by kernel_rfl
theorem ty5 : ctx.tys.get 5 = some ti5 := by kernel_rfl
theorem ty9 : ctx.tys.get 9 = some ti9 := by kernel_rfl
theorem ty22 : ctx.tys.get 22 = some ti22 := by kernel_rfl
theorem ty25 : ctx.tys.get 25 = some ti25 := by kernel_rfl
theorem ty26 : ctx.tys.get 26 = some ti26 := by kernel_rfl
theorem ty44 : ctx.tys.get 44 = some ti44 := by kernel_rfl
theorem ty48 : ctx.tys.get 48 = some ti48 := by kernel_rfl
theorem ty52 : ctx.tys.get 52 = some ti52 := by kernel_rfl
theorem ty53 : ctx.tys.get 53 = some ti53 := by kernel_rfl
theorem ty61 : ctx.tys.get 61 = some ti61 := by kernel_rfl
theorem ty62 : ctx.tys.get 62 = some ti62 := by kernel_rfl
theorem ty65 : ctx.tys.get 65 = some ti65 := by kernel_rfl
theorem ty67 : ctx.tys.get 67 = some ti67 := by kernel_rfl

theorem len22 {nm off n cap z : Nat} {r : Bool} (h : Hp) : builtinA ctx h .len [22] [.slice nm off n r cap z] = some (I (n : Int), h) := by
  simp only [builtinA, ty22, ti22]
theorem cap22 {nm off n cap z : Nat} (h : Hp) : builtinA ctx h .cap [22] [.slice nm off n false cap z] = some (I (cap : Int), h) := by
  simp only [builtinA, ty22, ti22]
theorem ia22 {nm off n cap z k : Nat} {r : Bool} (hk : k < n) : indexAddrA ctx 22 (.slice nm off n r cap z) (I (Int.ofNat k)) = some (.ptr nm (off + k)) := ia_own ty22 rfl ty2 rfl hk
theorem inc {k : Nat} (hk : k < 9223372036854775807) : IntKind.wrap .i64 (Int.ofNat k + 1) = Int.ofNat (k + 1) := by rw [IntKind.wrap_i64]; simp; omega
theorem dec {k : Nat} (hk : k < 9223372036854775807) : IntKind.wrap .i64 (Int.ofNat (k + 1) - 1) = Int.ofNat k := by rw [IntKind.wrap_i64]; simp; omega
theorem un_neg (k : Nat) : pureV (Op.unary .neg (.int .i64 (Int.ofNat k))) = some (I (IntKind.wrap .i64 (0 - Int.ofNat k))) := rfl
theorem bin_and (k : Nat) : pureV (binOp .and 3 (.int .i64 (Int.ofNat k)) (.int .i64 (IntKind.wrap .i64 (0 - Int.ofNat k)))) = some (I (lowI k)) := rfl
set_option maxHeartbeats 4000000 in
theorem c26 (d : Nat) (h : Hp) (k : Nat) (hk : k < 8193) : runA ctx 5000 (d + 1) 26 [I (Int.ofNat k)] h = some (I (Int.ofNat (lb k)), h) := by
  have ub := un_neg k
  have ab := bin_and k
  rw [low_eq k hk] at ab
  refine wv_eq ?_
  refine wv_run fn26 rfl ?_
  have a0 : (enterEnv [I (Int.ofNat k)] Try.f26.ntmps).get 0 = some (I (Int.ofNat k)) := enter_get1 _ _ _
  generalize enterEnv [I (Int.ofNat k)] Try.f26.ntmps = e at a0 ⊢
  unfold Try.f26
  dsimp only
  repeat' (first
    | refine wc_seq ?_
    | (refine wc_region rfl ?_; simp only [oUn_not, beq_self_eq_true, eq_self, pv_mul, List.toList_toArray, opsA_cons, opsA_nil, wantedA, guardA, yieldA, stepA_t, stepA_f, callA, calleeA, targetA, runOp_c, runOp_n, opA, ev, evs, evo, consO, consOO, withH, pickA, afterA_s, putA, T.get_put, Nat.reduceEqDiff, reduceIte, List.getElem?_toArray, List.getElem?_cons_zero, List.getElem?_cons_succ, oBuiltin, oBin, binA, binG, binL, aggO, litA, intA, ltF_eq, eqF_eq, oIndexAddr, cond_true, cond_false, Bool.not_true, Bool.not_false, decide_true, decide_false, blt_eq, tt_beq, tf_beq, ft_beq, ff_beq, Bool.and_true, Bool.true_and, Option.some.injEq, I, Bo, addI, subI, oExtract, Bool.not_eq_true', fieldAddrA, oFieldAddr, oLoad, oStore, isAggD, aggH, oneH, skipH, Nat.add_eq_left, Nat.left_eq_add, Nat.succ_ne_self, fieldA, partA, cellsOf, List.length_cons, List.length_nil, Nat.reduceAdd, Nat.zero_add, Nat.add_zero, Nat.mul_one, Nat.reduceMul, nbeq_self, onesA_cons', onesA_nil, oneA, Value.oneCell', Nat.reduceLT, ty3, ti3, a0, oUn, ub, ab]; refine ⟨_, _, rfl, ?_⟩)
    | (refine wc_cond (by simp only [oUn_not, beq_self_eq_true, eq_self, pv_mul, List.toList_toArray, opsA_cons, opsA_nil, wantedA, guardA, yieldA, stepA_t, stepA_f, callA, calleeA, targetA, runOp_c, runOp_n, opA, ev, evs, evo, consO, consOO, withH, pickA, afterA_s, putA, T.get_put, Nat.reduceEqDiff, reduceIte, List.getElem?_toArray, List.getElem?_cons_zero, List.getElem?_cons_succ, oBuiltin, oBin, binA, binG, binL, aggO, litA, intA, ltF_eq, eqF_eq, oIndexAddr, cond_true, cond_false, Bool.not_true, Bool.not_false, decide_true, decide_false, blt_eq, tt_beq, tf_beq, ft_beq, ff_beq, Bool.and_true, Bool.true_and, Option.some.injEq, I, Bo, addI, subI, oExtract, Bool.not_eq_true', fieldAddrA, oFieldAddr, oLoad, oStore, isAggD, aggH, oneH, skipH, Nat.add_eq_left, Nat.left_eq_add, Nat.succ_ne_self, fieldA, partA, cellsOf, List.length_cons, List.length_nil, Nat.reduceAdd, Nat.zero_add, Nat.add_zero, Nat.mul_one, Nat.reduceMul, nbeq_self, onesA_cons', onesA_nil, oneA, Value.oneCell', Nat.reduceLT, ty3, ti3, a0, oUn, ub, ab]; rfl) ?_ ?_ <;> intro hb <;> first | (exfalso; exact Bool.noConfusion hb) | skip)
    | refine wc_block ?_
    | refine wc_skip ?_
    | refine wc_scope (by decide) ?_
    | refine wc_label ?_
    | refine wc_exit ?_
    | refine wc_ret ?_
    | refine wv_ret (by simp only [resA, resOne]; simp only [oUn_not, beq_self_eq_true, eq_self, pv_mul, List.toList_toArray, opsA_cons, opsA_nil, wantedA, guardA, yieldA, stepA_t, stepA_f, callA, calleeA, targetA, runOp_c, runOp_n, opA, ev, evs, evo, consO, consOO, withH, pickA, afterA_s, putA, T.get_put, Nat.reduceEqDiff, reduceIte, List.getElem?_toArray, List.getElem?_cons_zero, List.getElem?_cons_succ, oBuiltin, oBin, binA, binG, binL, aggO, litA, intA, ltF_eq, eqF_eq, oIndexAddr, cond_true, cond_false, Bool.not_true, Bool.not_false, decide_true, decide_false, blt_eq, tt_beq, tf_beq, ft_beq, ff_beq, Bool.and_true, Bool.true_and, Option.some.injEq, I, Bo, addI, subI, oExtract, Bool.not_eq_true', fieldAddrA, oFieldAddr, oLoad, oStore, isAggD, aggH, oneH, skipH, Nat.add_eq_left, Nat.left_eq_add, Nat.succ_ne_self, fieldA, partA, cellsOf, List.length_cons, List.length_nil, Nat.reduceAdd, Nat.zero_add, Nat.add_zero, Nat.mul_one, Nat.reduceMul, nbeq_self, onesA_cons', onesA_nil, oneA, Value.oneCell', Nat.reduceLT, ty3, ti3, a0, oUn, ub, ab]; rfl) ?_)
  all_goals exact ⟨rfl, rfl⟩
set_option maxHeartbeats 4000000 in
theorem c29 (d : Nat) (h : Hp) (j n nm nb bt bm : Nat) (s more : Int) (hj : j < n) (ct : Cell h bt 0 (.ptr nm 0)) (c2 : Cell h nm 2 (.slice nb 0 n false n 0)) (cj : Cell h nb j (I s)) (cm : Cell h bm 0 (I more)) (hn : n ≤ 4096) :
    Wv (runA ctx 5000 (d + 1) 29 [I (Int.ofNat (j + 1)), .ptr bt 0, .ptr bm 0] h) (fun r h' => St h h' nb j (I (IntKind.wrap .i64 (s + more)))) := by
  have l1 := ct.load
  have l2 := c2.load
  have l3 := cj.load
  have l4 := cm.load
  have w := dec (k := j) (by omega)
  have ix := ia22 (nm := nb) (off := 0) (cap := n) (z := 0) (r := false) hj
  rw [Nat.zero_add] at ix
  obtain ⟨h2, hst, s2⟩ := cj.store (w := I (IntKind.wrap .i64 (s + more))) rfl
  refine wv_run fn29 rfl ?_
  have a0 : (enterEnv [I (Int.ofNat (j + 1)), .ptr bt 0, .ptr bm 0] Try.f29.ntmps).get 0 = some (I (Int.ofNat (j + 1))) := enter_get1 _ _ _
  have a1 : (enterEnv [I (Int.ofNat (j + 1)), .ptr bt 0, .ptr bm 0] Try.f29.ntmps).get 1 = some (.ptr bt 0) := enter_get2 _ _ _ _
  have a2 : (enterEnv [I (Int.ofNat (j + 1)), .ptr bt 0, .ptr bm 0] Try.f29.ntmps).get 2 = some (.ptr bm 0) := enter_get3 _ _ _ _ _
  generalize enterEnv [I (Int.ofNat (j + 1)), .ptr bt 0, .ptr bm 0] Try.f29.ntmps = e at a0 a1 a2 ⊢
  unfold Try.f29
  dsimp only
  repeat' (first
    | refine wc_seq ?_
    | (refine wc_region rfl ?_; simp only [oUn_not, beq_self_eq_true, eq_self, pv_mul, List.toList_toArray, opsA_cons, opsA_nil, wantedA, guardA, yieldA, stepA_t, stepA_f, callA, calleeA, targetA, runOp_c, runOp_n, opA, ev, evs, evo, consO, consOO, withH, pickA, afterA_s, putA, T.get_put, Nat.reduceEqDiff, reduceIte, List.getElem?_toArray, List.getElem?_cons_zero, List.getElem?_cons_succ, oBuiltin, oBin, binA, binG, binL, aggO, litA, intA, ltF_eq, eqF_eq, oIndexAddr, cond_true, cond_false, Bool.not_true, Bool.not_false, decide_true, decide_false, blt_eq, tt_beq, tf_beq, ft_beq, ff_beq, Bool.and_true, Bool.true_and, Option.some.injEq, I, Bo, addI, subI, oExtract, Bool.not_eq_true', fieldAddrA, oFieldAddr, oLoad, oStore, isAggD, aggH, oneH, skipH, Nat.add_eq_left, Nat.left_eq_add, Nat.succ_ne_self, fieldA, partA, cellsOf, List.length_cons, List.length_nil, Nat.reduceAdd, Nat.zero_add, Nat.add_zero, Nat.mul_one, Nat.reduceMul, nbeq_self, onesA_cons', onesA_nil, oneA, Value.oneCell', Nat.reduceLT, ty2, ti2, ty3, ti3, ty22, ti22, ty25, ti25, ty52, ti52, a0, a1, a2, l1, l2, l3, l4, w, ix, hst, eqA, eqD, eqOp, nilCheckA]; refine ⟨_, _, rfl, ?_⟩)
    | (refine wc_cond (by simp only [oUn_not, beq_self_eq_true, eq_self, pv_mul, List.toList_toArray, opsA_cons, opsA_nil, wantedA, guardA, yieldA, stepA_t, stepA_f, callA, calleeA, targetA, runOp_c, runOp_n, opA, ev, evs, evo, consO, consOO, withH, pickA, afterA_s, putA, T.get_put, Nat.reduceEqDiff, reduceIte, List.getElem?_toArray, List.getElem?_cons_zero, List.getElem?_cons_succ, oBuiltin, oBin, binA, binG, binL, aggO, litA, intA, ltF_eq, eqF_eq, oIndexAddr, cond_true, cond_false, Bool.not_true, Bool.not_false, decide_true, decide_false, blt_eq, tt_beq, tf_beq, ft_beq, ff_beq, Bool.and_true, Bool.true_and, Option.some.injEq, I, Bo, addI, subI, oExtract, Bool.not_eq_true', fieldAddrA, oFieldAddr, oLoad, oStore, isAggD, aggH, oneH, skipH, Nat.add_eq_left, Nat.left_eq_add, Nat.succ_ne_self, fieldA, partA, cellsOf, List.length_cons, List.length_nil, Nat.reduceAdd, Nat.zero_add, Nat.add_zero, Nat.mul_one, Nat.reduceMul, nbeq_self, onesA_cons', onesA_nil, oneA, Value.oneCell', Nat.reduceLT, ty2, ti2, ty3, ti3, ty22, ti22, ty25, ti25, ty52, ti52, a0, a1, a2, l1, l2, l3, l4, w, ix, hst, eqA, eqD, eqOp, nilCheckA]; rfl) ?_ ?_ <;> intro hb <;> first | (exfalso; exact Bool.noConfusion hb) | skip)
    | refine wc_block ?_
    | refine wc_skip ?_
    | refine wc_scope (by decide) ?_
    | refine wc_label ?_
    | refine wc_exit ?_
    | refine wc_ret ?_
    | refine wv_ret (by simp only [resA, resOne]; simp only [oUn_not, beq_self_eq_true, eq_self, pv_mul, List.toList_toArray, opsA_cons, opsA_nil, wantedA, guardA, yieldA, stepA_t, stepA_f, callA, calleeA, targetA, runOp_c, runOp_n, opA, ev, evs, evo, consO, consOO, withH, pickA, afterA_s, putA, T.get_put, Nat.reduceEqDiff, reduceIte, List.getElem?_toArray, List.getElem?_cons_zero, List.getElem?_cons_succ, oBuiltin, oBin, binA, binG, binL, aggO, litA, intA, ltF_eq, eqF_eq, oIndexAddr, cond_true, cond_false, Bool.not_true, Bool.not_false, decide_true, decide_false, blt_eq, tt_beq, tf_beq, ft_beq, ff_beq, Bool.and_true, Bool.true_and, Option.some.injEq, I, Bo, addI, subI, oExtract, Bool.not_eq_true', fieldAddrA, oFieldAddr, oLoad, oStore, isAggD, aggH, oneH, skipH, Nat.add_eq_left, Nat.left_eq_add, Nat.succ_ne_self, fieldA, partA, cellsOf, List.length_cons, List.length_nil, Nat.reduceAdd, Nat.zero_add, Nat.add_zero, Nat.mul_one, Nat.reduceMul, nbeq_self, onesA_cons', onesA_nil, oneA, Value.oneCell', Nat.reduceLT, ty2, ti2, ty3, ti3, ty22, ti22, ty25, ti25, ty52, ti52, a0, a1, a2, l1, l2, l3, l4, w, ix, hst, eqA, eqD, eqOp, nilCheckA]; rfl) ?_)
  exact s2
end Go.Proofs.Ytgekfjndpbejoaa
