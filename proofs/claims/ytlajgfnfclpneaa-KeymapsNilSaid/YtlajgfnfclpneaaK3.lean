import Derived.Test.YtlajgfnfclpneaaK2
import Derived.KernelRfl
namespace Go.Proofs.Ytlajgfnfclpneaa
open Go Go.Proofs Go.RowKit
set_option linter.unusedSimpArgs false
set_option linter.unusedVariables false
open Go.Proofs.Abs
theorem last14 (e : Env) (h h2 : Hp) (nm : Nat) (k v : Int) (e0 : e.get 0 = some (.ptr nm 0)) (e1 : e.get 1 = some (W k)) (e2 : e.get 2 = some (I v))
    (q : Wv (runA ctx 5000 7 28 [.ptr nm 0, W k, I v] h) (fun _ h' => h' = h2)) :
    Wc (codeA ctx (runA ctx 5000 7) 5000 4994 (restC 6 (bodyOf Try.f14)) e h) fun x e h => Wv (returnA ctx Try.f14.results.toList (some (x, e, h))) fun r h' => r = I 0 ∧ h' = h2 := by
  obtain ⟨r, h3, q, rfl⟩ := q
  simp only [W, I] at q e0 e1 e2
  unfold bodyOf Try.f14
  dsimp only [restC]
  repeat' (first
    | refine wc_seq ?_
    | (refine wc_region rfl ?_; simp only [oUn_not, beq_self_eq_true, eq_self, pv_mul, List.toList_toArray, opsA_cons, opsA_nil, wantedA, guardA, yieldA, stepA_t, stepA_f, callA, calleeA, targetA, runOp_c, runOp_n, opA, ev, evs, evo, consO, consOO, withH, pickA, afterA_s, putA, T.get_put, Nat.reduceEqDiff, reduceIte, List.getElem?_toArray, List.getElem?_cons_zero, List.getElem?_cons_succ, oBuiltin, oBin, binA, binG, binL, aggO, litA, intA, ltF_eq, eqF_eq, oIndexAddr, cond_true, cond_false, Bool.not_true, Bool.not_false, decide_true, decide_false, blt_eq, tt_beq, tf_beq, ft_beq, ff_beq, Bool.and_true, Bool.true_and, Option.some.injEq, I, Bo, addI, subI, oExtract, Bool.not_eq_true', ite_true, ite_false, fieldAddrA, oFieldAddr, oLoad, oStore, allocA, boxA, isAggD, aggH, oneH, skipH, newBlk, load_mk, store_h, ldO_s, ldO_h, stO_s, Nat.add_eq_left, Nat.left_eq_add, Nat.succ_ne_self, fieldA, partA, setCells_cons, setCells_nil, cellsOf, litCells_cons, litCells_nil, List.length_cons, List.length_nil, Nat.reduceAdd, Nat.zero_add, Nat.add_zero, Nat.mul_one, Nat.reduceMul, nbeq_self, known_s, known_zero, getCells1, getCells2, onesA_cons', onesA_nil, oneA, Value.oneCell', Nat.reduceLT, ty3, ti3, ty24, ti24, ty27, ti27, ty52, ti52, ty54, ti54, ty58, ti58, e0, e1, e2, q, W]; refine ⟨_, _, rfl, ?_⟩)
    | (refine wc_cond (by simp only [oUn_not, beq_self_eq_true, eq_self, pv_mul, List.toList_toArray, opsA_cons, opsA_nil, wantedA, guardA, yieldA, stepA_t, stepA_f, callA, calleeA, targetA, runOp_c, runOp_n, opA, ev, evs, evo, consO, consOO, withH, pickA, afterA_s, putA, T.get_put, Nat.reduceEqDiff, reduceIte, List.getElem?_toArray, List.getElem?_cons_zero, List.getElem?_cons_succ, oBuiltin, oBin, binA, binG, binL, aggO, litA, intA, ltF_eq, eqF_eq, oIndexAddr, cond_true, cond_false, Bool.not_true, Bool.not_false, decide_true, decide_false, blt_eq, tt_beq, tf_beq, ft_beq, ff_beq, Bool.and_true, Bool.true_and, Option.some.injEq, I, Bo, addI, subI, oExtract, Bool.not_eq_true', ite_true, ite_false, fieldAddrA, oFieldAddr, oLoad, oStore, allocA, boxA, isAggD, aggH, oneH, skipH, newBlk, load_mk, store_h, ldO_s, ldO_h, stO_s, Nat.add_eq_left, Nat.left_eq_add, Nat.succ_ne_self, fieldA, partA, setCells_cons, setCells_nil, cellsOf, litCells_cons, litCells_nil, List.length_cons, List.length_nil, Nat.reduceAdd, Nat.zero_add, Nat.add_zero, Nat.mul_one, Nat.reduceMul, nbeq_self, known_s, known_zero, getCells1, getCells2, onesA_cons', onesA_nil, oneA, Value.oneCell', Nat.reduceLT, ty3, ti3, ty24, ti24, ty27, ti27, ty52, ti52, ty54, ti54, ty58, ti58, e0, e1, e2, q, W]; rfl) ?_ ?_ <;> intro hb <;> first | (exfalso; exact Bool.noConfusion hb) | skip)
    | refine wc_block ?_
    | refine wc_skip ?_
    | refine wc_scope (by decide) ?_
    | refine wc_label ?_
    | refine wc_exit ?_
    | refine wc_ret ?_
    | refine wv_ret (by simp only [resA, resOne]; simp only [oUn_not, beq_self_eq_true, eq_self, pv_mul, List.toList_toArray, opsA_cons, opsA_nil, wantedA, guardA, yieldA, stepA_t, stepA_f, callA, calleeA, targetA, runOp_c, runOp_n, opA, ev, evs, evo, consO, consOO, withH, pickA, afterA_s, putA, T.get_put, Nat.reduceEqDiff, reduceIte, List.getElem?_toArray, List.getElem?_cons_zero, List.getElem?_cons_succ, oBuiltin, oBin, binA, binG, binL, aggO, litA, intA, ltF_eq, eqF_eq, oIndexAddr, cond_true, cond_false, Bool.not_true, Bool.not_false, decide_true, decide_false, blt_eq, tt_beq, tf_beq, ft_beq, ff_beq, Bool.and_true, Bool.true_and, Option.some.injEq, I, Bo, addI, subI, oExtract, Bool.not_eq_true', ite_true, ite_false, fieldAddrA, oFieldAddr, oLoad, oStore, allocA, boxA, isAggD, aggH, oneH, skipH, newBlk, load_mk, store_h, ldO_s, ldO_h, stO_s, Nat.add_eq_left, Nat.left_eq_add, Nat.succ_ne_self, fieldA, partA, setCells_cons, setCells_nil, cellsOf, litCells_cons, litCells_nil, List.length_cons, List.length_nil, Nat.reduceAdd, Nat.zero_add, Nat.add_zero, Nat.mul_one, Nat.reduceMul, nbeq_self, known_s, known_zero, getCells1, getCells2, onesA_cons', onesA_nil, oneA, Value.oneCell', Nat.reduceLT, ty3, ti3, ty24, ti24, ty27, ti27, ty52, ti52, ty54, ti54, ty58, ti58, e0, e1, e2, q, W]; rfl) ?_)
  all_goals exact ⟨rfl, rfl⟩
theorem g14 (n : Nat) (v : Int) : (envOf (s14 n v)).get 0 = some (.ptr (nm n v) 0) ∧ (envOf (s14 n v)).get 1 = some (W (Int.ofNat (n + 1))) ∧ (envOf (s14 n v)).get 2 = some (I v) := ⟨by kernel_rfl, by kernel_rfl, by kernel_rfl⟩
theorem c14 (n : Nat) (v : Int) (j : Nat) (hj : j < 8) (hJ : J (Int.ofNat (n + 1)) = Int.ofNat j) : Wv (runA ctx 5000 8 14 [.ptr (nm n v) 0, W (Int.ofNat (n + 1)), I v] (hpOf (s7 n v))) (fun r h' => r = I 0 ∧ h' = hpOf (s28 n v j)) := by
  refine wv_run fn14 rfl ?_
  obtain ⟨g0, g1, g2⟩ := g14 n v
  exact wc_cutk 6 4994 _ _ _ _ _ (p14 n v) (last14 _ _ _ _ _ _ g0 g1 g2 (c28 n v j hj hJ))
def U8 (a : Int) : AV := .lit (.int .u8 a)
/-- memory behind a search -/
noncomputable def hF (h : Hp) (k v : Int) : Hp := ⟨(h.m.put h.c (some ⟨setCells .leaf 0 [U8 0, W 0, I 0], 3, 58, 0⟩)).put h.c (some ⟨setCells (setCells .leaf 0 [U8 0, W 0, I 0]) 0 [U8 1, W k, I v], 3, 58, 0⟩), h.c + 1, h.ro⟩

set_option maxHeartbeats 4000000 in
theorem find_hit (h : Hp) (nm sn c z : Nat) (r : Bool) (k v : Int) (j : Nat) (hj : j < 8)
    (q : runA ctx 5000 6 31 [.ptr nm 0, W k] h = some (I (Int.ofNat j), h))
    (l0 : Abs.load h nm 0 1 = some [.slice sn 0 8 r c z]) (lj : Abs.load h sn (3 * j) 3 = some [U8 1, W k, I v])
    (hx : indexAddrA ctx 52 (.slice sn 0 8 r c z) (I (Int.ofNat j)) = some (.ptr sn (3 * j)))
    (b0 : pureV (binOp .eql 27 (.int .u64 k) (.int .u64 0)) = some (.lit (.bool false))) :
    Wv (runA ctx 5000 7 26 [.ptr nm 0, W k] h) (fun r h' => r = .tup [I (Int.ofNat j), Bo true] ∧ h' = hF h k v) := by
  have b1 : pureV (binOp .eql 5 (.int .u8 1) (.int .u8 0)) = some (.lit (.bool false)) := rfl
  have b2 : pureV (binOp .eql 5 (.int .u8 1) (.int .u8 1)) = some (.lit (.bool true)) := rfl
  have b3 : pureV (binOp .eql 27 (.int .u64 k) (.int .u64 k)) = some (.lit (.bool true)) := by
    show some (AV.lit (.bool (k == k))) = _
    rw [beq_self_eq_true]
  have d0 : (((8 : Nat) : Int) == 0) = false := rfl
  simp only [W, I, U8] at q lj hx
  refine wv_run fn26 rfl ?_
  have a0 : (enterEnv [.ptr nm 0, W k] Try.f26.ntmps).get 0 = some (.ptr nm 0) := enter_get1 _ _ _
  have a1 : (enterEnv [.ptr nm 0, W k] Try.f26.ntmps).get 1 = some (W k) := enter_get2 _ _ _ _
  generalize enterEnv [.ptr nm 0, W k] Try.f26.ntmps = e at a0 a1 ⊢
  unfold Try.f26
  dsimp only
  repeat' (first
    | refine wc_seq ?_
    | (refine wc_region rfl ?_; simp only [oUn_not, beq_self_eq_true, eq_self, pv_mul, List.toList_toArray, opsA_cons, opsA_nil, wantedA, guardA, yieldA, stepA_t, stepA_f, callA, calleeA, targetA, runOp_c, runOp_n, opA, ev, evs, evo, consO, consOO, withH, pickA, afterA_s, putA, T.get_put, Nat.reduceEqDiff, reduceIte, List.getElem?_toArray, List.getElem?_cons_zero, List.getElem?_cons_succ, oBuiltin, oBin, binA, binG, binL, aggO, litA, intA, ltF_eq, eqF_eq, oIndexAddr, cond_true, cond_false, Bool.not_true, Bool.not_false, decide_true, decide_false, blt_eq, tt_beq, tf_beq, ft_beq, ff_beq, Bool.and_true, Bool.true_and, Option.some.injEq, I, Bo, addI, subI, oExtract, Bool.not_eq_true', ite_true, ite_false, fieldAddrA, oFieldAddr, oLoad, oStore, allocA, boxA, isAggD, aggH, oneH, skipH, newBlk, load_mk, store_h, ldO_s, ldO_h, stO_s, Nat.add_eq_left, Nat.left_eq_add, Nat.succ_ne_self, fieldA, partA, setCells_cons, setCells_nil, cellsOf, litCells_cons, litCells_nil, List.length_cons, List.length_nil, Nat.reduceAdd, Nat.zero_add, Nat.add_zero, Nat.mul_one, Nat.reduceMul, nbeq_self, known_s, known_zero, getCells1, getCells2, onesA_cons', onesA_nil, oneA, Value.oneCell', Nat.reduceLT, ty3, ti3, ty5, ti5, ty24, ti24, ty27, ti27, ty52, ti52, ty54, ti54, ty58, ti58, a0, a1, q, l0, lj, hx, b0, b1, b2, b3, d0, W, U8, nilCheckA, builtinA, lenA]; refine ⟨_, _, rfl, ?_⟩)
    | (refine wc_cond (by simp only [oUn_not, beq_self_eq_true, eq_self, pv_mul, List.toList_toArray, opsA_cons, opsA_nil, wantedA, guardA, yieldA, stepA_t, stepA_f, callA, calleeA, targetA, runOp_c, runOp_n, opA, ev, evs, evo, consO, consOO, withH, pickA, afterA_s, putA, T.get_put, Nat.reduceEqDiff, reduceIte, List.getElem?_toArray, List.getElem?_cons_zero, List.getElem?_cons_succ, oBuiltin, oBin, binA, binG, binL, aggO, litA, intA, ltF_eq, eqF_eq, oIndexAddr, cond_true, cond_false, Bool.not_true, Bool.not_false, decide_true, decide_false, blt_eq, tt_beq, tf_beq, ft_beq, ff_beq, Bool.and_true, Bool.true_and, Option.some.injEq, I, Bo, addI, subI, oExtract, Bool.not_eq_true', ite_true, ite_false, fieldAddrA, oFieldAddr, oLoad, oStore, allocA, boxA, isAggD, aggH, oneH, skipH, newBlk, load_mk, store_h, ldO_s, ldO_h, stO_s, Nat.add_eq_left, Nat.left_eq_add, Nat.succ_ne_self, fieldA, partA, setCells_cons, setCells_nil, cellsOf, litCells_cons, litCells_nil, List.length_cons, List.length_nil, Nat.reduceAdd, Nat.zero_add, Nat.add_zero, Nat.mul_one, Nat.reduceMul, nbeq_self, known_s, known_zero, getCells1, getCells2, onesA_cons', onesA_nil, oneA, Value.oneCell', Nat.reduceLT, ty3, ti3, ty5, ti5, ty24, ti24, ty27, ti27, ty52, ti52, ty54, ti54, ty58, ti58, a0, a1, q, l0, lj, hx, b0, b1, b2, b3, d0, W, U8, nilCheckA, builtinA, lenA]; rfl) ?_ ?_ <;> intro hb <;> first | (exfalso; exact Bool.noConfusion hb) | skip)
    | refine wc_block ?_
    | refine wc_skip ?_
    | refine wc_scope (by decide) ?_
    | refine wc_label ?_
    | refine wc_exit ?_
    | refine wc_ret ?_
    | refine wv_ret (by simp only [resA, resOne]; simp only [oUn_not, beq_self_eq_true, eq_self, pv_mul, List.toList_toArray, opsA_cons, opsA_nil, wantedA, guardA, yieldA, stepA_t, stepA_f, callA, calleeA, targetA, runOp_c, runOp_n, opA, ev, evs, evo, consO, consOO, withH, pickA, afterA_s, putA, T.get_put, Nat.reduceEqDiff, reduceIte, List.getElem?_toArray, List.getElem?_cons_zero, List.getElem?_cons_succ, oBuiltin, oBin, binA, binG, binL, aggO, litA, intA, ltF_eq, eqF_eq, oIndexAddr, cond_true, cond_false, Bool.not_true, Bool.not_false, decide_true, decide_false, blt_eq, tt_beq, tf_beq, ft_beq, ff_beq, Bool.and_true, Bool.true_and, Option.some.injEq, I, Bo, addI, subI, oExtract, Bool.not_eq_true', ite_true, ite_false, fieldAddrA, oFieldAddr, oLoad, oStore, allocA, boxA, isAggD, aggH, oneH, skipH, newBlk, load_mk, store_h, ldO_s, ldO_h, stO_s, Nat.add_eq_left, Nat.left_eq_add, Nat.succ_ne_self, fieldA, partA, setCells_cons, setCells_nil, cellsOf, litCells_cons, litCells_nil, List.length_cons, List.length_nil, Nat.reduceAdd, Nat.zero_add, Nat.add_zero, Nat.mul_one, Nat.reduceMul, nbeq_self, known_s, known_zero, getCells1, getCells2, onesA_cons', onesA_nil, oneA, Value.oneCell', Nat.reduceLT, ty3, ti3, ty5, ti5, ty24, ti24, ty27, ti27, ty52, ti52, ty54, ti54, ty58, ti58, a0, a1, q, l0, lj, hx, b0, b1, b2, b3, d0, W, U8, nilCheckA, builtinA, lenA]; rfl) ?_)
  all_goals first | exact ⟨rfl, rfl⟩ | skip
end Go.Proofs.Ytlajgfnfclpneaa
