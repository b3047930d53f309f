import Derived.Test.YtdbajhklnaekjaaJ2
import Derived.KernelRfl
namespace Go.Proofs.Ytdbajhklnaekjaa
open Go Go.Proofs Go.RowKit Go.Proofs.Abs
set_option linter.unusedSimpArgs false
set_option linter.unusedVariables false
open Go.Proofs.Abs
/-- a map that is valid -/
structure Ok (N : Nat) (xs : List Int) : Prop where
  n : N ≤ 4096
  l : xs.length ≤ 4096
  rng : ∀ x ∈ xs, -1 ≤ x ∧ x < (N : Int)
  un : ∀ (k : Nat) (x : Int), xs[k]? = some x → 0 ≤ x → x ∉ xs.take k
theorem Ok.at_ {N : Nat} {xs : List Int} (o : Ok N xs) {k : Nat} {x : Int} (hx : xs[k]? = some x) : x = -1 ∨ ∃ j : Nat, x = Int.ofNat j ∧ j < N := by
  have := o.rng x (List.mem_of_getElem? hx)
  by_cases h : x = -1
  · exact .inl h
  · exact .inr ⟨x.toNat, by simp; omega, by omega⟩
theorem avM {h : Hp} {o : Int} {s : AV} {xs : List AV} (r : IsL h s xs) : avB 4 (.agg [I o, s]) (.agg [I o, s]) = true := by
  have li : litB (.int .i64 o) (.int .i64 o) = true := avB_int o
  rcases r with ⟨rfl, _⟩ | ⟨nm, off, rr, cap, z, rfl, _⟩
  · show (litB (.int .i64 o) (.int .i64 o) && (litB (.slice none 0 0) (.slice none 0 0) && true)) = true
    rw [li]
    rfl
  · show (litB (.int .i64 o) (.int .i64 o) && (((nm == nm) && (off == off) && (xs.length == xs.length) && (rr == rr) && (cap == cap) && (z == z)) && true)) = true
    rw [li]
    simp
def cmpF (xa xb : List Int) (i : Nat) : Int := match xb[i]? with
  | some y => if y = -1 then -1 else xa.getD y.toNat 0
  | none => 0
set_option maxHeartbeats 4000000 in
theorem c34n (d : Nat) (h : Hp) (i pa pb : Nat) (sa sb : AV) (xa xb : List Int) (ca : Cell h pa 1 sa) (cb : Cell h pb 1 sb) (ia : IsL h sa (xa.map I)) (ib : IsL h sb (xb.map I)) (hy : xb[i]? = some (-1)) : runA ctx 5000 (d + 1) 34 [I (Int.ofNat i), .ptr pb 0, .ptr pa 0] h = some (I (-1), h) := by
  have l1 := cb.load
  obtain ⟨pn, po, hp, hld⟩ := atQ ib hy
  have hld := hld h (Ext.refl _)
  have y1 : ((-1 : Int) == -1) = true := rfl
  refine wv_eq ?_
  refine wv_run fn34 rfl ?_
  have a0 : (enterEnv [I (Int.ofNat i), .ptr pb 0, .ptr pa 0] Try.f34.ntmps).get 0 = some (I (Int.ofNat i)) := enter_get1 _ _ _
  have a1 : (enterEnv [I (Int.ofNat i), .ptr pb 0, .ptr pa 0] Try.f34.ntmps).get 1 = some (.ptr pb 0) := enter_get2 _ _ _ _
  have a2 : (enterEnv [I (Int.ofNat i), .ptr pb 0, .ptr pa 0] Try.f34.ntmps).get 2 = some (.ptr pa 0) := enter_get3 _ _ _ _ _
  generalize enterEnv [I (Int.ofNat i), .ptr pb 0, .ptr pa 0] Try.f34.ntmps = e at a0 a1 a2 ⊢
  unfold Try.f34
  dsimp only
  repeat' (first
    | refine wc_seq ?_
    | (refine wc_region rfl ?_; simp only [oUn_not, beq_self_eq_true, eq_self, pv_mul, List.toList_toArray, opsA_cons, opsA_nil, wantedA, guardA, yieldA, stepA_t, stepA_f, callA, calleeA, targetA, runOp_c, runOp_n, opA, ev, evs, evo, consO, consOO, withH, pickA, afterA_s, putA, T.get_put, Nat.reduceEqDiff, reduceIte, List.getElem?_toArray, List.getElem?_cons_zero, List.getElem?_cons_succ, oBuiltin, oBin, binA, binG, binL, aggO, litA, intA, ltF_eq, eqF_eq, oIndexAddr, cond_true, cond_false, Bool.not_true, Bool.not_false, decide_true, decide_false, blt_eq, tt_beq, tf_beq, ft_beq, ff_beq, Bool.and_true, Bool.true_and, Option.some.injEq, I, Bo, addI, subI, oExtract, Bool.not_eq_true', fieldAddrA, oFieldAddr, oLoad, oStore, isAggD, aggH, oneH, skipH, Nat.add_eq_left, Nat.left_eq_add, Nat.succ_ne_self, fieldA, partA, cellsOf, List.length_cons, List.length_nil, Nat.reduceAdd, Nat.zero_add, Nat.add_zero, Nat.mul_one, Nat.reduceMul, nbeq_self, onesA_cons', onesA_nil, oneA, Value.oneCell', Nat.reduceLT, ty3, ti3, ty22, ti22, ty24, ti24, a0, a1, a2, l1, hp, hld, y1, eqA, eqD, eqOp, nilCheckA]; refine ⟨_, _, rfl, ?_⟩)
    | (refine wc_cond (by simp only [oUn_not, beq_self_eq_true, eq_self, pv_mul, List.toList_toArray, opsA_cons, opsA_nil, wantedA, guardA, yieldA, stepA_t, stepA_f, callA, calleeA, targetA, runOp_c, runOp_n, opA, ev, evs, evo, consO, consOO, withH, pickA, afterA_s, putA, T.get_put, Nat.reduceEqDiff, reduceIte, List.getElem?_toArray, List.getElem?_cons_zero, List.getElem?_cons_succ, oBuiltin, oBin, binA, binG, binL, aggO, litA, intA, ltF_eq, eqF_eq, oIndexAddr, cond_true, cond_false, Bool.not_true, Bool.not_false, decide_true, decide_false, blt_eq, tt_beq, tf_beq, ft_beq, ff_beq, Bool.and_true, Bool.true_and, Option.some.injEq, I, Bo, addI, subI, oExtract, Bool.not_eq_true', fieldAddrA, oFieldAddr, oLoad, oStore, isAggD, aggH, oneH, skipH, Nat.add_eq_left, Nat.left_eq_add, Nat.succ_ne_self, fieldA, partA, cellsOf, List.length_cons, List.length_nil, Nat.reduceAdd, Nat.zero_add, Nat.add_zero, Nat.mul_one, Nat.reduceMul, nbeq_self, onesA_cons', onesA_nil, oneA, Value.oneCell', Nat.reduceLT, ty3, ti3, ty22, ti22, ty24, ti24, a0, a1, a2, l1, hp, hld, y1, eqA, eqD, eqOp, nilCheckA]; rfl) ?_ ?_ <;> intro hb <;> first | (exfalso; exact Bool.noConfusion hb) | skip)
    | refine wc_block ?_
    | refine wc_skip ?_
    | refine wc_scope (by decide) ?_
    | refine wc_label ?_
    | refine wc_exit ?_
    | refine wc_ret ?_
    | refine wv_ret (by simp only [resA, resOne]; simp only [oUn_not, beq_self_eq_true, eq_self, pv_mul, List.toList_toArray, opsA_cons, opsA_nil, wantedA, guardA, yieldA, stepA_t, stepA_f, callA, calleeA, targetA, runOp_c, runOp_n, opA, ev, evs, evo, consO, consOO, withH, pickA, afterA_s, putA, T.get_put, Nat.reduceEqDiff, reduceIte, List.getElem?_toArray, List.getElem?_cons_zero, List.getElem?_cons_succ, oBuiltin, oBin, binA, binG, binL, aggO, litA, intA, ltF_eq, eqF_eq, oIndexAddr, cond_true, cond_false, Bool.not_true, Bool.not_false, decide_true, decide_false, blt_eq, tt_beq, tf_beq, ft_beq, ff_beq, Bool.and_true, Bool.true_and, Option.some.injEq, I, Bo, addI, subI, oExtract, Bool.not_eq_true', fieldAddrA, oFieldAddr, oLoad, oStore, isAggD, aggH, oneH, skipH, Nat.add_eq_left, Nat.left_eq_add, Nat.succ_ne_self, fieldA, partA, cellsOf, List.length_cons, List.length_nil, Nat.reduceAdd, Nat.zero_add, Nat.add_zero, Nat.mul_one, Nat.reduceMul, nbeq_self, onesA_cons', onesA_nil, oneA, Value.oneCell', Nat.reduceLT, ty3, ti3, ty22, ti22, ty24, ti24, a0, a1, a2, l1, hp, hld, y1, eqA, eqD, eqOp, nilCheckA]; rfl) ?_)
  all_goals exact ⟨rfl, rfl⟩
set_option maxHeartbeats 4000000 in
theorem c34s (d : Nat) (h : Hp) (i pa pb : Nat) (sa sb : AV) (xa xb : List Int) (ca : Cell h pa 1 sa) (cb : Cell h pb 1 sb) (ia : IsL h sa (xa.map I)) (ib : IsL h sb (xb.map I)) (j : Nat) (z : Int) (hy : xb[i]? = some (Int.ofNat j)) (hz : xa[j]? = some z) : runA ctx 5000 (d + 1) 34 [I (Int.ofNat i), .ptr pb 0, .ptr pa 0] h = some (I z, h) := by
  have l1 := cb.load
  have l2 := ca.load
  obtain ⟨pn, po, hp, hld⟩ := atQ ib hy
  have hld := hld h (Ext.refl _)
  obtain ⟨qn, qo, hq, hlq⟩ := atQ ia hz
  have hlq := hlq h (Ext.refl _)
  have y1 : (Int.ofNat j == -1) = false := by rw [beq_eq_false_iff_ne]; simp only [Int.ofNat_eq_natCast]; omega
  refine wv_eq ?_
  refine wv_run fn34 rfl ?_
  have a0 : (enterEnv [I (Int.ofNat i), .ptr pb 0, .ptr pa 0] Try.f34.ntmps).get 0 = some (I (Int.ofNat i)) := enter_get1 _ _ _
  have a1 : (enterEnv [I (Int.ofNat i), .ptr pb 0, .ptr pa 0] Try.f34.ntmps).get 1 = some (.ptr pb 0) := enter_get2 _ _ _ _
  have a2 : (enterEnv [I (Int.ofNat i), .ptr pb 0, .ptr pa 0] Try.f34.ntmps).get 2 = some (.ptr pa 0) := enter_get3 _ _ _ _ _
  generalize enterEnv [I (Int.ofNat i), .ptr pb 0, .ptr pa 0] Try.f34.ntmps = e at a0 a1 a2 ⊢
  unfold Try.f34
  dsimp only
  repeat' (first
    | refine wc_seq ?_
    | (refine wc_region rfl ?_; simp only [oUn_not, beq_self_eq_true, eq_self, pv_mul, List.toList_toArray, opsA_cons, opsA_nil, wantedA, guardA, yieldA, stepA_t, stepA_f, callA, calleeA, targetA, runOp_c, runOp_n, opA, ev, evs, evo, consO, consOO, withH, pickA, afterA_s, putA, T.get_put, Nat.reduceEqDiff, reduceIte, List.getElem?_toArray, List.getElem?_cons_zero, List.getElem?_cons_succ, oBuiltin, oBin, binA, binG, binL, aggO, litA, intA, ltF_eq, eqF_eq, oIndexAddr, cond_true, cond_false, Bool.not_true, Bool.not_false, decide_true, decide_false, blt_eq, tt_beq, tf_beq, ft_beq, ff_beq, Bool.and_true, Bool.true_and, Option.some.injEq, I, Bo, addI, subI, oExtract, Bool.not_eq_true', fieldAddrA, oFieldAddr, oLoad, oStore, isAggD, aggH, oneH, skipH, Nat.add_eq_left, Nat.left_eq_add, Nat.succ_ne_self, fieldA, partA, cellsOf, List.length_cons, List.length_nil, Nat.reduceAdd, Nat.zero_add, Nat.add_zero, Nat.mul_one, Nat.reduceMul, nbeq_self, onesA_cons', onesA_nil, oneA, Value.oneCell', Nat.reduceLT, ty3, ti3, ty22, ti22, ty24, ti24, a0, a1, a2, l1, l2, hp, hld, hq, hlq, y1, eqA, eqD, eqOp, nilCheckA]; refine ⟨_, _, rfl, ?_⟩)
    | (refine wc_cond (by simp only [oUn_not, beq_self_eq_true, eq_self, pv_mul, List.toList_toArray, opsA_cons, opsA_nil, wantedA, guardA, yieldA, stepA_t, stepA_f, callA, calleeA, targetA, runOp_c, runOp_n, opA, ev, evs, evo, consO, consOO, withH, pickA, afterA_s, putA, T.get_put, Nat.reduceEqDiff, reduceIte, List.getElem?_toArray, List.getElem?_cons_zero, List.getElem?_cons_succ, oBuiltin, oBin, binA, binG, binL, aggO, litA, intA, ltF_eq, eqF_eq, oIndexAddr, cond_true, cond_false, Bool.not_true, Bool.not_false, decide_true, decide_false, blt_eq, tt_beq, tf_beq, ft_beq, ff_beq, Bool.and_true, Bool.true_and, Option.some.injEq, I, Bo, addI, subI, oExtract, Bool.not_eq_true', fieldAddrA, oFieldAddr, oLoad, oStore, isAggD, aggH, oneH, skipH, Nat.add_eq_left, Nat.left_eq_add, Nat.succ_ne_self, fieldA, partA, cellsOf, List.length_cons, List.length_nil, Nat.reduceAdd, Nat.zero_add, Nat.add_zero, Nat.mul_one, Nat.reduceMul, nbeq_self, onesA_cons', onesA_nil, oneA, Value.oneCell', Nat.reduceLT, ty3, ti3, ty22, ti22, ty24, ti24, a0, a1, a2, l1, l2, hp, hld, hq, hlq, y1, eqA, eqD, eqOp, nilCheckA]; rfl) ?_ ?_ <;> intro hb <;> first | (exfalso; exact Bool.noConfusion hb) | skip)
    | refine wc_block ?_
    | refine wc_skip ?_
    | refine wc_scope (by decide) ?_
    | refine wc_label ?_
    | refine wc_exit ?_
    | refine wc_ret ?_
    | refine wv_ret (by simp only [resA, resOne]; simp only [oUn_not, beq_self_eq_true, eq_self, pv_mul, List.toList_toArray, opsA_cons, opsA_nil, wantedA, guardA, yieldA, stepA_t, stepA_f, callA, calleeA, targetA, runOp_c, runOp_n, opA, ev, evs, evo, consO, consOO, withH, pickA, afterA_s, putA, T.get_put, Nat.reduceEqDiff, reduceIte, List.getElem?_toArray, List.getElem?_cons_zero, List.getElem?_cons_succ, oBuiltin, oBin, binA, binG, binL, aggO, litA, intA, ltF_eq, eqF_eq, oIndexAddr, cond_true, cond_false, Bool.not_true, Bool.not_false, decide_true, decide_false, blt_eq, tt_beq, tf_beq, ft_beq, ff_beq, Bool.and_true, Bool.true_and, Option.some.injEq, I, Bo, addI, subI, oExtract, Bool.not_eq_true', fieldAddrA, oFieldAddr, oLoad, oStore, isAggD, aggH, oneH, skipH, Nat.add_eq_left, Nat.left_eq_add, Nat.succ_ne_self, fieldA, partA, cellsOf, List.length_cons, List.length_nil, Nat.reduceAdd, Nat.zero_add, Nat.add_zero, Nat.mul_one, Nat.reduceMul, nbeq_self, onesA_cons', onesA_nil, oneA, Value.oneCell', Nat.reduceLT, ty3, ti3, ty22, ti22, ty24, ti24, a0, a1, a2, l1, l2, hp, hld, hq, hlq, y1, eqA, eqD, eqOp, nilCheckA]; rfl) ?_)
  all_goals exact ⟨rfl, rfl⟩
theorem c34 (d : Nat) (h : Hp) (i pa pb : Nat) (sa sb : AV) (xa xb : List Int) (ca : Cell h pa 1 sa) (cb : Cell h pb 1 sb) (ia : IsL h sa (xa.map I)) (ib : IsL h sb (xb.map I)) (hi : i < xb.length) (ok : Ok xa.length xb) : runA ctx 5000 (d + 1) 34 [I (Int.ofNat i), .ptr pb 0, .ptr pa 0] h = some (I (cmpF xa xb i), h) := by
  obtain ⟨y, hy⟩ := at_some hi
  rcases ok.at_ hy with rfl | ⟨j, rfl, hj⟩
  · have e : cmpF xa xb i = -1 := by unfold cmpF; rw [hy]; rfl
    rw [e]
    exact c34n d h i pa pb sa sb xa xb ca cb ia ib hy
  · have e : cmpF xa xb i = xa[j] := by
      unfold cmpF
      rw [hy]
      simp only [Int.ofNat_eq_natCast, Int.toNat_natCast]
      rw [if_neg (by omega), List.getD_eq_getElem?_getD, List.getElem?_eq_getElem hj]
      rfl
    rw [e]
    exact c34s d h i pa pb sa sb xa xb ca cb ia ib j _ hy (List.getElem?_eq_getElem hj)
end Go.Proofs.Ytdbajhklnaekjaa
