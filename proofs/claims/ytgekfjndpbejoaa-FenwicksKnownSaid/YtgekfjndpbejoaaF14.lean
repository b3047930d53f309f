import Derived.Test.YtgekfjndpbejoaaF13
import Derived.KernelRfl
namespace Go.Proofs.Ytgekfjndpbejoaa
open Go Go.Proofs Go.RowKit
set_option linter.unusedSimpArgs false
set_option linter.unusedVariables false
open Go.Proofs.Abs
/-- what a change of a size comes to -/
def setE (xs : List Int) (i y : Int) : Int := if i < 0 ∨ (xs.length : Int) ≤ i then 4 else if y < 0 ∨ 2305843009213693952 < y then 12 else if 4611686018427387904 - y < sm xs - xs.getD i.toNat 0 then 13 else 0
def setL (xs : List Int) (i y : Int) : List Int := if setE xs i y = 0 then xs.set i.toNat y else xs
theorem setL_len (xs : List Int) (i y : Int) : (setL xs i y).length = xs.length := by
  unfold setL
  split
  · rw [List.length_set]
  · rfl
theorem set_at {xs : List Int} {i : Nat} {x : Int} (hx : xs[i]? = some x) : xs.getD i 0 = x := by
  rw [List.getD_eq_getElem?_getD, hx]; rfl
theorem setE_ok {xs : List Int} {i y : Int} (h : setE xs i y = 0) : ∃ (k : Nat) (x : Int), i = Int.ofNat k ∧ xs[k]? = some x ∧ 0 ≤ y ∧ y ≤ 2305843009213693952 ∧ sm xs - x ≤ 4611686018427387904 - y := by
  unfold setE at h
  split at h
  · cases h
  · split at h
    · cases h
    · split at h
      · cases h
      · have hi : 0 ≤ i := by omega
        obtain ⟨k, rfl⟩ := Int.eq_ofNat_of_zero_le hi
        obtain ⟨x, hx⟩ := at_some (show k < xs.length by omega)
        rename_i h3
        rw [Int.toNat_natCast, set_at hx] at h3
        exact ⟨k, x, rfl, hx, by omega, by omega, by omega⟩
theorem setL_v {xs : List Int} {i y : Int} (v : V xs) : V (setL xs i y) := by
  unfold setL
  split
  · rename_i h
    obtain ⟨k, x, rfl, hx, h1, h2, h3⟩ := setE_ok h
    show V (xs.set k y)
    refine ⟨fun j z hz => ?_, by rw [sm_set hx]; omega⟩
    rw [List.getElem?_set] at hz
    split at hz
    · split at hz
      · cases hz; exact h1
      · cases hz
    · exact v.nn j z hz
  · exact v
set_option maxHeartbeats 4000000 in
theorem c23 (d : Nat) (h : Hp) (nm na nb : Nat) (xs : List Int) (i y : Int) (t : Tr h nm na nb xs) (v : V xs) (hn : xs.length ≤ 4096) : Wv (runA ctx 5000 (d + 4) 23 [.ptr nm 0, I i, I y] h) (fun r h' => r = I (setE xs i y) ∧ Tr h' nm na nb (setL xs i y) ∧ Fr (Of nm na nb) h h') := by
  have q13 := c13 (d + 2) h nm na nb xs t
  have w := show IntKind.wrap .i64 ((xs.length : Int) - 1) = (xs.length : Int) - 1 by rw [IntKind.wrap_i64]; omega
  have n40 : ((4 : Int) == 0) = false := rfl
  refine wv_run fn23 rfl ?_
  have a0 : (enterEnv [.ptr nm 0, I i, I y] Try.f23.ntmps).get 0 = some (.ptr nm 0) := enter_get1 _ _ _
  have a1 : (enterEnv [.ptr nm 0, I i, I y] Try.f23.ntmps).get 1 = some (I i) := enter_get2 _ _ _ _
  have a2 : (enterEnv [.ptr nm 0, I i, I y] Try.f23.ntmps).get 2 = some (I y) := enter_get3 _ _ _ _ _
  generalize enterEnv [.ptr nm 0, I i, I y] Try.f23.ntmps = e at a0 a1 a2 ⊢
  unfold Try.f23
  dsimp only
  by_cases hi : i < 0 ∨ (xs.length : Int) ≤ i
  · have hE : setE xs i y = 4 := by unfold setE; rw [if_pos hi]
    have hL : setL xs i y = xs := by unfold setL; rw [hE]; rfl
    rw [hE, hL]
    have q25 := c25b (d + 2) h nm na nb xs i ((xs.length : Int) - 1) t (by omega)
    repeat' (first
      | refine wc_seq ?_
      | (refine wc_region rfl ?_; simp only [oUn_not, beq_self_eq_true, eq_self, pv_mul, List.toList_toArray, opsA_cons, opsA_nil, wantedA, guardA, yieldA, stepA_t, stepA_f, callA, calleeA, targetA, runOp_c, runOp_n, opA, ev, evs, evo, consO, consOO, withH, pickA, afterA_s, putA, T.get_put, Nat.reduceEqDiff, reduceIte, List.getElem?_toArray, List.getElem?_cons_zero, List.getElem?_cons_succ, oBuiltin, oBin, binA, binG, binL, aggO, litA, intA, ltF_eq, eqF_eq, oIndexAddr, cond_true, cond_false, Bool.not_true, Bool.not_false, decide_true, decide_false, blt_eq, tt_beq, tf_beq, ft_beq, ff_beq, Bool.and_true, Bool.true_and, Option.some.injEq, I, Bo, addI, subI, oExtract, Bool.not_eq_true', fieldAddrA, oFieldAddr, oLoad, oStore, isAggD, aggH, oneH, skipH, Nat.add_eq_left, Nat.left_eq_add, Nat.succ_ne_self, fieldA, partA, cellsOf, List.length_cons, List.length_nil, Nat.reduceAdd, Nat.zero_add, Nat.add_zero, Nat.mul_one, Nat.reduceMul, nbeq_self, onesA_cons', onesA_nil, oneA, Value.oneCell', Nat.reduceLT, ty2, ti2, ty3, ti3, ty22, ti22, ty25, ti25, ty26, ti26, ty52, ti52, a0, a1, a2, q13, w, q25, n40, eqA, eqD, eqOp, nilCheckA]; refine ⟨_, _, rfl, ?_⟩)
      | (refine wc_cond (by simp only [oUn_not, beq_self_eq_true, eq_self, pv_mul, List.toList_toArray, opsA_cons, opsA_nil, wantedA, guardA, yieldA, stepA_t, stepA_f, callA, calleeA, targetA, runOp_c, runOp_n, opA, ev, evs, evo, consO, consOO, withH, pickA, afterA_s, putA, T.get_put, Nat.reduceEqDiff, reduceIte, List.getElem?_toArray, List.getElem?_cons_zero, List.getElem?_cons_succ, oBuiltin, oBin, binA, binG, binL, aggO, litA, intA, ltF_eq, eqF_eq, oIndexAddr, cond_true, cond_false, Bool.not_true, Bool.not_false, decide_true, decide_false, blt_eq, tt_beq, tf_beq, ft_beq, ff_beq, Bool.and_true, Bool.true_and, Option.some.injEq, I, Bo, addI, subI, oExtract, Bool.not_eq_true', fieldAddrA, oFieldAddr, oLoad, oStore, isAggD, aggH, oneH, skipH, Nat.add_eq_left, Nat.left_eq_add, Nat.succ_ne_self, fieldA, partA, cellsOf, List.length_cons, List.length_nil, Nat.reduceAdd, Nat.zero_add, Nat.add_zero, Nat.mul_one, Nat.reduceMul, nbeq_self, onesA_cons', onesA_nil, oneA, Value.oneCell', Nat.reduceLT, ty2, ti2, ty3, ti3, ty22, ti22, ty25, ti25, ty26, ti26, ty52, ti52, a0, a1, a2, q13, w, q25, n40, eqA, eqD, eqOp, nilCheckA]; rfl) ?_ ?_ <;> intro hb <;> first | (exfalso; exact Bool.noConfusion hb) | skip)
      | refine wc_block ?_
      | refine wc_skip ?_
      | refine wc_scope (by decide) ?_
      | refine wc_label ?_
      | refine wc_exit ?_
      | refine wc_ret ?_
      | refine wv_ret (by simp only [resA, resOne]; simp only [oUn_not, beq_self_eq_true, eq_self, pv_mul, List.toList_toArray, opsA_cons, opsA_nil, wantedA, guardA, yieldA, stepA_t, stepA_f, callA, calleeA, targetA, runOp_c, runOp_n, opA, ev, evs, evo, consO, consOO, withH, pickA, afterA_s, putA, T.get_put, Nat.reduceEqDiff, reduceIte, List.getElem?_toArray, List.getElem?_cons_zero, List.getElem?_cons_succ, oBuiltin, oBin, binA, binG, binL, aggO, litA, intA, ltF_eq, eqF_eq, oIndexAddr, cond_true, cond_false, Bool.not_true, Bool.not_false, decide_true, decide_false, blt_eq, tt_beq, tf_beq, ft_beq, ff_beq, Bool.and_true, Bool.true_and, Option.some.injEq, I, Bo, addI, subI, oExtract, Bool.not_eq_true', fieldAddrA, oFieldAddr, oLoad, oStore, isAggD, aggH, oneH, skipH, Nat.add_eq_left, Nat.left_eq_add, Nat.succ_ne_self, fieldA, partA, cellsOf, List.length_cons, List.length_nil, Nat.reduceAdd, Nat.zero_add, Nat.add_zero, Nat.mul_one, Nat.reduceMul, nbeq_self, onesA_cons', onesA_nil, oneA, Value.oneCell', Nat.reduceLT, ty2, ti2, ty3, ti3, ty22, ti22, ty25, ti25, ty26, ti26, ty52, ti52, a0, a1, a2, q13, w, q25, n40, eqA, eqD, eqOp, nilCheckA]; rfl) ?_)
    all_goals exact ⟨rfl, t, Fr.refl _ _⟩
  · have q25 := c25 (d + 2) h nm na nb xs i ((xs.length : Int) - 1) t (by omega) (by omega)
    by_cases hy : y < 0
    · have hE : setE xs i y = 12 := by unfold setE; rw [if_neg hi, if_pos (.inl hy)]
      have hL : setL xs i y = xs := by unfold setL; rw [hE]; rfl
      rw [hE, hL]
      have z0 : decide (y < 0) = true := by simpa using hy
      repeat' (first
        | refine wc_seq ?_
        | (refine wc_region rfl ?_; simp only [oUn_not, beq_self_eq_true, eq_self, pv_mul, List.toList_toArray, opsA_cons, opsA_nil, wantedA, guardA, yieldA, stepA_t, stepA_f, callA, calleeA, targetA, runOp_c, runOp_n, opA, ev, evs, evo, consO, consOO, withH, pickA, afterA_s, putA, T.get_put, Nat.reduceEqDiff, reduceIte, List.getElem?_toArray, List.getElem?_cons_zero, List.getElem?_cons_succ, oBuiltin, oBin, binA, binG, binL, aggO, litA, intA, ltF_eq, eqF_eq, oIndexAddr, cond_true, cond_false, Bool.not_true, Bool.not_false, decide_true, decide_false, blt_eq, tt_beq, tf_beq, ft_beq, ff_beq, Bool.and_true, Bool.true_and, Option.some.injEq, I, Bo, addI, subI, oExtract, Bool.not_eq_true', fieldAddrA, oFieldAddr, oLoad, oStore, isAggD, aggH, oneH, skipH, Nat.add_eq_left, Nat.left_eq_add, Nat.succ_ne_self, fieldA, partA, cellsOf, List.length_cons, List.length_nil, Nat.reduceAdd, Nat.zero_add, Nat.add_zero, Nat.mul_one, Nat.reduceMul, nbeq_self, onesA_cons', onesA_nil, oneA, Value.oneCell', Nat.reduceLT, ty2, ti2, ty3, ti3, ty22, ti22, ty25, ti25, ty26, ti26, ty52, ti52, a0, a1, a2, q13, w, q25, z0, eqA, eqD, eqOp, nilCheckA]; refine ⟨_, _, rfl, ?_⟩)
        | (refine wc_cond (by simp only [oUn_not, beq_self_eq_true, eq_self, pv_mul, List.toList_toArray, opsA_cons, opsA_nil, wantedA, guardA, yieldA, stepA_t, stepA_f, callA, calleeA, targetA, runOp_c, runOp_n, opA, ev, evs, evo, consO, consOO, withH, pickA, afterA_s, putA, T.get_put, Nat.reduceEqDiff, reduceIte, List.getElem?_toArray, List.getElem?_cons_zero, List.getElem?_cons_succ, oBuiltin, oBin, binA, binG, binL, aggO, litA, intA, ltF_eq, eqF_eq, oIndexAddr, cond_true, cond_false, Bool.not_true, Bool.not_false, decide_true, decide_false, blt_eq, tt_beq, tf_beq, ft_beq, ff_beq, Bool.and_true, Bool.true_and, Option.some.injEq, I, Bo, addI, subI, oExtract, Bool.not_eq_true', fieldAddrA, oFieldAddr, oLoad, oStore, isAggD, aggH, oneH, skipH, Nat.add_eq_left, Nat.left_eq_add, Nat.succ_ne_self, fieldA, partA, cellsOf, List.length_cons, List.length_nil, Nat.reduceAdd, Nat.zero_add, Nat.add_zero, Nat.mul_one, Nat.reduceMul, nbeq_self, onesA_cons', onesA_nil, oneA, Value.oneCell', Nat.reduceLT, ty2, ti2, ty3, ti3, ty22, ti22, ty25, ti25, ty26, ti26, ty52, ti52, a0, a1, a2, q13, w, q25, z0, eqA, eqD, eqOp, nilCheckA]; rfl) ?_ ?_ <;> intro hb <;> first | (exfalso; exact Bool.noConfusion hb) | skip)
        | refine wc_block ?_
        | refine wc_skip ?_
        | refine wc_scope (by decide) ?_
        | refine wc_label ?_
        | refine wc_exit ?_
        | refine wc_ret ?_
        | refine wv_ret (by simp only [resA, resOne]; simp only [oUn_not, beq_self_eq_true, eq_self, pv_mul, List.toList_toArray, opsA_cons, opsA_nil, wantedA, guardA, yieldA, stepA_t, stepA_f, callA, calleeA, targetA, runOp_c, runOp_n, opA, ev, evs, evo, consO, consOO, withH, pickA, afterA_s, putA, T.get_put, Nat.reduceEqDiff, reduceIte, List.getElem?_toArray, List.getElem?_cons_zero, List.getElem?_cons_succ, oBuiltin, oBin, binA, binG, binL, aggO, litA, intA, ltF_eq, eqF_eq, oIndexAddr, cond_true, cond_false, Bool.not_true, Bool.not_false, decide_true, decide_false, blt_eq, tt_beq, tf_beq, ft_beq, ff_beq, Bool.and_true, Bool.true_and, Option.some.injEq, I, Bo, addI, subI, oExtract, Bool.not_eq_true', fieldAddrA, oFieldAddr, oLoad, oStore, isAggD, aggH, oneH, skipH, Nat.add_eq_left, Nat.left_eq_add, Nat.succ_ne_self, fieldA, partA, cellsOf, List.length_cons, List.length_nil, Nat.reduceAdd, Nat.zero_add, Nat.add_zero, Nat.mul_one, Nat.reduceMul, nbeq_self, onesA_cons', onesA_nil, oneA, Value.oneCell', Nat.reduceLT, ty2, ti2, ty3, ti3, ty22, ti22, ty25, ti25, ty26, ti26, ty52, ti52, a0, a1, a2, q13, w, q25, z0, eqA, eqD, eqOp, nilCheckA]; rfl) ?_)
      all_goals exact ⟨rfl, t, Fr.refl _ _⟩
    · have z0 : decide (y < 0) = false := by simpa using hy
      by_cases hy2 : 2305843009213693952 < y
      · have hE : setE xs i y = 12 := by unfold setE; rw [if_neg hi, if_pos (.inr hy2)]
        have hL : setL xs i y = xs := by unfold setL; rw [hE]; rfl
        rw [hE, hL]
        have z1 : decide (2305843009213693952 < y) = true := by simpa using hy2
        repeat' (first
          | refine wc_seq ?_
          | (refine wc_region rfl ?_; simp only [oUn_not, beq_self_eq_true, eq_self, pv_mul, List.toList_toArray, opsA_cons, opsA_nil, wantedA, guardA, yieldA, stepA_t, stepA_f, callA, calleeA, targetA, runOp_c, runOp_n, opA, ev, evs, evo, consO, consOO, withH, pickA, afterA_s, putA, T.get_put, Nat.reduceEqDiff, reduceIte, List.getElem?_toArray, List.getElem?_cons_zero, List.getElem?_cons_succ, oBuiltin, oBin, binA, binG, binL, aggO, litA, intA, ltF_eq, eqF_eq, oIndexAddr, cond_true, cond_false, Bool.not_true, Bool.not_false, decide_true, decide_false, blt_eq, tt_beq, tf_beq, ft_beq, ff_beq, Bool.and_true, Bool.true_and, Option.some.injEq, I, Bo, addI, subI, oExtract, Bool.not_eq_true', fieldAddrA, oFieldAddr, oLoad, oStore, isAggD, aggH, oneH, skipH, Nat.add_eq_left, Nat.left_eq_add, Nat.succ_ne_self, fieldA, partA, cellsOf, List.length_cons, List.length_nil, Nat.reduceAdd, Nat.zero_add, Nat.add_zero, Nat.mul_one, Nat.reduceMul, nbeq_self, onesA_cons', onesA_nil, oneA, Value.oneCell', Nat.reduceLT, ty2, ti2, ty3, ti3, ty22, ti22, ty25, ti25, ty26, ti26, ty52, ti52, a0, a1, a2, q13, w, q25, z0, z1, eqA, eqD, eqOp, nilCheckA]; refine ⟨_, _, rfl, ?_⟩)
          | (refine wc_cond (by simp only [oUn_not, beq_self_eq_true, eq_self, pv_mul, List.toList_toArray, opsA_cons, opsA_nil, wantedA, guardA, yieldA, stepA_t, stepA_f, callA, calleeA, targetA, runOp_c, runOp_n, opA, ev, evs, evo, consO, consOO, withH, pickA, afterA_s, putA, T.get_put, Nat.reduceEqDiff, reduceIte, List.getElem?_toArray, List.getElem?_cons_zero, List.getElem?_cons_succ, oBuiltin, oBin, binA, binG, binL, aggO, litA, intA, ltF_eq, eqF_eq, oIndexAddr, cond_true, cond_false, Bool.not_true, Bool.not_false, decide_true, decide_false, blt_eq, tt_beq, tf_beq, ft_beq, ff_beq, Bool.and_true, Bool.true_and, Option.some.injEq, I, Bo, addI, subI, oExtract, Bool.not_eq_true', fieldAddrA, oFieldAddr, oLoad, oStore, isAggD, aggH, oneH, skipH, Nat.add_eq_left, Nat.left_eq_add, Nat.succ_ne_self, fieldA, partA, cellsOf, List.length_cons, List.length_nil, Nat.reduceAdd, Nat.zero_add, Nat.add_zero, Nat.mul_one, Nat.reduceMul, nbeq_self, onesA_cons', onesA_nil, oneA, Value.oneCell', Nat.reduceLT, ty2, ti2, ty3, ti3, ty22, ti22, ty25, ti25, ty26, ti26, ty52, ti52, a0, a1, a2, q13, w, q25, z0, z1, eqA, eqD, eqOp, nilCheckA]; rfl) ?_ ?_ <;> intro hb <;> first | (exfalso; exact Bool.noConfusion hb) | skip)
          | refine wc_block ?_
          | refine wc_skip ?_
          | refine wc_scope (by decide) ?_
          | refine wc_label ?_
          | refine wc_exit ?_
          | refine wc_ret ?_
          | refine wv_ret (by simp only [resA, resOne]; simp only [oUn_not, beq_self_eq_true, eq_self, pv_mul, List.toList_toArray, opsA_cons, opsA_nil, wantedA, guardA, yieldA, stepA_t, stepA_f, callA, calleeA, targetA, runOp_c, runOp_n, opA, ev, evs, evo, consO, consOO, withH, pickA, afterA_s, putA, T.get_put, Nat.reduceEqDiff, reduceIte, List.getElem?_toArray, List.getElem?_cons_zero, List.getElem?_cons_succ, oBuiltin, oBin, binA, binG, binL, aggO, litA, intA, ltF_eq, eqF_eq, oIndexAddr, cond_true, cond_false, Bool.not_true, Bool.not_false, decide_true, decide_false, blt_eq, tt_beq, tf_beq, ft_beq, ff_beq, Bool.and_true, Bool.true_and, Option.some.injEq, I, Bo, addI, subI, oExtract, Bool.not_eq_true', fieldAddrA, oFieldAddr, oLoad, oStore, isAggD, aggH, oneH, skipH, Nat.add_eq_left, Nat.left_eq_add, Nat.succ_ne_self, fieldA, partA, cellsOf, List.length_cons, List.length_nil, Nat.reduceAdd, Nat.zero_add, Nat.add_zero, Nat.mul_one, Nat.reduceMul, nbeq_self, onesA_cons', onesA_nil, oneA, Value.oneCell', Nat.reduceLT, ty2, ti2, ty3, ti3, ty22, ti22, ty25, ti25, ty26, ti26, ty52, ti52, a0, a1, a2, q13, w, q25, z0, z1, eqA, eqD, eqOp, nilCheckA]; rfl) ?_)
        all_goals exact ⟨rfl, t, Fr.refl _ _⟩
      · have z1 : decide (2305843009213693952 < y) = false := by simpa using hy2
        obtain ⟨k, hki⟩ := Int.eq_ofNat_of_zero_le (show 0 ≤ i by omega)
        obtain rfl : i = Int.ofNat k := hki
        have hk : k < xs.length := by
          have h9 : ¬ (xs.length : Int) ≤ Int.ofNat k := fun e => hi (.inr e)
          simp at h9
          omega
        obtain ⟨x, hx⟩ := at_some hk
        have hx0 := v.nn k x hx
        have hvle := v.le
        have ps := pre_succ hx
        have p0 := pre_bound v k
        have p1 := pre_bound v (k + 1)
        have l1 := t.c1.load
        have l2 := (t.rows k x hx).load
        have l3 := t.c3.load
        have ix := ia22 (nm := na) (off := 0) (cap := xs.length) (z := 0) (r := false) hk
        rw [Nat.zero_add] at ix
        have w1 : IntKind.wrap .i64 (sm xs - x) = sm xs - x := by rw [IntKind.wrap_i64]; omega
        have w2 : IntKind.wrap .i64 (4611686018427387904 - y) = 4611686018427387904 - y := by rw [IntKind.wrap_i64]; omega
        by_cases hb2 : 4611686018427387904 - y < sm xs - x
        · have hE : setE xs (Int.ofNat k) y = 13 := by unfold setE; rw [if_neg hi, if_neg (by omega), show (Int.ofNat k).toNat = k from rfl, set_at hx, if_pos hb2]
          have hL : setL xs (Int.ofNat k) y = xs := by unfold setL; rw [hE]; rfl
          rw [hE, hL]
          have z2 : decide (4611686018427387904 - y < sm xs - x) = true := by simpa using hb2
          repeat' (first
            | refine wc_seq ?_
            | (refine wc_region rfl ?_; simp only [oUn_not, beq_self_eq_true, eq_self, pv_mul, List.toList_toArray, opsA_cons, opsA_nil, wantedA, guardA, yieldA, stepA_t, stepA_f, callA, calleeA, targetA, runOp_c, runOp_n, opA, ev, evs, evo, consO, consOO, withH, pickA, afterA_s, putA, T.get_put, Nat.reduceEqDiff, reduceIte, List.getElem?_toArray, List.getElem?_cons_zero, List.getElem?_cons_succ, oBuiltin, oBin, binA, binG, binL, aggO, litA, intA, ltF_eq, eqF_eq, oIndexAddr, cond_true, cond_false, Bool.not_true, Bool.not_false, decide_true, decide_false, blt_eq, tt_beq, tf_beq, ft_beq, ff_beq, Bool.and_true, Bool.true_and, Option.some.injEq, I, Bo, addI, subI, oExtract, Bool.not_eq_true', fieldAddrA, oFieldAddr, oLoad, oStore, isAggD, aggH, oneH, skipH, Nat.add_eq_left, Nat.left_eq_add, Nat.succ_ne_self, fieldA, partA, cellsOf, List.length_cons, List.length_nil, Nat.reduceAdd, Nat.zero_add, Nat.add_zero, Nat.mul_one, Nat.reduceMul, nbeq_self, onesA_cons', onesA_nil, oneA, Value.oneCell', Nat.reduceLT, ty2, ti2, ty3, ti3, ty22, ti22, ty25, ti25, ty26, ti26, ty52, ti52, a0, a1, a2, q13, w, q25, z0, z1, z2, l1, l2, l3, ix, w1, w2, eqA, eqD, eqOp, nilCheckA]; refine ⟨_, _, rfl, ?_⟩)
            | (refine wc_cond (by simp only [oUn_not, beq_self_eq_true, eq_self, pv_mul, List.toList_toArray, opsA_cons, opsA_nil, wantedA, guardA, yieldA, stepA_t, stepA_f, callA, calleeA, targetA, runOp_c, runOp_n, opA, ev, evs, evo, consO, consOO, withH, pickA, afterA_s, putA, T.get_put, Nat.reduceEqDiff, reduceIte, List.getElem?_toArray, List.getElem?_cons_zero, List.getElem?_cons_succ, oBuiltin, oBin, binA, binG, binL, aggO, litA, intA, ltF_eq, eqF_eq, oIndexAddr, cond_true, cond_false, Bool.not_true, Bool.not_false, decide_true, decide_false, blt_eq, tt_beq, tf_beq, ft_beq, ff_beq, Bool.and_true, Bool.true_and, Option.some.injEq, I, Bo, addI, subI, oExtract, Bool.not_eq_true', fieldAddrA, oFieldAddr, oLoad, oStore, isAggD, aggH, oneH, skipH, Nat.add_eq_left, Nat.left_eq_add, Nat.succ_ne_self, fieldA, partA, cellsOf, List.length_cons, List.length_nil, Nat.reduceAdd, Nat.zero_add, Nat.add_zero, Nat.mul_one, Nat.reduceMul, nbeq_self, onesA_cons', onesA_nil, oneA, Value.oneCell', Nat.reduceLT, ty2, ti2, ty3, ti3, ty22, ti22, ty25, ti25, ty26, ti26, ty52, ti52, a0, a1, a2, q13, w, q25, z0, z1, z2, l1, l2, l3, ix, w1, w2, eqA, eqD, eqOp, nilCheckA]; rfl) ?_ ?_ <;> intro hb <;> first | (exfalso; exact Bool.noConfusion hb) | skip)
            | refine wc_block ?_
            | refine wc_skip ?_
            | refine wc_scope (by decide) ?_
            | refine wc_label ?_
            | refine wc_exit ?_
            | refine wc_ret ?_
            | refine wv_ret (by simp only [resA, resOne]; simp only [oUn_not, beq_self_eq_true, eq_self, pv_mul, List.toList_toArray, opsA_cons, opsA_nil, wantedA, guardA, yieldA, stepA_t, stepA_f, callA, calleeA, targetA, runOp_c, runOp_n, opA, ev, evs, evo, consO, consOO, withH, pickA, afterA_s, putA, T.get_put, Nat.reduceEqDiff, reduceIte, List.getElem?_toArray, List.getElem?_cons_zero, List.getElem?_cons_succ, oBuiltin, oBin, binA, binG, binL, aggO, litA, intA, ltF_eq, eqF_eq, oIndexAddr, cond_true, cond_false, Bool.not_true, Bool.not_false, decide_true, decide_false, blt_eq, tt_beq, tf_beq, ft_beq, ff_beq, Bool.and_true, Bool.true_and, Option.some.injEq, I, Bo, addI, subI, oExtract, Bool.not_eq_true', fieldAddrA, oFieldAddr, oLoad, oStore, isAggD, aggH, oneH, skipH, Nat.add_eq_left, Nat.left_eq_add, Nat.succ_ne_self, fieldA, partA, cellsOf, List.length_cons, List.length_nil, Nat.reduceAdd, Nat.zero_add, Nat.add_zero, Nat.mul_one, Nat.reduceMul, nbeq_self, onesA_cons', onesA_nil, oneA, Value.oneCell', Nat.reduceLT, ty2, ti2, ty3, ti3, ty22, ti22, ty25, ti25, ty26, ti26, ty52, ti52, a0, a1, a2, q13, w, q25, z0, z1, z2, l1, l2, l3, ix, w1, w2, eqA, eqD, eqOp, nilCheckA]; rfl) ?_)
          all_goals exact ⟨rfl, t, Fr.refl _ _⟩
        · have hE : setE xs (Int.ofNat k) y = 0 := by unfold setE; rw [if_neg hi, if_neg (by omega), show (Int.ofNat k).toNat = k from rfl, set_at hx, if_neg hb2]
          have hL : setL xs (Int.ofNat k) y = xs.set k y := by unfold setL; rw [if_pos hE]; rfl
          have hV2 : V (xs.set k y) := by rw [← hL]; exact setL_v v
          rw [hE, hL]
          have z2 : decide (4611686018427387904 - y < sm xs - x) = false := by simpa using hb2
          have q24 := c24 d h k nm na nb xs x y t hx hn v hV2
          repeat' (first
            | refine wc_seq ?_
            | (refine wc_region rfl ?_; simp only [oUn_not, beq_self_eq_true, eq_self, pv_mul, List.toList_toArray, opsA_cons, opsA_nil, wantedA, guardA, yieldA, stepA_t, stepA_f, callA, calleeA, targetA, runOp_c, runOp_n, opA, ev, evs, evo, consO, consOO, withH, pickA, afterA_s, putA, T.get_put, Nat.reduceEqDiff, reduceIte, List.getElem?_toArray, List.getElem?_cons_zero, List.getElem?_cons_succ, oBuiltin, oBin, binA, binG, binL, aggO, litA, intA, ltF_eq, eqF_eq, oIndexAddr, cond_true, cond_false, Bool.not_true, Bool.not_false, decide_true, decide_false, blt_eq, tt_beq, tf_beq, ft_beq, ff_beq, Bool.and_true, Bool.true_and, Option.some.injEq, I, Bo, addI, subI, oExtract, Bool.not_eq_true', fieldAddrA, oFieldAddr, oLoad, oStore, isAggD, aggH, oneH, skipH, Nat.add_eq_left, Nat.left_eq_add, Nat.succ_ne_self, fieldA, partA, cellsOf, List.length_cons, List.length_nil, Nat.reduceAdd, Nat.zero_add, Nat.add_zero, Nat.mul_one, Nat.reduceMul, nbeq_self, onesA_cons', onesA_nil, oneA, Value.oneCell', Nat.reduceLT, ty2, ti2, ty3, ti3, ty22, ti22, ty25, ti25, ty26, ti26, ty52, ti52, a0, a1, a2, q13, w, q25, z0, z1, z2, l1, l2, l3, ix, w1, w2, eqA, eqD, eqOp, nilCheckA]; refine ⟨_, _, rfl, ?_⟩)
            | (refine wc_region rfl ?_; simp only [oUn_not, beq_self_eq_true, eq_self, pv_mul, List.toList_toArray, opsA_cons, opsA_nil, wantedA, guardA, yieldA, stepA_t, stepA_f, callA, calleeA, targetA, runOp_c, runOp_n, opA, ev, evs, evo, consO, consOO, withH, pickA, afterA_s, putA, T.get_put, Nat.reduceEqDiff, reduceIte, List.getElem?_toArray, List.getElem?_cons_zero, List.getElem?_cons_succ, oBuiltin, oBin, binA, binG, binL, aggO, litA, intA, ltF_eq, eqF_eq, oIndexAddr, cond_true, cond_false, Bool.not_true, Bool.not_false, decide_true, decide_false, blt_eq, tt_beq, tf_beq, ft_beq, ff_beq, Bool.and_true, Bool.true_and, Option.some.injEq, I, Bo, addI, subI, oExtract, Bool.not_eq_true', fieldAddrA, oFieldAddr, oLoad, oStore, isAggD, aggH, oneH, skipH, Nat.add_eq_left, Nat.left_eq_add, Nat.succ_ne_self, fieldA, partA, cellsOf, List.length_cons, List.length_nil, Nat.reduceAdd, Nat.zero_add, Nat.add_zero, Nat.mul_one, Nat.reduceMul, nbeq_self, onesA_cons', onesA_nil, oneA, Value.oneCell', Nat.reduceLT, ty2, ti2, ty3, ti3, ty22, ti22, ty25, ti25, ty26, ti26, ty52, ti52, a0, a1, a2, q13, w, q25, z0, z1, z2, l1, l2, l3, ix, w1, w2, eqA, eqD, eqOp, nilCheckA]; refine wo_call (q24) ?_; rintro _ h2 ⟨t2, f2⟩; simp only [oUn_not, beq_self_eq_true, eq_self, pv_mul, List.toList_toArray, opsA_cons, opsA_nil, wantedA, guardA, yieldA, stepA_t, stepA_f, callA, calleeA, targetA, runOp_c, runOp_n, opA, ev, evs, evo, consO, consOO, withH, pickA, afterA_s, putA, T.get_put, Nat.reduceEqDiff, reduceIte, List.getElem?_toArray, List.getElem?_cons_zero, List.getElem?_cons_succ, oBuiltin, oBin, binA, binG, binL, aggO, litA, intA, ltF_eq, eqF_eq, oIndexAddr, cond_true, cond_false, Bool.not_true, Bool.not_false, decide_true, decide_false, blt_eq, tt_beq, tf_beq, ft_beq, ff_beq, Bool.and_true, Bool.true_and, Option.some.injEq, I, Bo, addI, subI, oExtract, Bool.not_eq_true', fieldAddrA, oFieldAddr, oLoad, oStore, isAggD, aggH, oneH, skipH, Nat.add_eq_left, Nat.left_eq_add, Nat.succ_ne_self, fieldA, partA, cellsOf, List.length_cons, List.length_nil, Nat.reduceAdd, Nat.zero_add, Nat.add_zero, Nat.mul_one, Nat.reduceMul, nbeq_self, onesA_cons', onesA_nil, oneA, Value.oneCell', Nat.reduceLT, ty2, ti2, ty3, ti3, ty22, ti22, ty25, ti25, ty26, ti26, ty52, ti52, a0, a1, a2, q13, w, q25, z0, z1, z2, l1, l2, l3, ix, w1, w2, eqA, eqD, eqOp, nilCheckA]; refine ⟨_, _, rfl, ?_⟩)
            | (refine wc_cond (by simp only [oUn_not, beq_self_eq_true, eq_self, pv_mul, List.toList_toArray, opsA_cons, opsA_nil, wantedA, guardA, yieldA, stepA_t, stepA_f, callA, calleeA, targetA, runOp_c, runOp_n, opA, ev, evs, evo, consO, consOO, withH, pickA, afterA_s, putA, T.get_put, Nat.reduceEqDiff, reduceIte, List.getElem?_toArray, List.getElem?_cons_zero, List.getElem?_cons_succ, oBuiltin, oBin, binA, binG, binL, aggO, litA, intA, ltF_eq, eqF_eq, oIndexAddr, cond_true, cond_false, Bool.not_true, Bool.not_false, decide_true, decide_false, blt_eq, tt_beq, tf_beq, ft_beq, ff_beq, Bool.and_true, Bool.true_and, Option.some.injEq, I, Bo, addI, subI, oExtract, Bool.not_eq_true', fieldAddrA, oFieldAddr, oLoad, oStore, isAggD, aggH, oneH, skipH, Nat.add_eq_left, Nat.left_eq_add, Nat.succ_ne_self, fieldA, partA, cellsOf, List.length_cons, List.length_nil, Nat.reduceAdd, Nat.zero_add, Nat.add_zero, Nat.mul_one, Nat.reduceMul, nbeq_self, onesA_cons', onesA_nil, oneA, Value.oneCell', Nat.reduceLT, ty2, ti2, ty3, ti3, ty22, ti22, ty25, ti25, ty26, ti26, ty52, ti52, a0, a1, a2, q13, w, q25, z0, z1, z2, l1, l2, l3, ix, w1, w2, eqA, eqD, eqOp, nilCheckA]; rfl) ?_ ?_ <;> intro hb <;> first | (exfalso; exact Bool.noConfusion hb) | skip)
            | refine wc_block ?_
            | refine wc_skip ?_
            | refine wc_scope (by decide) ?_
            | refine wc_label ?_
            | refine wc_exit ?_
            | refine wc_ret ?_
            | refine wv_ret (by simp only [resA, resOne]; simp only [oUn_not, beq_self_eq_true, eq_self, pv_mul, List.toList_toArray, opsA_cons, opsA_nil, wantedA, guardA, yieldA, stepA_t, stepA_f, callA, calleeA, targetA, runOp_c, runOp_n, opA, ev, evs, evo, consO, consOO, withH, pickA, afterA_s, putA, T.get_put, Nat.reduceEqDiff, reduceIte, List.getElem?_toArray, List.getElem?_cons_zero, List.getElem?_cons_succ, oBuiltin, oBin, binA, binG, binL, aggO, litA, intA, ltF_eq, eqF_eq, oIndexAddr, cond_true, cond_false, Bool.not_true, Bool.not_false, decide_true, decide_false, blt_eq, tt_beq, tf_beq, ft_beq, ff_beq, Bool.and_true, Bool.true_and, Option.some.injEq, I, Bo, addI, subI, oExtract, Bool.not_eq_true', fieldAddrA, oFieldAddr, oLoad, oStore, isAggD, aggH, oneH, skipH, Nat.add_eq_left, Nat.left_eq_add, Nat.succ_ne_self, fieldA, partA, cellsOf, List.length_cons, List.length_nil, Nat.reduceAdd, Nat.zero_add, Nat.add_zero, Nat.mul_one, Nat.reduceMul, nbeq_self, onesA_cons', onesA_nil, oneA, Value.oneCell', Nat.reduceLT, ty2, ti2, ty3, ti3, ty22, ti22, ty25, ti25, ty26, ti26, ty52, ti52, a0, a1, a2, q13, w, q25, z0, z1, z2, l1, l2, l3, ix, w1, w2, eqA, eqD, eqOp, nilCheckA]; rfl) ?_)
          all_goals exact ⟨rfl, t2, f2⟩
end Go.Proofs.Ytgekfjndpbejoaa
