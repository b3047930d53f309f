import Derived.Test.YtjfmimlmnllnjaaZ3
import Derived.KernelRfl
namespace Go.Proofs.Ytjfmimlmnllnjaa
open Go Go.Proofs Go.RowKit
set_option linter.unusedSimpArgs false
set_option linter.unusedVariables false
open Go.Proofs.Abs
set_option maxHeartbeats 4000000 in
theorem c9z (d : Nat) (h : Hp) (p nm : Nat) (M : List Int) (f t : Nat) (b : Buf h p nm M f t) (at_ : Nat) (v : AV) (xs : List Int) (hv : IsL h v (xs.map I)) (hvn : ∀ n, nmO v = some n → n ≠ p ∧ n ≠ nm) (ha : at_ ≤ (con M f t).length) (hs : (con M f t).length + xs.length ≤ 4096) (h0 : xs = []) : Wv (runA ctx 5000 (d + 3) 9 [.ptr p 0, I (Int.ofNat at_), v] h) (fun r h' => r = I 0 ∧ ∃ nm' M' f' t', Buf h' p nm' M' f' t' ∧ con M' f' t' = (con M f t).take at_ ++ xs ++ (con M f t).drop at_ ∧ (nm' = nm ∨ h.c ≤ nm') ∧ Fr (fun n => n = p ∨ n = nm) h h') := by
  have q1 := b.le1
  have q2 := b.le2
  have q3 := b.sm
  have q4 := b.len
  have hl := lenL hv
  have q11 : runA ctx 5000 (d + 2) 11 [.ptr p 0] h = some (I (Int.ofNat (con M f t).length), h) := c11 (d + 1) h p nm M f t b
  have q24 : runA ctx 5000 (d + 2) 24 [.ptr p 0, I (Int.ofNat at_), I 0] h = some (I 0, h) := c24 d h p nm M f t (Int.ofNat at_) 0 b (by simp only [Int.ofNat_eq_natCast]; omega)
  have w1 : IntKind.wrap .i64 (4096 - Int.ofNat (con M f t).length) = 4096 - Int.ofNat (con M f t).length := by rw [IntKind.wrap_i64]; simp only [Int.ofNat_eq_natCast]; omega
  have z1 : decide (4096 - Int.ofNat (con M f t).length < Int.ofNat xs.length) = false := by simp only [Int.ofNat_eq_natCast, decide_eq_false_iff_not]; omega
  subst h0
  simp only [List.length_nil, of0] at hl z1
  refine wv_run fn9 rfl ?_
  have a0 : (enterEnv [.ptr p 0, I (Int.ofNat at_), v] Try.f9.ntmps).get 0 = some (.ptr p 0) := enter_get1 _ _ _
  have a1 : (enterEnv [.ptr p 0, I (Int.ofNat at_), v] Try.f9.ntmps).get 1 = some (I (Int.ofNat at_)) := enter_get2 _ _ _ _
  have a2 : (enterEnv [.ptr p 0, I (Int.ofNat at_), v] Try.f9.ntmps).get 2 = some (v) := enter_get3 _ _ _ _ _
  generalize enterEnv [.ptr p 0, I (Int.ofNat at_), v] Try.f9.ntmps = e at a0 a1 a2 ⊢
  unfold Try.f9
  dsimp only
  repeat' (first
    | refine wc_seq ?_
    | (refine wc_region rfl ?_; simp only [oUn_not, beq_self_eq_true, eq_self, pv_mul, List.toList_toArray, opsA_cons, opsA_nil, wantedA, guardA, yieldA, stepA_t, stepA_f, callA, calleeA, targetA, runOp_c, runOp_n, opA, ev, evs, evo, consO, consOO, withH, pickA, afterA_s, putA, T.get_put, Nat.reduceEqDiff, reduceIte, List.getElem?_toArray, List.getElem?_cons_zero, List.getElem?_cons_succ, oBuiltin, oBin, binA, binG, binL, aggO, litA, intA, ltF_eq, eqF_eq, oIndexAddr, cond_true, cond_false, Bool.not_true, Bool.not_false, decide_true, decide_false, blt_eq, tt_beq, tf_beq, ft_beq, ff_beq, Bool.and_true, Bool.true_and, Option.some.injEq, I, Bo, addI, subI, oExtract, Bool.not_eq_true', fieldAddrA, oFieldAddr, oLoad, oStore, isAggD, aggH, oneH, skipH, Nat.add_eq_left, Nat.left_eq_add, Nat.succ_ne_self, fieldA, partA, cellsOf, List.length_cons, List.length_nil, Nat.reduceAdd, Nat.zero_add, Nat.add_zero, Nat.mul_one, Nat.reduceMul, nbeq_self, onesA_cons', onesA_nil, oneA, Value.oneCell', Nat.reduceLT, ty3, ti3, ty22, ti22, ty25, ti25, ty26, ti26, ty39, ti39, a0, a1, a2, hl, q11, q24, w1, z1, Int.reduceBEq, Int.reduceBNe, eqA, eqD, eqOp, nilCheckA]; refine ⟨_, _, rfl, ?_⟩)
    | (refine wc_cond (by simp only [oUn_not, beq_self_eq_true, eq_self, pv_mul, List.toList_toArray, opsA_cons, opsA_nil, wantedA, guardA, yieldA, stepA_t, stepA_f, callA, calleeA, targetA, runOp_c, runOp_n, opA, ev, evs, evo, consO, consOO, withH, pickA, afterA_s, putA, T.get_put, Nat.reduceEqDiff, reduceIte, List.getElem?_toArray, List.getElem?_cons_zero, List.getElem?_cons_succ, oBuiltin, oBin, binA, binG, binL, aggO, litA, intA, ltF_eq, eqF_eq, oIndexAddr, cond_true, cond_false, Bool.not_true, Bool.not_false, decide_true, decide_false, blt_eq, tt_beq, tf_beq, ft_beq, ff_beq, Bool.and_true, Bool.true_and, Option.some.injEq, I, Bo, addI, subI, oExtract, Bool.not_eq_true', fieldAddrA, oFieldAddr, oLoad, oStore, isAggD, aggH, oneH, skipH, Nat.add_eq_left, Nat.left_eq_add, Nat.succ_ne_self, fieldA, partA, cellsOf, List.length_cons, List.length_nil, Nat.reduceAdd, Nat.zero_add, Nat.add_zero, Nat.mul_one, Nat.reduceMul, nbeq_self, onesA_cons', onesA_nil, oneA, Value.oneCell', Nat.reduceLT, ty3, ti3, ty22, ti22, ty25, ti25, ty26, ti26, ty39, ti39, a0, a1, a2, hl, q11, q24, w1, z1, Int.reduceBEq, Int.reduceBNe, eqA, eqD, eqOp, nilCheckA]; rfl) ?_ ?_ <;> intro hb <;> first | (exfalso; exact Bool.noConfusion hb) | skip)
    | refine wc_block ?_
    | refine wc_skip ?_
    | refine wc_scope (by decide) ?_
    | refine wc_label ?_
    | refine wc_exit ?_
    | refine wc_ret ?_
    | refine wv_ret (by simp only [resA, resOne]; simp only [oUn_not, beq_self_eq_true, eq_self, pv_mul, List.toList_toArray, opsA_cons, opsA_nil, wantedA, guardA, yieldA, stepA_t, stepA_f, callA, calleeA, targetA, runOp_c, runOp_n, opA, ev, evs, evo, consO, consOO, withH, pickA, afterA_s, putA, T.get_put, Nat.reduceEqDiff, reduceIte, List.getElem?_toArray, List.getElem?_cons_zero, List.getElem?_cons_succ, oBuiltin, oBin, binA, binG, binL, aggO, litA, intA, ltF_eq, eqF_eq, oIndexAddr, cond_true, cond_false, Bool.not_true, Bool.not_false, decide_true, decide_false, blt_eq, tt_beq, tf_beq, ft_beq, ff_beq, Bool.and_true, Bool.true_and, Option.some.injEq, I, Bo, addI, subI, oExtract, Bool.not_eq_true', fieldAddrA, oFieldAddr, oLoad, oStore, isAggD, aggH, oneH, skipH, Nat.add_eq_left, Nat.left_eq_add, Nat.succ_ne_self, fieldA, partA, cellsOf, List.length_cons, List.length_nil, Nat.reduceAdd, Nat.zero_add, Nat.add_zero, Nat.mul_one, Nat.reduceMul, nbeq_self, onesA_cons', onesA_nil, oneA, Value.oneCell', Nat.reduceLT, ty3, ti3, ty22, ti22, ty25, ti25, ty26, ti26, ty39, ti39, a0, a1, a2, hl, q11, q24, w1, z1, Int.reduceBEq, Int.reduceBNe, eqA, eqD, eqOp, nilCheckA]; rfl) ?_)
  all_goals exact ⟨rfl, nm, M, f, t, b, by rw [List.append_nil, List.take_append_drop], .inl rfl, Fr.refl _ _⟩
set_option maxHeartbeats 4000000 in
theorem c9s (d : Nat) (h : Hp) (p nm : Nat) (M : List Int) (f t : Nat) (b : Buf h p nm M f t) (at_ : Nat) (v : AV) (xs : List Int) (hv : IsL h v (xs.map I)) (hvn : ∀ n, nmO v = some n → n ≠ p ∧ n ≠ nm) (ha : at_ ≤ (con M f t).length) (hs : (con M f t).length + xs.length ≤ 4096) (h0 : xs ≠ []) : Wv (runA ctx 5000 (d + 3) 9 [.ptr p 0, I (Int.ofNat at_), v] h) (fun r h' => r = I 0 ∧ ∃ nm' M' f' t', Buf h' p nm' M' f' t' ∧ con M' f' t' = (con M f t).take at_ ++ xs ++ (con M f t).drop at_ ∧ (nm' = nm ∨ h.c ≤ nm') ∧ Fr (fun n => n = p ∨ n = nm) h h') := by
  have q1 := b.le1
  have q2 := b.le2
  have q3 := b.sm
  have q4 := b.len
  have hl := lenL hv
  have q11 : runA ctx 5000 (d + 2) 11 [.ptr p 0] h = some (I (Int.ofNat (con M f t).length), h) := c11 (d + 1) h p nm M f t b
  have q24 : runA ctx 5000 (d + 2) 24 [.ptr p 0, I (Int.ofNat at_), I 0] h = some (I 0, h) := c24 d h p nm M f t (Int.ofNat at_) 0 b (by simp only [Int.ofNat_eq_natCast]; omega)
  have w1 : IntKind.wrap .i64 (4096 - Int.ofNat (con M f t).length) = 4096 - Int.ofNat (con M f t).length := by rw [IntKind.wrap_i64]; simp only [Int.ofNat_eq_natCast]; omega
  have z1 : decide (4096 - Int.ofNat (con M f t).length < Int.ofNat xs.length) = false := by simp only [Int.ofNat_eq_natCast, decide_eq_false_iff_not]; omega
  have hxl : xs.length ≠ 0 := fun e => h0 (List.length_eq_zero_iff.1 e)
  have hz : (Int.ofNat xs.length == 0) = false := by
    rw [beq_eq_false_iff_ne]
    simp only [Int.ofNat_eq_natCast]
    omega
  obtain ⟨r1, h1, e1, nm1, M1, t1, B1, hc1, hg1, hn1, f1⟩ := c25 d h p nm M f t xs.length b hs
  obtain ⟨r2, h2, e2, M2, B2, hl2, hc2, f2⟩ := c26 (d + 1) h1 p nm1 M1 f t1 at_ B1 (by rw [hc1]; exact ha)
  have hpc := b.lt
  have hnc := b.blk.lt
  have fr2 : Fr (fun n => n = p ∨ n = nm) h h2 := by
    refine ⟨Nat.le_trans f1.c f2.c, f2.ro.trans f1.ro, fun n hn hp => ?_⟩
    rw [f2.m n (Nat.lt_of_lt_of_le hn f1.c) (fun e => by
      rcases e with e | e
      · exact hp (.inl e)
      · rcases hn1 with h5 | h5
        · exact hp (.inr (e.trans h5))
        · omega), f1.m n hn (fun e => hp (.inl e))]
  have hv2 := IsL_fr hv fr2 (fun n hn e => by rcases e with e | e; exact (hvn n hn).1 e; exact (hvn n hn).2 e)
  have p1 := B2.le1
  have p2 := B2.le2
  have p3 := B2.sm
  have l0 := B2.c0.load
  have l1 := B2.c1.load
  have l2 := B2.c2.load
  obtain ⟨sa, hsa, Sa⟩ := slB (nm := nm1) (n := M2.length) (a := at_) (b := at_ + (t1 - f)) (by omega) p2
  have em : min xs.length (at_ + (t1 - f) - at_) = xs.length := by omega
  have hla := hv2.lenA
  rw [List.length_map] at hla
  obtain ⟨h3, hcp, o3, g3⟩ := copyB B2.blk Sa (by omega) hla (xs := xs) (by rw [em]; have := hv2.elems (m := xs.length) (by rw [List.length_map]; omega); rwa [List.take_of_length_le (by rw [List.length_map]; omega)] at this) (by rw [em])
  rw [em] at hcp
  have e3 : (patch M2 at_ xs).length = M2.length := patch_len (by omega)
  have B3 := B2.mem o3 g3 e3
  have w2 : IntKind.wrap .i64 (Int.ofNat at_ + Int.ofNat xs.length) = Int.ofNat (at_ + xs.length) := by rw [IntKind.wrap_i64]; simp only [Int.ofNat_eq_natCast]; omega
  obtain ⟨h4, hs4, o4, B4⟩ := B3.put1 (f' := at_ + xs.length) (by omega)
  have ml1 := B3.c1.load
  have av := avB_int (Int.ofNat at_)
  have hcon := ins_eq (M := M2) (xs := xs) (f := at_) (t := at_ + (t1 - f)) (by omega) p2
  rw [hc2, hc1] at hcon
  have k3 := o3.c
  have fr3 : Fr (fun n => n = p ∨ n = nm) h h3 := ⟨by have := fr2.c; omega, o3.ro.trans fr2.ro, fun n hn hp => (o3.m n (fun e => by
    rcases hn1 with h5 | h5
    · exact hp (.inr (e.trans h5))
    · omega)).trans (fr2.m n hn hp)⟩
  have fr : Fr (fun n => n = p ∨ n = nm) h h4 := fr3.trans (o4.fr (.inl rfl))
  refine wv_run fn9 rfl ?_
  have a0 : (enterEnv [.ptr p 0, I (Int.ofNat at_), v] Try.f9.ntmps).get 0 = some (.ptr p 0) := enter_get1 _ _ _
  have a1 : (enterEnv [.ptr p 0, I (Int.ofNat at_), v] Try.f9.ntmps).get 1 = some (I (Int.ofNat at_)) := enter_get2 _ _ _ _
  have a2 : (enterEnv [.ptr p 0, I (Int.ofNat at_), v] Try.f9.ntmps).get 2 = some (v) := enter_get3 _ _ _ _ _
  generalize enterEnv [.ptr p 0, I (Int.ofNat at_), v] Try.f9.ntmps = e at a0 a1 a2 ⊢
  unfold Try.f9
  dsimp only
  repeat' (first
    | refine wc_seq ?_
    | (refine wc_region rfl ?_; simp only [oUn_not, beq_self_eq_true, eq_self, pv_mul, List.toList_toArray, opsA_cons, opsA_nil, wantedA, guardA, yieldA, stepA_t, stepA_f, callA, calleeA, targetA, runOp_c, runOp_n, opA, ev, evs, evo, consO, consOO, withH, pickA, afterA_s, putA, T.get_put, Nat.reduceEqDiff, reduceIte, List.getElem?_toArray, List.getElem?_cons_zero, List.getElem?_cons_succ, oBuiltin, oBin, binA, binG, binL, aggO, litA, intA, ltF_eq, eqF_eq, oIndexAddr, cond_true, cond_false, Bool.not_true, Bool.not_false, decide_true, decide_false, blt_eq, tt_beq, tf_beq, ft_beq, ff_beq, Bool.and_true, Bool.true_and, Option.some.injEq, I, Bo, addI, subI, oExtract, Bool.not_eq_true', fieldAddrA, oFieldAddr, oLoad, oStore, isAggD, aggH, oneH, skipH, Nat.add_eq_left, Nat.left_eq_add, Nat.succ_ne_self, fieldA, partA, cellsOf, List.length_cons, List.length_nil, Nat.reduceAdd, Nat.zero_add, Nat.add_zero, Nat.mul_one, Nat.reduceMul, nbeq_self, onesA_cons', onesA_nil, oneA, Value.oneCell', Nat.reduceLT, ty3, ti3, ty22, ti22, ty25, ti25, ty26, ti26, ty39, ti39, a0, a1, a2, hl, q11, q24, w1, z1, Int.reduceBEq, Int.reduceBNe, eqA, eqD, eqOp, nilCheckA, hz, e1, e2, l0, l1, l2, hsa, hcp, w2, hs4, ml1, av, oSlice]; refine ⟨_, _, rfl, ?_⟩)
    | (refine wc_cond (by simp only [oUn_not, beq_self_eq_true, eq_self, pv_mul, List.toList_toArray, opsA_cons, opsA_nil, wantedA, guardA, yieldA, stepA_t, stepA_f, callA, calleeA, targetA, runOp_c, runOp_n, opA, ev, evs, evo, consO, consOO, withH, pickA, afterA_s, putA, T.get_put, Nat.reduceEqDiff, reduceIte, List.getElem?_toArray, List.getElem?_cons_zero, List.getElem?_cons_succ, oBuiltin, oBin, binA, binG, binL, aggO, litA, intA, ltF_eq, eqF_eq, oIndexAddr, cond_true, cond_false, Bool.not_true, Bool.not_false, decide_true, decide_false, blt_eq, tt_beq, tf_beq, ft_beq, ff_beq, Bool.and_true, Bool.true_and, Option.some.injEq, I, Bo, addI, subI, oExtract, Bool.not_eq_true', fieldAddrA, oFieldAddr, oLoad, oStore, isAggD, aggH, oneH, skipH, Nat.add_eq_left, Nat.left_eq_add, Nat.succ_ne_self, fieldA, partA, cellsOf, List.length_cons, List.length_nil, Nat.reduceAdd, Nat.zero_add, Nat.add_zero, Nat.mul_one, Nat.reduceMul, nbeq_self, onesA_cons', onesA_nil, oneA, Value.oneCell', Nat.reduceLT, ty3, ti3, ty22, ti22, ty25, ti25, ty26, ti26, ty39, ti39, a0, a1, a2, hl, q11, q24, w1, z1, Int.reduceBEq, Int.reduceBNe, eqA, eqD, eqOp, nilCheckA, hz, e1, e2, l0, l1, l2, hsa, hcp, w2, hs4, ml1, av, oSlice]; rfl) ?_ ?_ <;> intro hb <;> first | (exfalso; exact Bool.noConfusion hb) | skip)
    | refine wc_block ?_
    | refine wc_skip ?_
    | refine wc_scope (by decide) ?_
    | refine wc_label ?_
    | refine wc_exit ?_
    | refine wc_ret ?_
    | refine wv_ret (by simp only [resA, resOne]; simp only [oUn_not, beq_self_eq_true, eq_self, pv_mul, List.toList_toArray, opsA_cons, opsA_nil, wantedA, guardA, yieldA, stepA_t, stepA_f, callA, calleeA, targetA, runOp_c, runOp_n, opA, ev, evs, evo, consO, consOO, withH, pickA, afterA_s, putA, T.get_put, Nat.reduceEqDiff, reduceIte, List.getElem?_toArray, List.getElem?_cons_zero, List.getElem?_cons_succ, oBuiltin, oBin, binA, binG, binL, aggO, litA, intA, ltF_eq, eqF_eq, oIndexAddr, cond_true, cond_false, Bool.not_true, Bool.not_false, decide_true, decide_false, blt_eq, tt_beq, tf_beq, ft_beq, ff_beq, Bool.and_true, Bool.true_and, Option.some.injEq, I, Bo, addI, subI, oExtract, Bool.not_eq_true', fieldAddrA, oFieldAddr, oLoad, oStore, isAggD, aggH, oneH, skipH, Nat.add_eq_left, Nat.left_eq_add, Nat.succ_ne_self, fieldA, partA, cellsOf, List.length_cons, List.length_nil, Nat.reduceAdd, Nat.zero_add, Nat.add_zero, Nat.mul_one, Nat.reduceMul, nbeq_self, onesA_cons', onesA_nil, oneA, Value.oneCell', Nat.reduceLT, ty3, ti3, ty22, ti22, ty25, ti25, ty26, ti26, ty39, ti39, a0, a1, a2, hl, q11, q24, w1, z1, Int.reduceBEq, Int.reduceBNe, eqA, eqD, eqOp, nilCheckA, hz, e1, e2, l0, l1, l2, hsa, hcp, w2, hs4, ml1, av, oSlice]; rfl) ?_)
  refine wc_dyn (p := (3, 19)) (ps := []) (by kernel_rfl) (by simp only [oUn_not, beq_self_eq_true, eq_self, pv_mul, List.toList_toArray, opsA_cons, opsA_nil, wantedA, guardA, yieldA, stepA_t, stepA_f, callA, calleeA, targetA, runOp_c, runOp_n, opA, ev, evs, evo, consO, consOO, withH, pickA, afterA_s, putA, T.get_put, Nat.reduceEqDiff, reduceIte, List.getElem?_toArray, List.getElem?_cons_zero, List.getElem?_cons_succ, oBuiltin, oBin, binA, binG, binL, aggO, litA, intA, ltF_eq, eqF_eq, oIndexAddr, cond_true, cond_false, Bool.not_true, Bool.not_false, decide_true, decide_false, blt_eq, tt_beq, tf_beq, ft_beq, ff_beq, Bool.and_true, Bool.true_and, Option.some.injEq, I, Bo, addI, subI, oExtract, Bool.not_eq_true', fieldAddrA, oFieldAddr, oLoad, oStore, isAggD, aggH, oneH, skipH, Nat.add_eq_left, Nat.left_eq_add, Nat.succ_ne_self, fieldA, partA, cellsOf, List.length_cons, List.length_nil, Nat.reduceAdd, Nat.zero_add, Nat.add_zero, Nat.mul_one, Nat.reduceMul, nbeq_self, onesA_cons', onesA_nil, oneA, Value.oneCell', Nat.reduceLT, ty3, ti3, ty22, ti22, ty25, ti25, ty26, ti26, ty39, ti39, a0, a1, a2, hl, q11, q24, w1, z1, Int.reduceBEq, Int.reduceBNe, eqA, eqD, eqOp, nilCheckA, hz, e1, e2, l0, l1, l2, hsa, hcp, w2, hs4, ml1, av, oSlice, trA_nil, trA_cons, nextT, preA]; rfl) (by simp only [oUn_not, beq_self_eq_true, eq_self, pv_mul, List.toList_toArray, opsA_cons, opsA_nil, wantedA, guardA, yieldA, stepA_t, stepA_f, callA, calleeA, targetA, runOp_c, runOp_n, opA, ev, evs, evo, consO, consOO, withH, pickA, afterA_s, putA, T.get_put, Nat.reduceEqDiff, reduceIte, List.getElem?_toArray, List.getElem?_cons_zero, List.getElem?_cons_succ, oBuiltin, oBin, binA, binG, binL, aggO, litA, intA, ltF_eq, eqF_eq, oIndexAddr, cond_true, cond_false, Bool.not_true, Bool.not_false, decide_true, decide_false, blt_eq, tt_beq, tf_beq, ft_beq, ff_beq, Bool.and_true, Bool.true_and, Option.some.injEq, I, Bo, addI, subI, oExtract, Bool.not_eq_true', fieldAddrA, oFieldAddr, oLoad, oStore, isAggD, aggH, oneH, skipH, Nat.add_eq_left, Nat.left_eq_add, Nat.succ_ne_self, fieldA, partA, cellsOf, List.length_cons, List.length_nil, Nat.reduceAdd, Nat.zero_add, Nat.add_zero, Nat.mul_one, Nat.reduceMul, nbeq_self, onesA_cons', onesA_nil, oneA, Value.oneCell', Nat.reduceLT, ty3, ti3, ty22, ti22, ty25, ti25, ty26, ti26, ty39, ti39, a0, a1, a2, hl, q11, q24, w1, z1, Int.reduceBEq, Int.reduceBNe, eqA, eqD, eqOp, nilCheckA, hz, e1, e2, l0, l1, l2, hsa, hcp, w2, hs4, ml1, av, oSlice, checksD_nil, checksD_cons, checkD, checkG, sameR, avB_int]) rfl ?_
  repeat' (first
    | refine wc_seq ?_
    | (refine wc_region rfl ?_; simp only [oUn_not, beq_self_eq_true, eq_self, pv_mul, List.toList_toArray, opsA_cons, opsA_nil, wantedA, guardA, yieldA, stepA_t, stepA_f, callA, calleeA, targetA, runOp_c, runOp_n, opA, ev, evs, evo, consO, consOO, withH, pickA, afterA_s, putA, T.get_put, Nat.reduceEqDiff, reduceIte, List.getElem?_toArray, List.getElem?_cons_zero, List.getElem?_cons_succ, oBuiltin, oBin, binA, binG, binL, aggO, litA, intA, ltF_eq, eqF_eq, oIndexAddr, cond_true, cond_false, Bool.not_true, Bool.not_false, decide_true, decide_false, blt_eq, tt_beq, tf_beq, ft_beq, ff_beq, Bool.and_true, Bool.true_and, Option.some.injEq, I, Bo, addI, subI, oExtract, Bool.not_eq_true', fieldAddrA, oFieldAddr, oLoad, oStore, isAggD, aggH, oneH, skipH, Nat.add_eq_left, Nat.left_eq_add, Nat.succ_ne_self, fieldA, partA, cellsOf, List.length_cons, List.length_nil, Nat.reduceAdd, Nat.zero_add, Nat.add_zero, Nat.mul_one, Nat.reduceMul, nbeq_self, onesA_cons', onesA_nil, oneA, Value.oneCell', Nat.reduceLT, ty3, ti3, ty22, ti22, ty25, ti25, ty26, ti26, ty39, ti39, a0, a1, a2, hl, q11, q24, w1, z1, Int.reduceBEq, Int.reduceBNe, eqA, eqD, eqOp, nilCheckA, hz, e1, e2, l0, l1, l2, hsa, hcp, w2, hs4, ml1, av, oSlice]; refine ⟨_, _, rfl, ?_⟩)
    | (refine wc_cond (by simp only [oUn_not, beq_self_eq_true, eq_self, pv_mul, List.toList_toArray, opsA_cons, opsA_nil, wantedA, guardA, yieldA, stepA_t, stepA_f, callA, calleeA, targetA, runOp_c, runOp_n, opA, ev, evs, evo, consO, consOO, withH, pickA, afterA_s, putA, T.get_put, Nat.reduceEqDiff, reduceIte, List.getElem?_toArray, List.getElem?_cons_zero, List.getElem?_cons_succ, oBuiltin, oBin, binA, binG, binL, aggO, litA, intA, ltF_eq, eqF_eq, oIndexAddr, cond_true, cond_false, Bool.not_true, Bool.not_false, decide_true, decide_false, blt_eq, tt_beq, tf_beq, ft_beq, ff_beq, Bool.and_true, Bool.true_and, Option.some.injEq, I, Bo, addI, subI, oExtract, Bool.not_eq_true', fieldAddrA, oFieldAddr, oLoad, oStore, isAggD, aggH, oneH, skipH, Nat.add_eq_left, Nat.left_eq_add, Nat.succ_ne_self, fieldA, partA, cellsOf, List.length_cons, List.length_nil, Nat.reduceAdd, Nat.zero_add, Nat.add_zero, Nat.mul_one, Nat.reduceMul, nbeq_self, onesA_cons', onesA_nil, oneA, Value.oneCell', Nat.reduceLT, ty3, ti3, ty22, ti22, ty25, ti25, ty26, ti26, ty39, ti39, a0, a1, a2, hl, q11, q24, w1, z1, Int.reduceBEq, Int.reduceBNe, eqA, eqD, eqOp, nilCheckA, hz, e1, e2, l0, l1, l2, hsa, hcp, w2, hs4, ml1, av, oSlice]; rfl) ?_ ?_ <;> intro hb <;> first | (exfalso; exact Bool.noConfusion hb) | skip)
    | refine wc_block ?_
    | refine wc_skip ?_
    | refine wc_scope (by decide) ?_
    | refine wc_label ?_
    | refine wc_exit ?_
    | refine wc_ret ?_
    | refine wv_ret (by simp only [resA, resOne]; simp only [oUn_not, beq_self_eq_true, eq_self, pv_mul, List.toList_toArray, opsA_cons, opsA_nil, wantedA, guardA, yieldA, stepA_t, stepA_f, callA, calleeA, targetA, runOp_c, runOp_n, opA, ev, evs, evo, consO, consOO, withH, pickA, afterA_s, putA, T.get_put, Nat.reduceEqDiff, reduceIte, List.getElem?_toArray, List.getElem?_cons_zero, List.getElem?_cons_succ, oBuiltin, oBin, binA, binG, binL, aggO, litA, intA, ltF_eq, eqF_eq, oIndexAddr, cond_true, cond_false, Bool.not_true, Bool.not_false, decide_true, decide_false, blt_eq, tt_beq, tf_beq, ft_beq, ff_beq, Bool.and_true, Bool.true_and, Option.some.injEq, I, Bo, addI, subI, oExtract, Bool.not_eq_true', fieldAddrA, oFieldAddr, oLoad, oStore, isAggD, aggH, oneH, skipH, Nat.add_eq_left, Nat.left_eq_add, Nat.succ_ne_self, fieldA, partA, cellsOf, List.length_cons, List.length_nil, Nat.reduceAdd, Nat.zero_add, Nat.add_zero, Nat.mul_one, Nat.reduceMul, nbeq_self, onesA_cons', onesA_nil, oneA, Value.oneCell', Nat.reduceLT, ty3, ti3, ty22, ti22, ty25, ti25, ty26, ti26, ty39, ti39, a0, a1, a2, hl, q11, q24, w1, z1, Int.reduceBEq, Int.reduceBNe, eqA, eqD, eqOp, nilCheckA, hz, e1, e2, l0, l1, l2, hsa, hcp, w2, hs4, ml1, av, oSlice]; rfl) ?_)
  all_goals exact ⟨rfl, nm1, _, _, _, B4, hcon, hn1, fr⟩
theorem c9 (d : Nat) (h : Hp) (p nm : Nat) (M : List Int) (f t : Nat) (b : Buf h p nm M f t) (at_ : Nat) (v : AV) (xs : List Int) (hv : IsL h v (xs.map I)) (hvn : ∀ n, nmO v = some n → n ≠ p ∧ n ≠ nm) (ha : at_ ≤ (con M f t).length) (hs : (con M f t).length + xs.length ≤ 4096) : Wv (runA ctx 5000 (d + 3) 9 [.ptr p 0, I (Int.ofNat at_), v] h) (fun r h' => r = I 0 ∧ ∃ nm' M' f' t', Buf h' p nm' M' f' t' ∧ con M' f' t' = (con M f t).take at_ ++ xs ++ (con M f t).drop at_ ∧ (nm' = nm ∨ h.c ≤ nm') ∧ Fr (fun n => n = p ∨ n = nm) h h') := by
  by_cases h0 : xs = []
  · exact c9z d h p nm M f t b at_ v xs hv hvn ha hs h0
  · exact c9s d h p nm M f t b at_ v xs hv hvn ha hs h0
set_option maxHeartbeats 4000000 in
theorem c9b (d : Nat) (h : Hp) (p nm : Nat) (M : List Int) (f t : Nat) (b : Buf h p nm M f t) (a : Int) (v : AV) (ha : ¬ (0 ≤ a ∧ a ≤ Int.ofNat (con M f t).length)) : runA ctx 5000 (d + 3) 9 [.ptr p 0, I a, v] h = some (I 4, h) := by
  have q24 : runA ctx 5000 (d + 2) 24 [.ptr p 0, I a, I 0] h = some (I 4, h) := c24b d h p nm M f t a 0 b (by omega)
  refine wv_eq ?_
  refine wv_run fn9 rfl ?_
  have a0 : (enterEnv [.ptr p 0, I a, v] Try.f9.ntmps).get 0 = some (.ptr p 0) := enter_get1 _ _ _
  have a1 : (enterEnv [.ptr p 0, I a, v] Try.f9.ntmps).get 1 = some (I a) := enter_get2 _ _ _ _
  have a2 : (enterEnv [.ptr p 0, I a, v] Try.f9.ntmps).get 2 = some (v) := enter_get3 _ _ _ _ _
  generalize enterEnv [.ptr p 0, I a, v] Try.f9.ntmps = e at a0 a1 a2 ⊢
  unfold Try.f9
  dsimp only
  repeat' (first
    | refine wc_seq ?_
    | (refine wc_region rfl ?_; simp only [oUn_not, beq_self_eq_true, eq_self, pv_mul, List.toList_toArray, opsA_cons, opsA_nil, wantedA, guardA, yieldA, stepA_t, stepA_f, callA, calleeA, targetA, runOp_c, runOp_n, opA, ev, evs, evo, consO, consOO, withH, pickA, afterA_s, putA, T.get_put, Nat.reduceEqDiff, reduceIte, List.getElem?_toArray, List.getElem?_cons_zero, List.getElem?_cons_succ, oBuiltin, oBin, binA, binG, binL, aggO, litA, intA, ltF_eq, eqF_eq, oIndexAddr, cond_true, cond_false, Bool.not_true, Bool.not_false, decide_true, decide_false, blt_eq, tt_beq, tf_beq, ft_beq, ff_beq, Bool.and_true, Bool.true_and, Option.some.injEq, I, Bo, addI, subI, oExtract, Bool.not_eq_true', fieldAddrA, oFieldAddr, oLoad, oStore, isAggD, aggH, oneH, skipH, Nat.add_eq_left, Nat.left_eq_add, Nat.succ_ne_self, fieldA, partA, cellsOf, List.length_cons, List.length_nil, Nat.reduceAdd, Nat.zero_add, Nat.add_zero, Nat.mul_one, Nat.reduceMul, nbeq_self, onesA_cons', onesA_nil, oneA, Value.oneCell', Nat.reduceLT, ty3, ti3, ty22, ti22, ty25, ti25, ty26, ti26, ty39, ti39, a0, a1, a2, q24, Int.reduceBEq, Int.reduceBNe, eqA, eqD, eqOp, nilCheckA]; refine ⟨_, _, rfl, ?_⟩)
    | (refine wc_cond (by simp only [oUn_not, beq_self_eq_true, eq_self, pv_mul, List.toList_toArray, opsA_cons, opsA_nil, wantedA, guardA, yieldA, stepA_t, stepA_f, callA, calleeA, targetA, runOp_c, runOp_n, opA, ev, evs, evo, consO, consOO, withH, pickA, afterA_s, putA, T.get_put, Nat.reduceEqDiff, reduceIte, List.getElem?_toArray, List.getElem?_cons_zero, List.getElem?_cons_succ, oBuiltin, oBin, binA, binG, binL, aggO, litA, intA, ltF_eq, eqF_eq, oIndexAddr, cond_true, cond_false, Bool.not_true, Bool.not_false, decide_true, decide_false, blt_eq, tt_beq, tf_beq, ft_beq, ff_beq, Bool.and_true, Bool.true_and, Option.some.injEq, I, Bo, addI, subI, oExtract, Bool.not_eq_true', fieldAddrA, oFieldAddr, oLoad, oStore, isAggD, aggH, oneH, skipH, Nat.add_eq_left, Nat.left_eq_add, Nat.succ_ne_self, fieldA, partA, cellsOf, List.length_cons, List.length_nil, Nat.reduceAdd, Nat.zero_add, Nat.add_zero, Nat.mul_one, Nat.reduceMul, nbeq_self, onesA_cons', onesA_nil, oneA, Value.oneCell', Nat.reduceLT, ty3, ti3, ty22, ti22, ty25, ti25, ty26, ti26, ty39, ti39, a0, a1, a2, q24, Int.reduceBEq, Int.reduceBNe, eqA, eqD, eqOp, nilCheckA]; rfl) ?_ ?_ <;> intro hb <;> first | (exfalso; exact Bool.noConfusion hb) | skip)
    | refine wc_block ?_
    | refine wc_skip ?_
    | refine wc_scope (by decide) ?_
    | refine wc_label ?_
    | refine wc_exit ?_
    | refine wc_ret ?_
    | refine wv_ret (by simp only [resA, resOne]; simp only [oUn_not, beq_self_eq_true, eq_self, pv_mul, List.toList_toArray, opsA_cons, opsA_nil, wantedA, guardA, yieldA, stepA_t, stepA_f, callA, calleeA, targetA, runOp_c, runOp_n, opA, ev, evs, evo, consO, consOO, withH, pickA, afterA_s, putA, T.get_put, Nat.reduceEqDiff, reduceIte, List.getElem?_toArray, List.getElem?_cons_zero, List.getElem?_cons_succ, oBuiltin, oBin, binA, binG, binL, aggO, litA, intA, ltF_eq, eqF_eq, oIndexAddr, cond_true, cond_false, Bool.not_true, Bool.not_false, decide_true, decide_false, blt_eq, tt_beq, tf_beq, ft_beq, ff_beq, Bool.and_true, Bool.true_and, Option.some.injEq, I, Bo, addI, subI, oExtract, Bool.not_eq_true', fieldAddrA, oFieldAddr, oLoad, oStore, isAggD, aggH, oneH, skipH, Nat.add_eq_left, Nat.left_eq_add, Nat.succ_ne_self, fieldA, partA, cellsOf, List.length_cons, List.length_nil, Nat.reduceAdd, Nat.zero_add, Nat.add_zero, Nat.mul_one, Nat.reduceMul, nbeq_self, onesA_cons', onesA_nil, oneA, Value.oneCell', Nat.reduceLT, ty3, ti3, ty22, ti22, ty25, ti25, ty26, ti26, ty39, ti39, a0, a1, a2, q24, Int.reduceBEq, Int.reduceBNe, eqA, eqD, eqOp, nilCheckA]; rfl) ?_)
  all_goals exact ⟨rfl, rfl⟩
set_option maxHeartbeats 4000000 in
theorem c9c (d : Nat) (h : Hp) (p nm : Nat) (M : List Int) (f t : Nat) (b : Buf h p nm M f t) (at_ : Nat) (v : AV) (xs : List Int) (hv : IsL h v (xs.map I)) (ha : at_ ≤ (con M f t).length) (hs0 : (con M f t).length ≤ 4096) (hs : 4096 < (con M f t).length + xs.length) : runA ctx 5000 (d + 3) 9 [.ptr p 0, I (Int.ofNat at_), v] h = some (I 3, h) := by
  have q1 := b.le1
  have q2 := b.le2
  have q3 := b.sm
  have q4 := b.len
  have hl := lenL hv
  have q11 : runA ctx 5000 (d + 2) 11 [.ptr p 0] h = some (I (Int.ofNat (con M f t).length), h) := c11 (d + 1) h p nm M f t b
  have q24 : runA ctx 5000 (d + 2) 24 [.ptr p 0, I (Int.ofNat at_), I 0] h = some (I 0, h) := c24 d h p nm M f t (Int.ofNat at_) 0 b (by simp only [Int.ofNat_eq_natCast]; omega)
  have w1 : IntKind.wrap .i64 (4096 - Int.ofNat (con M f t).length) = 4096 - Int.ofNat (con M f t).length := by rw [IntKind.wrap_i64]; simp only [Int.ofNat_eq_natCast]; omega
  have z1 : decide (4096 - Int.ofNat (con M f t).length < Int.ofNat xs.length) = true := by simp only [Int.ofNat_eq_natCast, decide_eq_true_eq]; omega
  refine wv_eq ?_
  refine wv_run fn9 rfl ?_
  have a0 : (enterEnv [.ptr p 0, I (Int.ofNat at_), v] Try.f9.ntmps).get 0 = some (.ptr p 0) := enter_get1 _ _ _
  have a1 : (enterEnv [.ptr p 0, I (Int.ofNat at_), v] Try.f9.ntmps).get 1 = some (I (Int.ofNat at_)) := enter_get2 _ _ _ _
  have a2 : (enterEnv [.ptr p 0, I (Int.ofNat at_), v] Try.f9.ntmps).get 2 = some (v) := enter_get3 _ _ _ _ _
  generalize enterEnv [.ptr p 0, I (Int.ofNat at_), v] Try.f9.ntmps = e at a0 a1 a2 ⊢
  unfold Try.f9
  dsimp only
  repeat' (first
    | refine wc_seq ?_
    | (refine wc_region rfl ?_; simp only [oUn_not, beq_self_eq_true, eq_self, pv_mul, List.toList_toArray, opsA_cons, opsA_nil, wantedA, guardA, yieldA, stepA_t, stepA_f, callA, calleeA, targetA, runOp_c, runOp_n, opA, ev, evs, evo, consO, consOO, withH, pickA, afterA_s, putA, T.get_put, Nat.reduceEqDiff, reduceIte, List.getElem?_toArray, List.getElem?_cons_zero, List.getElem?_cons_succ, oBuiltin, oBin, binA, binG, binL, aggO, litA, intA, ltF_eq, eqF_eq, oIndexAddr, cond_true, cond_false, Bool.not_true, Bool.not_false, decide_true, decide_false, blt_eq, tt_beq, tf_beq, ft_beq, ff_beq, Bool.and_true, Bool.true_and, Option.some.injEq, I, Bo, addI, subI, oExtract, Bool.not_eq_true', fieldAddrA, oFieldAddr, oLoad, oStore, isAggD, aggH, oneH, skipH, Nat.add_eq_left, Nat.left_eq_add, Nat.succ_ne_self, fieldA, partA, cellsOf, List.length_cons, List.length_nil, Nat.reduceAdd, Nat.zero_add, Nat.add_zero, Nat.mul_one, Nat.reduceMul, nbeq_self, onesA_cons', onesA_nil, oneA, Value.oneCell', Nat.reduceLT, ty3, ti3, ty22, ti22, ty25, ti25, ty26, ti26, ty39, ti39, a0, a1, a2, hl, q11, q24, w1, z1, Int.reduceBEq, Int.reduceBNe, eqA, eqD, eqOp, nilCheckA]; refine ⟨_, _, rfl, ?_⟩)
    | (refine wc_cond (by simp only [oUn_not, beq_self_eq_true, eq_self, pv_mul, List.toList_toArray, opsA_cons, opsA_nil, wantedA, guardA, yieldA, stepA_t, stepA_f, callA, calleeA, targetA, runOp_c, runOp_n, opA, ev, evs, evo, consO, consOO, withH, pickA, afterA_s, putA, T.get_put, Nat.reduceEqDiff, reduceIte, List.getElem?_toArray, List.getElem?_cons_zero, List.getElem?_cons_succ, oBuiltin, oBin, binA, binG, binL, aggO, litA, intA, ltF_eq, eqF_eq, oIndexAddr, cond_true, cond_false, Bool.not_true, Bool.not_false, decide_true, decide_false, blt_eq, tt_beq, tf_beq, ft_beq, ff_beq, Bool.and_true, Bool.true_and, Option.some.injEq, I, Bo, addI, subI, oExtract, Bool.not_eq_true', fieldAddrA, oFieldAddr, oLoad, oStore, isAggD, aggH, oneH, skipH, Nat.add_eq_left, Nat.left_eq_add, Nat.succ_ne_self, fieldA, partA, cellsOf, List.length_cons, List.length_nil, Nat.reduceAdd, Nat.zero_add, Nat.add_zero, Nat.mul_one, Nat.reduceMul, nbeq_self, onesA_cons', onesA_nil, oneA, Value.oneCell', Nat.reduceLT, ty3, ti3, ty22, ti22, ty25, ti25, ty26, ti26, ty39, ti39, a0, a1, a2, hl, q11, q24, w1, z1, Int.reduceBEq, Int.reduceBNe, eqA, eqD, eqOp, nilCheckA]; rfl) ?_ ?_ <;> intro hb <;> first | (exfalso; exact Bool.noConfusion hb) | skip)
    | refine wc_block ?_
    | refine wc_skip ?_
    | refine wc_scope (by decide) ?_
    | refine wc_label ?_
    | refine wc_exit ?_
    | refine wc_ret ?_
    | refine wv_ret (by simp only [resA, resOne]; simp only [oUn_not, beq_self_eq_true, eq_self, pv_mul, List.toList_toArray, opsA_cons, opsA_nil, wantedA, guardA, yieldA, stepA_t, stepA_f, callA, calleeA, targetA, runOp_c, runOp_n, opA, ev, evs, evo, consO, consOO, withH, pickA, afterA_s, putA, T.get_put, Nat.reduceEqDiff, reduceIte, List.getElem?_toArray, List.getElem?_cons_zero, List.getElem?_cons_succ, oBuiltin, oBin, binA, binG, binL, aggO, litA, intA, ltF_eq, eqF_eq, oIndexAddr, cond_true, cond_false, Bool.not_true, Bool.not_false, decide_true, decide_false, blt_eq, tt_beq, tf_beq, ft_beq, ff_beq, Bool.and_true, Bool.true_and, Option.some.injEq, I, Bo, addI, subI, oExtract, Bool.not_eq_true', fieldAddrA, oFieldAddr, oLoad, oStore, isAggD, aggH, oneH, skipH, Nat.add_eq_left, Nat.left_eq_add, Nat.succ_ne_self, fieldA, partA, cellsOf, List.length_cons, List.length_nil, Nat.reduceAdd, Nat.zero_add, Nat.add_zero, Nat.mul_one, Nat.reduceMul, nbeq_self, onesA_cons', onesA_nil, oneA, Value.oneCell', Nat.reduceLT, ty3, ti3, ty22, ti22, ty25, ti25, ty26, ti26, ty39, ti39, a0, a1, a2, hl, q11, q24, w1, z1, Int.reduceBEq, Int.reduceBNe, eqA, eqD, eqOp, nilCheckA]; rfl) ?_)
  all_goals exact ⟨rfl, rfl⟩
set_option maxHeartbeats 4000000 in
theorem c10z (d : Nat) (h : Hp) (p nm : Nat) (M : List Int) (f t : Nat) (b : Buf h p nm M f t) (at_ n : Nat) (ha : at_ + n ≤ (con M f t).length) (h0 : n = 0) : Wv (runA ctx 5000 (d + 3) 10 [.ptr p 0, I (Int.ofNat at_), I (Int.ofNat n)] h) (fun r h' => r = I 0 ∧ ∃ M' f' t', Buf h' p nm M' f' t' ∧ con M' f' t' = (con M f t).take at_ ++ (con M f t).drop (at_ + n) ∧ Fr (fun n => n = p ∨ n = nm) h h') := by
  have q24 : runA ctx 5000 (d + 2) 24 [.ptr p 0, I (Int.ofNat at_), I (Int.ofNat n)] h = some (I 0, h) := c24 d h p nm M f t (Int.ofNat at_) (Int.ofNat n) b (by simp only [Int.ofNat_eq_natCast]; omega)
  have z1 : decide (0 < Int.ofNat n) = false := by first | (simp; done) | (simp; omega) | (simp only [Int.ofNat_eq_natCast, decide_eq_true_eq, decide_eq_false_iff_not]; omega)
  refine wv_run fn10 rfl ?_
  have a0 : (enterEnv [.ptr p 0, I (Int.ofNat at_), I (Int.ofNat n)] Try.f10.ntmps).get 0 = some (.ptr p 0) := enter_get1 _ _ _
  have a1 : (enterEnv [.ptr p 0, I (Int.ofNat at_), I (Int.ofNat n)] Try.f10.ntmps).get 1 = some (I (Int.ofNat at_)) := enter_get2 _ _ _ _
  have a2 : (enterEnv [.ptr p 0, I (Int.ofNat at_), I (Int.ofNat n)] Try.f10.ntmps).get 2 = some (I (Int.ofNat n)) := enter_get3 _ _ _ _ _
  generalize enterEnv [.ptr p 0, I (Int.ofNat at_), I (Int.ofNat n)] Try.f10.ntmps = e at a0 a1 a2 ⊢
  unfold Try.f10
  dsimp only
  repeat' (first
    | refine wc_seq ?_
    | (refine wc_region rfl ?_; simp only [oUn_not, beq_self_eq_true, eq_self, pv_mul, List.toList_toArray, opsA_cons, opsA_nil, wantedA, guardA, yieldA, stepA_t, stepA_f, callA, calleeA, targetA, runOp_c, runOp_n, opA, ev, evs, evo, consO, consOO, withH, pickA, afterA_s, putA, T.get_put, Nat.reduceEqDiff, reduceIte, List.getElem?_toArray, List.getElem?_cons_zero, List.getElem?_cons_succ, oBuiltin, oBin, binA, binG, binL, aggO, litA, intA, ltF_eq, eqF_eq, oIndexAddr, cond_true, cond_false, Bool.not_true, Bool.not_false, decide_true, decide_false, blt_eq, tt_beq, tf_beq, ft_beq, ff_beq, Bool.and_true, Bool.true_and, Option.some.injEq, I, Bo, addI, subI, oExtract, Bool.not_eq_true', fieldAddrA, oFieldAddr, oLoad, oStore, isAggD, aggH, oneH, skipH, Nat.add_eq_left, Nat.left_eq_add, Nat.succ_ne_self, fieldA, partA, cellsOf, List.length_cons, List.length_nil, Nat.reduceAdd, Nat.zero_add, Nat.add_zero, Nat.mul_one, Nat.reduceMul, nbeq_self, onesA_cons', onesA_nil, oneA, Value.oneCell', Nat.reduceLT, ty3, ti3, ty25, ti25, ty26, ti26, a0, a1, a2, q24, z1, Int.reduceBEq, Int.reduceBNe, eqA, eqD, eqOp, nilCheckA]; refine ⟨_, _, rfl, ?_⟩)
    | (refine wc_cond (by simp only [oUn_not, beq_self_eq_true, eq_self, pv_mul, List.toList_toArray, opsA_cons, opsA_nil, wantedA, guardA, yieldA, stepA_t, stepA_f, callA, calleeA, targetA, runOp_c, runOp_n, opA, ev, evs, evo, consO, consOO, withH, pickA, afterA_s, putA, T.get_put, Nat.reduceEqDiff, reduceIte, List.getElem?_toArray, List.getElem?_cons_zero, List.getElem?_cons_succ, oBuiltin, oBin, binA, binG, binL, aggO, litA, intA, ltF_eq, eqF_eq, oIndexAddr, cond_true, cond_false, Bool.not_true, Bool.not_false, decide_true, decide_false, blt_eq, tt_beq, tf_beq, ft_beq, ff_beq, Bool.and_true, Bool.true_and, Option.some.injEq, I, Bo, addI, subI, oExtract, Bool.not_eq_true', fieldAddrA, oFieldAddr, oLoad, oStore, isAggD, aggH, oneH, skipH, Nat.add_eq_left, Nat.left_eq_add, Nat.succ_ne_self, fieldA, partA, cellsOf, List.length_cons, List.length_nil, Nat.reduceAdd, Nat.zero_add, Nat.add_zero, Nat.mul_one, Nat.reduceMul, nbeq_self, onesA_cons', onesA_nil, oneA, Value.oneCell', Nat.reduceLT, ty3, ti3, ty25, ti25, ty26, ti26, a0, a1, a2, q24, z1, Int.reduceBEq, Int.reduceBNe, eqA, eqD, eqOp, nilCheckA]; rfl) ?_ ?_ <;> intro hb <;> first | (exfalso; exact Bool.noConfusion hb) | skip)
    | refine wc_block ?_
    | refine wc_skip ?_
    | refine wc_scope (by decide) ?_
    | refine wc_label ?_
    | refine wc_exit ?_
    | refine wc_ret ?_
    | refine wv_ret (by simp only [resA, resOne]; simp only [oUn_not, beq_self_eq_true, eq_self, pv_mul, List.toList_toArray, opsA_cons, opsA_nil, wantedA, guardA, yieldA, stepA_t, stepA_f, callA, calleeA, targetA, runOp_c, runOp_n, opA, ev, evs, evo, consO, consOO, withH, pickA, afterA_s, putA, T.get_put, Nat.reduceEqDiff, reduceIte, List.getElem?_toArray, List.getElem?_cons_zero, List.getElem?_cons_succ, oBuiltin, oBin, binA, binG, binL, aggO, litA, intA, ltF_eq, eqF_eq, oIndexAddr, cond_true, cond_false, Bool.not_true, Bool.not_false, decide_true, decide_false, blt_eq, tt_beq, tf_beq, ft_beq, ff_beq, Bool.and_true, Bool.true_and, Option.some.injEq, I, Bo, addI, subI, oExtract, Bool.not_eq_true', fieldAddrA, oFieldAddr, oLoad, oStore, isAggD, aggH, oneH, skipH, Nat.add_eq_left, Nat.left_eq_add, Nat.succ_ne_self, fieldA, partA, cellsOf, List.length_cons, List.length_nil, Nat.reduceAdd, Nat.zero_add, Nat.add_zero, Nat.mul_one, Nat.reduceMul, nbeq_self, onesA_cons', onesA_nil, oneA, Value.oneCell', Nat.reduceLT, ty3, ti3, ty25, ti25, ty26, ti26, a0, a1, a2, q24, z1, Int.reduceBEq, Int.reduceBNe, eqA, eqD, eqOp, nilCheckA]; rfl) ?_)
  all_goals exact ⟨rfl, M, f, t, b, by rw [h0, Nat.add_zero, List.take_append_drop], Fr.refl _ _⟩
set_option maxHeartbeats 4000000 in
theorem c10s (d : Nat) (h : Hp) (p nm : Nat) (M : List Int) (f t : Nat) (b : Buf h p nm M f t) (at_ n : Nat) (ha : at_ + n ≤ (con M f t).length) (h0 : 0 < n) : Wv (runA ctx 5000 (d + 3) 10 [.ptr p 0, I (Int.ofNat at_), I (Int.ofNat n)] h) (fun r h' => r = I 0 ∧ ∃ M' f' t', Buf h' p nm M' f' t' ∧ con M' f' t' = (con M f t).take at_ ++ (con M f t).drop (at_ + n) ∧ Fr (fun n => n = p ∨ n = nm) h h') := by
  have q24 : runA ctx 5000 (d + 2) 24 [.ptr p 0, I (Int.ofNat at_), I (Int.ofNat n)] h = some (I 0, h) := c24 d h p nm M f t (Int.ofNat at_) (Int.ofNat n) b (by simp only [Int.ofNat_eq_natCast]; omega)
  have z1 : decide (0 < Int.ofNat n) = true := by first | (simp; done) | (simp; omega) | (simp only [Int.ofNat_eq_natCast, decide_eq_true_eq, decide_eq_false_iff_not]; omega)
  obtain ⟨r1, h1, e1, M1, t1, B1, hl1, hc1, f1⟩ := c27 d h p nm M f t at_ b n ha
  refine wv_run fn10 rfl ?_
  have a0 : (enterEnv [.ptr p 0, I (Int.ofNat at_), I (Int.ofNat n)] Try.f10.ntmps).get 0 = some (.ptr p 0) := enter_get1 _ _ _
  have a1 : (enterEnv [.ptr p 0, I (Int.ofNat at_), I (Int.ofNat n)] Try.f10.ntmps).get 1 = some (I (Int.ofNat at_)) := enter_get2 _ _ _ _
  have a2 : (enterEnv [.ptr p 0, I (Int.ofNat at_), I (Int.ofNat n)] Try.f10.ntmps).get 2 = some (I (Int.ofNat n)) := enter_get3 _ _ _ _ _
  generalize enterEnv [.ptr p 0, I (Int.ofNat at_), I (Int.ofNat n)] Try.f10.ntmps = e at a0 a1 a2 ⊢
  unfold Try.f10
  dsimp only
  repeat' (first
    | refine wc_seq ?_
    | (refine wc_region rfl ?_; simp only [oUn_not, beq_self_eq_true, eq_self, pv_mul, List.toList_toArray, opsA_cons, opsA_nil, wantedA, guardA, yieldA, stepA_t, stepA_f, callA, calleeA, targetA, runOp_c, runOp_n, opA, ev, evs, evo, consO, consOO, withH, pickA, afterA_s, putA, T.get_put, Nat.reduceEqDiff, reduceIte, List.getElem?_toArray, List.getElem?_cons_zero, List.getElem?_cons_succ, oBuiltin, oBin, binA, binG, binL, aggO, litA, intA, ltF_eq, eqF_eq, oIndexAddr, cond_true, cond_false, Bool.not_true, Bool.not_false, decide_true, decide_false, blt_eq, tt_beq, tf_beq, ft_beq, ff_beq, Bool.and_true, Bool.true_and, Option.some.injEq, I, Bo, addI, subI, oExtract, Bool.not_eq_true', fieldAddrA, oFieldAddr, oLoad, oStore, isAggD, aggH, oneH, skipH, Nat.add_eq_left, Nat.left_eq_add, Nat.succ_ne_self, fieldA, partA, cellsOf, List.length_cons, List.length_nil, Nat.reduceAdd, Nat.zero_add, Nat.add_zero, Nat.mul_one, Nat.reduceMul, nbeq_self, onesA_cons', onesA_nil, oneA, Value.oneCell', Nat.reduceLT, ty3, ti3, ty25, ti25, ty26, ti26, a0, a1, a2, q24, z1, e1, Int.reduceBEq, Int.reduceBNe, eqA, eqD, eqOp, nilCheckA]; refine ⟨_, _, rfl, ?_⟩)
    | (refine wc_cond (by simp only [oUn_not, beq_self_eq_true, eq_self, pv_mul, List.toList_toArray, opsA_cons, opsA_nil, wantedA, guardA, yieldA, stepA_t, stepA_f, callA, calleeA, targetA, runOp_c, runOp_n, opA, ev, evs, evo, consO, consOO, withH, pickA, afterA_s, putA, T.get_put, Nat.reduceEqDiff, reduceIte, List.getElem?_toArray, List.getElem?_cons_zero, List.getElem?_cons_succ, oBuiltin, oBin, binA, binG, binL, aggO, litA, intA, ltF_eq, eqF_eq, oIndexAddr, cond_true, cond_false, Bool.not_true, Bool.not_false, decide_true, decide_false, blt_eq, tt_beq, tf_beq, ft_beq, ff_beq, Bool.and_true, Bool.true_and, Option.some.injEq, I, Bo, addI, subI, oExtract, Bool.not_eq_true', fieldAddrA, oFieldAddr, oLoad, oStore, isAggD, aggH, oneH, skipH, Nat.add_eq_left, Nat.left_eq_add, Nat.succ_ne_self, fieldA, partA, cellsOf, List.length_cons, List.length_nil, Nat.reduceAdd, Nat.zero_add, Nat.add_zero, Nat.mul_one, Nat.reduceMul, nbeq_self, onesA_cons', onesA_nil, oneA, Value.oneCell', Nat.reduceLT, ty3, ti3, ty25, ti25, ty26, ti26, a0, a1, a2, q24, z1, e1, Int.reduceBEq, Int.reduceBNe, eqA, eqD, eqOp, nilCheckA]; rfl) ?_ ?_ <;> intro hb <;> first | (exfalso; exact Bool.noConfusion hb) | skip)
    | refine wc_block ?_
    | refine wc_skip ?_
    | refine wc_scope (by decide) ?_
    | refine wc_label ?_
    | refine wc_exit ?_
    | refine wc_ret ?_
    | refine wv_ret (by simp only [resA, resOne]; simp only [oUn_not, beq_self_eq_true, eq_self, pv_mul, List.toList_toArray, opsA_cons, opsA_nil, wantedA, guardA, yieldA, stepA_t, stepA_f, callA, calleeA, targetA, runOp_c, runOp_n, opA, ev, evs, evo, consO, consOO, withH, pickA, afterA_s, putA, T.get_put, Nat.reduceEqDiff, reduceIte, List.getElem?_toArray, List.getElem?_cons_zero, List.getElem?_cons_succ, oBuiltin, oBin, binA, binG, binL, aggO, litA, intA, ltF_eq, eqF_eq, oIndexAddr, cond_true, cond_false, Bool.not_true, Bool.not_false, decide_true, decide_false, blt_eq, tt_beq, tf_beq, ft_beq, ff_beq, Bool.and_true, Bool.true_and, Option.some.injEq, I, Bo, addI, subI, oExtract, Bool.not_eq_true', fieldAddrA, oFieldAddr, oLoad, oStore, isAggD, aggH, oneH, skipH, Nat.add_eq_left, Nat.left_eq_add, Nat.succ_ne_self, fieldA, partA, cellsOf, List.length_cons, List.length_nil, Nat.reduceAdd, Nat.zero_add, Nat.add_zero, Nat.mul_one, Nat.reduceMul, nbeq_self, onesA_cons', onesA_nil, oneA, Value.oneCell', Nat.reduceLT, ty3, ti3, ty25, ti25, ty26, ti26, a0, a1, a2, q24, z1, e1, Int.reduceBEq, Int.reduceBNe, eqA, eqD, eqOp, nilCheckA]; rfl) ?_)
  all_goals exact ⟨rfl, M1, _, t1, B1, hc1, f1⟩
theorem c10 (d : Nat) (h : Hp) (p nm : Nat) (M : List Int) (f t : Nat) (b : Buf h p nm M f t) (at_ n : Nat) (ha : at_ + n ≤ (con M f t).length) : Wv (runA ctx 5000 (d + 3) 10 [.ptr p 0, I (Int.ofNat at_), I (Int.ofNat n)] h) (fun r h' => r = I 0 ∧ ∃ M' f' t', Buf h' p nm M' f' t' ∧ con M' f' t' = (con M f t).take at_ ++ (con M f t).drop (at_ + n) ∧ Fr (fun n => n = p ∨ n = nm) h h') := by
  by_cases h0 : n = 0
  · exact c10z d h p nm M f t b at_ n ha h0
  · exact c10s d h p nm M f t b at_ n ha (by omega)
set_option maxHeartbeats 4000000 in
theorem c10b (d : Nat) (h : Hp) (p nm : Nat) (M : List Int) (f t : Nat) (b : Buf h p nm M f t) (a k : Int) (ha : ¬ (0 ≤ a ∧ 0 ≤ k ∧ a ≤ Int.ofNat (con M f t).length ∧ k ≤ Int.ofNat (con M f t).length - a)) : runA ctx 5000 (d + 3) 10 [.ptr p 0, I a, I k] h = some (I 4, h) := by
  have q24 : runA ctx 5000 (d + 2) 24 [.ptr p 0, I a, I k] h = some (I 4, h) := c24b d h p nm M f t a k b ha
  refine wv_eq ?_
  refine wv_run fn10 rfl ?_
  have a0 : (enterEnv [.ptr p 0, I a, I k] Try.f10.ntmps).get 0 = some (.ptr p 0) := enter_get1 _ _ _
  have a1 : (enterEnv [.ptr p 0, I a, I k] Try.f10.ntmps).get 1 = some (I a) := enter_get2 _ _ _ _
  have a2 : (enterEnv [.ptr p 0, I a, I k] Try.f10.ntmps).get 2 = some (I k) := enter_get3 _ _ _ _ _
  generalize enterEnv [.ptr p 0, I a, I k] Try.f10.ntmps = e at a0 a1 a2 ⊢
  unfold Try.f10
  dsimp only
  repeat' (first
    | refine wc_seq ?_
    | (refine wc_region rfl ?_; simp only [oUn_not, beq_self_eq_true, eq_self, pv_mul, List.toList_toArray, opsA_cons, opsA_nil, wantedA, guardA, yieldA, stepA_t, stepA_f, callA, calleeA, targetA, runOp_c, runOp_n, opA, ev, evs, evo, consO, consOO, withH, pickA, afterA_s, putA, T.get_put, Nat.reduceEqDiff, reduceIte, List.getElem?_toArray, List.getElem?_cons_zero, List.getElem?_cons_succ, oBuiltin, oBin, binA, binG, binL, aggO, litA, intA, ltF_eq, eqF_eq, oIndexAddr, cond_true, cond_false, Bool.not_true, Bool.not_false, decide_true, decide_false, blt_eq, tt_beq, tf_beq, ft_beq, ff_beq, Bool.and_true, Bool.true_and, Option.some.injEq, I, Bo, addI, subI, oExtract, Bool.not_eq_true', fieldAddrA, oFieldAddr, oLoad, oStore, isAggD, aggH, oneH, skipH, Nat.add_eq_left, Nat.left_eq_add, Nat.succ_ne_self, fieldA, partA, cellsOf, List.length_cons, List.length_nil, Nat.reduceAdd, Nat.zero_add, Nat.add_zero, Nat.mul_one, Nat.reduceMul, nbeq_self, onesA_cons', onesA_nil, oneA, Value.oneCell', Nat.reduceLT, ty3, ti3, ty25, ti25, ty26, ti26, a0, a1, a2, q24, Int.reduceBEq, Int.reduceBNe, eqA, eqD, eqOp, nilCheckA]; refine ⟨_, _, rfl, ?_⟩)
    | (refine wc_cond (by simp only [oUn_not, beq_self_eq_true, eq_self, pv_mul, List.toList_toArray, opsA_cons, opsA_nil, wantedA, guardA, yieldA, stepA_t, stepA_f, callA, calleeA, targetA, runOp_c, runOp_n, opA, ev, evs, evo, consO, consOO, withH, pickA, afterA_s, putA, T.get_put, Nat.reduceEqDiff, reduceIte, List.getElem?_toArray, List.getElem?_cons_zero, List.getElem?_cons_succ, oBuiltin, oBin, binA, binG, binL, aggO, litA, intA, ltF_eq, eqF_eq, oIndexAddr, cond_true, cond_false, Bool.not_true, Bool.not_false, decide_true, decide_false, blt_eq, tt_beq, tf_beq, ft_beq, ff_beq, Bool.and_true, Bool.true_and, Option.some.injEq, I, Bo, addI, subI, oExtract, Bool.not_eq_true', fieldAddrA, oFieldAddr, oLoad, oStore, isAggD, aggH, oneH, skipH, Nat.add_eq_left, Nat.left_eq_add, Nat.succ_ne_self, fieldA, partA, cellsOf, List.length_cons, List.length_nil, Nat.reduceAdd, Nat.zero_add, Nat.add_zero, Nat.mul_one, Nat.reduceMul, nbeq_self, onesA_cons', onesA_nil, oneA, Value.oneCell', Nat.reduceLT, ty3, ti3, ty25, ti25, ty26, ti26, a0, a1, a2, q24, Int.reduceBEq, Int.reduceBNe, eqA, eqD, eqOp, nilCheckA]; rfl) ?_ ?_ <;> intro hb <;> first | (exfalso; exact Bool.noConfusion hb) | skip)
    | refine wc_block ?_
    | refine wc_skip ?_
    | refine wc_scope (by decide) ?_
    | refine wc_label ?_
    | refine wc_exit ?_
    | refine wc_ret ?_
    | refine wv_ret (by simp only [resA, resOne]; simp only [oUn_not, beq_self_eq_true, eq_self, pv_mul, List.toList_toArray, opsA_cons, opsA_nil, wantedA, guardA, yieldA, stepA_t, stepA_f, callA, calleeA, targetA, runOp_c, runOp_n, opA, ev, evs, evo, consO, consOO, withH, pickA, afterA_s, putA, T.get_put, Nat.reduceEqDiff, reduceIte, List.getElem?_toArray, List.getElem?_cons_zero, List.getElem?_cons_succ, oBuiltin, oBin, binA, binG, binL, aggO, litA, intA, ltF_eq, eqF_eq, oIndexAddr, cond_true, cond_false, Bool.not_true, Bool.not_false, decide_true, decide_false, blt_eq, tt_beq, tf_beq, ft_beq, ff_beq, Bool.and_true, Bool.true_and, Option.some.injEq, I, Bo, addI, subI, oExtract, Bool.not_eq_true', fieldAddrA, oFieldAddr, oLoad, oStore, isAggD, aggH, oneH, skipH, Nat.add_eq_left, Nat.left_eq_add, Nat.succ_ne_self, fieldA, partA, cellsOf, List.length_cons, List.length_nil, Nat.reduceAdd, Nat.zero_add, Nat.add_zero, Nat.mul_one, Nat.reduceMul, nbeq_self, onesA_cons', onesA_nil, oneA, Value.oneCell', Nat.reduceLT, ty3, ti3, ty25, ti25, ty26, ti26, a0, a1, a2, q24, Int.reduceBEq, Int.reduceBNe, eqA, eqD, eqOp, nilCheckA]; rfl) ?_)
  all_goals exact ⟨rfl, rfl⟩
end Go.Proofs.Ytjfmimlmnllnjaa
