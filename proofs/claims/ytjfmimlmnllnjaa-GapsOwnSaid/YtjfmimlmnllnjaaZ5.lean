import Derived.Test.YtjfmimlmnllnjaaZ4
import Derived.KernelRfl
namespace Go.Proofs.Ytjfmimlmnllnjaa
open Go Go.Proofs Go.RowKit
set_option linter.unusedSimpArgs false
set_option linter.unusedVariables false
open Go.Proofs.Abs
/-- a list of which n elements from a on were moved to o -/
def mvL (l : List Int) (a n o : Nat) : List Int := (l.take a ++ l.drop (a + n)).take o ++ (l.drop a).take n ++ (l.take a ++ l.drop (a + n)).drop o
theorem mvL_zero (l : List Int) (a o : Nat) : mvL l a 0 o = l := by
  unfold mvL
  rw [Nat.add_zero, List.take_append_drop, List.take_zero, List.append_nil, List.take_append_drop]
theorem mvL_len {l : List Int} {a n o : Nat} (ha : a + n ≤ l.length) (ho : o + n ≤ l.length) : (mvL l a n o).length = l.length := by
  unfold mvL
  simp only [List.length_append, List.length_take, List.length_drop]
  omega
theorem con_drop {M : List Int} {f t n : Nat} (h1 : f ≤ t) (h2 : t ≤ M.length) : ((con M f t).drop f).take n = (M.drop t).take n := by
  unfold con
  rw [List.drop_append_of_le_length (by rw [List.length_take]; omega), List.drop_of_length_le (by rw [List.length_take]; omega), List.nil_append]
set_option maxHeartbeats 4000000 in
theorem c12z (d : Nat) (h : Hp) (p nm : Nat) (M : List Int) (f t : Nat) (b : Buf h p nm M f t) (at_ n o : Nat) (ha : at_ + n ≤ (con M f t).length) (ho : o + n ≤ (con M f t).length) (h0 : n = 0) : Wv (runA ctx 5000 (d + 4) 12 [.ptr p 0, I (Int.ofNat at_), I (Int.ofNat n), I (Int.ofNat o)] h) (fun r h' => r = I 0 ∧ ∃ M' f' t', Buf h' p nm M' f' t' ∧ con M' f' t' = mvL (con M f t) at_ n o ∧ Fr (fun n => n = p ∨ n = nm) h h') := by
  have q1 := b.le1
  have q2 := b.le2
  have q3 := b.sm
  have q4 := b.len
  have q11 : runA ctx 5000 (d + 3) 11 [.ptr p 0] h = some (I (Int.ofNat (con M f t).length), h) := c11 (d + 2) h p nm M f t b
  have q24 : runA ctx 5000 (d + 3) 24 [.ptr p 0, I (Int.ofNat at_), I (Int.ofNat n)] h = some (I 0, h) := c24 (d + 1) h p nm M f t (Int.ofNat at_) (Int.ofNat n) b (by simp only [Int.ofNat_eq_natCast]; omega)
  have w1 : IntKind.wrap .i64 (Int.ofNat (con M f t).length - Int.ofNat n) = Int.ofNat (con M f t).length - Int.ofNat n := by rw [IntKind.wrap_i64]; simp only [Int.ofNat_eq_natCast]; omega
  have z1 : decide (Int.ofNat o < 0) = false := by first | (simp; done) | (simp; omega) | (simp only [Int.ofNat_eq_natCast, decide_eq_true_eq, decide_eq_false_iff_not]; omega)
  have z2 : decide (Int.ofNat (con M f t).length - Int.ofNat n < Int.ofNat o) = false := by simp only [Int.ofNat_eq_natCast, decide_eq_false_iff_not]; omega
  subst h0
  simp only [of0] at q24 w1 z2
  refine wv_run fn12 rfl ?_
  have a0 : (enterEnv [.ptr p 0, I (Int.ofNat at_), I (Int.ofNat 0), I (Int.ofNat o)] Try.f12.ntmps).get 0 = some (.ptr p 0) := enter_get1 _ _ _
  have a1 : (enterEnv [.ptr p 0, I (Int.ofNat at_), I (Int.ofNat 0), I (Int.ofNat o)] Try.f12.ntmps).get 1 = some (I (Int.ofNat at_)) := enter_get2 _ _ _ _
  have a2 : (enterEnv [.ptr p 0, I (Int.ofNat at_), I (Int.ofNat 0), I (Int.ofNat o)] Try.f12.ntmps).get 2 = some (I (Int.ofNat 0)) := enter_get3 _ _ _ _ _
  have a3 : (enterEnv [.ptr p 0, I (Int.ofNat at_), I (Int.ofNat 0), I (Int.ofNat o)] Try.f12.ntmps).get 3 = some (I (Int.ofNat o)) := enter_get4 _ _ _ _ _ _
  generalize enterEnv [.ptr p 0, I (Int.ofNat at_), I (Int.ofNat 0), I (Int.ofNat o)] Try.f12.ntmps = e at a0 a1 a2 a3 ⊢
  unfold Try.f12
  dsimp only
  repeat' (first
    | refine wc_seq ?_
    | (refine wc_region rfl ?_; simp only [oUn_not, beq_self_eq_true, eq_self, pv_mul, List.toList_toArray, opsA_cons, opsA_nil, wantedA, guardA, yieldA, stepA_t, stepA_f, callA, calleeA, targetA, runOp_c, runOp_n, opA, ev, evs, evo, consO, consOO, withH, pickA, afterA_s, putA, T.get_put, Nat.reduceEqDiff, reduceIte, List.getElem?_toArray, List.getElem?_cons_zero, List.getElem?_cons_succ, oBuiltin, oBin, binA, binG, binL, aggO, litA, intA, ltF_eq, eqF_eq, oIndexAddr, cond_true, cond_false, Bool.not_true, Bool.not_false, decide_true, decide_false, blt_eq, tt_beq, tf_beq, ft_beq, ff_beq, Bool.and_true, Bool.true_and, Option.some.injEq, I, Bo, addI, subI, oExtract, Bool.not_eq_true', fieldAddrA, oFieldAddr, oLoad, oStore, isAggD, aggH, oneH, skipH, Nat.add_eq_left, Nat.left_eq_add, Nat.succ_ne_self, fieldA, partA, cellsOf, List.length_cons, List.length_nil, Nat.reduceAdd, Nat.zero_add, Nat.add_zero, Nat.mul_one, Nat.reduceMul, nbeq_self, onesA_cons', onesA_nil, oneA, Value.oneCell', Nat.reduceLT, ty3, ti3, ty22, ti22, ty25, ti25, ty26, ti26, ty39, ti39, a0, a1, a2, a3, q11, q24, w1, z1, z2, uv, Int.reduceBEq, Int.reduceBNe, eqA, eqD, eqOp, nilCheckA, of0]; refine ⟨_, _, rfl, ?_⟩)
    | (refine wc_cond (by simp only [oUn_not, beq_self_eq_true, eq_self, pv_mul, List.toList_toArray, opsA_cons, opsA_nil, wantedA, guardA, yieldA, stepA_t, stepA_f, callA, calleeA, targetA, runOp_c, runOp_n, opA, ev, evs, evo, consO, consOO, withH, pickA, afterA_s, putA, T.get_put, Nat.reduceEqDiff, reduceIte, List.getElem?_toArray, List.getElem?_cons_zero, List.getElem?_cons_succ, oBuiltin, oBin, binA, binG, binL, aggO, litA, intA, ltF_eq, eqF_eq, oIndexAddr, cond_true, cond_false, Bool.not_true, Bool.not_false, decide_true, decide_false, blt_eq, tt_beq, tf_beq, ft_beq, ff_beq, Bool.and_true, Bool.true_and, Option.some.injEq, I, Bo, addI, subI, oExtract, Bool.not_eq_true', fieldAddrA, oFieldAddr, oLoad, oStore, isAggD, aggH, oneH, skipH, Nat.add_eq_left, Nat.left_eq_add, Nat.succ_ne_self, fieldA, partA, cellsOf, List.length_cons, List.length_nil, Nat.reduceAdd, Nat.zero_add, Nat.add_zero, Nat.mul_one, Nat.reduceMul, nbeq_self, onesA_cons', onesA_nil, oneA, Value.oneCell', Nat.reduceLT, ty3, ti3, ty22, ti22, ty25, ti25, ty26, ti26, ty39, ti39, a0, a1, a2, a3, q11, q24, w1, z1, z2, uv, Int.reduceBEq, Int.reduceBNe, eqA, eqD, eqOp, nilCheckA, of0]; rfl) ?_ ?_ <;> intro hb <;> first | (exfalso; exact Bool.noConfusion hb) | skip)
    | refine wc_block ?_
    | refine wc_skip ?_
    | refine wc_scope (by decide) ?_
    | refine wc_label ?_
    | refine wc_exit ?_
    | refine wc_ret ?_
    | refine wv_ret (by simp only [resA, resOne]; simp only [oUn_not, beq_self_eq_true, eq_self, pv_mul, List.toList_toArray, opsA_cons, opsA_nil, wantedA, guardA, yieldA, stepA_t, stepA_f, callA, calleeA, targetA, runOp_c, runOp_n, opA, ev, evs, evo, consO, consOO, withH, pickA, afterA_s, putA, T.get_put, Nat.reduceEqDiff, reduceIte, List.getElem?_toArray, List.getElem?_cons_zero, List.getElem?_cons_succ, oBuiltin, oBin, binA, binG, binL, aggO, litA, intA, ltF_eq, eqF_eq, oIndexAddr, cond_true, cond_false, Bool.not_true, Bool.not_false, decide_true, decide_false, blt_eq, tt_beq, tf_beq, ft_beq, ff_beq, Bool.and_true, Bool.true_and, Option.some.injEq, I, Bo, addI, subI, oExtract, Bool.not_eq_true', fieldAddrA, oFieldAddr, oLoad, oStore, isAggD, aggH, oneH, skipH, Nat.add_eq_left, Nat.left_eq_add, Nat.succ_ne_self, fieldA, partA, cellsOf, List.length_cons, List.length_nil, Nat.reduceAdd, Nat.zero_add, Nat.add_zero, Nat.mul_one, Nat.reduceMul, nbeq_self, onesA_cons', onesA_nil, oneA, Value.oneCell', Nat.reduceLT, ty3, ti3, ty22, ti22, ty25, ti25, ty26, ti26, ty39, ti39, a0, a1, a2, a3, q11, q24, w1, z1, z2, uv, Int.reduceBEq, Int.reduceBNe, eqA, eqD, eqOp, nilCheckA, of0]; rfl) ?_)
  all_goals exact ⟨rfl, M, f, t, b, (mvL_zero _ _ _).symm, Fr.refl _ _⟩
set_option maxHeartbeats 4000000 in
theorem c12s (d : Nat) (h : Hp) (p nm : Nat) (M : List Int) (f t : Nat) (b : Buf h p nm M f t) (at_ n o : Nat) (ha : at_ + n ≤ (con M f t).length) (ho : o + n ≤ (con M f t).length) (h0 : 0 < n) (hs : (con M f t).length ≤ 4096) : Wv (runA ctx 5000 (d + 4) 12 [.ptr p 0, I (Int.ofNat at_), I (Int.ofNat n), I (Int.ofNat o)] h) (fun r h' => r = I 0 ∧ ∃ M' f' t', Buf h' p nm M' f' t' ∧ con M' f' t' = mvL (con M f t) at_ n o ∧ Fr (fun n => n = p ∨ n = nm) h h') := by
  have q1 := b.le1
  have q2 := b.le2
  have q3 := b.sm
  have q4 := b.len
  have q11 : runA ctx 5000 (d + 3) 11 [.ptr p 0] h = some (I (Int.ofNat (con M f t).length), h) := c11 (d + 2) h p nm M f t b
  have q24 : runA ctx 5000 (d + 3) 24 [.ptr p 0, I (Int.ofNat at_), I (Int.ofNat n)] h = some (I 0, h) := c24 (d + 1) h p nm M f t (Int.ofNat at_) (Int.ofNat n) b (by simp only [Int.ofNat_eq_natCast]; omega)
  have w1 : IntKind.wrap .i64 (Int.ofNat (con M f t).length - Int.ofNat n) = Int.ofNat (con M f t).length - Int.ofNat n := by rw [IntKind.wrap_i64]; simp only [Int.ofNat_eq_natCast]; omega
  have z1 : decide (Int.ofNat o < 0) = false := by first | (simp; done) | (simp; omega) | (simp only [Int.ofNat_eq_natCast, decide_eq_true_eq, decide_eq_false_iff_not]; omega)
  have z2 : decide (Int.ofNat (con M f t).length - Int.ofNat n < Int.ofNat o) = false := by simp only [Int.ofNat_eq_natCast, decide_eq_false_iff_not]; omega
  have hz : (Int.ofNat n == 0) = false := by
    rw [beq_eq_false_iff_ne]
    simp only [Int.ofNat_eq_natCast]
    omega
  have hpc := b.lt
  have hnc := b.blk.lt
  obtain ⟨r1, h1, e1, M1, B1, hl1, hc1, f1⟩ := c26 (d + 2) h p nm M f t at_ b (by omega)
  have p1 := B1.le1
  have p2 := B1.le2
  have p4 := B1.len
  have kc1 := f1.c
  obtain ⟨h2, hmk, x2, k2, g2⟩ := mkB (h := h1) (n := n) (by omega)
  have B2 := B1.ext x2
  have ml0 := B2.c0.load
  have ml2 := B2.c2.load
  obtain ⟨sa, hsa, Sa⟩ := slF (nm := nm) (n := M1.length) (a := at_ + (t - f)) (by omega)
  have em : min (M1.length - (at_ + (t - f))) n = n := by rw [hc1] at p4; omega
  have hxs : ((con M f t).drop at_).take n = (M1.drop (at_ + (t - f))).take n := by rw [← hc1]; exact con_drop p1 p2
  have hxl : (((con M f t).drop at_).take n).length = n := by rw [List.length_take, List.length_drop]; omega
  obtain ⟨h3, hcp, o3, g3⟩ := copyB g2 (Sl.whole h1.c n n) (by rw [List.length_replicate]; omega) Sa.len (xs := ((con M f t).drop at_).take n) (by rw [em, hxs]; exact Sa.elems B2.blk (by omega) (by omega)) (by rw [em]; exact hxl)
  have e3 : patch (List.replicate n (0 : Int)) 0 (((con M f t).drop at_).take n) = ((con M f t).drop at_).take n := by
    have e30 : (List.replicate n (0 : Int)).drop (0 + (((con M f t).drop at_).take n).length) = [] := List.drop_of_length_le (by rw [List.length_replicate, hxl]; omega)
    rw [patch, List.take_zero, List.nil_append, e30, List.append_nil]
  rw [e3] at g3
  have B3 := B2.fr (o3.fr (P := fun k => k = h1.c) rfl) (by omega) (by omega)
  obtain ⟨r4, h4, e4, M4, t4, B4, hl4, hc4, f4⟩ := c27 (d + 1) h3 p nm M1 at_ (at_ + (t - f)) at_ B3 n (by rw [hc1]; exact ha)
  rw [hc1] at hc4 p4
  have p5 := B4.len
  have p6 := B4.le1
  have p7 := B4.le2
  have hrl : ((con M f t).take at_ ++ (con M f t).drop (at_ + n)).length = (con M f t).length - n := by rw [List.length_append, List.length_take, List.length_drop]; omega
  rw [hc4, hrl] at p5
  have hw : t4 - at_ = t - f + n := by omega
  obtain ⟨r5, h5, e5, M5, B5, hl5, hc5, f5⟩ := c26 (d + 2) h4 p nm M4 at_ t4 o B4 (by rw [hc4, hrl]; omega)
  rw [hc4] at hc5
  have k3 := o3.c
  have g5 : BI h5 h1.c (((con M f t).drop at_).take n) := (g3.fr f4 (fun e => by rcases e with e | e <;> omega)).fr f5 (fun e => by rcases e with e | e <;> omega)
  have nl0 := B5.c0.load
  have nl1 := B5.c1.load
  have nl2 := B5.c2.load
  have p8 := B5.le2
  obtain ⟨sb, hsb, Sb⟩ := slB (nm := nm) (n := M5.length) (a := o) (b := o + (t4 - at_)) (by omega) p8
  have em2 : min n (o + (t4 - at_) - o) = n := by omega
  obtain ⟨h6, hcp2, o6, g6⟩ := copyB B5.blk Sb (by omega) (show lenA (.slice h1.c 0 n false n 0) = some n from rfl) (xs := ((con M f t).drop at_).take n) (by rw [em2]; have := (Sl.whole h1.c n n).elems g5 (m := n) (by rw [hxl]; omega) (Nat.le_refl _); rwa [List.drop_zero, List.take_of_length_le (by rw [hxl]; omega)] at this) (by rw [em2]; exact hxl)
  rw [em2] at hcp2
  have e6 : (patch M5 o (((con M f t).drop at_).take n)).length = M5.length := patch_len (by rw [hxl]; omega)
  have B6 := B5.mem o6 g6 e6
  have nl1b := B6.c1.load
  have w2 : IntKind.wrap .i64 (Int.ofNat o + Int.ofNat n) = Int.ofNat (o + n) := by rw [IntKind.wrap_i64]; simp only [Int.ofNat_eq_natCast]; omega
  obtain ⟨h7, hs7, o7, B7⟩ := B6.put1 (f' := o + n) (by omega)
  have hcon := ins_eq (M := M5) (xs := ((con M f t).drop at_).take n) (f := o) (t := o + (t4 - at_)) (by rw [hxl]; omega) p8
  rw [hc5, hxl] at hcon
  have av := avB_int (Int.ofNat o)
  have y13 : Ext h1 h3 := Fr.from x2 (o3.fr (P := fun k => k = h1.c) rfl) (fun k e => by omega)
  have fr : Fr (fun n => n = p ∨ n = nm) h h7 := ((((f1.trans (y13.fr _)).trans f4).trans f5).trans (o6.fr (.inr rfl))).trans (o7.fr (.inl rfl))
  refine wv_run fn12 rfl ?_
  have a0 : (enterEnv [.ptr p 0, I (Int.ofNat at_), I (Int.ofNat n), I (Int.ofNat o)] Try.f12.ntmps).get 0 = some (.ptr p 0) := enter_get1 _ _ _
  have a1 : (enterEnv [.ptr p 0, I (Int.ofNat at_), I (Int.ofNat n), I (Int.ofNat o)] Try.f12.ntmps).get 1 = some (I (Int.ofNat at_)) := enter_get2 _ _ _ _
  have a2 : (enterEnv [.ptr p 0, I (Int.ofNat at_), I (Int.ofNat n), I (Int.ofNat o)] Try.f12.ntmps).get 2 = some (I (Int.ofNat n)) := enter_get3 _ _ _ _ _
  have a3 : (enterEnv [.ptr p 0, I (Int.ofNat at_), I (Int.ofNat n), I (Int.ofNat o)] Try.f12.ntmps).get 3 = some (I (Int.ofNat o)) := enter_get4 _ _ _ _ _ _
  generalize enterEnv [.ptr p 0, I (Int.ofNat at_), I (Int.ofNat n), I (Int.ofNat o)] Try.f12.ntmps = e at a0 a1 a2 a3 ⊢
  unfold Try.f12
  dsimp only
  repeat' (first
    | refine wc_seq ?_
    | (refine wc_region rfl ?_; simp only [oUn_not, beq_self_eq_true, eq_self, pv_mul, List.toList_toArray, opsA_cons, opsA_nil, wantedA, guardA, yieldA, stepA_t, stepA_f, callA, calleeA, targetA, runOp_c, runOp_n, opA, ev, evs, evo, consO, consOO, withH, pickA, afterA_s, putA, T.get_put, Nat.reduceEqDiff, reduceIte, List.getElem?_toArray, List.getElem?_cons_zero, List.getElem?_cons_succ, oBuiltin, oBin, binA, binG, binL, aggO, litA, intA, ltF_eq, eqF_eq, oIndexAddr, cond_true, cond_false, Bool.not_true, Bool.not_false, decide_true, decide_false, blt_eq, tt_beq, tf_beq, ft_beq, ff_beq, Bool.and_true, Bool.true_and, Option.some.injEq, I, Bo, addI, subI, oExtract, Bool.not_eq_true', fieldAddrA, oFieldAddr, oLoad, oStore, isAggD, aggH, oneH, skipH, Nat.add_eq_left, Nat.left_eq_add, Nat.succ_ne_self, fieldA, partA, cellsOf, List.length_cons, List.length_nil, Nat.reduceAdd, Nat.zero_add, Nat.add_zero, Nat.mul_one, Nat.reduceMul, nbeq_self, onesA_cons', onesA_nil, oneA, Value.oneCell', Nat.reduceLT, ty3, ti3, ty22, ti22, ty25, ti25, ty26, ti26, ty39, ti39, a0, a1, a2, a3, q11, q24, w1, z1, z2, uv, Int.reduceBEq, Int.reduceBNe, eqA, eqD, eqOp, nilCheckA, hz, e1, hmk, ml0, ml2, hsa, hcp, e4, e5, nl0, nl1, nl2, hsb, hcp2, w2, hs7, av, nl1b, oSlice, oMakeSlice]; refine ⟨_, _, rfl, ?_⟩)
    | (refine wc_cond (by simp only [oUn_not, beq_self_eq_true, eq_self, pv_mul, List.toList_toArray, opsA_cons, opsA_nil, wantedA, guardA, yieldA, stepA_t, stepA_f, callA, calleeA, targetA, runOp_c, runOp_n, opA, ev, evs, evo, consO, consOO, withH, pickA, afterA_s, putA, T.get_put, Nat.reduceEqDiff, reduceIte, List.getElem?_toArray, List.getElem?_cons_zero, List.getElem?_cons_succ, oBuiltin, oBin, binA, binG, binL, aggO, litA, intA, ltF_eq, eqF_eq, oIndexAddr, cond_true, cond_false, Bool.not_true, Bool.not_false, decide_true, decide_false, blt_eq, tt_beq, tf_beq, ft_beq, ff_beq, Bool.and_true, Bool.true_and, Option.some.injEq, I, Bo, addI, subI, oExtract, Bool.not_eq_true', fieldAddrA, oFieldAddr, oLoad, oStore, isAggD, aggH, oneH, skipH, Nat.add_eq_left, Nat.left_eq_add, Nat.succ_ne_self, fieldA, partA, cellsOf, List.length_cons, List.length_nil, Nat.reduceAdd, Nat.zero_add, Nat.add_zero, Nat.mul_one, Nat.reduceMul, nbeq_self, onesA_cons', onesA_nil, oneA, Value.oneCell', Nat.reduceLT, ty3, ti3, ty22, ti22, ty25, ti25, ty26, ti26, ty39, ti39, a0, a1, a2, a3, q11, q24, w1, z1, z2, uv, Int.reduceBEq, Int.reduceBNe, eqA, eqD, eqOp, nilCheckA, hz, e1, hmk, ml0, ml2, hsa, hcp, e4, e5, nl0, nl1, nl2, hsb, hcp2, w2, hs7, av, nl1b, oSlice, oMakeSlice]; rfl) ?_ ?_ <;> intro hb <;> first | (exfalso; exact Bool.noConfusion hb) | skip)
    | refine wc_block ?_
    | refine wc_skip ?_
    | refine wc_scope (by decide) ?_
    | refine wc_label ?_
    | refine wc_exit ?_
    | refine wc_ret ?_
    | refine wv_ret (by simp only [resA, resOne]; simp only [oUn_not, beq_self_eq_true, eq_self, pv_mul, List.toList_toArray, opsA_cons, opsA_nil, wantedA, guardA, yieldA, stepA_t, stepA_f, callA, calleeA, targetA, runOp_c, runOp_n, opA, ev, evs, evo, consO, consOO, withH, pickA, afterA_s, putA, T.get_put, Nat.reduceEqDiff, reduceIte, List.getElem?_toArray, List.getElem?_cons_zero, List.getElem?_cons_succ, oBuiltin, oBin, binA, binG, binL, aggO, litA, intA, ltF_eq, eqF_eq, oIndexAddr, cond_true, cond_false, Bool.not_true, Bool.not_false, decide_true, decide_false, blt_eq, tt_beq, tf_beq, ft_beq, ff_beq, Bool.and_true, Bool.true_and, Option.some.injEq, I, Bo, addI, subI, oExtract, Bool.not_eq_true', fieldAddrA, oFieldAddr, oLoad, oStore, isAggD, aggH, oneH, skipH, Nat.add_eq_left, Nat.left_eq_add, Nat.succ_ne_self, fieldA, partA, cellsOf, List.length_cons, List.length_nil, Nat.reduceAdd, Nat.zero_add, Nat.add_zero, Nat.mul_one, Nat.reduceMul, nbeq_self, onesA_cons', onesA_nil, oneA, Value.oneCell', Nat.reduceLT, ty3, ti3, ty22, ti22, ty25, ti25, ty26, ti26, ty39, ti39, a0, a1, a2, a3, q11, q24, w1, z1, z2, uv, Int.reduceBEq, Int.reduceBNe, eqA, eqD, eqOp, nilCheckA, hz, e1, hmk, ml0, ml2, hsa, hcp, e4, e5, nl0, nl1, nl2, hsb, hcp2, w2, hs7, av, nl1b, oSlice, oMakeSlice]; rfl) ?_)
  refine wc_dyn (p := (3, 19)) (ps := []) (by kernel_rfl) (by simp only [oUn_not, beq_self_eq_true, eq_self, pv_mul, List.toList_toArray, opsA_cons, opsA_nil, wantedA, guardA, yieldA, stepA_t, stepA_f, callA, calleeA, targetA, runOp_c, runOp_n, opA, ev, evs, evo, consO, consOO, withH, pickA, afterA_s, putA, T.get_put, Nat.reduceEqDiff, reduceIte, List.getElem?_toArray, List.getElem?_cons_zero, List.getElem?_cons_succ, oBuiltin, oBin, binA, binG, binL, aggO, litA, intA, ltF_eq, eqF_eq, oIndexAddr, cond_true, cond_false, Bool.not_true, Bool.not_false, decide_true, decide_false, blt_eq, tt_beq, tf_beq, ft_beq, ff_beq, Bool.and_true, Bool.true_and, Option.some.injEq, I, Bo, addI, subI, oExtract, Bool.not_eq_true', fieldAddrA, oFieldAddr, oLoad, oStore, isAggD, aggH, oneH, skipH, Nat.add_eq_left, Nat.left_eq_add, Nat.succ_ne_self, fieldA, partA, cellsOf, List.length_cons, List.length_nil, Nat.reduceAdd, Nat.zero_add, Nat.add_zero, Nat.mul_one, Nat.reduceMul, nbeq_self, onesA_cons', onesA_nil, oneA, Value.oneCell', Nat.reduceLT, ty3, ti3, ty22, ti22, ty25, ti25, ty26, ti26, ty39, ti39, a0, a1, a2, a3, q11, q24, w1, z1, z2, uv, Int.reduceBEq, Int.reduceBNe, eqA, eqD, eqOp, nilCheckA, hz, e1, hmk, ml0, ml2, hsa, hcp, e4, e5, nl0, nl1, nl2, hsb, hcp2, w2, hs7, av, nl1b, oSlice, oMakeSlice, trA_nil, trA_cons, nextT, preA]; rfl) (by simp only [oUn_not, beq_self_eq_true, eq_self, pv_mul, List.toList_toArray, opsA_cons, opsA_nil, wantedA, guardA, yieldA, stepA_t, stepA_f, callA, calleeA, targetA, runOp_c, runOp_n, opA, ev, evs, evo, consO, consOO, withH, pickA, afterA_s, putA, T.get_put, Nat.reduceEqDiff, reduceIte, List.getElem?_toArray, List.getElem?_cons_zero, List.getElem?_cons_succ, oBuiltin, oBin, binA, binG, binL, aggO, litA, intA, ltF_eq, eqF_eq, oIndexAddr, cond_true, cond_false, Bool.not_true, Bool.not_false, decide_true, decide_false, blt_eq, tt_beq, tf_beq, ft_beq, ff_beq, Bool.and_true, Bool.true_and, Option.some.injEq, I, Bo, addI, subI, oExtract, Bool.not_eq_true', fieldAddrA, oFieldAddr, oLoad, oStore, isAggD, aggH, oneH, skipH, Nat.add_eq_left, Nat.left_eq_add, Nat.succ_ne_self, fieldA, partA, cellsOf, List.length_cons, List.length_nil, Nat.reduceAdd, Nat.zero_add, Nat.add_zero, Nat.mul_one, Nat.reduceMul, nbeq_self, onesA_cons', onesA_nil, oneA, Value.oneCell', Nat.reduceLT, ty3, ti3, ty22, ti22, ty25, ti25, ty26, ti26, ty39, ti39, a0, a1, a2, a3, q11, q24, w1, z1, z2, uv, Int.reduceBEq, Int.reduceBNe, eqA, eqD, eqOp, nilCheckA, hz, e1, hmk, ml0, ml2, hsa, hcp, e4, e5, nl0, nl1, nl2, hsb, hcp2, w2, hs7, av, nl1b, oSlice, oMakeSlice, checksD_nil, checksD_cons, checkD, checkG, sameR, avB_int]) rfl ?_
  repeat' (first
    | refine wc_seq ?_
    | (refine wc_region rfl ?_; simp only [oUn_not, beq_self_eq_true, eq_self, pv_mul, List.toList_toArray, opsA_cons, opsA_nil, wantedA, guardA, yieldA, stepA_t, stepA_f, callA, calleeA, targetA, runOp_c, runOp_n, opA, ev, evs, evo, consO, consOO, withH, pickA, afterA_s, putA, T.get_put, Nat.reduceEqDiff, reduceIte, List.getElem?_toArray, List.getElem?_cons_zero, List.getElem?_cons_succ, oBuiltin, oBin, binA, binG, binL, aggO, litA, intA, ltF_eq, eqF_eq, oIndexAddr, cond_true, cond_false, Bool.not_true, Bool.not_false, decide_true, decide_false, blt_eq, tt_beq, tf_beq, ft_beq, ff_beq, Bool.and_true, Bool.true_and, Option.some.injEq, I, Bo, addI, subI, oExtract, Bool.not_eq_true', fieldAddrA, oFieldAddr, oLoad, oStore, isAggD, aggH, oneH, skipH, Nat.add_eq_left, Nat.left_eq_add, Nat.succ_ne_self, fieldA, partA, cellsOf, List.length_cons, List.length_nil, Nat.reduceAdd, Nat.zero_add, Nat.add_zero, Nat.mul_one, Nat.reduceMul, nbeq_self, onesA_cons', onesA_nil, oneA, Value.oneCell', Nat.reduceLT, ty3, ti3, ty22, ti22, ty25, ti25, ty26, ti26, ty39, ti39, a0, a1, a2, a3, q11, q24, w1, z1, z2, uv, Int.reduceBEq, Int.reduceBNe, eqA, eqD, eqOp, nilCheckA, hz, e1, hmk, ml0, ml2, hsa, hcp, e4, e5, nl0, nl1, nl2, hsb, hcp2, w2, hs7, av, nl1b, oSlice, oMakeSlice]; refine ⟨_, _, rfl, ?_⟩)
    | (refine wc_cond (by simp only [oUn_not, beq_self_eq_true, eq_self, pv_mul, List.toList_toArray, opsA_cons, opsA_nil, wantedA, guardA, yieldA, stepA_t, stepA_f, callA, calleeA, targetA, runOp_c, runOp_n, opA, ev, evs, evo, consO, consOO, withH, pickA, afterA_s, putA, T.get_put, Nat.reduceEqDiff, reduceIte, List.getElem?_toArray, List.getElem?_cons_zero, List.getElem?_cons_succ, oBuiltin, oBin, binA, binG, binL, aggO, litA, intA, ltF_eq, eqF_eq, oIndexAddr, cond_true, cond_false, Bool.not_true, Bool.not_false, decide_true, decide_false, blt_eq, tt_beq, tf_beq, ft_beq, ff_beq, Bool.and_true, Bool.true_and, Option.some.injEq, I, Bo, addI, subI, oExtract, Bool.not_eq_true', fieldAddrA, oFieldAddr, oLoad, oStore, isAggD, aggH, oneH, skipH, Nat.add_eq_left, Nat.left_eq_add, Nat.succ_ne_self, fieldA, partA, cellsOf, List.length_cons, List.length_nil, Nat.reduceAdd, Nat.zero_add, Nat.add_zero, Nat.mul_one, Nat.reduceMul, nbeq_self, onesA_cons', onesA_nil, oneA, Value.oneCell', Nat.reduceLT, ty3, ti3, ty22, ti22, ty25, ti25, ty26, ti26, ty39, ti39, a0, a1, a2, a3, q11, q24, w1, z1, z2, uv, Int.reduceBEq, Int.reduceBNe, eqA, eqD, eqOp, nilCheckA, hz, e1, hmk, ml0, ml2, hsa, hcp, e4, e5, nl0, nl1, nl2, hsb, hcp2, w2, hs7, av, nl1b, oSlice, oMakeSlice]; rfl) ?_ ?_ <;> intro hb <;> first | (exfalso; exact Bool.noConfusion hb) | skip)
    | refine wc_block ?_
    | refine wc_skip ?_
    | refine wc_scope (by decide) ?_
    | refine wc_label ?_
    | refine wc_exit ?_
    | refine wc_ret ?_
    | refine wv_ret (by simp only [resA, resOne]; simp only [oUn_not, beq_self_eq_true, eq_self, pv_mul, List.toList_toArray, opsA_cons, opsA_nil, wantedA, guardA, yieldA, stepA_t, stepA_f, callA, calleeA, targetA, runOp_c, runOp_n, opA, ev, evs, evo, consO, consOO, withH, pickA, afterA_s, putA, T.get_put, Nat.reduceEqDiff, reduceIte, List.getElem?_toArray, List.getElem?_cons_zero, List.getElem?_cons_succ, oBuiltin, oBin, binA, binG, binL, aggO, litA, intA, ltF_eq, eqF_eq, oIndexAddr, cond_true, cond_false, Bool.not_true, Bool.not_false, decide_true, decide_false, blt_eq, tt_beq, tf_beq, ft_beq, ff_beq, Bool.and_true, Bool.true_and, Option.some.injEq, I, Bo, addI, subI, oExtract, Bool.not_eq_true', fieldAddrA, oFieldAddr, oLoad, oStore, isAggD, aggH, oneH, skipH, Nat.add_eq_left, Nat.left_eq_add, Nat.succ_ne_self, fieldA, partA, cellsOf, List.length_cons, List.length_nil, Nat.reduceAdd, Nat.zero_add, Nat.add_zero, Nat.mul_one, Nat.reduceMul, nbeq_self, onesA_cons', onesA_nil, oneA, Value.oneCell', Nat.reduceLT, ty3, ti3, ty22, ti22, ty25, ti25, ty26, ti26, ty39, ti39, a0, a1, a2, a3, q11, q24, w1, z1, z2, uv, Int.reduceBEq, Int.reduceBNe, eqA, eqD, eqOp, nilCheckA, hz, e1, hmk, ml0, ml2, hsa, hcp, e4, e5, nl0, nl1, nl2, hsb, hcp2, w2, hs7, av, nl1b, oSlice, oMakeSlice]; rfl) ?_)
  all_goals exact ⟨rfl, _, _, _, B7, hcon, fr⟩
theorem c12 (d : Nat) (h : Hp) (p nm : Nat) (M : List Int) (f t : Nat) (b : Buf h p nm M f t) (at_ n o : Nat) (ha : at_ + n ≤ (con M f t).length) (ho : o + n ≤ (con M f t).length) (hs : (con M f t).length ≤ 4096) : Wv (runA ctx 5000 (d + 4) 12 [.ptr p 0, I (Int.ofNat at_), I (Int.ofNat n), I (Int.ofNat o)] h) (fun r h' => r = I 0 ∧ ∃ M' f' t', Buf h' p nm M' f' t' ∧ con M' f' t' = mvL (con M f t) at_ n o ∧ Fr (fun n => n = p ∨ n = nm) h h') := by
  by_cases h0 : n = 0
  · exact c12z d h p nm M f t b at_ n o ha ho h0
  · exact c12s d h p nm M f t b at_ n o ha ho (by omega) hs
set_option maxHeartbeats 4000000 in
theorem c12c (d : Nat) (h : Hp) (p nm : Nat) (M : List Int) (f t : Nat) (b : Buf h p nm M f t) (at_ n : Nat) (o : Int) (ha : at_ + n ≤ (con M f t).length) (h0 : ¬ o < 0) (ho : Int.ofNat (con M f t).length - Int.ofNat n < o) : Wv (runA ctx 5000 (d + 4) 12 [.ptr p 0, I (Int.ofNat at_), I (Int.ofNat n), I o] h) (fun r h' => r = I 4 ∧ h' = h) := by
  have q1 := b.le1
  have q2 := b.le2
  have q3 := b.sm
  have q4 := b.len
  have q11 : runA ctx 5000 (d + 3) 11 [.ptr p 0] h = some (I (Int.ofNat (con M f t).length), h) := c11 (d + 2) h p nm M f t b
  have q24 : runA ctx 5000 (d + 3) 24 [.ptr p 0, I (Int.ofNat at_), I (Int.ofNat n)] h = some (I 0, h) := c24 (d + 1) h p nm M f t (Int.ofNat at_) (Int.ofNat n) b (by simp only [Int.ofNat_eq_natCast]; omega)
  have w1 : IntKind.wrap .i64 (Int.ofNat (con M f t).length - Int.ofNat n) = Int.ofNat (con M f t).length - Int.ofNat n := by rw [IntKind.wrap_i64]; simp only [Int.ofNat_eq_natCast]; omega
  have z1 : decide (o < 0) = false := by simpa using h0
  have z2 : decide (Int.ofNat (con M f t).length - Int.ofNat n < o) = true := by simpa using ho
  refine wv_run fn12 rfl ?_
  have a0 : (enterEnv [.ptr p 0, I (Int.ofNat at_), I (Int.ofNat n), I o] Try.f12.ntmps).get 0 = some (.ptr p 0) := enter_get1 _ _ _
  have a1 : (enterEnv [.ptr p 0, I (Int.ofNat at_), I (Int.ofNat n), I o] Try.f12.ntmps).get 1 = some (I (Int.ofNat at_)) := enter_get2 _ _ _ _
  have a2 : (enterEnv [.ptr p 0, I (Int.ofNat at_), I (Int.ofNat n), I o] Try.f12.ntmps).get 2 = some (I (Int.ofNat n)) := enter_get3 _ _ _ _ _
  have a3 : (enterEnv [.ptr p 0, I (Int.ofNat at_), I (Int.ofNat n), I o] Try.f12.ntmps).get 3 = some (I o) := enter_get4 _ _ _ _ _ _
  generalize enterEnv [.ptr p 0, I (Int.ofNat at_), I (Int.ofNat n), I o] Try.f12.ntmps = e at a0 a1 a2 a3 ⊢
  unfold Try.f12
  dsimp only
  repeat' (first
    | refine wc_seq ?_
    | (refine wc_region rfl ?_; simp only [oUn_not, beq_self_eq_true, eq_self, pv_mul, List.toList_toArray, opsA_cons, opsA_nil, wantedA, guardA, yieldA, stepA_t, stepA_f, callA, calleeA, targetA, runOp_c, runOp_n, opA, ev, evs, evo, consO, consOO, withH, pickA, afterA_s, putA, T.get_put, Nat.reduceEqDiff, reduceIte, List.getElem?_toArray, List.getElem?_cons_zero, List.getElem?_cons_succ, oBuiltin, oBin, binA, binG, binL, aggO, litA, intA, ltF_eq, eqF_eq, oIndexAddr, cond_true, cond_false, Bool.not_true, Bool.not_false, decide_true, decide_false, blt_eq, tt_beq, tf_beq, ft_beq, ff_beq, Bool.and_true, Bool.true_and, Option.some.injEq, I, Bo, addI, subI, oExtract, Bool.not_eq_true', fieldAddrA, oFieldAddr, oLoad, oStore, isAggD, aggH, oneH, skipH, Nat.add_eq_left, Nat.left_eq_add, Nat.succ_ne_self, fieldA, partA, cellsOf, List.length_cons, List.length_nil, Nat.reduceAdd, Nat.zero_add, Nat.add_zero, Nat.mul_one, Nat.reduceMul, nbeq_self, onesA_cons', onesA_nil, oneA, Value.oneCell', Nat.reduceLT, ty3, ti3, ty22, ti22, ty25, ti25, ty26, ti26, ty39, ti39, a0, a1, a2, a3, q11, q24, w1, z1, z2, uv, Int.reduceBEq, Int.reduceBNe, eqA, eqD, eqOp, nilCheckA]; refine ⟨_, _, rfl, ?_⟩)
    | (refine wc_cond (by simp only [oUn_not, beq_self_eq_true, eq_self, pv_mul, List.toList_toArray, opsA_cons, opsA_nil, wantedA, guardA, yieldA, stepA_t, stepA_f, callA, calleeA, targetA, runOp_c, runOp_n, opA, ev, evs, evo, consO, consOO, withH, pickA, afterA_s, putA, T.get_put, Nat.reduceEqDiff, reduceIte, List.getElem?_toArray, List.getElem?_cons_zero, List.getElem?_cons_succ, oBuiltin, oBin, binA, binG, binL, aggO, litA, intA, ltF_eq, eqF_eq, oIndexAddr, cond_true, cond_false, Bool.not_true, Bool.not_false, decide_true, decide_false, blt_eq, tt_beq, tf_beq, ft_beq, ff_beq, Bool.and_true, Bool.true_and, Option.some.injEq, I, Bo, addI, subI, oExtract, Bool.not_eq_true', fieldAddrA, oFieldAddr, oLoad, oStore, isAggD, aggH, oneH, skipH, Nat.add_eq_left, Nat.left_eq_add, Nat.succ_ne_self, fieldA, partA, cellsOf, List.length_cons, List.length_nil, Nat.reduceAdd, Nat.zero_add, Nat.add_zero, Nat.mul_one, Nat.reduceMul, nbeq_self, onesA_cons', onesA_nil, oneA, Value.oneCell', Nat.reduceLT, ty3, ti3, ty22, ti22, ty25, ti25, ty26, ti26, ty39, ti39, a0, a1, a2, a3, q11, q24, w1, z1, z2, uv, Int.reduceBEq, Int.reduceBNe, eqA, eqD, eqOp, nilCheckA]; rfl) ?_ ?_ <;> intro hb <;> first | (exfalso; exact Bool.noConfusion hb) | skip)
    | refine wc_block ?_
    | refine wc_skip ?_
    | refine wc_scope (by decide) ?_
    | refine wc_label ?_
    | refine wc_exit ?_
    | refine wc_ret ?_
    | refine wv_ret (by simp only [resA, resOne]; simp only [oUn_not, beq_self_eq_true, eq_self, pv_mul, List.toList_toArray, opsA_cons, opsA_nil, wantedA, guardA, yieldA, stepA_t, stepA_f, callA, calleeA, targetA, runOp_c, runOp_n, opA, ev, evs, evo, consO, consOO, withH, pickA, afterA_s, putA, T.get_put, Nat.reduceEqDiff, reduceIte, List.getElem?_toArray, List.getElem?_cons_zero, List.getElem?_cons_succ, oBuiltin, oBin, binA, binG, binL, aggO, litA, intA, ltF_eq, eqF_eq, oIndexAddr, cond_true, cond_false, Bool.not_true, Bool.not_false, decide_true, decide_false, blt_eq, tt_beq, tf_beq, ft_beq, ff_beq, Bool.and_true, Bool.true_and, Option.some.injEq, I, Bo, addI, subI, oExtract, Bool.not_eq_true', fieldAddrA, oFieldAddr, oLoad, oStore, isAggD, aggH, oneH, skipH, Nat.add_eq_left, Nat.left_eq_add, Nat.succ_ne_self, fieldA, partA, cellsOf, List.length_cons, List.length_nil, Nat.reduceAdd, Nat.zero_add, Nat.add_zero, Nat.mul_one, Nat.reduceMul, nbeq_self, onesA_cons', onesA_nil, oneA, Value.oneCell', Nat.reduceLT, ty3, ti3, ty22, ti22, ty25, ti25, ty26, ti26, ty39, ti39, a0, a1, a2, a3, q11, q24, w1, z1, z2, uv, Int.reduceBEq, Int.reduceBNe, eqA, eqD, eqOp, nilCheckA]; rfl) ?_)
  all_goals exact ⟨rfl, rfl⟩
end Go.Proofs.Ytjfmimlmnllnjaa
