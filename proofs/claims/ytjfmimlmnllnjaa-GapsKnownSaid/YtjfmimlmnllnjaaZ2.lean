import Derived.Test.YtjfmimlmnllnjaaZ1
import Derived.KernelRfl
namespace Go.Proofs.Ytjfmimlmnllnjaa
open Go Go.Proofs Go.RowKit
set_option linter.unusedSimpArgs false
set_option linter.unusedVariables false
open Go.Proofs.Abs
theorem bring_a {M : List Int} {f t at_ : Nat} (h0 : at_ < f) (h1 : f ≤ t) (h2 : t ≤ M.length) : con (patch (patch M (at_ + (t - f)) ((M.drop at_).take (f - at_))) at_ (List.replicate (min f (at_ + (t - f)) - at_) 0)) at_ (at_ + (t - f)) = con M f t := by
  have l1 : ((M.drop at_).take (f - at_)).length = f - at_ := by rw [List.length_take, List.length_drop]; omega
  have e1 : (patch M (at_ + (t - f)) ((M.drop at_).take (f - at_))).length = M.length := patch_len (by rw [l1]; omega)
  have e2 : (patch (patch M (at_ + (t - f)) ((M.drop at_).take (f - at_))) at_ (List.replicate (min f (at_ + (t - f)) - at_) 0)).length = M.length := by rw [patch_len (by rw [e1, List.length_replicate]; omega), e1]
  apply List.ext_getElem?
  intro k
  rw [con_at (by omega) (by rw [e2]; omega), con_at h1 h2]
  have A := fun j => patch_at (M := patch M (at_ + (t - f)) ((M.drop at_).take (f - at_))) (a := at_) (xs := List.replicate (min f (at_ + (t - f)) - at_) 0) (by rw [e1, List.length_replicate]; omega) j
  have B := fun j => patch_at (M := M) (a := at_ + (t - f)) (xs := (M.drop at_).take (f - at_)) (by rw [l1]; omega) j
  simp only [A, B, l1, List.length_replicate, List.getElem?_take, List.getElem?_drop]
  by_cases a1 : k < at_
  · rw [if_pos a1, if_neg (by omega), if_neg (by omega), if_pos (by omega)]
  · rw [if_neg a1, if_neg (by omega)]
    by_cases a2 : k < f
    · rw [if_pos (by omega), if_pos (by omega), if_pos a2]
      congr 1
      omega
    · rw [if_neg (by omega), if_neg a2]
      congr 1
      omega
theorem bring_e {M : List Int} {f t at_ : Nat} (h0 : f ≤ at_) (h1 : f ≤ t) (h2 : at_ + (t - f) ≤ M.length) : con (patch (patch M f ((M.drop t).take (at_ - f))) (max t at_) (List.replicate (at_ + (t - f) - max t at_) 0)) at_ (at_ + (t - f)) = con M f t := by
  have l1 : ((M.drop t).take (at_ - f)).length = at_ - f := by rw [List.length_take, List.length_drop]; omega
  have e1 : (patch M f ((M.drop t).take (at_ - f))).length = M.length := patch_len (by rw [l1]; omega)
  have e2 : (patch (patch M f ((M.drop t).take (at_ - f))) (max t at_) (List.replicate (at_ + (t - f) - max t at_) 0)).length = M.length := by rw [patch_len (by rw [e1, List.length_replicate]; omega), e1]
  apply List.ext_getElem?
  intro k
  rw [con_at (by omega) (by rw [e2]; omega), con_at h1 (by omega)]
  have A := fun j => patch_at (M := patch M f ((M.drop t).take (at_ - f))) (a := max t at_) (xs := List.replicate (at_ + (t - f) - max t at_) 0) (by rw [e1, List.length_replicate]; omega) j
  have B := fun j => patch_at (M := M) (a := f) (xs := (M.drop t).take (at_ - f)) (by rw [l1]; omega) j
  simp only [A, B, l1, List.length_replicate, List.getElem?_take, List.getElem?_drop]
  by_cases a1 : k < at_
  · rw [if_pos a1, if_neg (by omega)]
    by_cases a2 : k < f
    · rw [if_neg (by omega), if_pos a2]
    · rw [if_pos (by omega), if_pos (by omega), if_neg a2]
      congr 1
      omega
  · rw [if_neg a1, if_neg (by omega), if_neg (by omega), if_neg (by omega)]
    congr 1
    omega
theorem cut_eq {M : List Int} {f t n : Nat} (h1 : f ≤ t) (h2 : t + n ≤ M.length) : con (patch M t (List.replicate n 0)) f (t + n) = (con M f t).take f ++ (con M f t).drop (f + n) := by
  have e1 : (patch M t (List.replicate n 0)).length = M.length := patch_len (by rw [List.length_replicate]; omega)
  have e2 := con_len h1 (M := M) (t := t) (by omega)
  apply List.ext_getElem?
  intro k
  rw [con_at (by omega) (by rw [e1]; omega), List.getElem?_append, List.length_take, e2, List.getElem?_take, List.getElem?_drop, con_at h1 (by omega), con_at h1 (by omega)]
  have A := fun j => patch_at (M := M) (a := t) (xs := List.replicate n 0) (by rw [List.length_replicate]; omega) j
  simp only [A, List.length_replicate]
  by_cases a1 : k < f
  · rw [if_pos a1, if_neg (by omega), if_pos (by omega), if_pos a1, if_pos a1]
  · rw [if_neg a1, if_neg (by omega), if_neg (by omega), if_neg (by omega)]
    congr 1
    omega
theorem grow_eq {M : List Int} {f t more : Nat} (h1 : f ≤ t) (h2 : t ≤ M.length) : con (patch (patch (List.replicate (M.length - (t - f) + more) 0) 0 (M.take f)) (f + more) (M.drop t)) f (f + more) = con M f t := by
  have l1 : (M.take f).length = f := by rw [List.length_take]; omega
  have l2 : (M.drop t).length = M.length - t := List.length_drop
  have e1 : (patch (List.replicate (M.length - (t - f) + more) (0 : Int)) 0 (M.take f)).length = M.length - (t - f) + more := by rw [patch_len (by rw [l1, List.length_replicate]; omega), List.length_replicate]
  have e2 : (patch (patch (List.replicate (M.length - (t - f) + more) (0 : Int)) 0 (M.take f)) (f + more) (M.drop t)).length = M.length - (t - f) + more := by rw [patch_len (by rw [l2, e1]; omega), e1]
  apply List.ext_getElem?
  intro k
  rw [con_at (by omega) (by rw [e2]; omega), con_at h1 h2]
  have A := fun j => patch_at (M := patch (List.replicate (M.length - (t - f) + more) (0 : Int)) 0 (M.take f)) (a := f + more) (xs := M.drop t) (by rw [l2, e1]; omega) j
  have B := fun j => patch_at (M := List.replicate (M.length - (t - f) + more) (0 : Int)) (a := 0) (xs := M.take f) (by rw [l1, List.length_replicate]; omega) j
  simp only [A, B, l1, l2, List.getElem?_take, List.getElem?_drop, List.getElem?_replicate]
  by_cases a1 : k < f
  · rw [if_pos a1, if_pos a1, if_neg (by omega), if_pos (by omega), Nat.sub_zero, if_pos a1]
  · rw [if_neg a1, if_neg a1]
    by_cases a2 : k < M.length - t + f
    · rw [if_pos (by omega)]
      congr 1
      omega
    · rw [if_neg (by omega), if_neg (by omega), if_neg (by omega), List.getElem?_eq_none (by omega)]
set_option maxHeartbeats 4000000 in
theorem c26a (d : Nat) (h : Hp) (p nm : Nat) (M : List Int) (f t at_ : Nat) (b : Buf h p nm M f t) (ha : at_ < f) : Wv (runA ctx 5000 (d + 1) 26 [.ptr p 0, I (Int.ofNat at_)] h) (fun _ h' => ∃ M', Buf h' p nm M' at_ (at_ + (t - f)) ∧ M'.length = M.length ∧ con M' at_ (at_ + (t - f)) = con M f t ∧ Fr (fun n => n = p ∨ n = nm) h h') := by
  have q1 := b.le1
  have q2 := b.le2
  have q3 := b.sm
  have l0 := b.c0.load
  have l1 := b.c1.load
  have l2 := b.c2.load
  have w0 : IntKind.wrap .i64 (Int.ofNat t - Int.ofNat f) = Int.ofNat (t - f) := by rw [IntKind.wrap_i64]; simp only [Int.ofNat_eq_natCast]; omega
  have w1 : IntKind.wrap .i64 (Int.ofNat at_ + Int.ofNat (t - f)) = Int.ofNat (at_ + (t - f)) := by rw [IntKind.wrap_i64]; simp only [Int.ofNat_eq_natCast]; omega
  have z1 : decide (Int.ofNat at_ < Int.ofNat f) = true := by first | (simp; done) | (simp; omega) | (simp only [Int.ofNat_eq_natCast, decide_eq_true_eq, decide_eq_false_iff_not]; omega)
  obtain ⟨sa, hsa, Sa⟩ := slB (nm := nm) (n := M.length) (a := at_ + (t - f)) (b := t) (by omega) q2
  obtain ⟨sb, hsb, Sb⟩ := slB (nm := nm) (n := M.length) (a := at_) (b := f) (by omega) (by omega)
  have em : min (f - at_) (t - (at_ + (t - f))) = f - at_ := by omega
  have l1' : ((M.drop at_).take (f - at_)).length = f - at_ := by rw [List.length_take, List.length_drop]; omega
  obtain ⟨h1, hcp, o1, b1⟩ := copyB b.blk Sa (by omega) Sb.len (xs := (M.drop at_).take (f - at_)) (by rw [em]; exact Sb.elems b.blk (by omega) (Nat.le_refl _)) (by rw [em]; exact l1')
  have e1 : (patch M (at_ + (t - f)) ((M.drop at_).take (f - at_))).length = M.length := patch_len (by rw [l1']; omega)
  generalize hM1 : patch M (at_ + (t - f)) ((M.drop at_).take (f - at_)) = M1 at *
  have B1 := b.mem o1 b1 e1
  have hmm := min22 h1 f (at_ + (t - f))
  obtain ⟨sc, hsc, Sc⟩ := slB (nm := nm) (n := M1.length) (a := at_) (b := min f (at_ + (t - f))) (by omega) (by omega)
  obtain ⟨h2, hcl, o2, b2⟩ := clearB b1 Sc (by omega)
  have e2 : (patch M1 at_ (List.replicate (min f (at_ + (t - f)) - at_) 0)).length = M1.length := patch_len (by rw [List.length_replicate]; omega)
  have B2 := B1.mem o2 b2 e2
  have hcon := bring_a (at_ := at_) ha q1 q2
  rw [hM1] at hcon
  have ml0 := B1.c0.load
  have ml1 := B1.c1.load
  have ml2 := B1.c2.load
  obtain ⟨h3, h4, hs1, hs2, o3, B4⟩ := B2.put (f' := at_) (t' := at_ + (t - f)) (by omega) (by omega)
  have fr : Fr (fun n => n = p ∨ n = nm) h h4 := ((o1.fr (.inr rfl)).trans (o2.fr (.inr rfl))).trans (o3.fr (.inl rfl))
  refine wv_run fn26 rfl ?_
  have a0 : (enterEnv [.ptr p 0, I (Int.ofNat at_)] Try.f26.ntmps).get 0 = some (.ptr p 0) := enter_get1 _ _ _
  have a1 : (enterEnv [.ptr p 0, I (Int.ofNat at_)] Try.f26.ntmps).get 1 = some (I (Int.ofNat at_)) := enter_get2 _ _ _ _
  generalize enterEnv [.ptr p 0, I (Int.ofNat at_)] Try.f26.ntmps = e at a0 a1 ⊢
  unfold Try.f26
  dsimp only
  repeat' (first
    | refine wc_seq ?_
    | (refine wc_region rfl ?_; simp only [oUn_not, beq_self_eq_true, eq_self, pv_mul, List.toList_toArray, opsA_cons, opsA_nil, wantedA, guardA, yieldA, stepA_t, stepA_f, callA, calleeA, targetA, runOp_c, runOp_n, opA, ev, evs, evo, consO, consOO, withH, pickA, afterA_s, putA, T.get_put, Nat.reduceEqDiff, reduceIte, List.getElem?_toArray, List.getElem?_cons_zero, List.getElem?_cons_succ, oBuiltin, oBin, binA, binG, binL, aggO, litA, intA, ltF_eq, eqF_eq, oIndexAddr, cond_true, cond_false, Bool.not_true, Bool.not_false, decide_true, decide_false, blt_eq, tt_beq, tf_beq, ft_beq, ff_beq, Bool.and_true, Bool.true_and, Option.some.injEq, I, Bo, addI, subI, oExtract, Bool.not_eq_true', fieldAddrA, oFieldAddr, oLoad, oStore, isAggD, aggH, oneH, skipH, Nat.add_eq_left, Nat.left_eq_add, Nat.succ_ne_self, fieldA, partA, cellsOf, List.length_cons, List.length_nil, Nat.reduceAdd, Nat.zero_add, Nat.add_zero, Nat.mul_one, Nat.reduceMul, nbeq_self, onesA_cons', onesA_nil, oneA, Value.oneCell', Nat.reduceLT, ty3, ti3, ty22, ti22, ty39, ti39, a0, a1, l0, l1, l2, w0, w1, z1, hsa, hsb, hcp, ml0, ml1, ml2, hmm, hsc, hcl, hs1, hs2, oSlice, eqA, eqD, eqOp, nilCheckA]; refine ⟨_, _, rfl, ?_⟩)
    | (refine wc_cond (by simp only [oUn_not, beq_self_eq_true, eq_self, pv_mul, List.toList_toArray, opsA_cons, opsA_nil, wantedA, guardA, yieldA, stepA_t, stepA_f, callA, calleeA, targetA, runOp_c, runOp_n, opA, ev, evs, evo, consO, consOO, withH, pickA, afterA_s, putA, T.get_put, Nat.reduceEqDiff, reduceIte, List.getElem?_toArray, List.getElem?_cons_zero, List.getElem?_cons_succ, oBuiltin, oBin, binA, binG, binL, aggO, litA, intA, ltF_eq, eqF_eq, oIndexAddr, cond_true, cond_false, Bool.not_true, Bool.not_false, decide_true, decide_false, blt_eq, tt_beq, tf_beq, ft_beq, ff_beq, Bool.and_true, Bool.true_and, Option.some.injEq, I, Bo, addI, subI, oExtract, Bool.not_eq_true', fieldAddrA, oFieldAddr, oLoad, oStore, isAggD, aggH, oneH, skipH, Nat.add_eq_left, Nat.left_eq_add, Nat.succ_ne_self, fieldA, partA, cellsOf, List.length_cons, List.length_nil, Nat.reduceAdd, Nat.zero_add, Nat.add_zero, Nat.mul_one, Nat.reduceMul, nbeq_self, onesA_cons', onesA_nil, oneA, Value.oneCell', Nat.reduceLT, ty3, ti3, ty22, ti22, ty39, ti39, a0, a1, l0, l1, l2, w0, w1, z1, hsa, hsb, hcp, ml0, ml1, ml2, hmm, hsc, hcl, hs1, hs2, oSlice, eqA, eqD, eqOp, nilCheckA]; rfl) ?_ ?_ <;> intro hb <;> first | (exfalso; exact Bool.noConfusion hb) | skip)
    | refine wc_block ?_
    | refine wc_skip ?_
    | refine wc_scope (by decide) ?_
    | refine wc_label ?_
    | refine wc_exit ?_
    | refine wc_ret ?_
    | refine wv_ret (by simp only [resA, resOne]; simp only [oUn_not, beq_self_eq_true, eq_self, pv_mul, List.toList_toArray, opsA_cons, opsA_nil, wantedA, guardA, yieldA, stepA_t, stepA_f, callA, calleeA, targetA, runOp_c, runOp_n, opA, ev, evs, evo, consO, consOO, withH, pickA, afterA_s, putA, T.get_put, Nat.reduceEqDiff, reduceIte, List.getElem?_toArray, List.getElem?_cons_zero, List.getElem?_cons_succ, oBuiltin, oBin, binA, binG, binL, aggO, litA, intA, ltF_eq, eqF_eq, oIndexAddr, cond_true, cond_false, Bool.not_true, Bool.not_false, decide_true, decide_false, blt_eq, tt_beq, tf_beq, ft_beq, ff_beq, Bool.and_true, Bool.true_and, Option.some.injEq, I, Bo, addI, subI, oExtract, Bool.not_eq_true', fieldAddrA, oFieldAddr, oLoad, oStore, isAggD, aggH, oneH, skipH, Nat.add_eq_left, Nat.left_eq_add, Nat.succ_ne_self, fieldA, partA, cellsOf, List.length_cons, List.length_nil, Nat.reduceAdd, Nat.zero_add, Nat.add_zero, Nat.mul_one, Nat.reduceMul, nbeq_self, onesA_cons', onesA_nil, oneA, Value.oneCell', Nat.reduceLT, ty3, ti3, ty22, ti22, ty39, ti39, a0, a1, l0, l1, l2, w0, w1, z1, hsa, hsb, hcp, ml0, ml1, ml2, hmm, hsc, hcl, hs1, hs2, oSlice, eqA, eqD, eqOp, nilCheckA]; rfl) ?_)
  all_goals exact ⟨_, B4, by rw [e2, e1], hcon, fr⟩
set_option maxHeartbeats 4000000 in
theorem c26e (d : Nat) (h : Hp) (p nm : Nat) (M : List Int) (f t at_ : Nat) (b : Buf h p nm M f t) (ha : f ≤ at_) (ha2 : at_ + (t - f) ≤ M.length) : Wv (runA ctx 5000 (d + 1) 26 [.ptr p 0, I (Int.ofNat at_)] h) (fun _ h' => ∃ M', Buf h' p nm M' at_ (at_ + (t - f)) ∧ M'.length = M.length ∧ con M' at_ (at_ + (t - f)) = con M f t ∧ Fr (fun n => n = p ∨ n = nm) h h') := by
  have q1 := b.le1
  have q2 := b.le2
  have q3 := b.sm
  have l0 := b.c0.load
  have l1 := b.c1.load
  have l2 := b.c2.load
  have w0 : IntKind.wrap .i64 (Int.ofNat t - Int.ofNat f) = Int.ofNat (t - f) := by rw [IntKind.wrap_i64]; simp only [Int.ofNat_eq_natCast]; omega
  have w1 : IntKind.wrap .i64 (Int.ofNat at_ + Int.ofNat (t - f)) = Int.ofNat (at_ + (t - f)) := by rw [IntKind.wrap_i64]; simp only [Int.ofNat_eq_natCast]; omega
  have z1 : decide (Int.ofNat at_ < Int.ofNat f) = false := by first | (simp; done) | (simp; omega) | (simp only [Int.ofNat_eq_natCast, decide_eq_true_eq, decide_eq_false_iff_not]; omega)
  obtain ⟨sa, hsa, Sa⟩ := slF (nm := nm) (n := M.length) (a := f) (by omega)
  obtain ⟨sb, hsb, Sb⟩ := slB (nm := nm) (n := M.length) (a := t) (b := at_ + (t - f)) (by omega) ha2
  have em : min (at_ + (t - f) - t) (M.length - f) = at_ - f := by omega
  have l1' : ((M.drop t).take (at_ - f)).length = at_ - f := by rw [List.length_take, List.length_drop]; omega
  obtain ⟨h1, hcp, o1, b1⟩ := copyB b.blk Sa (by omega) Sb.len (xs := (M.drop t).take (at_ - f)) (by rw [em]; exact Sb.elems b.blk (by omega) (by omega)) (by rw [em]; exact l1')
  have e1 : (patch M f ((M.drop t).take (at_ - f))).length = M.length := patch_len (by rw [l1']; omega)
  generalize hM1 : patch M f ((M.drop t).take (at_ - f)) = M1 at *
  have B1 := b.mem o1 b1 e1
  have hmm := max22 h1 t at_
  obtain ⟨sc, hsc, Sc⟩ := slB (nm := nm) (n := M1.length) (a := max t at_) (b := at_ + (t - f)) (by omega) (by omega)
  obtain ⟨h2, hcl, o2, b2⟩ := clearB b1 Sc (by omega)
  have e2 : (patch M1 (max t at_) (List.replicate (at_ + (t - f) - max t at_) 0)).length = M1.length := patch_len (by rw [List.length_replicate]; omega)
  have B2 := B1.mem o2 b2 e2
  have hcon := bring_e ha q1 ha2
  rw [hM1] at hcon
  have ml0 := B1.c0.load
  have ml1 := B1.c1.load
  have ml2 := B1.c2.load
  obtain ⟨h3, h4, hs1, hs2, o3, B4⟩ := B2.put (f' := at_) (t' := at_ + (t - f)) (by omega) (by omega)
  have fr : Fr (fun n => n = p ∨ n = nm) h h4 := ((o1.fr (.inr rfl)).trans (o2.fr (.inr rfl))).trans (o3.fr (.inl rfl))
  refine wv_run fn26 rfl ?_
  have a0 : (enterEnv [.ptr p 0, I (Int.ofNat at_)] Try.f26.ntmps).get 0 = some (.ptr p 0) := enter_get1 _ _ _
  have a1 : (enterEnv [.ptr p 0, I (Int.ofNat at_)] Try.f26.ntmps).get 1 = some (I (Int.ofNat at_)) := enter_get2 _ _ _ _
  generalize enterEnv [.ptr p 0, I (Int.ofNat at_)] Try.f26.ntmps = e at a0 a1 ⊢
  unfold Try.f26
  dsimp only
  repeat' (first
    | refine wc_seq ?_
    | (refine wc_region rfl ?_; simp only [oUn_not, beq_self_eq_true, eq_self, pv_mul, List.toList_toArray, opsA_cons, opsA_nil, wantedA, guardA, yieldA, stepA_t, stepA_f, callA, calleeA, targetA, runOp_c, runOp_n, opA, ev, evs, evo, consO, consOO, withH, pickA, afterA_s, putA, T.get_put, Nat.reduceEqDiff, reduceIte, List.getElem?_toArray, List.getElem?_cons_zero, List.getElem?_cons_succ, oBuiltin, oBin, binA, binG, binL, aggO, litA, intA, ltF_eq, eqF_eq, oIndexAddr, cond_true, cond_false, Bool.not_true, Bool.not_false, decide_true, decide_false, blt_eq, tt_beq, tf_beq, ft_beq, ff_beq, Bool.and_true, Bool.true_and, Option.some.injEq, I, Bo, addI, subI, oExtract, Bool.not_eq_true', fieldAddrA, oFieldAddr, oLoad, oStore, isAggD, aggH, oneH, skipH, Nat.add_eq_left, Nat.left_eq_add, Nat.succ_ne_self, fieldA, partA, cellsOf, List.length_cons, List.length_nil, Nat.reduceAdd, Nat.zero_add, Nat.add_zero, Nat.mul_one, Nat.reduceMul, nbeq_self, onesA_cons', onesA_nil, oneA, Value.oneCell', Nat.reduceLT, ty3, ti3, ty22, ti22, ty39, ti39, a0, a1, l0, l1, l2, w0, w1, z1, hsa, hsb, hcp, ml0, ml1, ml2, hmm, hsc, hcl, hs1, hs2, oSlice, eqA, eqD, eqOp, nilCheckA]; refine ⟨_, _, rfl, ?_⟩)
    | (refine wc_cond (by simp only [oUn_not, beq_self_eq_true, eq_self, pv_mul, List.toList_toArray, opsA_cons, opsA_nil, wantedA, guardA, yieldA, stepA_t, stepA_f, callA, calleeA, targetA, runOp_c, runOp_n, opA, ev, evs, evo, consO, consOO, withH, pickA, afterA_s, putA, T.get_put, Nat.reduceEqDiff, reduceIte, List.getElem?_toArray, List.getElem?_cons_zero, List.getElem?_cons_succ, oBuiltin, oBin, binA, binG, binL, aggO, litA, intA, ltF_eq, eqF_eq, oIndexAddr, cond_true, cond_false, Bool.not_true, Bool.not_false, decide_true, decide_false, blt_eq, tt_beq, tf_beq, ft_beq, ff_beq, Bool.and_true, Bool.true_and, Option.some.injEq, I, Bo, addI, subI, oExtract, Bool.not_eq_true', fieldAddrA, oFieldAddr, oLoad, oStore, isAggD, aggH, oneH, skipH, Nat.add_eq_left, Nat.left_eq_add, Nat.succ_ne_self, fieldA, partA, cellsOf, List.length_cons, List.length_nil, Nat.reduceAdd, Nat.zero_add, Nat.add_zero, Nat.mul_one, Nat.reduceMul, nbeq_self, onesA_cons', onesA_nil, oneA, Value.oneCell', Nat.reduceLT, ty3, ti3, ty22, ti22, ty39, ti39, a0, a1, l0, l1, l2, w0, w1, z1, hsa, hsb, hcp, ml0, ml1, ml2, hmm, hsc, hcl, hs1, hs2, oSlice, eqA, eqD, eqOp, nilCheckA]; rfl) ?_ ?_ <;> intro hb <;> first | (exfalso; exact Bool.noConfusion hb) | skip)
    | refine wc_block ?_
    | refine wc_skip ?_
    | refine wc_scope (by decide) ?_
    | refine wc_label ?_
    | refine wc_exit ?_
    | refine wc_ret ?_
    | refine wv_ret (by simp only [resA, resOne]; simp only [oUn_not, beq_self_eq_true, eq_self, pv_mul, List.toList_toArray, opsA_cons, opsA_nil, wantedA, guardA, yieldA, stepA_t, stepA_f, callA, calleeA, targetA, runOp_c, runOp_n, opA, ev, evs, evo, consO, consOO, withH, pickA, afterA_s, putA, T.get_put, Nat.reduceEqDiff, reduceIte, List.getElem?_toArray, List.getElem?_cons_zero, List.getElem?_cons_succ, oBuiltin, oBin, binA, binG, binL, aggO, litA, intA, ltF_eq, eqF_eq, oIndexAddr, cond_true, cond_false, Bool.not_true, Bool.not_false, decide_true, decide_false, blt_eq, tt_beq, tf_beq, ft_beq, ff_beq, Bool.and_true, Bool.true_and, Option.some.injEq, I, Bo, addI, subI, oExtract, Bool.not_eq_true', fieldAddrA, oFieldAddr, oLoad, oStore, isAggD, aggH, oneH, skipH, Nat.add_eq_left, Nat.left_eq_add, Nat.succ_ne_self, fieldA, partA, cellsOf, List.length_cons, List.length_nil, Nat.reduceAdd, Nat.zero_add, Nat.add_zero, Nat.mul_one, Nat.reduceMul, nbeq_self, onesA_cons', onesA_nil, oneA, Value.oneCell', Nat.reduceLT, ty3, ti3, ty22, ti22, ty39, ti39, a0, a1, l0, l1, l2, w0, w1, z1, hsa, hsb, hcp, ml0, ml1, ml2, hmm, hsc, hcl, hs1, hs2, oSlice, eqA, eqD, eqOp, nilCheckA]; rfl) ?_)
  all_goals exact ⟨_, B4, by rw [e2, e1], hcon, fr⟩
theorem c26 (d : Nat) (h : Hp) (p nm : Nat) (M : List Int) (f t at_ : Nat) (b : Buf h p nm M f t) (ha : at_ ≤ (con M f t).length) : Wv (runA ctx 5000 (d + 1) 26 [.ptr p 0, I (Int.ofNat at_)] h) (fun _ h' => ∃ M', Buf h' p nm M' at_ (at_ + (t - f)) ∧ M'.length = M.length ∧ con M' at_ (at_ + (t - f)) = con M f t ∧ Fr (fun n => n = p ∨ n = nm) h h') := by
  have q1 := b.le1
  have q2 := b.le2
  rw [b.len] at ha
  by_cases h0 : at_ < f
  · exact c26a d h p nm M f t at_ b h0
  · exact c26e d h p nm M f t at_ b (by omega) (by omega)
set_option maxHeartbeats 4000000 in
theorem c27 (d : Nat) (h : Hp) (p nm : Nat) (M : List Int) (f t at_ : Nat) (b : Buf h p nm M f t) (n : Nat) (ha : at_ + n ≤ (con M f t).length) : Wv (runA ctx 5000 (d + 2) 27 [.ptr p 0, I (Int.ofNat at_), I (Int.ofNat n)] h) (fun _ h' => ∃ M' t', Buf h' p nm M' at_ t' ∧ M'.length = M.length ∧ con M' at_ t' = (con M f t).take at_ ++ (con M f t).drop (at_ + n) ∧ Fr (fun n => n = p ∨ n = nm) h h') := by
  have q1 := b.le1
  have q2 := b.le2
  have q3 := b.sm
  have q4 := b.len
  have q26 := c26 d h p nm M f t at_ b (by omega)
  refine wv_run fn27 rfl ?_
  have a0 : (enterEnv [.ptr p 0, I (Int.ofNat at_), I (Int.ofNat n)] Try.f27.ntmps).get 0 = some (.ptr p 0) := enter_get1 _ _ _
  have a1 : (enterEnv [.ptr p 0, I (Int.ofNat at_), I (Int.ofNat n)] Try.f27.ntmps).get 1 = some (I (Int.ofNat at_)) := enter_get2 _ _ _ _
  have a2 : (enterEnv [.ptr p 0, I (Int.ofNat at_), I (Int.ofNat n)] Try.f27.ntmps).get 2 = some (I (Int.ofNat n)) := enter_get3 _ _ _ _ _
  generalize enterEnv [.ptr p 0, I (Int.ofNat at_), I (Int.ofNat n)] Try.f27.ntmps = e at a0 a1 a2 ⊢
  unfold Try.f27
  dsimp only
  refine wc_seq ?_
  (refine wc_region rfl ?_; simp only [oUn_not, beq_self_eq_true, eq_self, pv_mul, List.toList_toArray, opsA_cons, opsA_nil, wantedA, guardA, yieldA, stepA_t, stepA_f, callA, calleeA, targetA, runOp_c, runOp_n, opA, ev, evs, evo, consO, consOO, withH, pickA, afterA_s, putA, T.get_put, Nat.reduceEqDiff, reduceIte, List.getElem?_toArray, List.getElem?_cons_zero, List.getElem?_cons_succ, oBuiltin, oBin, binA, binG, binL, aggO, litA, intA, ltF_eq, eqF_eq, oIndexAddr, cond_true, cond_false, Bool.not_true, Bool.not_false, decide_true, decide_false, blt_eq, tt_beq, tf_beq, ft_beq, ff_beq, Bool.and_true, Bool.true_and, Option.some.injEq, I, Bo, addI, subI, oExtract, Bool.not_eq_true', fieldAddrA, oFieldAddr, oLoad, oStore, isAggD, aggH, oneH, skipH, Nat.add_eq_left, Nat.left_eq_add, Nat.succ_ne_self, fieldA, partA, cellsOf, List.length_cons, List.length_nil, Nat.reduceAdd, Nat.zero_add, Nat.add_zero, Nat.mul_one, Nat.reduceMul, nbeq_self, onesA_cons', onesA_nil, oneA, Value.oneCell', Nat.reduceLT, ty3, ti3, ty22, ti22, ty25, ti25, ty39, ti39, a0, a1, a2]; refine wo_call (q26) ?_; rintro _ h1 ⟨M1, B1, e1, hc1, f1⟩; simp only [oUn_not, beq_self_eq_true, eq_self, pv_mul, List.toList_toArray, opsA_cons, opsA_nil, wantedA, guardA, yieldA, stepA_t, stepA_f, callA, calleeA, targetA, runOp_c, runOp_n, opA, ev, evs, evo, consO, consOO, withH, pickA, afterA_s, putA, T.get_put, Nat.reduceEqDiff, reduceIte, List.getElem?_toArray, List.getElem?_cons_zero, List.getElem?_cons_succ, oBuiltin, oBin, binA, binG, binL, aggO, litA, intA, ltF_eq, eqF_eq, oIndexAddr, cond_true, cond_false, Bool.not_true, Bool.not_false, decide_true, decide_false, blt_eq, tt_beq, tf_beq, ft_beq, ff_beq, Bool.and_true, Bool.true_and, Option.some.injEq, I, Bo, addI, subI, oExtract, Bool.not_eq_true', fieldAddrA, oFieldAddr, oLoad, oStore, isAggD, aggH, oneH, skipH, Nat.add_eq_left, Nat.left_eq_add, Nat.succ_ne_self, fieldA, partA, cellsOf, List.length_cons, List.length_nil, Nat.reduceAdd, Nat.zero_add, Nat.add_zero, Nat.mul_one, Nat.reduceMul, nbeq_self, onesA_cons', onesA_nil, oneA, Value.oneCell', Nat.reduceLT, ty3, ti3, ty22, ti22, ty25, ti25, ty39, ti39, a0, a1, a2]; refine ⟨_, _, rfl, ?_⟩)
  have l0 := B1.c0.load
  have l1 := B1.c1.load
  have l2 := B1.c2.load
  have w1 : IntKind.wrap .i64 (Int.ofNat (at_ + (t - f)) + Int.ofNat n) = Int.ofNat (at_ + (t - f) + n) := by rw [IntKind.wrap_i64]; simp only [Int.ofNat_eq_natCast]; omega
  obtain ⟨sc, hsc, Sc⟩ := slB (nm := nm) (n := M1.length) (a := at_ + (t - f)) (b := at_ + (t - f) + n) (by omega) (by omega)
  rw [show at_ + (t - f) + n - (at_ + (t - f)) = n by omega] at Sc
  obtain ⟨h2, hcl, o2, b2⟩ := clearB B1.blk Sc (by omega)
  have e2 : (patch M1 (at_ + (t - f)) (List.replicate n 0)).length = M1.length := patch_len (by rw [List.length_replicate]; omega)
  have B2 := B1.mem o2 b2 e2
  have ml2 := B2.c2.load
  obtain ⟨h3, hs2, o3, B3⟩ := B2.put2 (t' := at_ + (t - f) + n) (by omega) (by omega)
  have hcon := cut_eq (M := M1) (f := at_) (t := at_ + (t - f)) (n := n) (by omega) (by omega)
  rw [hc1] at hcon
  have fr : Fr (fun n => n = p ∨ n = nm) h h3 := (f1.trans (o2.fr (.inr rfl))).trans (o3.fr (.inl rfl))
  repeat' (first
    | refine wc_seq ?_
    | (refine wc_region rfl ?_; simp only [oUn_not, beq_self_eq_true, eq_self, pv_mul, List.toList_toArray, opsA_cons, opsA_nil, wantedA, guardA, yieldA, stepA_t, stepA_f, callA, calleeA, targetA, runOp_c, runOp_n, opA, ev, evs, evo, consO, consOO, withH, pickA, afterA_s, putA, T.get_put, Nat.reduceEqDiff, reduceIte, List.getElem?_toArray, List.getElem?_cons_zero, List.getElem?_cons_succ, oBuiltin, oBin, binA, binG, binL, aggO, litA, intA, ltF_eq, eqF_eq, oIndexAddr, cond_true, cond_false, Bool.not_true, Bool.not_false, decide_true, decide_false, blt_eq, tt_beq, tf_beq, ft_beq, ff_beq, Bool.and_true, Bool.true_and, Option.some.injEq, I, Bo, addI, subI, oExtract, Bool.not_eq_true', fieldAddrA, oFieldAddr, oLoad, oStore, isAggD, aggH, oneH, skipH, Nat.add_eq_left, Nat.left_eq_add, Nat.succ_ne_self, fieldA, partA, cellsOf, List.length_cons, List.length_nil, Nat.reduceAdd, Nat.zero_add, Nat.add_zero, Nat.mul_one, Nat.reduceMul, nbeq_self, onesA_cons', onesA_nil, oneA, Value.oneCell', Nat.reduceLT, ty3, ti3, ty22, ti22, ty25, ti25, ty39, ti39, a0, a1, a2, l0, l1, l2, w1, hsc, hcl, ml2, hs2, oSlice, eqA, eqD, eqOp, nilCheckA]; refine ⟨_, _, rfl, ?_⟩)
    | (refine wc_cond (by simp only [oUn_not, beq_self_eq_true, eq_self, pv_mul, List.toList_toArray, opsA_cons, opsA_nil, wantedA, guardA, yieldA, stepA_t, stepA_f, callA, calleeA, targetA, runOp_c, runOp_n, opA, ev, evs, evo, consO, consOO, withH, pickA, afterA_s, putA, T.get_put, Nat.reduceEqDiff, reduceIte, List.getElem?_toArray, List.getElem?_cons_zero, List.getElem?_cons_succ, oBuiltin, oBin, binA, binG, binL, aggO, litA, intA, ltF_eq, eqF_eq, oIndexAddr, cond_true, cond_false, Bool.not_true, Bool.not_false, decide_true, decide_false, blt_eq, tt_beq, tf_beq, ft_beq, ff_beq, Bool.and_true, Bool.true_and, Option.some.injEq, I, Bo, addI, subI, oExtract, Bool.not_eq_true', fieldAddrA, oFieldAddr, oLoad, oStore, isAggD, aggH, oneH, skipH, Nat.add_eq_left, Nat.left_eq_add, Nat.succ_ne_self, fieldA, partA, cellsOf, List.length_cons, List.length_nil, Nat.reduceAdd, Nat.zero_add, Nat.add_zero, Nat.mul_one, Nat.reduceMul, nbeq_self, onesA_cons', onesA_nil, oneA, Value.oneCell', Nat.reduceLT, ty3, ti3, ty22, ti22, ty25, ti25, ty39, ti39, a0, a1, a2, l0, l1, l2, w1, hsc, hcl, ml2, hs2, oSlice, eqA, eqD, eqOp, nilCheckA]; rfl) ?_ ?_ <;> intro hb <;> first | (exfalso; exact Bool.noConfusion hb) | skip)
    | refine wc_block ?_
    | refine wc_skip ?_
    | refine wc_scope (by decide) ?_
    | refine wc_label ?_
    | refine wc_exit ?_
    | refine wc_ret ?_
    | refine wv_ret (by simp only [resA, resOne]; simp only [oUn_not, beq_self_eq_true, eq_self, pv_mul, List.toList_toArray, opsA_cons, opsA_nil, wantedA, guardA, yieldA, stepA_t, stepA_f, callA, calleeA, targetA, runOp_c, runOp_n, opA, ev, evs, evo, consO, consOO, withH, pickA, afterA_s, putA, T.get_put, Nat.reduceEqDiff, reduceIte, List.getElem?_toArray, List.getElem?_cons_zero, List.getElem?_cons_succ, oBuiltin, oBin, binA, binG, binL, aggO, litA, intA, ltF_eq, eqF_eq, oIndexAddr, cond_true, cond_false, Bool.not_true, Bool.not_false, decide_true, decide_false, blt_eq, tt_beq, tf_beq, ft_beq, ff_beq, Bool.and_true, Bool.true_and, Option.some.injEq, I, Bo, addI, subI, oExtract, Bool.not_eq_true', fieldAddrA, oFieldAddr, oLoad, oStore, isAggD, aggH, oneH, skipH, Nat.add_eq_left, Nat.left_eq_add, Nat.succ_ne_self, fieldA, partA, cellsOf, List.length_cons, List.length_nil, Nat.reduceAdd, Nat.zero_add, Nat.add_zero, Nat.mul_one, Nat.reduceMul, nbeq_self, onesA_cons', onesA_nil, oneA, Value.oneCell', Nat.reduceLT, ty3, ti3, ty22, ti22, ty25, ti25, ty39, ti39, a0, a1, a2, l0, l1, l2, w1, hsc, hcl, ml2, hs2, oSlice, eqA, eqD, eqOp, nilCheckA]; rfl) ?_)
  all_goals exact ⟨_, _, B3, by rw [e2, e1], hcon, fr⟩
set_option maxHeartbeats 4000000 in
theorem c25a (d : Nat) (h : Hp) (p nm : Nat) (M : List Int) (f t n : Nat) (b : Buf h p nm M f t) (hn : n ≤ t - f) : Wv (runA ctx 5000 (d + 2) 25 [.ptr p 0, I (Int.ofNat n)] h) (fun _ h' => ∃ nm' M' t', Buf h' p nm' M' f t' ∧ con M' f t' = con M f t ∧ n ≤ t' - f ∧ (nm' = nm ∨ h.c ≤ nm') ∧ Fr (fun k => k = p) h h') := by
  have q1 := b.le1
  have q2 := b.le2
  have q3 := b.sm
  have q4 := b.len
  have l0 := b.c0.load
  have l1 := b.c1.load
  have l2 := b.c2.load
  have w0 : IntKind.wrap .i64 (Int.ofNat t - Int.ofNat f) = Int.ofNat (t - f) := by rw [IntKind.wrap_i64]; simp only [Int.ofNat_eq_natCast]; omega
  have z1 : (!decide (Int.ofNat (t - f) < Int.ofNat n)) = true := by simp; omega
  refine wv_run fn25 rfl ?_
  have a0 : (enterEnv [.ptr p 0, I (Int.ofNat n)] Try.f25.ntmps).get 0 = some (.ptr p 0) := enter_get1 _ _ _
  have a1 : (enterEnv [.ptr p 0, I (Int.ofNat n)] Try.f25.ntmps).get 1 = some (I (Int.ofNat n)) := enter_get2 _ _ _ _
  generalize enterEnv [.ptr p 0, I (Int.ofNat n)] Try.f25.ntmps = e at a0 a1 ⊢
  unfold Try.f25
  dsimp only
  repeat' (first
    | refine wc_seq ?_
    | (refine wc_region rfl ?_; simp only [oUn_not, beq_self_eq_true, eq_self, pv_mul, List.toList_toArray, opsA_cons, opsA_nil, wantedA, guardA, yieldA, stepA_t, stepA_f, callA, calleeA, targetA, runOp_c, runOp_n, opA, ev, evs, evo, consO, consOO, withH, pickA, afterA_s, putA, T.get_put, Nat.reduceEqDiff, reduceIte, List.getElem?_toArray, List.getElem?_cons_zero, List.getElem?_cons_succ, oBuiltin, oBin, binA, binG, binL, aggO, litA, intA, ltF_eq, eqF_eq, oIndexAddr, cond_true, cond_false, Bool.not_true, Bool.not_false, decide_true, decide_false, blt_eq, tt_beq, tf_beq, ft_beq, ff_beq, Bool.and_true, Bool.true_and, Option.some.injEq, I, Bo, addI, subI, oExtract, Bool.not_eq_true', fieldAddrA, oFieldAddr, oLoad, oStore, isAggD, aggH, oneH, skipH, Nat.add_eq_left, Nat.left_eq_add, Nat.succ_ne_self, fieldA, partA, cellsOf, List.length_cons, List.length_nil, Nat.reduceAdd, Nat.zero_add, Nat.add_zero, Nat.mul_one, Nat.reduceMul, nbeq_self, onesA_cons', onesA_nil, oneA, Value.oneCell', Nat.reduceLT, ty3, ti3, ty22, ti22, ty25, ti25, ty39, ti39, a0, a1, l0, l1, l2, w0, z1, eqA, eqD, eqOp, nilCheckA]; refine ⟨_, _, rfl, ?_⟩)
    | (refine wc_cond (by simp only [oUn_not, beq_self_eq_true, eq_self, pv_mul, List.toList_toArray, opsA_cons, opsA_nil, wantedA, guardA, yieldA, stepA_t, stepA_f, callA, calleeA, targetA, runOp_c, runOp_n, opA, ev, evs, evo, consO, consOO, withH, pickA, afterA_s, putA, T.get_put, Nat.reduceEqDiff, reduceIte, List.getElem?_toArray, List.getElem?_cons_zero, List.getElem?_cons_succ, oBuiltin, oBin, binA, binG, binL, aggO, litA, intA, ltF_eq, eqF_eq, oIndexAddr, cond_true, cond_false, Bool.not_true, Bool.not_false, decide_true, decide_false, blt_eq, tt_beq, tf_beq, ft_beq, ff_beq, Bool.and_true, Bool.true_and, Option.some.injEq, I, Bo, addI, subI, oExtract, Bool.not_eq_true', fieldAddrA, oFieldAddr, oLoad, oStore, isAggD, aggH, oneH, skipH, Nat.add_eq_left, Nat.left_eq_add, Nat.succ_ne_self, fieldA, partA, cellsOf, List.length_cons, List.length_nil, Nat.reduceAdd, Nat.zero_add, Nat.add_zero, Nat.mul_one, Nat.reduceMul, nbeq_self, onesA_cons', onesA_nil, oneA, Value.oneCell', Nat.reduceLT, ty3, ti3, ty22, ti22, ty25, ti25, ty39, ti39, a0, a1, l0, l1, l2, w0, z1, eqA, eqD, eqOp, nilCheckA]; rfl) ?_ ?_ <;> intro hb <;> first | (exfalso; exact Bool.noConfusion hb) | skip)
    | refine wc_block ?_
    | refine wc_skip ?_
    | refine wc_scope (by decide) ?_
    | refine wc_label ?_
    | refine wc_exit ?_
    | refine wc_ret ?_
    | refine wv_ret (by simp only [resA, resOne]; simp only [oUn_not, beq_self_eq_true, eq_self, pv_mul, List.toList_toArray, opsA_cons, opsA_nil, wantedA, guardA, yieldA, stepA_t, stepA_f, callA, calleeA, targetA, runOp_c, runOp_n, opA, ev, evs, evo, consO, consOO, withH, pickA, afterA_s, putA, T.get_put, Nat.reduceEqDiff, reduceIte, List.getElem?_toArray, List.getElem?_cons_zero, List.getElem?_cons_succ, oBuiltin, oBin, binA, binG, binL, aggO, litA, intA, ltF_eq, eqF_eq, oIndexAddr, cond_true, cond_false, Bool.not_true, Bool.not_false, decide_true, decide_false, blt_eq, tt_beq, tf_beq, ft_beq, ff_beq, Bool.and_true, Bool.true_and, Option.some.injEq, I, Bo, addI, subI, oExtract, Bool.not_eq_true', fieldAddrA, oFieldAddr, oLoad, oStore, isAggD, aggH, oneH, skipH, Nat.add_eq_left, Nat.left_eq_add, Nat.succ_ne_self, fieldA, partA, cellsOf, List.length_cons, List.length_nil, Nat.reduceAdd, Nat.zero_add, Nat.add_zero, Nat.mul_one, Nat.reduceMul, nbeq_self, onesA_cons', onesA_nil, oneA, Value.oneCell', Nat.reduceLT, ty3, ti3, ty22, ti22, ty25, ti25, ty39, ti39, a0, a1, l0, l1, l2, w0, z1, eqA, eqD, eqOp, nilCheckA]; rfl) ?_)
  all_goals exact ⟨nm, M, t, b, rfl, hn, .inl rfl, Fr.refl _ _⟩
set_option maxHeartbeats 4000000 in
theorem c25e (d : Nat) (h : Hp) (p nm : Nat) (M : List Int) (f t n : Nat) (b : Buf h p nm M f t) (hn : t - f < n) (hs : (con M f t).length + n ≤ 4096) : Wv (runA ctx 5000 (d + 2) 25 [.ptr p 0, I (Int.ofNat n)] h) (fun _ h' => ∃ nm' M' t', Buf h' p nm' M' f t' ∧ con M' f t' = con M f t ∧ n ≤ t' - f ∧ (nm' = nm ∨ h.c ≤ nm') ∧ Fr (fun k => k = p) h h') := by
  have q1 := b.le1
  have q2 := b.le2
  have q3 := b.sm
  have q4 := b.len
  have l0 := b.c0.load
  have l1 := b.c1.load
  have l2 := b.c2.load
  have w0 : IntKind.wrap .i64 (Int.ofNat t - Int.ofNat f) = Int.ofNat (t - f) := by rw [IntKind.wrap_i64]; simp only [Int.ofNat_eq_natCast]; omega
  have z1 : (!decide (Int.ofNat (t - f) < Int.ofNat n)) = false := by simp; omega
  have q11 : runA ctx 5000 (d + 1) 11 [.ptr p 0] h = some (I (Int.ofNat (M.length - (t - f))), h) := by rw [← q4]; exact c11 d h p nm M f t b
  have qq : pureV (binOp .quo 3 (.int .i64 (Int.ofNat (M.length - (t - f)))) (.int .i64 2)) = some (I (Int.ofNat ((M.length - (t - f)) / 2))) := by
    rw [pv_quo 3 (by decide)]
    show some (I (IntKind.wrap .i64 (Int.ofNat ((M.length - (t - f)) / 2)))) = _
    rw [show IntKind.wrap .i64 (Int.ofNat ((M.length - (t - f)) / 2)) = Int.ofNat ((M.length - (t - f)) / 2) by rw [IntKind.wrap_i64]; simp only [Int.ofNat_eq_natCast]; omega]
  generalize hN : M.length - (t - f) = N at *
  have w1 : IntKind.wrap .i64 (Int.ofNat n + Int.ofNat (N / 2)) = Int.ofNat (n + N / 2) := by rw [IntKind.wrap_i64]; simp only [Int.ofNat_eq_natCast]; omega
  generalize hMo : n + N / 2 = more at *
  have w2 : IntKind.wrap .i64 (Int.ofNat N + Int.ofNat more) = Int.ofNat (N + more) := by rw [IntKind.wrap_i64]; simp only [Int.ofNat_eq_natCast]; omega
  have w3 : IntKind.wrap .i64 (Int.ofNat f + Int.ofNat more) = Int.ofNat (f + more) := by rw [IntKind.wrap_i64]; simp only [Int.ofNat_eq_natCast]; omega
  obtain ⟨h1, hmk, x1, k1, g1⟩ := mkB (h := h) (n := N + more) (by omega)
  have B1 := b.ext x1
  obtain ⟨sa, hsa, Sa⟩ := slT (nm := nm) (n := M.length) (b := f) (by omega)
  have em : min f (N + more) = f := by omega
  have l1' : (M.take f).length = f := by rw [List.length_take]; omega
  obtain ⟨h2, hcp, o2, g2⟩ := copyB g1 (Sl.whole h.c (N + more) (N + more)) (by rw [List.length_replicate]; omega) Sa.len (xs := M.take f) (by rw [em]; have := Sa.elems B1.blk (m := f) (by omega) (Nat.le_refl _); rwa [List.drop_zero] at this) (by rw [em]; exact l1')
  have e2 : (patch (List.replicate (N + more) (0 : Int)) 0 (M.take f)).length = N + more := by rw [patch_len (by rw [l1', List.length_replicate]; omega), List.length_replicate]
  have hpc := b.lt
  have hnc := b.blk.lt
  have B2 := B1.fr (o2.fr (P := fun k => k = h.c) rfl) (by omega) (by omega)
  obtain ⟨sb, hsb, Sb⟩ := slF (nm := nm) (n := M.length) (a := t) q2
  obtain ⟨sc, hsc, Sc⟩ := slF (nm := h.c) (n := N + more) (a := f + more) (by omega)
  have em2 : min (M.length - t) (N + more - (f + more)) = M.length - t := by omega
  obtain ⟨h3, hcp2, o3, g3⟩ := copyB g2 Sc (by rw [e2]; omega) Sb.len (xs := M.drop t) (by rw [em2]; have := Sb.elems B2.blk (m := M.length - t) (by omega) (Nat.le_refl _); rwa [List.take_of_length_le (by rw [List.length_drop]; omega)] at this) (by rw [em2]; exact List.length_drop)
  have e3 : (patch (patch (List.replicate (N + more) (0 : Int)) 0 (M.take f)) (f + more) (M.drop t)).length = N + more := by rw [patch_len (by rw [e2, List.length_drop]; omega), e2]
  have B3 := B2.fr (o3.fr (P := fun k => k = h.c) rfl) (by omega) (by omega)
  have hcon := grow_eq (M := M) (f := f) (t := t) (more := more) q1 q2
  rw [hN] at hcon
  generalize hM3 : patch (patch (List.replicate (N + more) (0 : Int)) 0 (M.take f)) (f + more) (M.drop t) = M3 at *
  have ml0 := B1.c0.load
  have ml1 := B1.c1.load
  have ml2 := B1.c2.load
  have nl0 := B2.c0.load
  have nl1 := B2.c1.load
  have nl2 := B2.c2.load
  have pl1 := B3.c1.load
  obtain ⟨h4, hs1, s4⟩ := B3.c0.store (w := .slice h.c 0 (N + more) false (N + more) 0) rfl
  obtain ⟨h5, hs2, s5⟩ := (s4.others _ _ _ (.inr (by omega)) B3.c2).store (w := I (Int.ofNat (f + more))) rfl
  have k4 := s4.c
  have k5 := s5.c
  have k2 := o2.c
  have k3 := o3.c
  have hne : h.c ≠ p := by omega
  have B5 : Buf h5 p h.c M3 f (f + more) := ⟨by omega, hne, by rw [e3]; exact s5.others _ _ _ (.inr (by omega)) s4.own, s5.others _ _ _ (.inr (by omega)) (s4.others _ _ _ (.inr (by omega)) B3.c1), s5.own, (g3.only s4.only hne).only s5.only hne, by omega, by rw [e3]; omega, by rw [e3]; omega⟩
  have fr : Fr (fun k => k = p) h h5 := by
    have y3 : Ext h h3 := Fr.from x1 ((o2.trans o3).fr (P := fun k => k = h.c) rfl) (fun k e => by omega)
    exact ((y3.fr (fun k => k = p)).trans (s4.only.fr (P := fun k => k = p) rfl)).trans (s5.only.fr (P := fun k => k = p) rfl)
  refine wv_run fn25 rfl ?_
  have a0 : (enterEnv [.ptr p 0, I (Int.ofNat n)] Try.f25.ntmps).get 0 = some (.ptr p 0) := enter_get1 _ _ _
  have a1 : (enterEnv [.ptr p 0, I (Int.ofNat n)] Try.f25.ntmps).get 1 = some (I (Int.ofNat n)) := enter_get2 _ _ _ _
  generalize enterEnv [.ptr p 0, I (Int.ofNat n)] Try.f25.ntmps = e at a0 a1 ⊢
  unfold Try.f25
  dsimp only
  repeat' (first
    | refine wc_seq ?_
    | (refine wc_region rfl ?_; simp only [oUn_not, beq_self_eq_true, eq_self, pv_mul, List.toList_toArray, opsA_cons, opsA_nil, wantedA, guardA, yieldA, stepA_t, stepA_f, callA, calleeA, targetA, runOp_c, runOp_n, opA, ev, evs, evo, consO, consOO, withH, pickA, afterA_s, putA, T.get_put, Nat.reduceEqDiff, reduceIte, List.getElem?_toArray, List.getElem?_cons_zero, List.getElem?_cons_succ, oBuiltin, oBin, binA, binG, binL, aggO, litA, intA, ltF_eq, eqF_eq, oIndexAddr, cond_true, cond_false, Bool.not_true, Bool.not_false, decide_true, decide_false, blt_eq, tt_beq, tf_beq, ft_beq, ff_beq, Bool.and_true, Bool.true_and, Option.some.injEq, I, Bo, addI, subI, oExtract, Bool.not_eq_true', fieldAddrA, oFieldAddr, oLoad, oStore, isAggD, aggH, oneH, skipH, Nat.add_eq_left, Nat.left_eq_add, Nat.succ_ne_self, fieldA, partA, cellsOf, List.length_cons, List.length_nil, Nat.reduceAdd, Nat.zero_add, Nat.add_zero, Nat.mul_one, Nat.reduceMul, nbeq_self, onesA_cons', onesA_nil, oneA, Value.oneCell', Nat.reduceLT, ty3, ti3, ty22, ti22, ty25, ti25, ty39, ti39, a0, a1, l0, l1, l2, w0, z1, q11, qq, w1, w2, w3, hmk, hsa, hcp, hsb, hsc, hcp2, ml0, ml1, ml2, nl0, nl1, nl2, pl1, hs1, hs2, oSlice, oMakeSlice, eqA, eqD, eqOp, nilCheckA]; refine ⟨_, _, rfl, ?_⟩)
    | (refine wc_cond (by simp only [oUn_not, beq_self_eq_true, eq_self, pv_mul, List.toList_toArray, opsA_cons, opsA_nil, wantedA, guardA, yieldA, stepA_t, stepA_f, callA, calleeA, targetA, runOp_c, runOp_n, opA, ev, evs, evo, consO, consOO, withH, pickA, afterA_s, putA, T.get_put, Nat.reduceEqDiff, reduceIte, List.getElem?_toArray, List.getElem?_cons_zero, List.getElem?_cons_succ, oBuiltin, oBin, binA, binG, binL, aggO, litA, intA, ltF_eq, eqF_eq, oIndexAddr, cond_true, cond_false, Bool.not_true, Bool.not_false, decide_true, decide_false, blt_eq, tt_beq, tf_beq, ft_beq, ff_beq, Bool.and_true, Bool.true_and, Option.some.injEq, I, Bo, addI, subI, oExtract, Bool.not_eq_true', fieldAddrA, oFieldAddr, oLoad, oStore, isAggD, aggH, oneH, skipH, Nat.add_eq_left, Nat.left_eq_add, Nat.succ_ne_self, fieldA, partA, cellsOf, List.length_cons, List.length_nil, Nat.reduceAdd, Nat.zero_add, Nat.add_zero, Nat.mul_one, Nat.reduceMul, nbeq_self, onesA_cons', onesA_nil, oneA, Value.oneCell', Nat.reduceLT, ty3, ti3, ty22, ti22, ty25, ti25, ty39, ti39, a0, a1, l0, l1, l2, w0, z1, q11, qq, w1, w2, w3, hmk, hsa, hcp, hsb, hsc, hcp2, ml0, ml1, ml2, nl0, nl1, nl2, pl1, hs1, hs2, oSlice, oMakeSlice, eqA, eqD, eqOp, nilCheckA]; rfl) ?_ ?_ <;> intro hb <;> first | (exfalso; exact Bool.noConfusion hb) | skip)
    | refine wc_block ?_
    | refine wc_skip ?_
    | refine wc_scope (by decide) ?_
    | refine wc_label ?_
    | refine wc_exit ?_
    | refine wc_ret ?_
    | refine wv_ret (by simp only [resA, resOne]; simp only [oUn_not, beq_self_eq_true, eq_self, pv_mul, List.toList_toArray, opsA_cons, opsA_nil, wantedA, guardA, yieldA, stepA_t, stepA_f, callA, calleeA, targetA, runOp_c, runOp_n, opA, ev, evs, evo, consO, consOO, withH, pickA, afterA_s, putA, T.get_put, Nat.reduceEqDiff, reduceIte, List.getElem?_toArray, List.getElem?_cons_zero, List.getElem?_cons_succ, oBuiltin, oBin, binA, binG, binL, aggO, litA, intA, ltF_eq, eqF_eq, oIndexAddr, cond_true, cond_false, Bool.not_true, Bool.not_false, decide_true, decide_false, blt_eq, tt_beq, tf_beq, ft_beq, ff_beq, Bool.and_true, Bool.true_and, Option.some.injEq, I, Bo, addI, subI, oExtract, Bool.not_eq_true', fieldAddrA, oFieldAddr, oLoad, oStore, isAggD, aggH, oneH, skipH, Nat.add_eq_left, Nat.left_eq_add, Nat.succ_ne_self, fieldA, partA, cellsOf, List.length_cons, List.length_nil, Nat.reduceAdd, Nat.zero_add, Nat.add_zero, Nat.mul_one, Nat.reduceMul, nbeq_self, onesA_cons', onesA_nil, oneA, Value.oneCell', Nat.reduceLT, ty3, ti3, ty22, ti22, ty25, ti25, ty39, ti39, a0, a1, l0, l1, l2, w0, z1, q11, qq, w1, w2, w3, hmk, hsa, hcp, hsb, hsc, hcp2, ml0, ml1, ml2, nl0, nl1, nl2, pl1, hs1, hs2, oSlice, oMakeSlice, eqA, eqD, eqOp, nilCheckA]; rfl) ?_)
  all_goals exact ⟨h.c, M3, f + more, B5, hcon, by omega, .inr (Nat.le_refl _), fr⟩
theorem c25 (d : Nat) (h : Hp) (p nm : Nat) (M : List Int) (f t n : Nat) (b : Buf h p nm M f t) (hs : (con M f t).length + n ≤ 4096) : Wv (runA ctx 5000 (d + 2) 25 [.ptr p 0, I (Int.ofNat n)] h) (fun _ h' => ∃ nm' M' t', Buf h' p nm' M' f t' ∧ con M' f t' = con M f t ∧ n ≤ t' - f ∧ (nm' = nm ∨ h.c ≤ nm') ∧ Fr (fun k => k = p) h h') := by
  by_cases h0 : n ≤ t - f
  · exact c25a d h p nm M f t n b h0
  · exact c25e d h p nm M f t n b (by omega) hs
end Go.Proofs.Ytjfmimlmnllnjaa
