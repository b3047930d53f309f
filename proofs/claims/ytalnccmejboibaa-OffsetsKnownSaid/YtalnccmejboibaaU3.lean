import Derived.Test.YtalnccmejboibaaU2
import Derived.KernelRfl
namespace Go.Proofs.Ytalnccmejboibaa
open Go Go.Proofs Go.RowKit
set_option linter.unusedSimpArgs false
set_option linter.unusedVariables false
open Go.Proofs.Abs
/-- the rows of a list -/
def rwl (xs : List Int) : List (Int × Int) := (List.range xs.length).map fun j => (sm (xs.take j), xs[j]?.getD 0)
theorem rwl_len (xs : List Int) : (rwl xs).length = xs.length := by simp [rwl]
theorem rwl_at {xs : List Int} {k : Nat} {x : Int} (hx : xs[k]? = some x) : (rwl xs)[k]? = some (sm (xs.take k), x) := by
  have hk := (List.getElem?_eq_some_iff.1 hx).1
  unfold rwl
  rw [List.getElem?_map, List.getElem?_range hk]
  simp [hx]
theorem chk_ok {xs : List Int} (h : chkL xs = 0) : chkS 0 xs = 0 ∧ xs.length ≤ 4096 := by
  unfold chkL at h
  split at h
  · cases h
  · exact ⟨h, by omega⟩
theorem sm_all (xs : List Int) : sm (xs.take xs.length) = sm xs := by rw [List.take_length]
theorem sm_mono {xs : List Int} (h : chkS 0 xs = 0) {j k : Nat} (hjk : j ≤ k) : sm (xs.take j) ≤ sm (xs.take k) := by
  induction k with
  | zero => obtain rfl : j = 0 := by omega
            exact Int.le_refl _
  | succ k ih =>
    by_cases hj : j = k + 1
    · subst hj; exact Int.le_refl _
    · have h1 := ih (by omega)
      by_cases hk : k < xs.length
      · obtain ⟨x, hx⟩ := at_some hk
        have h2 := chkS_mem xs 0 h k x hx
        rw [sm_take hx]
        omega
      · have e1 : xs.take (k + 1) = xs := List.take_of_length_le (by omega)
        have e2 : xs.take k = xs := List.take_of_length_le (by omega)
        rw [e1]
        rw [e2] at h1
        exact h1
theorem rwl_ex {xs : List Int} (h : chkS 0 xs = 0) (ht : sm xs < 9007199254740992) : ExL (rwl xs) := by
  intro k p hp
  have hk := (List.getElem?_eq_some_iff.1 hp).1
  rw [rwl_len] at hk
  obtain ⟨x, hx⟩ := at_some hk
  rw [rwl_at hx] at hp
  cases hp
  have h1 := chkS_ok xs 0 (by omega) (by omega) h k
  have h2 := chkS_mem xs 0 h k x hx
  have h3 := sm_take hx
  have h4 := sm_mono h (show k + 1 ≤ xs.length by omega)
  rw [sm_all] at h4
  exact ⟨⟨h1.1, by dsimp only; omega⟩, h2.1, by dsimp only; omega⟩
theorem mk42 (h : Hp) {n : Nat} (hn : n ≤ 4096) : ∃ h1, makeSliceA ctx h 42 (I (n : Int)) (I (n : Int)) = some (.slice h.c 0 n false n 0, h1) ∧ Ext h h1 ∧ h1.c = h.c + 1 ∧ ∀ k, k < n → Cell h1 h.c k (.lit (.complex .f64 0 0)) :=
  make_cells ty42 rfl ty46 rfl rfl rfl rfl (Nat.le_refl _) (by omega)
theorem ownX_of {h : Hp} {ng : Nat} {ps : List (Int × Int)} (hn : ng < h.c) (hc : ∀ k x, ps[k]? = some x → Cell h ng k (CX x)) : OwnX h (.slice ng 0 ps.length false ps.length 0) ps :=
  ⟨by
    have := cells_isL (h := h) (nm := ng) (cap := ps.length) (z := 0) (r := false) (xs := ps.map CX) hn (fun k x hx => by
      rw [List.getElem?_map, Option.map_eq_some_iff] at hx
      obtain ⟨y, hy, rfl⟩ := hx
      exact hc k y hy)
    rwa [List.length_map] at this, fun h' => cap42 h'⟩
set_option maxHeartbeats 4000000 in
theorem c23 (d : Nat) (h : Hp) (v : AV) (xs : List Int) (hv : IsL h v (xs.map I)) (h0 : chkL xs = 0) : Wv (runA ctx 5000 (d + 2) 23 [v] h) (fun r h' => Ext h h' ∧ ((9007199254740992 ≤ sm xs ∧ r = .tup [nilS, I 13]) ∨
    (sm xs < 9007199254740992 ∧ ∃ ng, r = .tup [.slice ng 0 xs.length false xs.length 0, I 0] ∧ h.c ≤ ng ∧ ng < h'.c ∧ ∀ k x, (rwl xs)[k]? = some x → Cell h' ng k (CX x)))) := by
  obtain ⟨hc, hn⟩ := chk_ok h0
  have hl := len36 hv
  have q21 : Wv (runA ctx 5000 (d + 1) 21 [v] h) (fun r h' => ∃ nm, r = .tup [.slice nm 0 (xs.length + 1) false (xs.length + 1) 0, I 0] ∧ Ext h h' ∧ nm < h'.c ∧ Row1 h' nm 0 ((tpk xs xs.length).map I)) := by
    refine (c21 d h v xs hv).mono fun r h' hq => ?_
    obtain ⟨hx, ⟨h1, _⟩ | ⟨_, nm, hr, h1, _, h2⟩⟩ := hq
    · exact absurd h0 h1
    · exact ⟨nm, hr, hx, h1, h2⟩
  refine wv_run fn23 rfl ?_
  have a0 : (enterEnv [v] Try.f23.ntmps).get 0 = some (v) := enter_get1 _ _ _
  generalize enterEnv [v] Try.f23.ntmps = e at a0 ⊢
  unfold Try.f23
  dsimp only
  refine wc_seq ?_
  (refine wc_region rfl ?_; simp only [oUn_not, beq_self_eq_true, eq_self, pv_mul, List.toList_toArray, opsA_cons, opsA_nil, wantedA, guardA, yieldA, stepA_t, stepA_f, callA, calleeA, targetA, runOp_c, runOp_n, opA, ev, evs, evo, consO, consOO, withH, pickA, afterA_s, putA, T.get_put, Nat.reduceEqDiff, reduceIte, List.getElem?_toArray, List.getElem?_cons_zero, List.getElem?_cons_succ, oBuiltin, oBin, binA, binG, binL, aggO, litA, intA, ltF_eq, eqF_eq, oIndexAddr, cond_true, cond_false, Bool.not_true, Bool.not_false, decide_true, decide_false, blt_eq, tt_beq, tf_beq, ft_beq, ff_beq, Bool.and_true, Bool.true_and, Option.some.injEq, I, Bo, addI, subI, oExtract, Bool.not_eq_true', fieldAddrA, oFieldAddr, oStore, isAggD, aggH, oneH, skipH, Nat.add_eq_left, Nat.left_eq_add, Nat.succ_ne_self, fieldA, partA, cellsOf, List.length_cons, List.length_nil, Nat.reduceAdd, Nat.zero_add, Nat.add_zero, Nat.mul_one, Nat.reduceMul, nbeq_self, onesA_cons', onesA_nil, oneA, Value.oneCell', Nat.reduceLT, ty2, ti2, ty3, ti3, ty26, ti26, ty36, ti36, ty42, ti42, ty46, ti46, ty47, ti47, a0, hl]; refine ⟨_, _, rfl, ?_⟩)
  refine wc_seq ?_
  (refine wc_region rfl ?_; simp only [oUn_not, beq_self_eq_true, eq_self, pv_mul, List.toList_toArray, opsA_cons, opsA_nil, wantedA, guardA, yieldA, stepA_t, stepA_f, callA, calleeA, targetA, runOp_c, runOp_n, opA, ev, evs, evo, consO, consOO, withH, pickA, afterA_s, putA, T.get_put, Nat.reduceEqDiff, reduceIte, List.getElem?_toArray, List.getElem?_cons_zero, List.getElem?_cons_succ, oBuiltin, oBin, binA, binG, binL, aggO, litA, intA, ltF_eq, eqF_eq, oIndexAddr, cond_true, cond_false, Bool.not_true, Bool.not_false, decide_true, decide_false, blt_eq, tt_beq, tf_beq, ft_beq, ff_beq, Bool.and_true, Bool.true_and, Option.some.injEq, I, Bo, addI, subI, oExtract, Bool.not_eq_true', fieldAddrA, oFieldAddr, oStore, isAggD, aggH, oneH, skipH, Nat.add_eq_left, Nat.left_eq_add, Nat.succ_ne_self, fieldA, partA, cellsOf, List.length_cons, List.length_nil, Nat.reduceAdd, Nat.zero_add, Nat.add_zero, Nat.mul_one, Nat.reduceMul, nbeq_self, onesA_cons', onesA_nil, oneA, Value.oneCell', Nat.reduceLT, ty2, ti2, ty3, ti3, ty26, ti26, ty36, ti36, ty42, ti42, ty46, ti46, ty47, ti47, a0, hl]; refine wo_call (q21) ?_; rintro _ h1 ⟨nm, rfl, hx1, hnm, hrow⟩; simp only [oUn_not, beq_self_eq_true, eq_self, pv_mul, List.toList_toArray, opsA_cons, opsA_nil, wantedA, guardA, yieldA, stepA_t, stepA_f, callA, calleeA, targetA, runOp_c, runOp_n, opA, ev, evs, evo, consO, consOO, withH, pickA, afterA_s, putA, T.get_put, Nat.reduceEqDiff, reduceIte, List.getElem?_toArray, List.getElem?_cons_zero, List.getElem?_cons_succ, oBuiltin, oBin, binA, binG, binL, aggO, litA, intA, ltF_eq, eqF_eq, oIndexAddr, cond_true, cond_false, Bool.not_true, Bool.not_false, decide_true, decide_false, blt_eq, tt_beq, tf_beq, ft_beq, ff_beq, Bool.and_true, Bool.true_and, Option.some.injEq, I, Bo, addI, subI, oExtract, Bool.not_eq_true', fieldAddrA, oFieldAddr, oStore, isAggD, aggH, oneH, skipH, Nat.add_eq_left, Nat.left_eq_add, Nat.succ_ne_self, fieldA, partA, cellsOf, List.length_cons, List.length_nil, Nat.reduceAdd, Nat.zero_add, Nat.add_zero, Nat.mul_one, Nat.reduceMul, nbeq_self, onesA_cons', onesA_nil, oneA, Value.oneCell', Nat.reduceLT, ty2, ti2, ty3, ti3, ty26, ti26, ty36, ti36, ty42, ti42, ty46, ti46, ty47, ti47, a0, hl]; refine ⟨_, _, rfl, ?_⟩)
  have ht : IsL h1 (.slice nm 0 (xs.length + 1) false (xs.length + 1) 0) ((tpk xs xs.length).map I) := .inr ⟨nm, 0, false, xs.length + 1, 0, by rw [List.length_map, tpk_len], hnm, hrow⟩
  obtain ⟨pt, hpt, hlt⟩ := at36 ht (tpk_at xs (Nat.le_refl xs.length))
  have hlt := hlt h1 (Ext.refl _)
  rw [sm_all] at hlt
  simp only [ti2] at hlt
  have hpt : indexAddrA ctx 36 (.slice nm 0 (xs.length + 1) false (xs.length + 1) 0) (I (xs.length : Int)) = some pt := hpt
  by_cases hbig : 9007199254740992 ≤ sm xs
  · have g : decide (sm xs < 9007199254740992) = false := by simp; omega
    repeat' (first
      | refine wc_seq ?_
      | (refine wc_region rfl ?_; simp only [oUn_not, beq_self_eq_true, eq_self, pv_mul, List.toList_toArray, opsA_cons, opsA_nil, wantedA, guardA, yieldA, stepA_t, stepA_f, callA, calleeA, targetA, runOp_c, runOp_n, opA, ev, evs, evo, consO, consOO, withH, pickA, afterA_s, putA, T.get_put, Nat.reduceEqDiff, reduceIte, List.getElem?_toArray, List.getElem?_cons_zero, List.getElem?_cons_succ, oBuiltin, oBin, binA, binG, binL, aggO, litA, intA, ltF_eq, eqF_eq, oIndexAddr, cond_true, cond_false, Bool.not_true, Bool.not_false, decide_true, decide_false, blt_eq, tt_beq, tf_beq, ft_beq, ff_beq, Bool.and_true, Bool.true_and, Option.some.injEq, I, Bo, addI, subI, oExtract, Bool.not_eq_true', fieldAddrA, oFieldAddr, oStore, isAggD, aggH, oneH, skipH, Nat.add_eq_left, Nat.left_eq_add, Nat.succ_ne_self, fieldA, partA, cellsOf, List.length_cons, List.length_nil, Nat.reduceAdd, Nat.zero_add, Nat.add_zero, Nat.mul_one, Nat.reduceMul, nbeq_self, onesA_cons', onesA_nil, oneA, Value.oneCell', Nat.reduceLT, ty2, ti2, ty3, ti3, ty26, ti26, ty36, ti36, ty42, ti42, ty46, ti46, ty47, ti47, a0, hl, hpt, hlt, g]; refine ⟨_, _, rfl, ?_⟩)
      | (refine wc_cond (by simp only [oUn_not, beq_self_eq_true, eq_self, pv_mul, List.toList_toArray, opsA_cons, opsA_nil, wantedA, guardA, yieldA, stepA_t, stepA_f, callA, calleeA, targetA, runOp_c, runOp_n, opA, ev, evs, evo, consO, consOO, withH, pickA, afterA_s, putA, T.get_put, Nat.reduceEqDiff, reduceIte, List.getElem?_toArray, List.getElem?_cons_zero, List.getElem?_cons_succ, oBuiltin, oBin, binA, binG, binL, aggO, litA, intA, ltF_eq, eqF_eq, oIndexAddr, cond_true, cond_false, Bool.not_true, Bool.not_false, decide_true, decide_false, blt_eq, tt_beq, tf_beq, ft_beq, ff_beq, Bool.and_true, Bool.true_and, Option.some.injEq, I, Bo, addI, subI, oExtract, Bool.not_eq_true', fieldAddrA, oFieldAddr, oStore, isAggD, aggH, oneH, skipH, Nat.add_eq_left, Nat.left_eq_add, Nat.succ_ne_self, fieldA, partA, cellsOf, List.length_cons, List.length_nil, Nat.reduceAdd, Nat.zero_add, Nat.add_zero, Nat.mul_one, Nat.reduceMul, nbeq_self, onesA_cons', onesA_nil, oneA, Value.oneCell', Nat.reduceLT, ty2, ti2, ty3, ti3, ty26, ti26, ty36, ti36, ty42, ti42, ty46, ti46, ty47, ti47, a0, hl, hpt, hlt, g]; rfl) ?_ ?_ <;> intro hb <;> first | (exfalso; exact Bool.noConfusion hb) | skip)
      | refine wc_block ?_
      | refine wc_skip ?_
      | refine wc_scope (by decide) ?_
      | refine wc_label ?_
      | refine wc_exit ?_
      | refine wc_ret ?_
      | refine wv_ret (by simp only [resA, resOne]; simp only [oUn_not, beq_self_eq_true, eq_self, pv_mul, List.toList_toArray, opsA_cons, opsA_nil, wantedA, guardA, yieldA, stepA_t, stepA_f, callA, calleeA, targetA, runOp_c, runOp_n, opA, ev, evs, evo, consO, consOO, withH, pickA, afterA_s, putA, T.get_put, Nat.reduceEqDiff, reduceIte, List.getElem?_toArray, List.getElem?_cons_zero, List.getElem?_cons_succ, oBuiltin, oBin, binA, binG, binL, aggO, litA, intA, ltF_eq, eqF_eq, oIndexAddr, cond_true, cond_false, Bool.not_true, Bool.not_false, decide_true, decide_false, blt_eq, tt_beq, tf_beq, ft_beq, ff_beq, Bool.and_true, Bool.true_and, Option.some.injEq, I, Bo, addI, subI, oExtract, Bool.not_eq_true', fieldAddrA, oFieldAddr, oStore, isAggD, aggH, oneH, skipH, Nat.add_eq_left, Nat.left_eq_add, Nat.succ_ne_self, fieldA, partA, cellsOf, List.length_cons, List.length_nil, Nat.reduceAdd, Nat.zero_add, Nat.add_zero, Nat.mul_one, Nat.reduceMul, nbeq_self, onesA_cons', onesA_nil, oneA, Value.oneCell', Nat.reduceLT, ty2, ti2, ty3, ti3, ty26, ti26, ty36, ti36, ty42, ti42, ty46, ti46, ty47, ti47, a0, hl, hpt, hlt, g]; rfl) ?_)
    all_goals exact ⟨hx1, .inl ⟨hbig, rfl⟩⟩
  · have g : decide (sm xs < 9007199254740992) = true := by simp; omega
    obtain ⟨h2, hm, x2, k2, b2⟩ := mk42 h1 hn
    repeat' (first
      | refine wc_seq ?_
      | (refine wc_region rfl ?_; simp only [oUn_not, beq_self_eq_true, eq_self, pv_mul, List.toList_toArray, opsA_cons, opsA_nil, wantedA, guardA, yieldA, stepA_t, stepA_f, callA, calleeA, targetA, runOp_c, runOp_n, opA, ev, evs, evo, consO, consOO, withH, pickA, afterA_s, putA, T.get_put, Nat.reduceEqDiff, reduceIte, List.getElem?_toArray, List.getElem?_cons_zero, List.getElem?_cons_succ, oBuiltin, oBin, binA, binG, binL, aggO, litA, intA, ltF_eq, eqF_eq, oIndexAddr, cond_true, cond_false, Bool.not_true, Bool.not_false, decide_true, decide_false, blt_eq, tt_beq, tf_beq, ft_beq, ff_beq, Bool.and_true, Bool.true_and, Option.some.injEq, I, Bo, addI, subI, oExtract, Bool.not_eq_true', fieldAddrA, oFieldAddr, oStore, isAggD, aggH, oneH, skipH, Nat.add_eq_left, Nat.left_eq_add, Nat.succ_ne_self, fieldA, partA, cellsOf, List.length_cons, List.length_nil, Nat.reduceAdd, Nat.zero_add, Nat.add_zero, Nat.mul_one, Nat.reduceMul, nbeq_self, onesA_cons', onesA_nil, oneA, Value.oneCell', Nat.reduceLT, ty2, ti2, ty3, ti3, ty26, ti26, ty36, ti36, ty42, ti42, ty46, ti46, ty47, ti47, a0, hl, hpt, hlt, g, hm, oMakeSlice]; refine ⟨_, _, rfl, ?_⟩)
      | (refine wc_cond (by simp only [oUn_not, beq_self_eq_true, eq_self, pv_mul, List.toList_toArray, opsA_cons, opsA_nil, wantedA, guardA, yieldA, stepA_t, stepA_f, callA, calleeA, targetA, runOp_c, runOp_n, opA, ev, evs, evo, consO, consOO, withH, pickA, afterA_s, putA, T.get_put, Nat.reduceEqDiff, reduceIte, List.getElem?_toArray, List.getElem?_cons_zero, List.getElem?_cons_succ, oBuiltin, oBin, binA, binG, binL, aggO, litA, intA, ltF_eq, eqF_eq, oIndexAddr, cond_true, cond_false, Bool.not_true, Bool.not_false, decide_true, decide_false, blt_eq, tt_beq, tf_beq, ft_beq, ff_beq, Bool.and_true, Bool.true_and, Option.some.injEq, I, Bo, addI, subI, oExtract, Bool.not_eq_true', fieldAddrA, oFieldAddr, oStore, isAggD, aggH, oneH, skipH, Nat.add_eq_left, Nat.left_eq_add, Nat.succ_ne_self, fieldA, partA, cellsOf, List.length_cons, List.length_nil, Nat.reduceAdd, Nat.zero_add, Nat.add_zero, Nat.mul_one, Nat.reduceMul, nbeq_self, onesA_cons', onesA_nil, oneA, Value.oneCell', Nat.reduceLT, ty2, ti2, ty3, ti3, ty26, ti26, ty36, ti36, ty42, ti42, ty46, ti46, ty47, ti47, a0, hl, hpt, hlt, g, hm, oMakeSlice]; rfl) ?_ ?_ <;> intro hb <;> first | (exfalso; exact Bool.noConfusion hb) | skip)
      | refine wc_block ?_
      | refine wc_skip ?_
      | refine wc_scope (by decide) ?_
      | refine wc_label ?_
      | refine wc_exit ?_
      | refine wc_ret ?_
      | refine wv_ret (by simp only [resA, resOne]; simp only [oUn_not, beq_self_eq_true, eq_self, pv_mul, List.toList_toArray, opsA_cons, opsA_nil, wantedA, guardA, yieldA, stepA_t, stepA_f, callA, calleeA, targetA, runOp_c, runOp_n, opA, ev, evs, evo, consO, consOO, withH, pickA, afterA_s, putA, T.get_put, Nat.reduceEqDiff, reduceIte, List.getElem?_toArray, List.getElem?_cons_zero, List.getElem?_cons_succ, oBuiltin, oBin, binA, binG, binL, aggO, litA, intA, ltF_eq, eqF_eq, oIndexAddr, cond_true, cond_false, Bool.not_true, Bool.not_false, decide_true, decide_false, blt_eq, tt_beq, tf_beq, ft_beq, ff_beq, Bool.and_true, Bool.true_and, Option.some.injEq, I, Bo, addI, subI, oExtract, Bool.not_eq_true', fieldAddrA, oFieldAddr, oStore, isAggD, aggH, oneH, skipH, Nat.add_eq_left, Nat.left_eq_add, Nat.succ_ne_self, fieldA, partA, cellsOf, List.length_cons, List.length_nil, Nat.reduceAdd, Nat.zero_add, Nat.add_zero, Nat.mul_one, Nat.reduceMul, nbeq_self, onesA_cons', onesA_nil, oneA, Value.oneCell', Nat.reduceLT, ty2, ti2, ty3, ti3, ty26, ti26, ty36, ti36, ty42, ti42, ty46, ti46, ty47, ti47, a0, hl, hpt, hlt, g, hm, oMakeSlice]; rfl) ?_)
    refine wc_loop (fun m e h' => ∃ k, m = xs.length - k ∧ k ≤ xs.length ∧ e.get 4 = some (.slice nm 0 (xs.length + 1) false (xs.length + 1) 0) ∧ e.get 6 = some (.slice h1.c 0 xs.length false xs.length 0) ∧ e.get 26 = some v ∧ e.get 27 = some (I (xs.length : Int)) ∧ e.get 28 = some (I (Int.ofNat k)) ∧
      Only h1.c h2 h' ∧ (∀ j, k ≤ j → j < xs.length → Cell h' h1.c j (.lit (.complex .f64 0 0))) ∧ ∀ j x, j < k → (rwl xs)[j]? = some x → Cell h' h1.c j (CX x)) xs.length ?_ ⟨0, ?_⟩ ?_
    · omega
    · refine ⟨rfl, Nat.zero_le _, ?_, ?_, ?_, ?_, ?_, Only.refl _ _, fun j _ hj => b2 j hj, fun j x hj => absurd hj (Nat.not_lt_zero _)⟩
      all_goals simp only [oUn_not, beq_self_eq_true, eq_self, pv_mul, List.toList_toArray, opsA_cons, opsA_nil, wantedA, guardA, yieldA, stepA_t, stepA_f, callA, calleeA, targetA, runOp_c, runOp_n, opA, ev, evs, evo, consO, consOO, withH, pickA, afterA_s, putA, T.get_put, Nat.reduceEqDiff, reduceIte, List.getElem?_toArray, List.getElem?_cons_zero, List.getElem?_cons_succ, oBuiltin, oBin, binA, binG, binL, aggO, litA, intA, ltF_eq, eqF_eq, oIndexAddr, cond_true, cond_false, Bool.not_true, Bool.not_false, decide_true, decide_false, blt_eq, tt_beq, tf_beq, ft_beq, ff_beq, Bool.and_true, Bool.true_and, Option.some.injEq, I, Bo, addI, subI, oExtract, Bool.not_eq_true', fieldAddrA, oFieldAddr, oStore, isAggD, aggH, oneH, skipH, Nat.add_eq_left, Nat.left_eq_add, Nat.succ_ne_self, fieldA, partA, cellsOf, List.length_cons, List.length_nil, Nat.reduceAdd, Nat.zero_add, Nat.add_zero, Nat.mul_one, Nat.reduceMul, nbeq_self, onesA_cons', onesA_nil, oneA, Value.oneCell', Nat.reduceLT, ty2, ti2, ty3, ti3, ty26, ti26, ty36, ti36, ty42, ti42, ty46, ti46, ty47, ti47, a0, hl, hpt, hlt, g, hm, oMakeSlice]; try rfl
    · rintro m e h' ⟨k, rfl, hk, e4, e6, e26, e27, e28, ho, hz, hcs⟩
      have kk := ho.c
      by_cases hlt : k < xs.length
      · have c0 : decide (Int.ofNat k < (xs.length : Int)) = true := by simp; omega
        obtain ⟨x, hx⟩ := at_some hlt
        have hx12 : Ext h1 h' := Fr.from x2 (ho.fr (P := fun n => n = h1.c) rfl) (fun n e => by omega)
        obtain ⟨p, hp, hld⟩ := at36 hv hx
        have hld := hld h' (hx1.trans hx12)
        obtain ⟨p2, hp2, hld2⟩ := at36 ht (tpk_at xs (show k ≤ xs.length by omega))
        have hld2 := hld2 h' hx12
        simp only [ti2] at hld hld2
        have iy := ia42 (nm := h1.c) (off := 0) (cap := xs.length) (z := 0) (r := false) hlt
        rw [Nat.zero_add] at iy
        obtain ⟨h3, hst, s3⟩ := (hz k (Nat.le_refl _) hlt).store (w := Cx (sm (xs.take k)) x) rfl
        have hk1 : IntKind.wrap .i64 (Int.ofNat k + 1) = Int.ofNat (k + 1) := inc (by omega)
        repeat' (first
          | refine wc_seq ?_
          | (refine wc_region rfl ?_; simp only [oUn_not, beq_self_eq_true, eq_self, pv_mul, List.toList_toArray, opsA_cons, opsA_nil, wantedA, guardA, yieldA, stepA_t, stepA_f, callA, calleeA, targetA, runOp_c, runOp_n, opA, ev, evs, evo, consO, consOO, withH, pickA, afterA_s, putA, T.get_put, Nat.reduceEqDiff, reduceIte, List.getElem?_toArray, List.getElem?_cons_zero, List.getElem?_cons_succ, oBuiltin, oBin, binA, binG, binL, aggO, litA, intA, ltF_eq, eqF_eq, oIndexAddr, cond_true, cond_false, Bool.not_true, Bool.not_false, decide_true, decide_false, blt_eq, tt_beq, tf_beq, ft_beq, ff_beq, Bool.and_true, Bool.true_and, Option.some.injEq, I, Bo, addI, subI, oExtract, Bool.not_eq_true', fieldAddrA, oFieldAddr, oStore, isAggD, aggH, oneH, skipH, Nat.add_eq_left, Nat.left_eq_add, Nat.succ_ne_self, fieldA, partA, cellsOf, List.length_cons, List.length_nil, Nat.reduceAdd, Nat.zero_add, Nat.add_zero, Nat.mul_one, Nat.reduceMul, nbeq_self, onesA_cons', onesA_nil, oneA, Value.oneCell', Nat.reduceLT, ty2, ti2, ty3, ti3, ty26, ti26, ty36, ti36, ty42, ti42, ty46, ti46, ty47, ti47, e4, e6, e26, e27, e28, c0, hp, hld, hp2, hld2, iy, hst, hk1, cv_f, cx_mk, oConv]; refine ⟨_, _, rfl, ?_⟩)
          | (refine wc_cond (by simp only [oUn_not, beq_self_eq_true, eq_self, pv_mul, List.toList_toArray, opsA_cons, opsA_nil, wantedA, guardA, yieldA, stepA_t, stepA_f, callA, calleeA, targetA, runOp_c, runOp_n, opA, ev, evs, evo, consO, consOO, withH, pickA, afterA_s, putA, T.get_put, Nat.reduceEqDiff, reduceIte, List.getElem?_toArray, List.getElem?_cons_zero, List.getElem?_cons_succ, oBuiltin, oBin, binA, binG, binL, aggO, litA, intA, ltF_eq, eqF_eq, oIndexAddr, cond_true, cond_false, Bool.not_true, Bool.not_false, decide_true, decide_false, blt_eq, tt_beq, tf_beq, ft_beq, ff_beq, Bool.and_true, Bool.true_and, Option.some.injEq, I, Bo, addI, subI, oExtract, Bool.not_eq_true', fieldAddrA, oFieldAddr, oStore, isAggD, aggH, oneH, skipH, Nat.add_eq_left, Nat.left_eq_add, Nat.succ_ne_self, fieldA, partA, cellsOf, List.length_cons, List.length_nil, Nat.reduceAdd, Nat.zero_add, Nat.add_zero, Nat.mul_one, Nat.reduceMul, nbeq_self, onesA_cons', onesA_nil, oneA, Value.oneCell', Nat.reduceLT, ty2, ti2, ty3, ti3, ty26, ti26, ty36, ti36, ty42, ti42, ty46, ti46, ty47, ti47, e4, e6, e26, e27, e28, c0, hp, hld, hp2, hld2, iy, hst, hk1, cv_f, cx_mk, oConv]; rfl) ?_ ?_ <;> intro hb <;> first | (exfalso; exact Bool.noConfusion hb) | skip)
          | refine wc_block ?_
          | refine wc_skip ?_
          | refine wc_scope (by decide) ?_
          | refine wc_label ?_
          | refine wc_exit ?_
          | refine wc_ret ?_
          | refine wv_ret (by simp only [resA, resOne]; simp only [oUn_not, beq_self_eq_true, eq_self, pv_mul, List.toList_toArray, opsA_cons, opsA_nil, wantedA, guardA, yieldA, stepA_t, stepA_f, callA, calleeA, targetA, runOp_c, runOp_n, opA, ev, evs, evo, consO, consOO, withH, pickA, afterA_s, putA, T.get_put, Nat.reduceEqDiff, reduceIte, List.getElem?_toArray, List.getElem?_cons_zero, List.getElem?_cons_succ, oBuiltin, oBin, binA, binG, binL, aggO, litA, intA, ltF_eq, eqF_eq, oIndexAddr, cond_true, cond_false, Bool.not_true, Bool.not_false, decide_true, decide_false, blt_eq, tt_beq, tf_beq, ft_beq, ff_beq, Bool.and_true, Bool.true_and, Option.some.injEq, I, Bo, addI, subI, oExtract, Bool.not_eq_true', fieldAddrA, oFieldAddr, oStore, isAggD, aggH, oneH, skipH, Nat.add_eq_left, Nat.left_eq_add, Nat.succ_ne_self, fieldA, partA, cellsOf, List.length_cons, List.length_nil, Nat.reduceAdd, Nat.zero_add, Nat.add_zero, Nat.mul_one, Nat.reduceMul, nbeq_self, onesA_cons', onesA_nil, oneA, Value.oneCell', Nat.reduceLT, ty2, ti2, ty3, ti3, ty26, ti26, ty36, ti36, ty42, ti42, ty46, ti46, ty47, ti47, e4, e6, e26, e27, e28, c0, hp, hld, hp2, hld2, iy, hst, hk1, cv_f, cx_mk, oConv]; rfl) ?_)
        refine nx_next (xs.length - (k + 1)) (by omega) ⟨k + 1, rfl, hlt, ?_, ?_, ?_, ?_, ?_, ho.trans s3.only, fun j h1 h2 => s3.others _ _ _ (.inr (by omega)) (hz j (by omega) h2), fun j y hj hy => ?_⟩
        · simp only [oUn_not, beq_self_eq_true, eq_self, pv_mul, List.toList_toArray, opsA_cons, opsA_nil, wantedA, guardA, yieldA, stepA_t, stepA_f, callA, calleeA, targetA, runOp_c, runOp_n, opA, ev, evs, evo, consO, consOO, withH, pickA, afterA_s, putA, T.get_put, Nat.reduceEqDiff, reduceIte, List.getElem?_toArray, List.getElem?_cons_zero, List.getElem?_cons_succ, oBuiltin, oBin, binA, binG, binL, aggO, litA, intA, ltF_eq, eqF_eq, oIndexAddr, cond_true, cond_false, Bool.not_true, Bool.not_false, decide_true, decide_false, blt_eq, tt_beq, tf_beq, ft_beq, ff_beq, Bool.and_true, Bool.true_and, Option.some.injEq, I, Bo, addI, subI, oExtract, Bool.not_eq_true', fieldAddrA, oFieldAddr, oStore, isAggD, aggH, oneH, skipH, Nat.add_eq_left, Nat.left_eq_add, Nat.succ_ne_self, fieldA, partA, cellsOf, List.length_cons, List.length_nil, Nat.reduceAdd, Nat.zero_add, Nat.add_zero, Nat.mul_one, Nat.reduceMul, nbeq_self, onesA_cons', onesA_nil, oneA, Value.oneCell', Nat.reduceLT, ty2, ti2, ty3, ti3, ty26, ti26, ty36, ti36, ty42, ti42, ty46, ti46, ty47, ti47, e4, e6, e26, e27, e28, c0, hp, hld, hp2, hld2, iy, hst, hk1, cv_f, cx_mk, oConv]
        · simp only [oUn_not, beq_self_eq_true, eq_self, pv_mul, List.toList_toArray, opsA_cons, opsA_nil, wantedA, guardA, yieldA, stepA_t, stepA_f, callA, calleeA, targetA, runOp_c, runOp_n, opA, ev, evs, evo, consO, consOO, withH, pickA, afterA_s, putA, T.get_put, Nat.reduceEqDiff, reduceIte, List.getElem?_toArray, List.getElem?_cons_zero, List.getElem?_cons_succ, oBuiltin, oBin, binA, binG, binL, aggO, litA, intA, ltF_eq, eqF_eq, oIndexAddr, cond_true, cond_false, Bool.not_true, Bool.not_false, decide_true, decide_false, blt_eq, tt_beq, tf_beq, ft_beq, ff_beq, Bool.and_true, Bool.true_and, Option.some.injEq, I, Bo, addI, subI, oExtract, Bool.not_eq_true', fieldAddrA, oFieldAddr, oStore, isAggD, aggH, oneH, skipH, Nat.add_eq_left, Nat.left_eq_add, Nat.succ_ne_self, fieldA, partA, cellsOf, List.length_cons, List.length_nil, Nat.reduceAdd, Nat.zero_add, Nat.add_zero, Nat.mul_one, Nat.reduceMul, nbeq_self, onesA_cons', onesA_nil, oneA, Value.oneCell', Nat.reduceLT, ty2, ti2, ty3, ti3, ty26, ti26, ty36, ti36, ty42, ti42, ty46, ti46, ty47, ti47, e4, e6, e26, e27, e28, c0, hp, hld, hp2, hld2, iy, hst, hk1, cv_f, cx_mk, oConv]
        · simp only [oUn_not, beq_self_eq_true, eq_self, pv_mul, List.toList_toArray, opsA_cons, opsA_nil, wantedA, guardA, yieldA, stepA_t, stepA_f, callA, calleeA, targetA, runOp_c, runOp_n, opA, ev, evs, evo, consO, consOO, withH, pickA, afterA_s, putA, T.get_put, Nat.reduceEqDiff, reduceIte, List.getElem?_toArray, List.getElem?_cons_zero, List.getElem?_cons_succ, oBuiltin, oBin, binA, binG, binL, aggO, litA, intA, ltF_eq, eqF_eq, oIndexAddr, cond_true, cond_false, Bool.not_true, Bool.not_false, decide_true, decide_false, blt_eq, tt_beq, tf_beq, ft_beq, ff_beq, Bool.and_true, Bool.true_and, Option.some.injEq, I, Bo, addI, subI, oExtract, Bool.not_eq_true', fieldAddrA, oFieldAddr, oStore, isAggD, aggH, oneH, skipH, Nat.add_eq_left, Nat.left_eq_add, Nat.succ_ne_self, fieldA, partA, cellsOf, List.length_cons, List.length_nil, Nat.reduceAdd, Nat.zero_add, Nat.add_zero, Nat.mul_one, Nat.reduceMul, nbeq_self, onesA_cons', onesA_nil, oneA, Value.oneCell', Nat.reduceLT, ty2, ti2, ty3, ti3, ty26, ti26, ty36, ti36, ty42, ti42, ty46, ti46, ty47, ti47, e4, e6, e26, e27, e28, c0, hp, hld, hp2, hld2, iy, hst, hk1, cv_f, cx_mk, oConv]
        · simp only [oUn_not, beq_self_eq_true, eq_self, pv_mul, List.toList_toArray, opsA_cons, opsA_nil, wantedA, guardA, yieldA, stepA_t, stepA_f, callA, calleeA, targetA, runOp_c, runOp_n, opA, ev, evs, evo, consO, consOO, withH, pickA, afterA_s, putA, T.get_put, Nat.reduceEqDiff, reduceIte, List.getElem?_toArray, List.getElem?_cons_zero, List.getElem?_cons_succ, oBuiltin, oBin, binA, binG, binL, aggO, litA, intA, ltF_eq, eqF_eq, oIndexAddr, cond_true, cond_false, Bool.not_true, Bool.not_false, decide_true, decide_false, blt_eq, tt_beq, tf_beq, ft_beq, ff_beq, Bool.and_true, Bool.true_and, Option.some.injEq, I, Bo, addI, subI, oExtract, Bool.not_eq_true', fieldAddrA, oFieldAddr, oStore, isAggD, aggH, oneH, skipH, Nat.add_eq_left, Nat.left_eq_add, Nat.succ_ne_self, fieldA, partA, cellsOf, List.length_cons, List.length_nil, Nat.reduceAdd, Nat.zero_add, Nat.add_zero, Nat.mul_one, Nat.reduceMul, nbeq_self, onesA_cons', onesA_nil, oneA, Value.oneCell', Nat.reduceLT, ty2, ti2, ty3, ti3, ty26, ti26, ty36, ti36, ty42, ti42, ty46, ti46, ty47, ti47, e4, e6, e26, e27, e28, c0, hp, hld, hp2, hld2, iy, hst, hk1, cv_f, cx_mk, oConv]
        · simp only [oUn_not, beq_self_eq_true, eq_self, pv_mul, List.toList_toArray, opsA_cons, opsA_nil, wantedA, guardA, yieldA, stepA_t, stepA_f, callA, calleeA, targetA, runOp_c, runOp_n, opA, ev, evs, evo, consO, consOO, withH, pickA, afterA_s, putA, T.get_put, Nat.reduceEqDiff, reduceIte, List.getElem?_toArray, List.getElem?_cons_zero, List.getElem?_cons_succ, oBuiltin, oBin, binA, binG, binL, aggO, litA, intA, ltF_eq, eqF_eq, oIndexAddr, cond_true, cond_false, Bool.not_true, Bool.not_false, decide_true, decide_false, blt_eq, tt_beq, tf_beq, ft_beq, ff_beq, Bool.and_true, Bool.true_and, Option.some.injEq, I, Bo, addI, subI, oExtract, Bool.not_eq_true', fieldAddrA, oFieldAddr, oStore, isAggD, aggH, oneH, skipH, Nat.add_eq_left, Nat.left_eq_add, Nat.succ_ne_self, fieldA, partA, cellsOf, List.length_cons, List.length_nil, Nat.reduceAdd, Nat.zero_add, Nat.add_zero, Nat.mul_one, Nat.reduceMul, nbeq_self, onesA_cons', onesA_nil, oneA, Value.oneCell', Nat.reduceLT, ty2, ti2, ty3, ti3, ty26, ti26, ty36, ti36, ty42, ti42, ty46, ti46, ty47, ti47, e4, e6, e26, e27, e28, c0, hp, hld, hp2, hld2, iy, hst, hk1, cv_f, cx_mk, oConv]
        · by_cases hjk : j = k
          · subst hjk
            rw [rwl_at hx] at hy
            cases hy
            exact s3.own
          · exact s3.others _ _ _ (.inr hjk) (hcs j y (by omega) hy)
      · have c0 : decide (Int.ofNat k < (xs.length : Int)) = false := by simp; omega
        repeat' (first
          | refine wc_seq ?_
          | (refine wc_region rfl ?_; simp only [oUn_not, beq_self_eq_true, eq_self, pv_mul, List.toList_toArray, opsA_cons, opsA_nil, wantedA, guardA, yieldA, stepA_t, stepA_f, callA, calleeA, targetA, runOp_c, runOp_n, opA, ev, evs, evo, consO, consOO, withH, pickA, afterA_s, putA, T.get_put, Nat.reduceEqDiff, reduceIte, List.getElem?_toArray, List.getElem?_cons_zero, List.getElem?_cons_succ, oBuiltin, oBin, binA, binG, binL, aggO, litA, intA, ltF_eq, eqF_eq, oIndexAddr, cond_true, cond_false, Bool.not_true, Bool.not_false, decide_true, decide_false, blt_eq, tt_beq, tf_beq, ft_beq, ff_beq, Bool.and_true, Bool.true_and, Option.some.injEq, I, Bo, addI, subI, oExtract, Bool.not_eq_true', fieldAddrA, oFieldAddr, oStore, isAggD, aggH, oneH, skipH, Nat.add_eq_left, Nat.left_eq_add, Nat.succ_ne_self, fieldA, partA, cellsOf, List.length_cons, List.length_nil, Nat.reduceAdd, Nat.zero_add, Nat.add_zero, Nat.mul_one, Nat.reduceMul, nbeq_self, onesA_cons', onesA_nil, oneA, Value.oneCell', Nat.reduceLT, ty2, ti2, ty3, ti3, ty26, ti26, ty36, ti36, ty42, ti42, ty46, ti46, ty47, ti47, e4, e6, e26, e27, e28, c0]; refine ⟨_, _, rfl, ?_⟩)
          | (refine wc_cond (by simp only [oUn_not, beq_self_eq_true, eq_self, pv_mul, List.toList_toArray, opsA_cons, opsA_nil, wantedA, guardA, yieldA, stepA_t, stepA_f, callA, calleeA, targetA, runOp_c, runOp_n, opA, ev, evs, evo, consO, consOO, withH, pickA, afterA_s, putA, T.get_put, Nat.reduceEqDiff, reduceIte, List.getElem?_toArray, List.getElem?_cons_zero, List.getElem?_cons_succ, oBuiltin, oBin, binA, binG, binL, aggO, litA, intA, ltF_eq, eqF_eq, oIndexAddr, cond_true, cond_false, Bool.not_true, Bool.not_false, decide_true, decide_false, blt_eq, tt_beq, tf_beq, ft_beq, ff_beq, Bool.and_true, Bool.true_and, Option.some.injEq, I, Bo, addI, subI, oExtract, Bool.not_eq_true', fieldAddrA, oFieldAddr, oStore, isAggD, aggH, oneH, skipH, Nat.add_eq_left, Nat.left_eq_add, Nat.succ_ne_self, fieldA, partA, cellsOf, List.length_cons, List.length_nil, Nat.reduceAdd, Nat.zero_add, Nat.add_zero, Nat.mul_one, Nat.reduceMul, nbeq_self, onesA_cons', onesA_nil, oneA, Value.oneCell', Nat.reduceLT, ty2, ti2, ty3, ti3, ty26, ti26, ty36, ti36, ty42, ti42, ty46, ti46, ty47, ti47, e4, e6, e26, e27, e28, c0]; rfl) ?_ ?_ <;> intro hb <;> first | (exfalso; exact Bool.noConfusion hb) | skip)
          | refine wc_block ?_
          | refine wc_skip ?_
          | refine wc_scope (by decide) ?_
          | refine wc_label ?_
          | refine wc_exit ?_
          | refine wc_ret ?_
          | refine wv_ret (by simp only [resA, resOne]; simp only [oUn_not, beq_self_eq_true, eq_self, pv_mul, List.toList_toArray, opsA_cons, opsA_nil, wantedA, guardA, yieldA, stepA_t, stepA_f, callA, calleeA, targetA, runOp_c, runOp_n, opA, ev, evs, evo, consO, consOO, withH, pickA, afterA_s, putA, T.get_put, Nat.reduceEqDiff, reduceIte, List.getElem?_toArray, List.getElem?_cons_zero, List.getElem?_cons_succ, oBuiltin, oBin, binA, binG, binL, aggO, litA, intA, ltF_eq, eqF_eq, oIndexAddr, cond_true, cond_false, Bool.not_true, Bool.not_false, decide_true, decide_false, blt_eq, tt_beq, tf_beq, ft_beq, ff_beq, Bool.and_true, Bool.true_and, Option.some.injEq, I, Bo, addI, subI, oExtract, Bool.not_eq_true', fieldAddrA, oFieldAddr, oStore, isAggD, aggH, oneH, skipH, Nat.add_eq_left, Nat.left_eq_add, Nat.succ_ne_self, fieldA, partA, cellsOf, List.length_cons, List.length_nil, Nat.reduceAdd, Nat.zero_add, Nat.add_zero, Nat.mul_one, Nat.reduceMul, nbeq_self, onesA_cons', onesA_nil, oneA, Value.oneCell', Nat.reduceLT, ty2, ti2, ty3, ti3, ty26, ti26, ty36, ti36, ty42, ti42, ty46, ti46, ty47, ti47, e4, e6, e26, e27, e28, c0]; rfl) ?_)
        refine ⟨hx1.trans (Fr.from x2 (ho.fr (P := fun n => n = h1.c) rfl) (fun n e => by omega)), .inr ⟨by omega, h1.c, rfl, hx1.c, by omega, fun j x hx => hcs j x ?_ hx⟩⟩
        have := (List.getElem?_eq_some_iff.1 hx).1
        rw [rwl_len] at this
        omega
end Go.Proofs.Ytalnccmejboibaa
