import Derived.Test.YtpioenfglmimgaaVQ
import Derived.KernelRfl
namespace Go.Proofs.Ytpioenfglmimgaa.Fw
open Go Go.Proofs Go.RowKit Go.Proofs.Abs Go.Proofs.Ytpioenfglmimgaa
set_option linter.unusedSimpArgs false
set_option linter.unusedVariables false

/-- the sizes that a tree has after the first k of them were put in -/
def cur (xs : List Int) (k : Nat) : List Int := xs.take k ++ List.replicate (xs.length - k) 0
theorem cur_len {xs : List Int} {k : Nat} (h : k ≤ xs.length) : (cur xs k).length = xs.length := by
  simp [cur]
  omega
theorem cur_at {xs : List Int} {k : Nat} (h : k < xs.length) : (cur xs k)[k]? = some 0 := by
  unfold cur
  rw [List.getElem?_append_right (by simp; omega), List.length_take, Nat.min_eq_left (by omega), Nat.sub_self, List.getElem?_replicate, if_pos (by omega)]
theorem cur_set {xs : List Int} {k : Nat} {y : Int} (h : xs[k]? = some y) : (cur xs k).set k y = cur xs (k + 1) := by
  have hk := (List.getElem?_eq_some_iff.1 h).1
  unfold cur
  rw [List.set_append_right _ _ (by simp; omega), List.length_take, Nat.min_eq_left (by omega), Nat.sub_self]
  obtain ⟨m, hm⟩ : ∃ m, xs.length - k = m + 1 := ⟨xs.length - k - 1, by omega⟩
  rw [hm, List.replicate_succ, List.set_cons_zero, take_at h, List.append_assoc, List.singleton_append, show xs.length - (k + 1) = m by omega]
theorem cur_all (xs : List Int) : cur xs xs.length = xs := by simp [cur]
theorem sm_rep (n : Nat) : sm (List.replicate n 0) = 0 := by
  induction n with
  | zero => rfl
  | succ n ih => rw [List.replicate_succ, sm, ih]; rfl
theorem cur_v {xs : List Int} {k : Nat} (v : V xs) (h : k ≤ xs.length) : V (cur xs k) := by
  refine ⟨fun j x hx => ?_, ?_⟩
  · unfold cur at hx
    rw [List.getElem?_append] at hx
    split at hx
    · rw [List.getElem?_take] at hx
      split at hx
      · exact v.nn j x hx
      · cases hx
    · rw [List.getElem?_replicate] at hx
      split at hx
      · cases hx; omega
      · cases hx
  · have h1 := pre_bound v k
    have h2 := v.le
    unfold cur
    rw [sm_append, sm_rep]
    unfold pre at h1
    omega
theorem cur0 (xs : List Int) : cur xs 0 = List.replicate xs.length 0 := by simp [cur]
theorem pre_rep (n k : Nat) : pre (List.replicate n 0) k = 0 := by
  unfold pre
  rw [List.take_replicate, sm_rep]
theorem bld52 (na nb n : Nat) : buildA ctx 71 [(0, Bo true), (1, .slice na 0 n false n 0), (2, .slice nb 0 n false n 0)] = some (.agg [Bo true, .slice na 0 n false n 0, .slice nb 0 n false n 0, I 0]) := by kernel_rfl
set_option maxHeartbeats 4000000 in
theorem fc11 (d : Nat) (h : Hp) (v : AV) (xs : List Int) (hv : IsL h v (xs.map I)) : Wv (runA ctx 5000 (d + 4) 14 [v] h) (fun r h' => Ext h h' ∧ ((chkL xs ≠ 0 ∧ r = .tup [.lit (.pointer none), I (chkL xs)]) ∨
    (chkL xs = 0 ∧ ∃ nm na nb, r = .tup [.ptr nm 0, I 0] ∧ Tr h' nm na nb xs ∧ h.c ≤ nm ∧ h.c ≤ na ∧ h.c ≤ nb))) := by
  have q12 := fc12 (d + 2) h v xs hv
  have hl := lenL hv
  refine wv_run fn14 rfl ?_
  have a0 : (enterEnv [v] Try.f14.ntmps).get 0 = some (v) := enter_get1 _ _ _
  generalize enterEnv [v] Try.f14.ntmps = e at a0 ⊢
  unfold Try.f14
  dsimp only
  by_cases h0 : chkL xs = 0
  · have g0 : (chkL xs == 0) = true := by rw [h0]; rfl
    have hn : xs.length ≤ 4096 := by
      have h9 := h0
      unfold chkL at h9
      split at h9 <;> omega
    obtain ⟨hV, hz, _⟩ := chk_v h0
    obtain ⟨h1, hm1, x1, k1, b1⟩ := mk22 h (n := xs.length) (by omega)
    obtain ⟨h2, hm2, x2, k2, b2⟩ := mk22 h1 (n := xs.length) (by omega)
    have bl := bld52 h.c h1.c xs.length
    obtain ⟨h3, hb3, x3, k3, b3⟩ := box_new h2 71 (.agg [Bo true, .slice h.c 0 xs.length false xs.length 0, .slice h1.c 0 xs.length false xs.length 0, I 0])
    have t3 : Tr h3 h2.c h.c h1.c (cur xs 0) := by
      rw [cur0]
      refine ⟨by omega, by omega, by omega, by omega, by omega, by omega, b3 0 _ rfl, ?_, ?_, ?_, ?_, ?_⟩
      · rw [List.length_replicate]; exact b3 1 _ rfl
      · rw [List.length_replicate]; exact b3 2 _ rfl
      · rw [sm_rep]; exact b3 3 _ rfl
      · intro k x hx
        rw [List.getElem?_replicate] at hx
        split at hx
        · cases hx
          exact x3.cell (by omega) (x2.cell (by omega) (b1 k (by assumption)))
        · cases hx
      · intro k hk
        rw [List.length_replicate] at hk
        unfold fs
        rw [pre_rep, pre_rep]
        exact x3.cell (by omega) (b2 k hk)
    have x03 := (x1.trans x2).trans x3
    repeat' (first
      | refine wc_seq ?_
      | (refine wc_region rfl ?_; simp only [eq_self, opsA_cons, opsA_nil, wantedA, stepA_t, callA, calleeA, targetA, runOp_c, runOp_n, opA, ev, evs, consO, consOO, withH, afterA_s, putA, T.get_put, Nat.reduceEqDiff, reduceIte, oBuiltin, oBin, binA, binG, binL, aggO, litA, intA, eqF_eq, Bool.not_true, I, Bo, Nat.succ_ne_self, a0, q12, hl, g0, hm1, hm2, bl, hb3, oMakeSlice, oBuild, evParts, consP]; refine ⟨_, _, rfl, ?_⟩)
      | (refine wc_cond (by simp only [eq_self, ev, T.get_put, Nat.reduceEqDiff, reduceIte, Option.some.injEq, Nat.succ_ne_self]; rfl) ?_ ?_ <;> intro hb <;> first | (exfalso; exact Bool.noConfusion hb) | skip)
      | refine wc_block ?_
      | refine wc_skip ?_)
    refine wc_loop (fun m e h' => ∃ k, m = xs.length - k ∧ k ≤ xs.length ∧ e.get 0 = some v ∧ e.get 5 = some (.ptr h2.c 0) ∧ e.get 21 = some (I (xs.length : Int)) ∧ e.get 22 = some (I (Int.ofNat k)) ∧ Ext h h' ∧ Tr h' h2.c h.c h1.c (cur xs k)) xs.length ?_ ⟨0, ?_⟩ ?_
    · omega
    · refine ⟨rfl, Nat.zero_le _, ?_, ?_, ?_, ?_, x03, t3⟩
      all_goals simp only [eq_self, T.get_put, Nat.reduceEqDiff, reduceIte, Option.some.injEq, I, Nat.succ_ne_self, a0]; try rfl
    · rintro m e h' ⟨k, rfl, hk, e0, e5, e21, e22, hx0, t⟩
      by_cases hlt : k < xs.length
      · have c0 : decide (Int.ofNat k < (xs.length : Int)) = true := by simp; omega
        obtain ⟨x, hx⟩ := at_some hlt
        obtain ⟨p, hp, hld⟩ := atL hv hx
        have hld := hld h' hx0
        simp only [ti2] at hld
        have hk1 : IntKind.wrap .i64 (Int.ofNat k + 1) = Int.ofNat (k + 1) := inc (by omega)
        have q24 := fc24 d h' k h2.c h.c h1.c (cur xs k) 0 x t (cur_at hlt) (by rw [cur_len hk]; exact hn) (cur_v hV hk) (by rw [cur_set hx]; exact cur_v hV hlt)
        rw [cur_set hx] at q24
        repeat' (first
          | refine wc_seq ?_
          | (refine wc_region rfl ?_; simp only [eq_self, opsA_cons, opsA_nil, wantedA, stepA_t, callA, calleeA, targetA, runOp_c, runOp_n, opA, ev, evs, consO, consOO, withH, afterA_s, putA, T.get_put, Nat.reduceEqDiff, reduceIte, oBin, binA, binG, binL, aggO, litA, intA, ltF_eq, oIndexAddr, I, addI, Nat.succ_ne_self, ty2, ti2, e0, e5, e21, e22, c0, hp, hld, hk1]; refine ⟨_, _, rfl, ?_⟩)
          | (refine wc_region rfl ?_; simp only [eq_self, opsA_cons, wantedA, stepA_t, callA, calleeA, targetA, runOp_c, runOp_n, opA, ev, evs, consO, consOO, withH, afterA_s, putA, T.get_put, Nat.reduceEqDiff, reduceIte, oIndexAddr, I, Nat.succ_ne_self, ty2, ti2, e0, e5, hp, hld]; refine wo_call (q24) ?_; rintro _ h4 ⟨t4, f4⟩; simp only [opsA_nil, putA]; refine ⟨_, _, rfl, ?_⟩)
          | (refine wc_cond (by simp only [eq_self, ev, T.get_put, reduceIte, Option.some.injEq]; rfl) ?_ ?_ <;> intro hb <;> first | (exfalso; exact Bool.noConfusion hb) | skip)
          | refine wc_block ?_
          | refine wc_skip ?_)
        refine nx_next (xs.length - (k + 1)) (by omega) ⟨k + 1, rfl, hlt, ?_, ?_, ?_, ?_, Fr.from hx0 f4 (fun n hh => by rcases hh with h1 | h1 | h1 <;> omega), t4⟩
        all_goals simp only [eq_self, T.get_put, Nat.reduceEqDiff, reduceIte, I, e0, e5, e21, e22]
      · have c0 : decide (Int.ofNat k < (xs.length : Int)) = false := by simp; omega
        have e7 : k = xs.length := by omega
        subst e7
        rw [cur_all] at t
        repeat' (first
          | refine wc_seq ?_
          | (refine wc_region rfl ?_; simp only [eq_self, opsA_cons, opsA_nil, wantedA, stepA_t, callA, runOp_n, opA, ev, withH, afterA_s, putA, T.get_put, Nat.reduceEqDiff, reduceIte, oBin, binA, binG, binL, aggO, litA, intA, ltF_eq, I, e5, e21, e22, c0]; refine ⟨_, _, rfl, ?_⟩)
          | (refine wc_cond (by simp only [eq_self, ev, T.get_put, reduceIte, Option.some.injEq]; rfl) ?_ ?_ <;> intro hb <;> first | (exfalso; exact Bool.noConfusion hb) | skip)
          | refine wc_exit ?_
          | refine wc_ret ?_
          | refine wv_ret (by simp only [resA, resOne]; simp only [eq_self, consO, consOO, T.get_put, Nat.reduceEqDiff, reduceIte, Option.some.injEq, Nat.succ_ne_self]; rfl) ?_)
        exact ⟨hx0, .inr ⟨h0, _, _, _, rfl, t, by omega, by omega, by omega⟩⟩
  · have g0 : (chkL xs == 0) = false := by simpa using h0
    repeat' (first
      | refine wc_seq ?_
      | (refine wc_region rfl ?_; simp only [eq_self, opsA_cons, opsA_nil, wantedA, stepA_t, callA, calleeA, targetA, runOp_c, runOp_n, opA, ev, evs, consO, consOO, withH, afterA_s, putA, T.get_put, Nat.reduceEqDiff, reduceIte, oBin, binA, binG, binL, aggO, litA, intA, eqF_eq, Bool.not_false, I, Nat.succ_ne_self, a0, q12, g0]; refine ⟨_, _, rfl, ?_⟩)
      | (refine wc_cond (by simp only [eq_self, ev, T.get_put, Nat.reduceEqDiff, reduceIte, Option.some.injEq, Nat.succ_ne_self]; rfl) ?_ ?_ <;> intro hb <;> first | (exfalso; exact Bool.noConfusion hb) | skip)
      | refine wc_ret ?_
      | refine wv_ret (by simp only [resA, resOne]; simp only [eq_self, consO, consOO, T.get_put, Nat.reduceEqDiff, reduceIte, Option.some.injEq, Nat.succ_ne_self]; rfl) ?_)
    exact ⟨Ext.refl _, .inl ⟨h0, rfl⟩⟩



set_option maxHeartbeats 2000000 in
theorem fc25 (d : Nat) (h : Hp) (nm na nb : Nat) (xs : List Int) (a b : Int) (t : Tr h nm na nb xs) (h1 : 0 ≤ a) (h2 : a ≤ b) : runA ctx 5000 (d + 1) 43 [.ptr nm 0, I a, I b] h = some (I 0, h) := by
  have l0 := t.c0.load
  refine wv_eq ?_
  refine wv_run fn43 rfl ?_
  have a0 : (enterEnv [.ptr nm 0, I a, I b] Try.f43.ntmps).get 0 = some (.ptr nm 0) := enter_get1 _ _ _
  have a1 : (enterEnv [.ptr nm 0, I a, I b] Try.f43.ntmps).get 1 = some (I a) := enter_get2 _ _ _ _
  have a2 : (enterEnv [.ptr nm 0, I a, I b] Try.f43.ntmps).get 2 = some (I b) := enter_get3 _ _ _ _ _
  generalize enterEnv [.ptr nm 0, I a, I b] Try.f43.ntmps = e at a0 a1 a2 ⊢
  unfold Try.f43
  dsimp only
  repeat' (first
    | refine wc_seq ?_
    | (refine wc_region rfl ?_; simp only [oUn_not, beq_self_eq_true, eq_self, opsA_cons, opsA_nil, wantedA, guardA, yieldA, stepA_t, callA, runOp_n, opA, ev, withH, pickA, afterA_s, putA, T.get_put, Nat.reduceEqDiff, reduceIte, List.getElem?_toArray, List.getElem?_cons_zero, List.getElem?_cons_succ, oBin, binA, binG, binL, aggO, litA, intA, ltF_eq, cond_true, cond_false, Bool.not_true, decide_true, blt_eq, I, Bo, fieldAddrA, oFieldAddr, oLoad, isAggD, aggH, oneH, Nat.succ_ne_self, Nat.add_zero, Nat.reduceLT, ty4, ti4, ty37, ti37, ty71, ti71, a0, a1, l0, eqA, eqD, eqOp, nilCheckA]; refine ⟨_, _, rfl, ?_⟩)
    | (refine wc_region rfl ?_; simp only [eq_self, opsA_cons, wantedA, guardA, yieldA, stepA_t, callA, runOp_n, opA, ev, withH, afterA_s, putA, T.get_put, Nat.reduceEqDiff, reduceIte, List.getElem?_cons_zero, List.getElem?_cons_succ, oBin, binA, binG, binL, aggO, litA, intA, ltF_eq, I, Nat.succ_ne_self, a1]; (repeat' (refine wo_step ?_ ?_ <;> intro hg <;> (try simp only [beq_false, Bool.not_eq_eq_eq_not, Bool.not_true, Bool.not_false] at hg) <;> (first | (exfalso; exact Bool.noConfusion hg) | simp only [beq_self_eq_true, eq_self, opsA_cons, opsA_nil, wantedA, guardA, yieldA, stepA_t, stepA_f, callA, runOp_n, opA, ev, withH, pickA, afterA_s, putA, T.get_put, Nat.reduceEqDiff, reduceIte, List.getElem?_cons_zero, List.getElem?_cons_succ, oBin, binA, binG, binL, aggO, litA, intA, ltF_eq, tf_beq, I, Nat.succ_ne_self, a1, a2, hg]))) <;> refine ⟨_, _, rfl, ?_⟩)
    | (refine wc_cond (by simp only [eq_self, ev, T.get_put, Nat.reduceEqDiff, reduceIte, Option.some.injEq, Nat.succ_ne_self]; rfl) ?_ ?_ <;> intro hb <;> first | (exfalso; exact Bool.noConfusion hb) | skip)
    | refine wc_skip ?_
    | refine wc_ret ?_
    | refine wv_ret (by simp only [resA, resOne]; simp only [eq_self, consO, consOO, T.get_put, Nat.reduceEqDiff, reduceIte, Option.some.injEq]; rfl) ?_)
  all_goals (first | exact ⟨rfl, rfl⟩ | (exfalso; simp only [decide_eq_true_eq, decide_eq_false_iff_not] at *; omega))
set_option maxHeartbeats 2000000 in
theorem fc25b (d : Nat) (h : Hp) (nm na nb : Nat) (xs : List Int) (a b : Int) (t : Tr h nm na nb xs) (h1 : a < 0 ∨ b < a) : runA ctx 5000 (d + 1) 43 [.ptr nm 0, I a, I b] h = some (I 4, h) := by
  have l0 := t.c0.load
  refine wv_eq ?_
  refine wv_run fn43 rfl ?_
  have a0 : (enterEnv [.ptr nm 0, I a, I b] Try.f43.ntmps).get 0 = some (.ptr nm 0) := enter_get1 _ _ _
  have a1 : (enterEnv [.ptr nm 0, I a, I b] Try.f43.ntmps).get 1 = some (I a) := enter_get2 _ _ _ _
  have a2 : (enterEnv [.ptr nm 0, I a, I b] Try.f43.ntmps).get 2 = some (I b) := enter_get3 _ _ _ _ _
  generalize enterEnv [.ptr nm 0, I a, I b] Try.f43.ntmps = e at a0 a1 a2 ⊢
  unfold Try.f43
  dsimp only
  repeat' (first
    | refine wc_seq ?_
    | (refine wc_region rfl ?_; simp only [oUn_not, beq_self_eq_true, eq_self, opsA_cons, opsA_nil, wantedA, guardA, yieldA, stepA_t, callA, runOp_n, opA, ev, withH, pickA, afterA_s, putA, T.get_put, Nat.reduceEqDiff, reduceIte, List.getElem?_toArray, List.getElem?_cons_zero, List.getElem?_cons_succ, oBin, binA, binG, binL, aggO, litA, intA, ltF_eq, cond_true, cond_false, Bool.not_true, decide_true, blt_eq, I, Bo, fieldAddrA, oFieldAddr, oLoad, isAggD, aggH, oneH, Nat.succ_ne_self, Nat.add_zero, Nat.reduceLT, ty4, ti4, ty37, ti37, ty71, ti71, a0, a1, l0, eqA, eqD, eqOp, nilCheckA]; refine ⟨_, _, rfl, ?_⟩)
    | (refine wc_region rfl ?_; simp only [eq_self, opsA_cons, wantedA, guardA, yieldA, stepA_t, callA, runOp_n, opA, ev, withH, afterA_s, putA, T.get_put, Nat.reduceEqDiff, reduceIte, List.getElem?_cons_zero, List.getElem?_cons_succ, oBin, binA, binG, binL, aggO, litA, intA, ltF_eq, I, Nat.succ_ne_self, a1]; (repeat' (refine wo_step ?_ ?_ <;> intro hg <;> (try simp only [beq_false, Bool.not_eq_eq_eq_not, Bool.not_true, Bool.not_false] at hg) <;> (first | (exfalso; exact Bool.noConfusion hg) | simp only [beq_self_eq_true, eq_self, opsA_cons, opsA_nil, wantedA, guardA, yieldA, stepA_t, stepA_f, callA, runOp_n, opA, ev, withH, pickA, afterA_s, putA, T.get_put, Nat.reduceEqDiff, reduceIte, List.getElem?_cons_zero, List.getElem?_cons_succ, oBin, binA, binG, binL, aggO, litA, intA, ltF_eq, tf_beq, I, Nat.succ_ne_self, a1, a2, hg]))) <;> refine ⟨_, _, rfl, ?_⟩)
    | (refine wc_cond (by simp only [eq_self, ev, T.get_put, Nat.reduceEqDiff, reduceIte, Option.some.injEq, Nat.succ_ne_self]; rfl) ?_ ?_ <;> intro hb <;> first | (exfalso; exact Bool.noConfusion hb) | skip)
    | refine wc_skip ?_
    | refine wc_ret ?_
    | refine wv_ret (by simp only [resA, resOne]; simp only [eq_self, consO, consOO, T.get_put, Nat.reduceEqDiff, reduceIte, Option.some.injEq]; rfl) ?_)
  all_goals (first | exact ⟨rfl, rfl⟩ | (exfalso; simp only [decide_eq_false_iff_not] at *; omega))
set_option maxHeartbeats 4000000 in
theorem fc18b (d : Nat) (h : Hp) (nm na nb : Nat) (xs : List Int) (z : Int) (t : Tr h nm na nb xs) (hz : z < 0 ∨ (xs.length : Int) < z) : runA ctx 5000 (d + 2) 19 [.ptr nm 0, I z] h = some (.tup [I 0, I 4], h) := by
  have q13 := fc13 d h nm na nb xs t
  have q25 := fc25b d h nm na nb xs z xs.length t hz
  refine wv_eq ?_
  refine wv_run fn19 rfl ?_
  have a0 : (enterEnv [.ptr nm 0, I z] Try.f19.ntmps).get 0 = some (.ptr nm 0) := enter_get1 _ _ _
  have a1 : (enterEnv [.ptr nm 0, I z] Try.f19.ntmps).get 1 = some (I z) := enter_get2 _ _ _ _
  generalize enterEnv [.ptr nm 0, I z] Try.f19.ntmps = e at a0 a1 ⊢
  unfold Try.f19
  dsimp only
  repeat' (first
    | refine wc_seq ?_
    | (refine wc_region rfl ?_; simp only [eq_self, opsA_cons, opsA_nil, wantedA, stepA_t, callA, calleeA, targetA, runOp_c, runOp_n, opA, ev, evs, consO, consOO, withH, afterA_s, putA, T.get_put, Nat.reduceEqDiff, reduceIte, oBin, binA, binG, binL, aggO, litA, intA, eqF_eq, I, Nat.succ_ne_self, a0, a1, q13, q25]; refine ⟨_, _, rfl, ?_⟩)
    | (refine wc_cond (by simp only [eq_self, ev, T.get_put, Nat.reduceEqDiff, reduceIte, Option.some.injEq, Nat.succ_ne_self]; rfl) ?_ ?_ <;> intro hb <;> first | (exfalso; exact Bool.noConfusion hb) | skip)
    | refine wc_ret ?_
    | refine wv_ret (by simp only [resA, resOne]; simp only [eq_self, consO, consOO, T.get_put, Nat.reduceEqDiff, reduceIte, Option.some.injEq, Nat.succ_ne_self]; rfl) ?_)
  exact ⟨rfl, rfl⟩
set_option maxHeartbeats 4000000 in
theorem fc18 (d : Nat) (h : Hp) (nm na nb : Nat) (xs : List Int) (z : Int) (t : Tr h nm na nb xs) (hz : 0 ≤ z) (hz2 : z ≤ (xs.length : Int)) (hV : V xs) (hn : xs.length ≤ 4096) : runA ctx 5000 (d + 2) 19 [.ptr nm 0, I z] h = some (.tup [I (pre xs z.toNat), I 0], h) := by
  obtain ⟨i, rfl⟩ : ∃ i, z = Int.ofNat i := ⟨z.toNat, by simp; omega⟩
  have hi : i ≤ xs.length := by simpa using hz2
  have q13 := fc13 d h nm na nb xs t
  have q25 := fc25 d h nm na nb xs (Int.ofNat i) xs.length t hz hz2
  show _ = some (AV.tup [I (pre xs i), I 0], h)
  refine wv_eq ?_
  refine wv_run fn19 rfl ?_
  have a0 : (enterEnv [.ptr nm 0, I (Int.ofNat i)] Try.f19.ntmps).get 0 = some (.ptr nm 0) := enter_get1 _ _ _
  have a1 : (enterEnv [.ptr nm 0, I (Int.ofNat i)] Try.f19.ntmps).get 1 = some (I (Int.ofNat i)) := enter_get2 _ _ _ _
  generalize enterEnv [.ptr nm 0, I (Int.ofNat i)] Try.f19.ntmps = e at a0 a1 ⊢
  unfold Try.f19
  dsimp only
  repeat' (first
    | refine wc_seq ?_
    | (refine wc_region rfl ?_; simp only [beq_self_eq_true, eq_self, opsA_cons, opsA_nil, wantedA, stepA_t, callA, calleeA, targetA, runOp_c, runOp_n, opA, ev, evs, consO, consOO, withH, afterA_s, putA, T.get_put, Nat.reduceEqDiff, reduceIte, oBin, binA, binG, binL, aggO, litA, intA, eqF_eq, Bool.not_true, I, Nat.succ_ne_self, a0, a1, q13, q25]; refine ⟨_, _, rfl, ?_⟩)
    | (refine wc_cond (by simp only [eq_self, ev, T.get_put, Nat.reduceEqDiff, reduceIte, Option.some.injEq, Nat.succ_ne_self]; rfl) ?_ ?_ <;> intro hb <;> first | (exfalso; exact Bool.noConfusion hb) | skip)
    | refine wc_block ?_
    | refine wc_skip ?_)
  refine wc_loop (fun m e h' => ∃ k, k = m ∧ k ≤ i ∧ e.get 0 = some (.ptr nm 0) ∧ e.get 8 = some (I (Int.ofNat k)) ∧ e.get 7 = some (I (pre xs i - pre xs k)) ∧ h' = h) i ?_ ⟨i, ?_⟩ ?_
  · omega
  · refine ⟨rfl, Nat.le_refl _, ?_, ?_, ?_, rfl⟩
    · simp only [eq_self, T.get_put, Nat.reduceEqDiff, reduceIte, a0]
    · simp only [eq_self, T.get_put, Nat.reduceEqDiff, reduceIte, I, Nat.succ_ne_self]
    · rw [Int.sub_self]
      simp only [eq_self, T.get_put, Nat.reduceEqDiff, reduceIte, I, Nat.succ_ne_self]
  · rintro m e h' ⟨k, rfl, hk, e0, e8, e7, rfl⟩
    by_cases hlt : 0 < k
    · have c0 : decide (0 < Int.ofNat k) = true := by simp; omega
      obtain ⟨j, rfl⟩ : ∃ j, k = j + 1 := ⟨k - 1, by omega⟩
      have lp := lb_pos (j + 1) (by omega) (by omega)
      have q26 := fun h => fc26 (d + 0) h (j + 1) (by omega)
      have l2 := t.c2.load
      have l3 := (t.sums j (by omega)).load
      have ix := ia22 (nm := nb) (off := 0) (n := xs.length) (cap := xs.length) (z := 0) (r := false) (show j < xs.length by omega)
      rw [Nat.zero_add] at ix
      have w := dec (k := j) (by omega)
      have wk : IntKind.wrap .i64 (Int.ofNat (j + 1) - Int.ofNat (lb (j + 1))) = Int.ofNat (j + 1 - lb (j + 1)) := by rw [IntKind.wrap_i64]; simp; omega
      have b1 := pre_mono hV hk
      have b2 := pre_bound hV i
      have b3 := fs_bound hV (j + 1)
      have b4 := hV.le
      have b5 := pre_mono hV (show j + 1 - lb (j + 1) ≤ i by omega)
      have b6 := pre_bound hV (j + 1 - lb (j + 1))
      have ws : IntKind.wrap .i64 (pre xs i - pre xs (j + 1) + fs xs (j + 1)) = pre xs i - pre xs (j + 1 - lb (j + 1)) := by
        have : pre xs i - pre xs (j + 1) + fs xs (j + 1) = pre xs i - pre xs (j + 1 - lb (j + 1)) := by unfold fs; omega
        rw [this, IntKind.wrap_i64]
        omega
      repeat' (first
        | refine wc_seq ?_
        | (refine wc_region rfl ?_; simp only [eq_self, opsA_cons, opsA_nil, wantedA, stepA_t, callA, calleeA, targetA, runOp_c, runOp_n, opA, ev, evs, consO, consOO, withH, afterA_s, putA, T.get_put, Nat.reduceEqDiff, reduceIte, List.getElem?_toArray, List.getElem?_cons_zero, List.getElem?_cons_succ, oBin, binA, binG, binL, aggO, litA, intA, ltF_eq, oIndexAddr, cond_true, cond_false, decide_true, blt_eq, I, addI, subI, fieldAddrA, oFieldAddr, oLoad, isAggD, aggH, oneH, Nat.succ_ne_self, Nat.zero_add, Nat.reduceLT, ty2, ti2, ty22, ti22, ty71, ti71, e0, e8, e7, c0, q26, l2, l3, ix, w, wk, ws, nilCheckA]; refine ⟨_, _, rfl, ?_⟩)
        | (refine wc_cond (by simp only [eq_self, ev, T.get_put, reduceIte, Option.some.injEq, Nat.succ_ne_self]; rfl) ?_ ?_ <;> intro hb <;> first | (exfalso; exact Bool.noConfusion hb) | skip)
        | refine wc_block ?_
        | refine wc_skip ?_)
      refine nx_next (j + 1 - lb (j + 1)) (by omega) ⟨j + 1 - lb (j + 1), rfl, by omega, ?_, ?_, ?_, rfl⟩
      all_goals simp only [eq_self, T.get_put, Nat.reduceEqDiff, reduceIte, I, Nat.succ_ne_self, e0, e8, e7]
    · have c0 : decide (0 < Int.ofNat k) = false := by simp; omega
      obtain rfl : k = 0 := by omega
      rw [pre_zero, Int.sub_zero] at e7
      repeat' (first
        | refine wc_seq ?_
        | (refine wc_region rfl ?_; simp only [eq_self, opsA_cons, opsA_nil, wantedA, stepA_t, callA, runOp_n, opA, ev, withH, afterA_s, putA, T.get_put, Nat.reduceEqDiff, reduceIte, oBin, binA, binG, binL, aggO, litA, intA, ltF_eq, I, e8, e7, c0]; refine ⟨_, _, rfl, ?_⟩)
        | (refine wc_cond (by simp only [eq_self, ev, T.get_put, reduceIte, Option.some.injEq, Nat.succ_ne_self]; rfl) ?_ ?_ <;> intro hb <;> first | (exfalso; exact Bool.noConfusion hb) | skip)
        | refine wc_exit ?_
        | refine wc_ret ?_
        | refine wv_ret (by simp only [resA, resOne]; simp only [eq_self, consO, consOO, T.get_put, Nat.reduceEqDiff, reduceIte, Option.some.injEq, Nat.succ_ne_self]; rfl) ?_)
      all_goals exact ⟨rfl, rfl⟩
set_option maxHeartbeats 4000000 in
theorem fc19b (d : Nat) (h : Hp) (nm na nb : Nat) (xs : List Int) (z : Int) (t : Tr h nm na nb xs) (hz : z < 0 ∨ (xs.length : Int) ≤ z) (hn : xs.length ≤ 4096) : runA ctx 5000 (d + 2) 17 [.ptr nm 0, I z] h = some (.tup [I 0, I 4], h) := by
  have q13 := fc13 d h nm na nb xs t
  have w : IntKind.wrap .i64 ((xs.length : Int) - 1) = (xs.length : Int) - 1 := by rw [IntKind.wrap_i64]; omega
  have q25 := fc25b d h nm na nb xs z ((xs.length : Int) - 1) t (by omega)
  refine wv_eq ?_
  refine wv_run fn17 rfl ?_
  have a0 : (enterEnv [.ptr nm 0, I z] Try.f17.ntmps).get 0 = some (.ptr nm 0) := enter_get1 _ _ _
  have a1 : (enterEnv [.ptr nm 0, I z] Try.f17.ntmps).get 1 = some (I z) := enter_get2 _ _ _ _
  generalize enterEnv [.ptr nm 0, I z] Try.f17.ntmps = e at a0 a1 ⊢
  unfold Try.f17
  dsimp only
  repeat' (first
    | refine wc_seq ?_
    | (refine wc_region rfl ?_; simp only [eq_self, opsA_cons, opsA_nil, wantedA, stepA_t, callA, calleeA, targetA, runOp_c, runOp_n, opA, ev, evs, consO, consOO, withH, afterA_s, putA, T.get_put, Nat.reduceEqDiff, reduceIte, oBin, binA, binG, binL, aggO, litA, intA, eqF_eq, I, subI, Nat.succ_ne_self, a0, a1, q13, q25, w]; refine ⟨_, _, rfl, ?_⟩)
    | (refine wc_cond (by simp only [eq_self, ev, T.get_put, Nat.reduceEqDiff, reduceIte, Option.some.injEq, Nat.succ_ne_self]; rfl) ?_ ?_ <;> intro hb <;> first | (exfalso; exact Bool.noConfusion hb) | skip)
    | refine wc_ret ?_
    | refine wv_ret (by simp only [resA, resOne]; simp only [eq_self, consO, consOO, T.get_put, Nat.reduceEqDiff, reduceIte, Option.some.injEq, Nat.succ_ne_self]; rfl) ?_)
  exact ⟨rfl, rfl⟩
set_option maxHeartbeats 4000000 in
theorem fc19 (d : Nat) (h : Hp) (nm na nb : Nat) (xs : List Int) (z : Int) (t : Tr h nm na nb xs) (x : Int) (hz : 0 ≤ z) (hx : xs[z.toNat]? = some x) (hn : xs.length ≤ 4096) : runA ctx 5000 (d + 2) 17 [.ptr nm 0, I z] h = some (.tup [I x, I 0], h) := by
  obtain ⟨i, rfl⟩ : ∃ i, z = Int.ofNat i := ⟨z.toNat, by simp; omega⟩
  have hi : i < xs.length := (List.getElem?_eq_some_iff.1 hx).1
  have hx : xs[i]? = some x := hx
  have q13 := fc13 d h nm na nb xs t
  have w : IntKind.wrap .i64 ((xs.length : Int) - 1) = (xs.length : Int) - 1 := by rw [IntKind.wrap_i64]; omega
  have q25 := fc25 d h nm na nb xs (Int.ofNat i) ((xs.length : Int) - 1) t hz (by simp; omega)
  have l1 := t.c1.load
  have l2 := (t.rows i x hx).load
  have ix := ia22 (nm := na) (off := 0) (cap := xs.length) (z := 0) (r := false) hi
  rw [Nat.zero_add] at ix
  refine wv_eq ?_
  refine wv_run fn17 rfl ?_
  have a0 : (enterEnv [.ptr nm 0, I (Int.ofNat i)] Try.f17.ntmps).get 0 = some (.ptr nm 0) := enter_get1 _ _ _
  have a1 : (enterEnv [.ptr nm 0, I (Int.ofNat i)] Try.f17.ntmps).get 1 = some (I (Int.ofNat i)) := enter_get2 _ _ _ _
  generalize enterEnv [.ptr nm 0, I (Int.ofNat i)] Try.f17.ntmps = e at a0 a1 ⊢
  unfold Try.f17
  dsimp only
  repeat' (first
    | refine wc_seq ?_
    | (refine wc_region rfl ?_; simp only [beq_self_eq_true, eq_self, opsA_cons, opsA_nil, wantedA, stepA_t, callA, calleeA, targetA, runOp_c, runOp_n, opA, ev, evs, consO, consOO, withH, afterA_s, putA, T.get_put, Nat.reduceEqDiff, reduceIte, List.getElem?_toArray, List.getElem?_cons_zero, List.getElem?_cons_succ, oBin, binA, binG, binL, aggO, litA, intA, eqF_eq, oIndexAddr, cond_true, cond_false, Bool.not_true, decide_true, blt_eq, I, subI, fieldAddrA, oFieldAddr, oLoad, isAggD, aggH, oneH, Nat.succ_ne_self, Nat.zero_add, Nat.reduceLT, ty2, ti2, ty22, ti22, ty71, ti71, a0, a1, q13, q25, w, l1, l2, ix, nilCheckA]; refine ⟨_, _, rfl, ?_⟩)
    | (refine wc_cond (by simp only [eq_self, ev, T.get_put, Nat.reduceEqDiff, reduceIte, Option.some.injEq, Nat.succ_ne_self]; rfl) ?_ ?_ <;> intro hb <;> first | (exfalso; exact Bool.noConfusion hb) | skip)
    | refine wc_skip ?_
    | refine wc_ret ?_
    | refine wv_ret (by simp only [resA, resOne]; simp only [eq_self, consO, consOO, T.get_put, Nat.reduceEqDiff, reduceIte, Option.some.injEq, Nat.succ_ne_self]; rfl) ?_)
  exact ⟨rfl, rfl⟩



def bl (n : Nat) : Nat := if n = 0 then 0 else Nat.log2 n + 1
set_option maxRecDepth 100000 in
theorem b27_0 (d : Nat) (h : Hp) : ∀ r, r < 10 → runA ctx 5000 (d + 2) 46 [.lit (.int .u64 ((10 * 0 + r : Nat) : Int))] h = some (I (Int.ofNat (bl (10 * 0 + r))), h)
  | 0, _ => by kernel_rfl
  | 1, _ => by kernel_rfl
  | 2, _ => by kernel_rfl
  | 3, _ => by kernel_rfl
  | 4, _ => by kernel_rfl
  | 5, _ => by kernel_rfl
  | 6, _ => by kernel_rfl
  | 7, _ => by kernel_rfl
  | 8, _ => by kernel_rfl
  | 9, _ => by kernel_rfl
  | r + 10, hr => absurd hr (by omega)
set_option maxRecDepth 100000 in
theorem b27_1 (d : Nat) (h : Hp) : ∀ r, r < 10 → runA ctx 5000 (d + 2) 46 [.lit (.int .u64 ((10 * 1 + r : Nat) : Int))] h = some (I (Int.ofNat (bl (10 * 1 + r))), h)
  | 0, _ => by kernel_rfl
  | 1, _ => by kernel_rfl
  | 2, _ => by kernel_rfl
  | 3, _ => by kernel_rfl
  | 4, _ => by kernel_rfl
  | 5, _ => by kernel_rfl
  | 6, _ => by kernel_rfl
  | 7, _ => by kernel_rfl
  | 8, _ => by kernel_rfl
  | 9, _ => by kernel_rfl
  | r + 10, hr => absurd hr (by omega)
set_option maxRecDepth 100000 in
theorem b27_2 (d : Nat) (h : Hp) : ∀ r, r < 10 → runA ctx 5000 (d + 2) 46 [.lit (.int .u64 ((10 * 2 + r : Nat) : Int))] h = some (I (Int.ofNat (bl (10 * 2 + r))), h)
  | 0, _ => by kernel_rfl
  | 1, _ => by kernel_rfl
  | 2, _ => by kernel_rfl
  | 3, _ => by kernel_rfl
  | 4, _ => by kernel_rfl
  | 5, _ => by kernel_rfl
  | 6, _ => by kernel_rfl
  | 7, _ => by kernel_rfl
  | 8, _ => by kernel_rfl
  | 9, _ => by kernel_rfl
  | r + 10, hr => absurd hr (by omega)
set_option maxRecDepth 100000 in
theorem b27_3 (d : Nat) (h : Hp) : ∀ r, r < 10 → runA ctx 5000 (d + 2) 46 [.lit (.int .u64 ((10 * 3 + r : Nat) : Int))] h = some (I (Int.ofNat (bl (10 * 3 + r))), h)
  | 0, _ => by kernel_rfl
  | 1, _ => by kernel_rfl
  | 2, _ => by kernel_rfl
  | 3, _ => by kernel_rfl
  | 4, _ => by kernel_rfl
  | 5, _ => by kernel_rfl
  | 6, _ => by kernel_rfl
  | 7, _ => by kernel_rfl
  | 8, _ => by kernel_rfl
  | 9, _ => by kernel_rfl
  | r + 10, hr => absurd hr (by omega)
set_option maxRecDepth 100000 in
theorem b27_4 (d : Nat) (h : Hp) : ∀ r, r < 10 → runA ctx 5000 (d + 2) 46 [.lit (.int .u64 ((10 * 4 + r : Nat) : Int))] h = some (I (Int.ofNat (bl (10 * 4 + r))), h)
  | 0, _ => by kernel_rfl
  | 1, _ => by kernel_rfl
  | 2, _ => by kernel_rfl
  | 3, _ => by kernel_rfl
  | 4, _ => by kernel_rfl
  | 5, _ => by kernel_rfl
  | 6, _ => by kernel_rfl
  | 7, _ => by kernel_rfl
  | 8, _ => by kernel_rfl
  | 9, _ => by kernel_rfl
  | r + 10, hr => absurd hr (by omega)
set_option maxRecDepth 100000 in
theorem b27_5 (d : Nat) (h : Hp) : ∀ r, r < 10 → runA ctx 5000 (d + 2) 46 [.lit (.int .u64 ((10 * 5 + r : Nat) : Int))] h = some (I (Int.ofNat (bl (10 * 5 + r))), h)
  | 0, _ => by kernel_rfl
  | 1, _ => by kernel_rfl
  | 2, _ => by kernel_rfl
  | 3, _ => by kernel_rfl
  | 4, _ => by kernel_rfl
  | 5, _ => by kernel_rfl
  | 6, _ => by kernel_rfl
  | 7, _ => by kernel_rfl
  | 8, _ => by kernel_rfl
  | 9, _ => by kernel_rfl
  | r + 10, hr => absurd hr (by omega)
set_option maxRecDepth 100000 in
theorem b27_6 (d : Nat) (h : Hp) : ∀ r, r < 10 → runA ctx 5000 (d + 2) 46 [.lit (.int .u64 ((10 * 6 + r : Nat) : Int))] h = some (I (Int.ofNat (bl (10 * 6 + r))), h)
  | 0, _ => by kernel_rfl
  | 1, _ => by kernel_rfl
  | 2, _ => by kernel_rfl
  | 3, _ => by kernel_rfl
  | 4, _ => by kernel_rfl
  | 5, _ => by kernel_rfl
  | 6, _ => by kernel_rfl
  | 7, _ => by kernel_rfl
  | 8, _ => by kernel_rfl
  | 9, _ => by kernel_rfl
  | r + 10, hr => absurd hr (by omega)
set_option maxRecDepth 100000 in
theorem b27_7 (d : Nat) (h : Hp) : ∀ r, r < 10 → runA ctx 5000 (d + 2) 46 [.lit (.int .u64 ((10 * 7 + r : Nat) : Int))] h = some (I (Int.ofNat (bl (10 * 7 + r))), h)
  | 0, _ => by kernel_rfl
  | 1, _ => by kernel_rfl
  | 2, _ => by kernel_rfl
  | 3, _ => by kernel_rfl
  | 4, _ => by kernel_rfl
  | 5, _ => by kernel_rfl
  | 6, _ => by kernel_rfl
  | 7, _ => by kernel_rfl
  | 8, _ => by kernel_rfl
  | 9, _ => by kernel_rfl
  | r + 10, hr => absurd hr (by omega)
set_option maxRecDepth 100000 in
theorem b27_8 (d : Nat) (h : Hp) : ∀ r, r < 10 → runA ctx 5000 (d + 2) 46 [.lit (.int .u64 ((10 * 8 + r : Nat) : Int))] h = some (I (Int.ofNat (bl (10 * 8 + r))), h)
  | 0, _ => by kernel_rfl
  | 1, _ => by kernel_rfl
  | 2, _ => by kernel_rfl
  | 3, _ => by kernel_rfl
  | 4, _ => by kernel_rfl
  | 5, _ => by kernel_rfl
  | 6, _ => by kernel_rfl
  | 7, _ => by kernel_rfl
  | 8, _ => by kernel_rfl
  | 9, _ => by kernel_rfl
  | r + 10, hr => absurd hr (by omega)
set_option maxRecDepth 100000 in
theorem b27_9 (d : Nat) (h : Hp) : ∀ r, r < 10 → runA ctx 5000 (d + 2) 46 [.lit (.int .u64 ((10 * 9 + r : Nat) : Int))] h = some (I (Int.ofNat (bl (10 * 9 + r))), h)
  | 0, _ => by kernel_rfl
  | 1, _ => by kernel_rfl
  | 2, _ => by kernel_rfl
  | 3, _ => by kernel_rfl
  | 4, _ => by kernel_rfl
  | 5, _ => by kernel_rfl
  | 6, _ => by kernel_rfl
  | 7, _ => by kernel_rfl
  | 8, _ => by kernel_rfl
  | 9, _ => by kernel_rfl
  | r + 10, hr => absurd hr (by omega)
set_option maxRecDepth 100000 in
theorem b27_10 (d : Nat) (h : Hp) : ∀ r, r < 10 → runA ctx 5000 (d + 2) 46 [.lit (.int .u64 ((10 * 10 + r : Nat) : Int))] h = some (I (Int.ofNat (bl (10 * 10 + r))), h)
  | 0, _ => by kernel_rfl
  | 1, _ => by kernel_rfl
  | 2, _ => by kernel_rfl
  | 3, _ => by kernel_rfl
  | 4, _ => by kernel_rfl
  | 5, _ => by kernel_rfl
  | 6, _ => by kernel_rfl
  | 7, _ => by kernel_rfl
  | 8, _ => by kernel_rfl
  | 9, _ => by kernel_rfl
  | r + 10, hr => absurd hr (by omega)
set_option maxRecDepth 100000 in
theorem b27_11 (d : Nat) (h : Hp) : ∀ r, r < 10 → runA ctx 5000 (d + 2) 46 [.lit (.int .u64 ((10 * 11 + r : Nat) : Int))] h = some (I (Int.ofNat (bl (10 * 11 + r))), h)
  | 0, _ => by kernel_rfl
  | 1, _ => by kernel_rfl
  | 2, _ => by kernel_rfl
  | 3, _ => by kernel_rfl
  | 4, _ => by kernel_rfl
  | 5, _ => by kernel_rfl
  | 6, _ => by kernel_rfl
  | 7, _ => by kernel_rfl
  | 8, _ => by kernel_rfl
  | 9, _ => by kernel_rfl
  | r + 10, hr => absurd hr (by omega)
set_option maxRecDepth 100000 in
theorem b27_12 (d : Nat) (h : Hp) : ∀ r, r < 10 → runA ctx 5000 (d + 2) 46 [.lit (.int .u64 ((10 * 12 + r : Nat) : Int))] h = some (I (Int.ofNat (bl (10 * 12 + r))), h)
  | 0, _ => by kernel_rfl
  | 1, _ => by kernel_rfl
  | 2, _ => by kernel_rfl
  | 3, _ => by kernel_rfl
  | 4, _ => by kernel_rfl
  | 5, _ => by kernel_rfl
  | 6, _ => by kernel_rfl
  | 7, _ => by kernel_rfl
  | 8, _ => by kernel_rfl
  | 9, _ => by kernel_rfl
  | r + 10, hr => absurd hr (by omega)
set_option maxRecDepth 100000 in
theorem b27_13 (d : Nat) (h : Hp) : ∀ r, r < 10 → runA ctx 5000 (d + 2) 46 [.lit (.int .u64 ((10 * 13 + r : Nat) : Int))] h = some (I (Int.ofNat (bl (10 * 13 + r))), h)
  | 0, _ => by kernel_rfl
  | 1, _ => by kernel_rfl
  | 2, _ => by kernel_rfl
  | 3, _ => by kernel_rfl
  | 4, _ => by kernel_rfl
  | 5, _ => by kernel_rfl
  | 6, _ => by kernel_rfl
  | 7, _ => by kernel_rfl
  | 8, _ => by kernel_rfl
  | 9, _ => by kernel_rfl
  | r + 10, hr => absurd hr (by omega)
set_option maxRecDepth 100000 in
theorem b27_14 (d : Nat) (h : Hp) : ∀ r, r < 10 → runA ctx 5000 (d + 2) 46 [.lit (.int .u64 ((10 * 14 + r : Nat) : Int))] h = some (I (Int.ofNat (bl (10 * 14 + r))), h)
  | 0, _ => by kernel_rfl
  | 1, _ => by kernel_rfl
  | 2, _ => by kernel_rfl
  | 3, _ => by kernel_rfl
  | 4, _ => by kernel_rfl
  | 5, _ => by kernel_rfl
  | 6, _ => by kernel_rfl
  | 7, _ => by kernel_rfl
  | 8, _ => by kernel_rfl
  | 9, _ => by kernel_rfl
  | r + 10, hr => absurd hr (by omega)
set_option maxRecDepth 100000 in
theorem b27_15 (d : Nat) (h : Hp) : ∀ r, r < 10 → runA ctx 5000 (d + 2) 46 [.lit (.int .u64 ((10 * 15 + r : Nat) : Int))] h = some (I (Int.ofNat (bl (10 * 15 + r))), h)
  | 0, _ => by kernel_rfl
  | 1, _ => by kernel_rfl
  | 2, _ => by kernel_rfl
  | 3, _ => by kernel_rfl
  | 4, _ => by kernel_rfl
  | 5, _ => by kernel_rfl
  | 6, _ => by kernel_rfl
  | 7, _ => by kernel_rfl
  | 8, _ => by kernel_rfl
  | 9, _ => by kernel_rfl
  | r + 10, hr => absurd hr (by omega)
set_option maxRecDepth 100000 in
theorem b27_16 (d : Nat) (h : Hp) : ∀ r, r < 10 → runA ctx 5000 (d + 2) 46 [.lit (.int .u64 ((10 * 16 + r : Nat) : Int))] h = some (I (Int.ofNat (bl (10 * 16 + r))), h)
  | 0, _ => by kernel_rfl
  | 1, _ => by kernel_rfl
  | 2, _ => by kernel_rfl
  | 3, _ => by kernel_rfl
  | 4, _ => by kernel_rfl
  | 5, _ => by kernel_rfl
  | 6, _ => by kernel_rfl
  | 7, _ => by kernel_rfl
  | 8, _ => by kernel_rfl
  | 9, _ => by kernel_rfl
  | r + 10, hr => absurd hr (by omega)
set_option maxRecDepth 100000 in
theorem b27_17 (d : Nat) (h : Hp) : ∀ r, r < 10 → runA ctx 5000 (d + 2) 46 [.lit (.int .u64 ((10 * 17 + r : Nat) : Int))] h = some (I (Int.ofNat (bl (10 * 17 + r))), h)
  | 0, _ => by kernel_rfl
  | 1, _ => by kernel_rfl
  | 2, _ => by kernel_rfl
  | 3, _ => by kernel_rfl
  | 4, _ => by kernel_rfl
  | 5, _ => by kernel_rfl
  | 6, _ => by kernel_rfl
  | 7, _ => by kernel_rfl
  | 8, _ => by kernel_rfl
  | 9, _ => by kernel_rfl
  | r + 10, hr => absurd hr (by omega)
set_option maxRecDepth 100000 in
theorem b27_18 (d : Nat) (h : Hp) : ∀ r, r < 10 → runA ctx 5000 (d + 2) 46 [.lit (.int .u64 ((10 * 18 + r : Nat) : Int))] h = some (I (Int.ofNat (bl (10 * 18 + r))), h)
  | 0, _ => by kernel_rfl
  | 1, _ => by kernel_rfl
  | 2, _ => by kernel_rfl
  | 3, _ => by kernel_rfl
  | 4, _ => by kernel_rfl
  | 5, _ => by kernel_rfl
  | 6, _ => by kernel_rfl
  | 7, _ => by kernel_rfl
  | 8, _ => by kernel_rfl
  | 9, _ => by kernel_rfl
  | r + 10, hr => absurd hr (by omega)
set_option maxRecDepth 100000 in
theorem b27_19 (d : Nat) (h : Hp) : ∀ r, r < 10 → runA ctx 5000 (d + 2) 46 [.lit (.int .u64 ((10 * 19 + r : Nat) : Int))] h = some (I (Int.ofNat (bl (10 * 19 + r))), h)
  | 0, _ => by kernel_rfl
  | 1, _ => by kernel_rfl
  | 2, _ => by kernel_rfl
  | 3, _ => by kernel_rfl
  | 4, _ => by kernel_rfl
  | 5, _ => by kernel_rfl
  | 6, _ => by kernel_rfl
  | 7, _ => by kernel_rfl
  | 8, _ => by kernel_rfl
  | 9, _ => by kernel_rfl
  | r + 10, hr => absurd hr (by omega)
set_option maxRecDepth 100000 in
theorem b27_20 (d : Nat) (h : Hp) : ∀ r, r < 10 → runA ctx 5000 (d + 2) 46 [.lit (.int .u64 ((10 * 20 + r : Nat) : Int))] h = some (I (Int.ofNat (bl (10 * 20 + r))), h)
  | 0, _ => by kernel_rfl
  | 1, _ => by kernel_rfl
  | 2, _ => by kernel_rfl
  | 3, _ => by kernel_rfl
  | 4, _ => by kernel_rfl
  | 5, _ => by kernel_rfl
  | 6, _ => by kernel_rfl
  | 7, _ => by kernel_rfl
  | 8, _ => by kernel_rfl
  | 9, _ => by kernel_rfl
  | r + 10, hr => absurd hr (by omega)
theorem b27 (d : Nat) (h : Hp) (n : Nat) (hn : n < 201) : runA ctx 5000 (d + 2) 46 [.lit (.int .u64 ((n : Nat) : Int))] h = some (I (Int.ofNat (bl (n))), h) := by
  obtain ⟨k, r, hr, rfl, hk⟩ : ∃ k r, r < 10 ∧ n = 10 * k + r ∧ k < 21 := ⟨n / 10, n % 10, by omega, by omega, by omega⟩
  have hh : ∀ k, k < 21 → runA ctx 5000 (d + 2) 46 [.lit (.int .u64 ((10 * k + r : Nat) : Int))] h = some (I (Int.ofNat (bl (10 * k + r))), h)
    | 0, _ => b27_0 d h r hr
    | 1, _ => b27_1 d h r hr
    | 2, _ => b27_2 d h r hr
    | 3, _ => b27_3 d h r hr
    | 4, _ => b27_4 d h r hr
    | 5, _ => b27_5 d h r hr
    | 6, _ => b27_6 d h r hr
    | 7, _ => b27_7 d h r hr
    | 8, _ => b27_8 d h r hr
    | 9, _ => b27_9 d h r hr
    | 10, _ => b27_10 d h r hr
    | 11, _ => b27_11 d h r hr
    | 12, _ => b27_12 d h r hr
    | 13, _ => b27_13 d h r hr
    | 14, _ => b27_14 d h r hr
    | 15, _ => b27_15 d h r hr
    | 16, _ => b27_16 d h r hr
    | 17, _ => b27_17 d h r hr
    | 18, _ => b27_18 d h r hr
    | 19, _ => b27_19 d h r hr
    | 20, _ => b27_20 d h r hr
    | k + 21, hk => absurd hk (by omega)
  exact hh k hk
theorem cv_u (n : Nat) (hn : n < 201) : convA ctx 79 (I (n : Int)) = some (.lit (.int .u64 (n : Int))) := by
  have : IntKind.wrap .u64 (n : Int) = (n : Int) := by simp only [IntKind.wrap, IntKind.bits]; simp; omega
  show some (AV.lit (.int .u64 (IntKind.wrap .u64 (n : Int)))) = _
  rw [this]
theorem bl_le : ∀ n, n < 201 → n < 2 ^ bl n ∧ bl n < 9 := by decide +kernel
theorem sh_p : ∀ p, p < 10 → pureV (binOp .shl 3 (.int .i64 1) (.int .i64 (Int.ofNat p))) = some (I (Int.ofNat (2 ^ p)))
  | 0, _ => by kernel_rfl
  | 1, _ => by kernel_rfl
  | 2, _ => by kernel_rfl
  | 3, _ => by kernel_rfl
  | 4, _ => by kernel_rfl
  | 5, _ => by kernel_rfl
  | 6, _ => by kernel_rfl
  | 7, _ => by kernel_rfl
  | 8, _ => by kernel_rfl
  | 9, _ => by kernel_rfl
  | n + 10, hn => absurd hn (by omega)
theorem dv_p : ∀ p, p < 10 → pureV (binOp .quo 3 (.int .i64 (Int.ofNat (2 ^ (p + 1)))) (.int .i64 2)) = some (I (Int.ofNat (2 ^ p)))
  | 0, _ => by kernel_rfl
  | 1, _ => by kernel_rfl
  | 2, _ => by kernel_rfl
  | 3, _ => by kernel_rfl
  | 4, _ => by kernel_rfl
  | 5, _ => by kernel_rfl
  | 6, _ => by kernel_rfl
  | 7, _ => by kernel_rfl
  | 8, _ => by kernel_rfl
  | 9, _ => by kernel_rfl
  | n + 10, hn => absurd hn (by omega)
set_option maxRecDepth 100000 in
theorem lb_odd : ∀ p, p < 10 → ∀ q, q < 256 → (2 * q + 1) * 2 ^ p < 513 → lb ((2 * q + 1) * 2 ^ p) = 2 ^ p := by decide +kernel
theorem pw_le : ∀ p, p < 10 → 0 < 2 ^ p ∧ 2 ^ p ≤ 512 ∧ (0 < p → 1 < 2 ^ p) := by decide +kernel
theorem bx_norm {id : Nat} {Q : AEx → Env → Hp → Prop} {e : Env} {h : Hp} (hq : Q .normal e h) : Bx id Q .normal e h := hq
theorem cN1 {n k : Nat} (h : n < k) : decide ((n : Int) < Int.ofNat k) = true := by simp; omega
theorem cN0 {n k : Nat} (h : ¬ n < k) : decide ((n : Int) < Int.ofNat k) = false := by simp; omega
theorem c1N {k : Nat} (h : 1 < k) : decide ((1 : Int) < Int.ofNat k) = true := by simp; omega
theorem wadd {a b : Nat} (h : a + b < 9223372036854775808) : IntKind.wrap .i64 (Int.ofNat a + Int.ofNat b) = Int.ofNat (a + b) := by rw [IntKind.wrap_i64]; simp; omega
theorem find_ex {xs : List Int} (v : V xs) {x : Int} (h0 : 0 ≤ x) : ∀ n, x < pre xs n → ∃ i, i < n ∧ pre xs i ≤ x ∧ x < pre xs (i + 1) := by
  intro n
  induction n with
  | zero => intro h; rw [pre_zero] at h; omega
  | succ n ih =>
    intro h
    by_cases hn : x < pre xs n
    · obtain ⟨i, h1, h2⟩ := ih hn
      exact ⟨i, by omega, h2⟩
    · exact ⟨n, by omega, by omega, h⟩
theorem find_un {xs : List Int} (v : V xs) {x : Int} {i j : Nat} (a1 : pre xs i ≤ x) (a2 : x < pre xs (i + 1)) (b1 : pre xs j ≤ x) (b2 : x < pre xs (j + 1)) : i = j := by
  by_cases h : i = j
  · exact h
  · rcases Nat.lt_or_gt_of_ne h with h1 | h1
    · have := pre_mono v (show i + 1 ≤ j by omega)
      omega
    · have := pre_mono v (show j + 1 ≤ i by omega)
      omega
set_option maxHeartbeats 4000000 in
theorem fc20b (d : Nat) (h : Hp) (nm na nb : Nat) (xs : List Int) (x : Int) (t : Tr h nm na nb xs) (hz : x < 0 ∨ sm xs ≤ x) : runA ctx 5000 (d + 1) 21 [.ptr nm 0, I x] h = some (.tup [I 0, I 0, I 4], h) := by
  have l0 := t.c0.load
  have l3 := t.c3.load
  refine wv_eq ?_
  refine wv_run fn21 rfl ?_
  have a0 : (enterEnv [.ptr nm 0, I x] Try.f21.ntmps).get 0 = some (.ptr nm 0) := enter_get1 _ _ _
  have a1 : (enterEnv [.ptr nm 0, I x] Try.f21.ntmps).get 1 = some (I x) := enter_get2 _ _ _ _
  generalize enterEnv [.ptr nm 0, I x] Try.f21.ntmps = e at a0 a1 ⊢
  unfold Try.f21
  dsimp only
  by_cases hx : x < 0
  · have z0 : decide (x < 0) = true := by simpa using hx
    repeat' (first
      | refine wc_seq ?_
      | (refine wc_region rfl ?_; simp only [oUn_not, beq_self_eq_true, eq_self, pv_mul, List.toList_toArray, opsA_cons, opsA_nil, wantedA, guardA, yieldA, stepA_t, stepA_f, callA, calleeA, targetA, runOp_c, runOp_n, opA, ev, evs, evo, consO, consOO, withH, pickA, afterA_s, putA, T.get_put, Nat.reduceEqDiff, reduceIte, List.getElem?_toArray, List.getElem?_cons_zero, List.getElem?_cons_succ, oBuiltin, oBin, binA, binG, binL, aggO, litA, intA, ltF_eq, eqF_eq, oIndexAddr, cond_true, cond_false, Bool.not_true, Bool.not_false, decide_true, decide_false, blt_eq, tt_beq, tf_beq, ft_beq, ff_beq, Bool.and_true, Bool.true_and, Option.some.injEq, I, Bo, addI, subI, oExtract, Bool.not_eq_true', fieldAddrA, oFieldAddr, oLoad, oStore, isAggD, aggH, oneH, skipH, Nat.add_eq_left, Nat.left_eq_add, Nat.succ_ne_self, fieldA, partA, cellsOf, List.length_cons, List.length_nil, Nat.reduceAdd, Nat.zero_add, Nat.add_zero, Nat.mul_one, Nat.reduceMul, nbeq_self, onesA_cons', onesA_nil, oneA, Value.oneCell', Nat.reduceLT, ty2, ti2, ty3, ti3, ty4, ti4, ty22, ti22, ty37, ti37, ty71, ti71, ty79, ti79, a0, a1, l0, l3, z0, eqA, eqD, eqOp, nilCheckA]; refine ⟨_, _, rfl, ?_⟩)
      | (refine wc_cond (by simp only [oUn_not, beq_self_eq_true, eq_self, pv_mul, List.toList_toArray, opsA_cons, opsA_nil, wantedA, guardA, yieldA, stepA_t, stepA_f, callA, calleeA, targetA, runOp_c, runOp_n, opA, ev, evs, evo, consO, consOO, withH, pickA, afterA_s, putA, T.get_put, Nat.reduceEqDiff, reduceIte, List.getElem?_toArray, List.getElem?_cons_zero, List.getElem?_cons_succ, oBuiltin, oBin, binA, binG, binL, aggO, litA, intA, ltF_eq, eqF_eq, oIndexAddr, cond_true, cond_false, Bool.not_true, Bool.not_false, decide_true, decide_false, blt_eq, tt_beq, tf_beq, ft_beq, ff_beq, Bool.and_true, Bool.true_and, Option.some.injEq, I, Bo, addI, subI, oExtract, Bool.not_eq_true', fieldAddrA, oFieldAddr, oLoad, oStore, isAggD, aggH, oneH, skipH, Nat.add_eq_left, Nat.left_eq_add, Nat.succ_ne_self, fieldA, partA, cellsOf, List.length_cons, List.length_nil, Nat.reduceAdd, Nat.zero_add, Nat.add_zero, Nat.mul_one, Nat.reduceMul, nbeq_self, onesA_cons', onesA_nil, oneA, Value.oneCell', Nat.reduceLT, ty2, ti2, ty3, ti3, ty4, ti4, ty22, ti22, ty37, ti37, ty71, ti71, ty79, ti79, a0, a1, l0, l3, z0, eqA, eqD, eqOp, nilCheckA]; rfl) ?_ ?_ <;> intro hb <;> first | (exfalso; exact Bool.noConfusion hb) | skip)
      | refine wc_block ?_
      | refine wc_skip ?_
      | refine wc_scope (by decide) ?_
      | refine wc_label ?_
      | refine wc_exit ?_
      | refine wc_ret ?_
      | refine wv_ret (by simp only [resA, resOne]; simp only [oUn_not, beq_self_eq_true, eq_self, pv_mul, List.toList_toArray, opsA_cons, opsA_nil, wantedA, guardA, yieldA, stepA_t, stepA_f, callA, calleeA, targetA, runOp_c, runOp_n, opA, ev, evs, evo, consO, consOO, withH, pickA, afterA_s, putA, T.get_put, Nat.reduceEqDiff, reduceIte, List.getElem?_toArray, List.getElem?_cons_zero, List.getElem?_cons_succ, oBuiltin, oBin, binA, binG, binL, aggO, litA, intA, ltF_eq, eqF_eq, oIndexAddr, cond_true, cond_false, Bool.not_true, Bool.not_false, decide_true, decide_false, blt_eq, tt_beq, tf_beq, ft_beq, ff_beq, Bool.and_true, Bool.true_and, Option.some.injEq, I, Bo, addI, subI, oExtract, Bool.not_eq_true', fieldAddrA, oFieldAddr, oLoad, oStore, isAggD, aggH, oneH, skipH, Nat.add_eq_left, Nat.left_eq_add, Nat.succ_ne_self, fieldA, partA, cellsOf, List.length_cons, List.length_nil, Nat.reduceAdd, Nat.zero_add, Nat.add_zero, Nat.mul_one, Nat.reduceMul, nbeq_self, onesA_cons', onesA_nil, oneA, Value.oneCell', Nat.reduceLT, ty2, ti2, ty3, ti3, ty4, ti4, ty22, ti22, ty37, ti37, ty71, ti71, ty79, ti79, a0, a1, l0, l3, z0, eqA, eqD, eqOp, nilCheckA]; rfl) ?_)
    all_goals exact ⟨rfl, rfl⟩
  · have z0 : decide (x < 0) = false := by simp; omega
    have z1 : decide (x < sm xs) = false := by simp; omega
    repeat' (first
      | refine wc_seq ?_
      | (refine wc_region rfl ?_; simp only [oUn_not, beq_self_eq_true, eq_self, pv_mul, List.toList_toArray, opsA_cons, opsA_nil, wantedA, guardA, yieldA, stepA_t, stepA_f, callA, calleeA, targetA, runOp_c, runOp_n, opA, ev, evs, evo, consO, consOO, withH, pickA, afterA_s, putA, T.get_put, Nat.reduceEqDiff, reduceIte, List.getElem?_toArray, List.getElem?_cons_zero, List.getElem?_cons_succ, oBuiltin, oBin, binA, binG, binL, aggO, litA, intA, ltF_eq, eqF_eq, oIndexAddr, cond_true, cond_false, Bool.not_true, Bool.not_false, decide_true, decide_false, blt_eq, tt_beq, tf_beq, ft_beq, ff_beq, Bool.and_true, Bool.true_and, Option.some.injEq, I, Bo, addI, subI, oExtract, Bool.not_eq_true', fieldAddrA, oFieldAddr, oLoad, oStore, isAggD, aggH, oneH, skipH, Nat.add_eq_left, Nat.left_eq_add, Nat.succ_ne_self, fieldA, partA, cellsOf, List.length_cons, List.length_nil, Nat.reduceAdd, Nat.zero_add, Nat.add_zero, Nat.mul_one, Nat.reduceMul, nbeq_self, onesA_cons', onesA_nil, oneA, Value.oneCell', Nat.reduceLT, ty2, ti2, ty3, ti3, ty4, ti4, ty22, ti22, ty37, ti37, ty71, ti71, ty79, ti79, a0, a1, l0, l3, z0, z1, eqA, eqD, eqOp, nilCheckA]; refine ⟨_, _, rfl, ?_⟩)
      | (refine wc_cond (by simp only [oUn_not, beq_self_eq_true, eq_self, pv_mul, List.toList_toArray, opsA_cons, opsA_nil, wantedA, guardA, yieldA, stepA_t, stepA_f, callA, calleeA, targetA, runOp_c, runOp_n, opA, ev, evs, evo, consO, consOO, withH, pickA, afterA_s, putA, T.get_put, Nat.reduceEqDiff, reduceIte, List.getElem?_toArray, List.getElem?_cons_zero, List.getElem?_cons_succ, oBuiltin, oBin, binA, binG, binL, aggO, litA, intA, ltF_eq, eqF_eq, oIndexAddr, cond_true, cond_false, Bool.not_true, Bool.not_false, decide_true, decide_false, blt_eq, tt_beq, tf_beq, ft_beq, ff_beq, Bool.and_true, Bool.true_and, Option.some.injEq, I, Bo, addI, subI, oExtract, Bool.not_eq_true', fieldAddrA, oFieldAddr, oLoad, oStore, isAggD, aggH, oneH, skipH, Nat.add_eq_left, Nat.left_eq_add, Nat.succ_ne_self, fieldA, partA, cellsOf, List.length_cons, List.length_nil, Nat.reduceAdd, Nat.zero_add, Nat.add_zero, Nat.mul_one, Nat.reduceMul, nbeq_self, onesA_cons', onesA_nil, oneA, Value.oneCell', Nat.reduceLT, ty2, ti2, ty3, ti3, ty4, ti4, ty22, ti22, ty37, ti37, ty71, ti71, ty79, ti79, a0, a1, l0, l3, z0, z1, eqA, eqD, eqOp, nilCheckA]; rfl) ?_ ?_ <;> intro hb <;> first | (exfalso; exact Bool.noConfusion hb) | skip)
      | refine wc_block ?_
      | refine wc_skip ?_
      | refine wc_scope (by decide) ?_
      | refine wc_label ?_
      | refine wc_exit ?_
      | refine wc_ret ?_
      | refine wv_ret (by simp only [resA, resOne]; simp only [oUn_not, beq_self_eq_true, eq_self, pv_mul, List.toList_toArray, opsA_cons, opsA_nil, wantedA, guardA, yieldA, stepA_t, stepA_f, callA, calleeA, targetA, runOp_c, runOp_n, opA, ev, evs, evo, consO, consOO, withH, pickA, afterA_s, putA, T.get_put, Nat.reduceEqDiff, reduceIte, List.getElem?_toArray, List.getElem?_cons_zero, List.getElem?_cons_succ, oBuiltin, oBin, binA, binG, binL, aggO, litA, intA, ltF_eq, eqF_eq, oIndexAddr, cond_true, cond_false, Bool.not_true, Bool.not_false, decide_true, decide_false, blt_eq, tt_beq, tf_beq, ft_beq, ff_beq, Bool.and_true, Bool.true_and, Option.some.injEq, I, Bo, addI, subI, oExtract, Bool.not_eq_true', fieldAddrA, oFieldAddr, oLoad, oStore, isAggD, aggH, oneH, skipH, Nat.add_eq_left, Nat.left_eq_add, Nat.succ_ne_self, fieldA, partA, cellsOf, List.length_cons, List.length_nil, Nat.reduceAdd, Nat.zero_add, Nat.add_zero, Nat.mul_one, Nat.reduceMul, nbeq_self, onesA_cons', onesA_nil, oneA, Value.oneCell', Nat.reduceLT, ty2, ti2, ty3, ti3, ty4, ti4, ty22, ti22, ty37, ti37, ty71, ti71, ty79, ti79, a0, a1, l0, l3, z0, z1, eqA, eqD, eqOp, nilCheckA]; rfl) ?_)
    all_goals exact ⟨rfl, rfl⟩
set_option maxHeartbeats 4000000 in
theorem fc20 (d : Nat) (h : Hp) (nm na nb : Nat) (xs : List Int) (x : Int) (t : Tr h nm na nb xs) (i : Nat) (hi : i < xs.length) (hx1 : pre xs i ≤ x) (hx2 : x < pre xs (i + 1)) (hV : V xs) (hn : xs.length < 201) : runA ctx 5000 (d + 3) 21 [.ptr nm 0, I x] h = some (.tup [I (Int.ofNat i), I (x - pre xs i), I 0], h) := by
  have p1 := pre_bound hV i
  have p2 := pre_bound hV (i + 1)
  have p3 := hV.le
  have l0 := t.c0.load
  have l1 := t.c1.load
  have l2 := t.c2.load
  have l3 := t.c3.load
  have ln := len22 (nm := na) (off := 0) (n := xs.length) (cap := xs.length) (z := 0) (r := false)
  have z0 : decide (x < 0) = false := by simp; omega
  have z1 : decide (x < sm xs) = true := by simp; omega
  have cv := cv_u xs.length hn
  have q27 := fun h => b27 d h xs.length hn
  obtain ⟨bl1, bl2⟩ := bl_le xs.length hn
  have sh := sh_p (bl xs.length) (by omega)
  refine wv_eq ?_
  refine wv_run fn21 rfl ?_
  have a0 : (enterEnv [.ptr nm 0, I x] Try.f21.ntmps).get 0 = some (.ptr nm 0) := enter_get1 _ _ _
  have a1 : (enterEnv [.ptr nm 0, I x] Try.f21.ntmps).get 1 = some (I x) := enter_get2 _ _ _ _
  generalize enterEnv [.ptr nm 0, I x] Try.f21.ntmps = e at a0 a1 ⊢
  unfold Try.f21
  dsimp only
  repeat' (first
    | refine wc_seq ?_
    | (refine wc_region rfl ?_; simp only [oUn_not, beq_self_eq_true, eq_self, pv_mul, List.toList_toArray, opsA_cons, opsA_nil, wantedA, guardA, yieldA, stepA_t, stepA_f, callA, calleeA, targetA, runOp_c, runOp_n, opA, ev, evs, evo, consO, consOO, withH, pickA, afterA_s, putA, T.get_put, Nat.reduceEqDiff, reduceIte, List.getElem?_toArray, List.getElem?_cons_zero, List.getElem?_cons_succ, oBuiltin, oBin, binA, binG, binL, aggO, litA, intA, ltF_eq, eqF_eq, oIndexAddr, cond_true, cond_false, Bool.not_true, Bool.not_false, decide_true, decide_false, blt_eq, tt_beq, tf_beq, ft_beq, ff_beq, Bool.and_true, Bool.true_and, Option.some.injEq, I, Bo, addI, subI, oExtract, Bool.not_eq_true', fieldAddrA, oFieldAddr, oLoad, oStore, isAggD, aggH, oneH, skipH, Nat.add_eq_left, Nat.left_eq_add, Nat.succ_ne_self, fieldA, partA, cellsOf, List.length_cons, List.length_nil, Nat.reduceAdd, Nat.zero_add, Nat.add_zero, Nat.mul_one, Nat.reduceMul, nbeq_self, onesA_cons', onesA_nil, oneA, Value.oneCell', Nat.reduceLT, ty2, ti2, ty3, ti3, ty4, ti4, ty22, ti22, ty37, ti37, ty71, ti71, ty79, ti79, a0, a1, l0, l1, l3, ln, z0, z1, cv, q27, sh, oConv, eqA, eqD, eqOp, nilCheckA]; refine ⟨_, _, rfl, ?_⟩)
    | (refine wc_cond (by simp only [oUn_not, beq_self_eq_true, eq_self, pv_mul, List.toList_toArray, opsA_cons, opsA_nil, wantedA, guardA, yieldA, stepA_t, stepA_f, callA, calleeA, targetA, runOp_c, runOp_n, opA, ev, evs, evo, consO, consOO, withH, pickA, afterA_s, putA, T.get_put, Nat.reduceEqDiff, reduceIte, List.getElem?_toArray, List.getElem?_cons_zero, List.getElem?_cons_succ, oBuiltin, oBin, binA, binG, binL, aggO, litA, intA, ltF_eq, eqF_eq, oIndexAddr, cond_true, cond_false, Bool.not_true, Bool.not_false, decide_true, decide_false, blt_eq, tt_beq, tf_beq, ft_beq, ff_beq, Bool.and_true, Bool.true_and, Option.some.injEq, I, Bo, addI, subI, oExtract, Bool.not_eq_true', fieldAddrA, oFieldAddr, oLoad, oStore, isAggD, aggH, oneH, skipH, Nat.add_eq_left, Nat.left_eq_add, Nat.succ_ne_self, fieldA, partA, cellsOf, List.length_cons, List.length_nil, Nat.reduceAdd, Nat.zero_add, Nat.add_zero, Nat.mul_one, Nat.reduceMul, nbeq_self, onesA_cons', onesA_nil, oneA, Value.oneCell', Nat.reduceLT, ty2, ti2, ty3, ti3, ty4, ti4, ty22, ti22, ty37, ti37, ty71, ti71, ty79, ti79, a0, a1, l0, l1, l3, ln, z0, z1, cv, q27, sh, oConv, eqA, eqD, eqOp, nilCheckA]; rfl) ?_ ?_ <;> intro hb <;> first | (exfalso; exact Bool.noConfusion hb) | skip)
    | refine wc_block ?_
    | refine wc_skip ?_
    | refine wc_scope (by decide) ?_
    | refine wc_label ?_
    | refine wc_exit ?_
    | refine wc_ret ?_
    | refine wv_ret (by simp only [resA, resOne]; simp only [oUn_not, beq_self_eq_true, eq_self, pv_mul, List.toList_toArray, opsA_cons, opsA_nil, wantedA, guardA, yieldA, stepA_t, stepA_f, callA, calleeA, targetA, runOp_c, runOp_n, opA, ev, evs, evo, consO, consOO, withH, pickA, afterA_s, putA, T.get_put, Nat.reduceEqDiff, reduceIte, List.getElem?_toArray, List.getElem?_cons_zero, List.getElem?_cons_succ, oBuiltin, oBin, binA, binG, binL, aggO, litA, intA, ltF_eq, eqF_eq, oIndexAddr, cond_true, cond_false, Bool.not_true, Bool.not_false, decide_true, decide_false, blt_eq, tt_beq, tf_beq, ft_beq, ff_beq, Bool.and_true, Bool.true_and, Option.some.injEq, I, Bo, addI, subI, oExtract, Bool.not_eq_true', fieldAddrA, oFieldAddr, oLoad, oStore, isAggD, aggH, oneH, skipH, Nat.add_eq_left, Nat.left_eq_add, Nat.succ_ne_self, fieldA, partA, cellsOf, List.length_cons, List.length_nil, Nat.reduceAdd, Nat.zero_add, Nat.add_zero, Nat.mul_one, Nat.reduceMul, nbeq_self, onesA_cons', onesA_nil, oneA, Value.oneCell', Nat.reduceLT, ty2, ti2, ty3, ti3, ty4, ti4, ty22, ti22, ty37, ti37, ty71, ti71, ty79, ti79, a0, a1, l0, l1, l3, ln, z0, z1, cv, q27, sh, oConv, eqA, eqD, eqOp, nilCheckA]; rfl) ?_)
  refine wc_loop (fun m e h' => ∃ p q j r, p = m ∧ p < 10 ∧ j = q * 2 ^ p ∧ j ≤ xs.length ∧ e.get 0 = some (.ptr nm 0) ∧ e.get 4 = some (I (Int.ofNat j)) ∧ e.get 5 = some (I r) ∧ e.get 7 = some (I (Int.ofNat (2 ^ p))) ∧ pre xs j + r = x ∧ 0 ≤ r ∧ (xs.length < j + 2 ^ p ∨ x < pre xs (j + 2 ^ p)) ∧ h' = h) (bl xs.length) ?_ ⟨bl xs.length, 0, 0, x, ?_⟩ ?_
  · omega
  · refine ⟨rfl, by omega, by omega, by omega, ?_, ?_, ?_, ?_, by rw [pre_zero]; omega, by omega, .inl (by omega), rfl⟩
    all_goals simp only [oUn_not, beq_self_eq_true, eq_self, pv_mul, List.toList_toArray, opsA_cons, opsA_nil, wantedA, guardA, yieldA, stepA_t, stepA_f, callA, calleeA, targetA, runOp_c, runOp_n, opA, ev, evs, evo, consO, consOO, withH, pickA, afterA_s, putA, T.get_put, Nat.reduceEqDiff, reduceIte, List.getElem?_toArray, List.getElem?_cons_zero, List.getElem?_cons_succ, oBuiltin, oBin, binA, binG, binL, aggO, litA, intA, ltF_eq, eqF_eq, oIndexAddr, cond_true, cond_false, Bool.not_true, Bool.not_false, decide_true, decide_false, blt_eq, tt_beq, tf_beq, ft_beq, ff_beq, Bool.and_true, Bool.true_and, Option.some.injEq, I, Bo, addI, subI, oExtract, Bool.not_eq_true', fieldAddrA, oFieldAddr, oLoad, oStore, isAggD, aggH, oneH, skipH, Nat.add_eq_left, Nat.left_eq_add, Nat.succ_ne_self, fieldA, partA, cellsOf, List.length_cons, List.length_nil, Nat.reduceAdd, Nat.zero_add, Nat.add_zero, Nat.mul_one, Nat.reduceMul, nbeq_self, onesA_cons', onesA_nil, oneA, Value.oneCell', Nat.reduceLT, ty2, ti2, ty3, ti3, ty4, ti4, ty22, ti22, ty37, ti37, ty71, ti71, ty79, ti79, a0, a1, l0, l1, l3, ln, z0, z1, cv, q27, sh, oConv, eqA, eqD, eqOp, nilCheckA]; try rfl
  · rintro m e h' ⟨p, q, j, r, rfl, hp8, hj, hjn, e0, e4, e5, e7, hr, r0, hd, rfl⟩
    have pj := pre_bound hV j
    cases p with
    | zero =>
      have c0 : decide ((1 : Int) < Int.ofNat (2 ^ 0)) = false := by decide
      repeat' (first
        | refine wc_seq ?_
        | (refine wc_region rfl ?_; simp only [oUn_not, beq_self_eq_true, eq_self, pv_mul, List.toList_toArray, opsA_cons, opsA_nil, wantedA, guardA, yieldA, stepA_t, stepA_f, callA, calleeA, targetA, runOp_c, runOp_n, opA, ev, evs, evo, consO, consOO, withH, pickA, afterA_s, putA, T.get_put, Nat.reduceEqDiff, reduceIte, List.getElem?_toArray, List.getElem?_cons_zero, List.getElem?_cons_succ, oBuiltin, oBin, binA, binG, binL, aggO, litA, intA, ltF_eq, eqF_eq, oIndexAddr, cond_true, cond_false, Bool.not_true, Bool.not_false, decide_true, decide_false, blt_eq, tt_beq, tf_beq, ft_beq, ff_beq, Bool.and_true, Bool.true_and, Option.some.injEq, I, Bo, addI, subI, oExtract, Bool.not_eq_true', fieldAddrA, oFieldAddr, oLoad, oStore, isAggD, aggH, oneH, skipH, Nat.add_eq_left, Nat.left_eq_add, Nat.succ_ne_self, fieldA, partA, cellsOf, List.length_cons, List.length_nil, Nat.reduceAdd, Nat.zero_add, Nat.add_zero, Nat.mul_one, Nat.reduceMul, nbeq_self, onesA_cons', onesA_nil, oneA, Value.oneCell', Nat.reduceLT, ty2, ti2, ty3, ti3, ty4, ti4, ty22, ti22, ty37, ti37, ty71, ti71, ty79, ti79, e0, e4, e5, e7, c0, eqA, eqD, eqOp, nilCheckA]; refine ⟨_, _, rfl, ?_⟩)
        | (refine wc_cond (by simp only [oUn_not, beq_self_eq_true, eq_self, pv_mul, List.toList_toArray, opsA_cons, opsA_nil, wantedA, guardA, yieldA, stepA_t, stepA_f, callA, calleeA, targetA, runOp_c, runOp_n, opA, ev, evs, evo, consO, consOO, withH, pickA, afterA_s, putA, T.get_put, Nat.reduceEqDiff, reduceIte, List.getElem?_toArray, List.getElem?_cons_zero, List.getElem?_cons_succ, oBuiltin, oBin, binA, binG, binL, aggO, litA, intA, ltF_eq, eqF_eq, oIndexAddr, cond_true, cond_false, Bool.not_true, Bool.not_false, decide_true, decide_false, blt_eq, tt_beq, tf_beq, ft_beq, ff_beq, Bool.and_true, Bool.true_and, Option.some.injEq, I, Bo, addI, subI, oExtract, Bool.not_eq_true', fieldAddrA, oFieldAddr, oLoad, oStore, isAggD, aggH, oneH, skipH, Nat.add_eq_left, Nat.left_eq_add, Nat.succ_ne_self, fieldA, partA, cellsOf, List.length_cons, List.length_nil, Nat.reduceAdd, Nat.zero_add, Nat.add_zero, Nat.mul_one, Nat.reduceMul, nbeq_self, onesA_cons', onesA_nil, oneA, Value.oneCell', Nat.reduceLT, ty2, ti2, ty3, ti3, ty4, ti4, ty22, ti22, ty37, ti37, ty71, ti71, ty79, ti79, e0, e4, e5, e7, c0, eqA, eqD, eqOp, nilCheckA]; rfl) ?_ ?_ <;> intro hb <;> first | (exfalso; exact Bool.noConfusion hb) | skip)
        | refine wc_block ?_
        | refine wc_skip ?_
        | refine wc_scope (by decide) ?_
        | refine wc_label ?_
        | refine wc_exit ?_
        | refine wc_ret ?_
        | refine wv_ret (by simp only [resA, resOne]; simp only [oUn_not, beq_self_eq_true, eq_self, pv_mul, List.toList_toArray, opsA_cons, opsA_nil, wantedA, guardA, yieldA, stepA_t, stepA_f, callA, calleeA, targetA, runOp_c, runOp_n, opA, ev, evs, evo, consO, consOO, withH, pickA, afterA_s, putA, T.get_put, Nat.reduceEqDiff, reduceIte, List.getElem?_toArray, List.getElem?_cons_zero, List.getElem?_cons_succ, oBuiltin, oBin, binA, binG, binL, aggO, litA, intA, ltF_eq, eqF_eq, oIndexAddr, cond_true, cond_false, Bool.not_true, Bool.not_false, decide_true, decide_false, blt_eq, tt_beq, tf_beq, ft_beq, ff_beq, Bool.and_true, Bool.true_and, Option.some.injEq, I, Bo, addI, subI, oExtract, Bool.not_eq_true', fieldAddrA, oFieldAddr, oLoad, oStore, isAggD, aggH, oneH, skipH, Nat.add_eq_left, Nat.left_eq_add, Nat.succ_ne_self, fieldA, partA, cellsOf, List.length_cons, List.length_nil, Nat.reduceAdd, Nat.zero_add, Nat.add_zero, Nat.mul_one, Nat.reduceMul, nbeq_self, onesA_cons', onesA_nil, oneA, Value.oneCell', Nat.reduceLT, ty2, ti2, ty3, ti3, ty4, ti4, ty22, ti22, ty37, ti37, ty71, ti71, ty79, ti79, e0, e4, e5, e7, c0, eqA, eqD, eqOp, nilCheckA]; rfl) ?_)
      all_goals
        have hji : j = i := by
          rcases hd with h1 | h1
          · exfalso
            have : j = xs.length := by simp at h1; omega
            rw [this, pre_all (Nat.le_refl _)] at hr
            omega
          · exact find_un hV (by omega) h1 hx1 hx2
        subst hji
        refine ⟨?_, rfl⟩
        rw [show r = x - pre xs j by omega]
        rfl
    | succ p =>
      obtain ⟨pw1, pw2, _⟩ := pw_le p (by omega)
      have pw : 2 ^ (p + 1) = 2 * 2 ^ p := by rw [Nat.pow_succ]; omega
      have dv := dv_p p (by omega)
      have c0 : decide ((1 : Int) < Int.ofNat (2 ^ (p + 1))) = true := c1N (by omega)
      have hnx : j + 2 ^ p = (2 * q + 1) * 2 ^ p := by rw [hj, pw, Nat.add_mul, Nat.one_mul, Nat.mul_comm 2 q, Nat.mul_assoc]
      have wn : IntKind.wrap .i64 (Int.ofNat j + Int.ofNat (2 ^ p)) = Int.ofNat (j + 2 ^ p) := wadd (by omega)
      by_cases hb1 : xs.length < j + 2 ^ p
      · have c1 : decide ((xs.length : Int) < Int.ofNat (j + 2 ^ p)) = true := cN1 hb1
        repeat' (first
          | refine wc_seq ?_
          | (refine wc_region rfl ?_; simp only [oUn_not, beq_self_eq_true, eq_self, pv_mul, List.toList_toArray, opsA_cons, opsA_nil, wantedA, guardA, yieldA, stepA_t, stepA_f, callA, calleeA, targetA, runOp_c, runOp_n, opA, ev, evs, evo, consO, consOO, withH, pickA, afterA_s, putA, T.get_put, Nat.reduceEqDiff, reduceIte, List.getElem?_toArray, List.getElem?_cons_zero, List.getElem?_cons_succ, oBuiltin, oBin, binA, binG, binL, aggO, litA, intA, ltF_eq, eqF_eq, oIndexAddr, cond_true, cond_false, Bool.not_true, Bool.not_false, decide_true, decide_false, blt_eq, tt_beq, tf_beq, ft_beq, ff_beq, Bool.and_true, Bool.true_and, Option.some.injEq, I, Bo, addI, subI, oExtract, Bool.not_eq_true', fieldAddrA, oFieldAddr, oLoad, oStore, isAggD, aggH, oneH, skipH, Nat.add_eq_left, Nat.left_eq_add, Nat.succ_ne_self, fieldA, partA, cellsOf, List.length_cons, List.length_nil, Nat.reduceAdd, Nat.zero_add, Nat.add_zero, Nat.mul_one, Nat.reduceMul, nbeq_self, onesA_cons', onesA_nil, oneA, Value.oneCell', Nat.reduceLT, ty2, ti2, ty3, ti3, ty4, ti4, ty22, ti22, ty37, ti37, ty71, ti71, ty79, ti79, e0, e4, e5, e7, c0, l1, ln, dv, wn, c1, eqA, eqD, eqOp, nilCheckA]; refine ⟨_, _, rfl, ?_⟩)
          | (refine wc_cond (by simp only [oUn_not, beq_self_eq_true, eq_self, pv_mul, List.toList_toArray, opsA_cons, opsA_nil, wantedA, guardA, yieldA, stepA_t, stepA_f, callA, calleeA, targetA, runOp_c, runOp_n, opA, ev, evs, evo, consO, consOO, withH, pickA, afterA_s, putA, T.get_put, Nat.reduceEqDiff, reduceIte, List.getElem?_toArray, List.getElem?_cons_zero, List.getElem?_cons_succ, oBuiltin, oBin, binA, binG, binL, aggO, litA, intA, ltF_eq, eqF_eq, oIndexAddr, cond_true, cond_false, Bool.not_true, Bool.not_false, decide_true, decide_false, blt_eq, tt_beq, tf_beq, ft_beq, ff_beq, Bool.and_true, Bool.true_and, Option.some.injEq, I, Bo, addI, subI, oExtract, Bool.not_eq_true', fieldAddrA, oFieldAddr, oLoad, oStore, isAggD, aggH, oneH, skipH, Nat.add_eq_left, Nat.left_eq_add, Nat.succ_ne_self, fieldA, partA, cellsOf, List.length_cons, List.length_nil, Nat.reduceAdd, Nat.zero_add, Nat.add_zero, Nat.mul_one, Nat.reduceMul, nbeq_self, onesA_cons', onesA_nil, oneA, Value.oneCell', Nat.reduceLT, ty2, ti2, ty3, ti3, ty4, ti4, ty22, ti22, ty37, ti37, ty71, ti71, ty79, ti79, e0, e4, e5, e7, c0, l1, ln, dv, wn, c1, eqA, eqD, eqOp, nilCheckA]; rfl) ?_ ?_ <;> intro hb <;> first | (exfalso; exact Bool.noConfusion hb) | skip)
          | refine wc_block ?_
          | refine wc_skip ?_
          | refine wc_scope (by decide) ?_
          | refine wc_label ?_
          | refine wc_exit ?_
          | refine wc_ret ?_
          | refine wv_ret (by simp only [resA, resOne]; simp only [oUn_not, beq_self_eq_true, eq_self, pv_mul, List.toList_toArray, opsA_cons, opsA_nil, wantedA, guardA, yieldA, stepA_t, stepA_f, callA, calleeA, targetA, runOp_c, runOp_n, opA, ev, evs, evo, consO, consOO, withH, pickA, afterA_s, putA, T.get_put, Nat.reduceEqDiff, reduceIte, List.getElem?_toArray, List.getElem?_cons_zero, List.getElem?_cons_succ, oBuiltin, oBin, binA, binG, binL, aggO, litA, intA, ltF_eq, eqF_eq, oIndexAddr, cond_true, cond_false, Bool.not_true, Bool.not_false, decide_true, decide_false, blt_eq, tt_beq, tf_beq, ft_beq, ff_beq, Bool.and_true, Bool.true_and, Option.some.injEq, I, Bo, addI, subI, oExtract, Bool.not_eq_true', fieldAddrA, oFieldAddr, oLoad, oStore, isAggD, aggH, oneH, skipH, Nat.add_eq_left, Nat.left_eq_add, Nat.succ_ne_self, fieldA, partA, cellsOf, List.length_cons, List.length_nil, Nat.reduceAdd, Nat.zero_add, Nat.add_zero, Nat.mul_one, Nat.reduceMul, nbeq_self, onesA_cons', onesA_nil, oneA, Value.oneCell', Nat.reduceLT, ty2, ti2, ty3, ti3, ty4, ti4, ty22, ti22, ty37, ti37, ty71, ti71, ty79, ti79, e0, e4, e5, e7, c0, l1, ln, dv, wn, c1, eqA, eqD, eqOp, nilCheckA]; rfl) ?_)
        all_goals ((first | refine nx_exit (bx_hit rfl ?_) | refine bx_hit rfl ?_ | refine bx_norm ?_ | skip); refine nx_next p (by omega) ⟨p, 2 * q, j, r, rfl, by omega, by rw [hj, pw, Nat.mul_comm 2 q, Nat.mul_assoc], hjn, ?_, ?_, ?_, ?_, hr, r0, .inl hb1, rfl⟩ <;> simp only [oUn_not, beq_self_eq_true, eq_self, pv_mul, List.toList_toArray, opsA_cons, opsA_nil, wantedA, guardA, yieldA, stepA_t, stepA_f, callA, calleeA, targetA, runOp_c, runOp_n, opA, ev, evs, evo, consO, consOO, withH, pickA, afterA_s, putA, T.get_put, Nat.reduceEqDiff, reduceIte, List.getElem?_toArray, List.getElem?_cons_zero, List.getElem?_cons_succ, oBuiltin, oBin, binA, binG, binL, aggO, litA, intA, ltF_eq, eqF_eq, oIndexAddr, cond_true, cond_false, Bool.not_true, Bool.not_false, decide_true, decide_false, blt_eq, tt_beq, tf_beq, ft_beq, ff_beq, Bool.and_true, Bool.true_and, Option.some.injEq, I, Bo, addI, subI, oExtract, Bool.not_eq_true', fieldAddrA, oFieldAddr, oLoad, oStore, isAggD, aggH, oneH, skipH, Nat.add_eq_left, Nat.left_eq_add, Nat.succ_ne_self, fieldA, partA, cellsOf, List.length_cons, List.length_nil, Nat.reduceAdd, Nat.zero_add, Nat.add_zero, Nat.mul_one, Nat.reduceMul, nbeq_self, onesA_cons', onesA_nil, oneA, Value.oneCell', Nat.reduceLT, ty2, ti2, ty3, ti3, ty4, ti4, ty22, ti22, ty37, ti37, ty71, ti71, ty79, ti79, e0, e4, e5, e7, c0, l1, ln, dv, wn, eqA, eqD, eqOp, nilCheckA])
      · have c1 : decide ((xs.length : Int) < Int.ofNat (j + 2 ^ p)) = false := cN0 hb1
        have hq : q < 256 := by
          have : q * 1 ≤ q * 2 ^ (p + 1) := Nat.mul_le_mul_left q (Nat.one_le_two_pow)
          omega
        have hlb := lb_odd p (by omega) q hq (by omega)
        rw [← hnx] at hlb
        obtain ⟨y, hy⟩ : ∃ y, j + 2 ^ p = y + 1 := ⟨j + 2 ^ p - 1, by omega⟩
        have l4 := (t.sums y (by omega)).load
        have hfs : fs xs (y + 1) = pre xs (y + 1) - pre xs j := by unfold fs; rw [← hy, hlb, Nat.add_sub_cancel]
        have ix := ia22 (nm := nb) (off := 0) (n := xs.length) (cap := xs.length) (z := 0) (r := false) (show y < xs.length by omega)
        rw [Nat.zero_add] at ix
        have w := dec (k := y) (by omega)
        have py := pre_bound hV (y + 1)
        rw [hy] at wn c1
        by_cases hb2 : r < fs xs (y + 1)
        · have c2 : decide (r < fs xs (y + 1)) = true := by simpa using hb2
          repeat' (first
            | refine wc_seq ?_
            | (refine wc_region rfl ?_; simp only [oUn_not, beq_self_eq_true, eq_self, pv_mul, List.toList_toArray, opsA_cons, opsA_nil, wantedA, guardA, yieldA, stepA_t, stepA_f, callA, calleeA, targetA, runOp_c, runOp_n, opA, ev, evs, evo, consO, consOO, withH, pickA, afterA_s, putA, T.get_put, Nat.reduceEqDiff, reduceIte, List.getElem?_toArray, List.getElem?_cons_zero, List.getElem?_cons_succ, oBuiltin, oBin, binA, binG, binL, aggO, litA, intA, ltF_eq, eqF_eq, oIndexAddr, cond_true, cond_false, Bool.not_true, Bool.not_false, decide_true, decide_false, blt_eq, tt_beq, tf_beq, ft_beq, ff_beq, Bool.and_true, Bool.true_and, Option.some.injEq, I, Bo, addI, subI, oExtract, Bool.not_eq_true', fieldAddrA, oFieldAddr, oLoad, oStore, isAggD, aggH, oneH, skipH, Nat.add_eq_left, Nat.left_eq_add, Nat.succ_ne_self, fieldA, partA, cellsOf, List.length_cons, List.length_nil, Nat.reduceAdd, Nat.zero_add, Nat.add_zero, Nat.mul_one, Nat.reduceMul, nbeq_self, onesA_cons', onesA_nil, oneA, Value.oneCell', Nat.reduceLT, ty2, ti2, ty3, ti3, ty4, ti4, ty22, ti22, ty37, ti37, ty71, ti71, ty79, ti79, e0, e4, e5, e7, c0, l1, l2, ln, dv, wn, c1, c2, l4, ix, w, eqA, eqD, eqOp, nilCheckA]; refine ⟨_, _, rfl, ?_⟩)
            | (refine wc_cond (by simp only [oUn_not, beq_self_eq_true, eq_self, pv_mul, List.toList_toArray, opsA_cons, opsA_nil, wantedA, guardA, yieldA, stepA_t, stepA_f, callA, calleeA, targetA, runOp_c, runOp_n, opA, ev, evs, evo, consO, consOO, withH, pickA, afterA_s, putA, T.get_put, Nat.reduceEqDiff, reduceIte, List.getElem?_toArray, List.getElem?_cons_zero, List.getElem?_cons_succ, oBuiltin, oBin, binA, binG, binL, aggO, litA, intA, ltF_eq, eqF_eq, oIndexAddr, cond_true, cond_false, Bool.not_true, Bool.not_false, decide_true, decide_false, blt_eq, tt_beq, tf_beq, ft_beq, ff_beq, Bool.and_true, Bool.true_and, Option.some.injEq, I, Bo, addI, subI, oExtract, Bool.not_eq_true', fieldAddrA, oFieldAddr, oLoad, oStore, isAggD, aggH, oneH, skipH, Nat.add_eq_left, Nat.left_eq_add, Nat.succ_ne_self, fieldA, partA, cellsOf, List.length_cons, List.length_nil, Nat.reduceAdd, Nat.zero_add, Nat.add_zero, Nat.mul_one, Nat.reduceMul, nbeq_self, onesA_cons', onesA_nil, oneA, Value.oneCell', Nat.reduceLT, ty2, ti2, ty3, ti3, ty4, ti4, ty22, ti22, ty37, ti37, ty71, ti71, ty79, ti79, e0, e4, e5, e7, c0, l1, l2, ln, dv, wn, c1, c2, l4, ix, w, eqA, eqD, eqOp, nilCheckA]; rfl) ?_ ?_ <;> intro hb <;> first | (exfalso; exact Bool.noConfusion hb) | skip)
            | refine wc_block ?_
            | refine wc_skip ?_
            | refine wc_scope (by decide) ?_
            | refine wc_label ?_
            | refine wc_exit ?_
            | refine wc_ret ?_
            | refine wv_ret (by simp only [resA, resOne]; simp only [oUn_not, beq_self_eq_true, eq_self, pv_mul, List.toList_toArray, opsA_cons, opsA_nil, wantedA, guardA, yieldA, stepA_t, stepA_f, callA, calleeA, targetA, runOp_c, runOp_n, opA, ev, evs, evo, consO, consOO, withH, pickA, afterA_s, putA, T.get_put, Nat.reduceEqDiff, reduceIte, List.getElem?_toArray, List.getElem?_cons_zero, List.getElem?_cons_succ, oBuiltin, oBin, binA, binG, binL, aggO, litA, intA, ltF_eq, eqF_eq, oIndexAddr, cond_true, cond_false, Bool.not_true, Bool.not_false, decide_true, decide_false, blt_eq, tt_beq, tf_beq, ft_beq, ff_beq, Bool.and_true, Bool.true_and, Option.some.injEq, I, Bo, addI, subI, oExtract, Bool.not_eq_true', fieldAddrA, oFieldAddr, oLoad, oStore, isAggD, aggH, oneH, skipH, Nat.add_eq_left, Nat.left_eq_add, Nat.succ_ne_self, fieldA, partA, cellsOf, List.length_cons, List.length_nil, Nat.reduceAdd, Nat.zero_add, Nat.add_zero, Nat.mul_one, Nat.reduceMul, nbeq_self, onesA_cons', onesA_nil, oneA, Value.oneCell', Nat.reduceLT, ty2, ti2, ty3, ti3, ty4, ti4, ty22, ti22, ty37, ti37, ty71, ti71, ty79, ti79, e0, e4, e5, e7, c0, l1, l2, ln, dv, wn, c1, c2, l4, ix, w, eqA, eqD, eqOp, nilCheckA]; rfl) ?_)
          all_goals ((first | refine nx_exit (bx_hit rfl ?_) | refine bx_hit rfl ?_ | refine bx_norm ?_ | skip); refine nx_next p (by omega) ⟨p, 2 * q, j, r, rfl, by omega, by rw [hj, pw, Nat.mul_comm 2 q, Nat.mul_assoc], hjn, ?_, ?_, ?_, ?_, hr, r0, .inr (by rw [hy]; omega), rfl⟩ <;> simp only [oUn_not, beq_self_eq_true, eq_self, pv_mul, List.toList_toArray, opsA_cons, opsA_nil, wantedA, guardA, yieldA, stepA_t, stepA_f, callA, calleeA, targetA, runOp_c, runOp_n, opA, ev, evs, evo, consO, consOO, withH, pickA, afterA_s, putA, T.get_put, Nat.reduceEqDiff, reduceIte, List.getElem?_toArray, List.getElem?_cons_zero, List.getElem?_cons_succ, oBuiltin, oBin, binA, binG, binL, aggO, litA, intA, ltF_eq, eqF_eq, oIndexAddr, cond_true, cond_false, Bool.not_true, Bool.not_false, decide_true, decide_false, blt_eq, tt_beq, tf_beq, ft_beq, ff_beq, Bool.and_true, Bool.true_and, Option.some.injEq, I, Bo, addI, subI, oExtract, Bool.not_eq_true', fieldAddrA, oFieldAddr, oLoad, oStore, isAggD, aggH, oneH, skipH, Nat.add_eq_left, Nat.left_eq_add, Nat.succ_ne_self, fieldA, partA, cellsOf, List.length_cons, List.length_nil, Nat.reduceAdd, Nat.zero_add, Nat.add_zero, Nat.mul_one, Nat.reduceMul, nbeq_self, onesA_cons', onesA_nil, oneA, Value.oneCell', Nat.reduceLT, ty2, ti2, ty3, ti3, ty4, ti4, ty22, ti22, ty37, ti37, ty71, ti71, ty79, ti79, e0, e4, e5, e7, c0, l1, l2, ln, dv, wn, c1, c2, l4, ix, w, eqA, eqD, eqOp, nilCheckA])
        · have c2 : decide (r < fs xs (y + 1)) = false := by simpa using hb2
          have ws : IntKind.wrap .i64 (r - fs xs (y + 1)) = r - fs xs (y + 1) := by rw [IntKind.wrap_i64]; omega
          repeat' (first
            | refine wc_seq ?_
            | (refine wc_region rfl ?_; simp only [oUn_not, beq_self_eq_true, eq_self, pv_mul, List.toList_toArray, opsA_cons, opsA_nil, wantedA, guardA, yieldA, stepA_t, stepA_f, callA, calleeA, targetA, runOp_c, runOp_n, opA, ev, evs, evo, consO, consOO, withH, pickA, afterA_s, putA, T.get_put, Nat.reduceEqDiff, reduceIte, List.getElem?_toArray, List.getElem?_cons_zero, List.getElem?_cons_succ, oBuiltin, oBin, binA, binG, binL, aggO, litA, intA, ltF_eq, eqF_eq, oIndexAddr, cond_true, cond_false, Bool.not_true, Bool.not_false, decide_true, decide_false, blt_eq, tt_beq, tf_beq, ft_beq, ff_beq, Bool.and_true, Bool.true_and, Option.some.injEq, I, Bo, addI, subI, oExtract, Bool.not_eq_true', fieldAddrA, oFieldAddr, oLoad, oStore, isAggD, aggH, oneH, skipH, Nat.add_eq_left, Nat.left_eq_add, Nat.succ_ne_self, fieldA, partA, cellsOf, List.length_cons, List.length_nil, Nat.reduceAdd, Nat.zero_add, Nat.add_zero, Nat.mul_one, Nat.reduceMul, nbeq_self, onesA_cons', onesA_nil, oneA, Value.oneCell', Nat.reduceLT, ty2, ti2, ty3, ti3, ty4, ti4, ty22, ti22, ty37, ti37, ty71, ti71, ty79, ti79, e0, e4, e5, e7, c0, l1, l2, ln, dv, wn, c1, c2, l4, ix, w, ws, eqA, eqD, eqOp, nilCheckA]; refine ⟨_, _, rfl, ?_⟩)
            | (refine wc_cond (by simp only [oUn_not, beq_self_eq_true, eq_self, pv_mul, List.toList_toArray, opsA_cons, opsA_nil, wantedA, guardA, yieldA, stepA_t, stepA_f, callA, calleeA, targetA, runOp_c, runOp_n, opA, ev, evs, evo, consO, consOO, withH, pickA, afterA_s, putA, T.get_put, Nat.reduceEqDiff, reduceIte, List.getElem?_toArray, List.getElem?_cons_zero, List.getElem?_cons_succ, oBuiltin, oBin, binA, binG, binL, aggO, litA, intA, ltF_eq, eqF_eq, oIndexAddr, cond_true, cond_false, Bool.not_true, Bool.not_false, decide_true, decide_false, blt_eq, tt_beq, tf_beq, ft_beq, ff_beq, Bool.and_true, Bool.true_and, Option.some.injEq, I, Bo, addI, subI, oExtract, Bool.not_eq_true', fieldAddrA, oFieldAddr, oLoad, oStore, isAggD, aggH, oneH, skipH, Nat.add_eq_left, Nat.left_eq_add, Nat.succ_ne_self, fieldA, partA, cellsOf, List.length_cons, List.length_nil, Nat.reduceAdd, Nat.zero_add, Nat.add_zero, Nat.mul_one, Nat.reduceMul, nbeq_self, onesA_cons', onesA_nil, oneA, Value.oneCell', Nat.reduceLT, ty2, ti2, ty3, ti3, ty4, ti4, ty22, ti22, ty37, ti37, ty71, ti71, ty79, ti79, e0, e4, e5, e7, c0, l1, l2, ln, dv, wn, c1, c2, l4, ix, w, ws, eqA, eqD, eqOp, nilCheckA]; rfl) ?_ ?_ <;> intro hb <;> first | (exfalso; exact Bool.noConfusion hb) | skip)
            | refine wc_block ?_
            | refine wc_skip ?_
            | refine wc_scope (by decide) ?_
            | refine wc_label ?_
            | refine wc_exit ?_
            | refine wc_ret ?_
            | refine wv_ret (by simp only [resA, resOne]; simp only [oUn_not, beq_self_eq_true, eq_self, pv_mul, List.toList_toArray, opsA_cons, opsA_nil, wantedA, guardA, yieldA, stepA_t, stepA_f, callA, calleeA, targetA, runOp_c, runOp_n, opA, ev, evs, evo, consO, consOO, withH, pickA, afterA_s, putA, T.get_put, Nat.reduceEqDiff, reduceIte, List.getElem?_toArray, List.getElem?_cons_zero, List.getElem?_cons_succ, oBuiltin, oBin, binA, binG, binL, aggO, litA, intA, ltF_eq, eqF_eq, oIndexAddr, cond_true, cond_false, Bool.not_true, Bool.not_false, decide_true, decide_false, blt_eq, tt_beq, tf_beq, ft_beq, ff_beq, Bool.and_true, Bool.true_and, Option.some.injEq, I, Bo, addI, subI, oExtract, Bool.not_eq_true', fieldAddrA, oFieldAddr, oLoad, oStore, isAggD, aggH, oneH, skipH, Nat.add_eq_left, Nat.left_eq_add, Nat.succ_ne_self, fieldA, partA, cellsOf, List.length_cons, List.length_nil, Nat.reduceAdd, Nat.zero_add, Nat.add_zero, Nat.mul_one, Nat.reduceMul, nbeq_self, onesA_cons', onesA_nil, oneA, Value.oneCell', Nat.reduceLT, ty2, ti2, ty3, ti3, ty4, ti4, ty22, ti22, ty37, ti37, ty71, ti71, ty79, ti79, e0, e4, e5, e7, c0, l1, l2, ln, dv, wn, c1, c2, l4, ix, w, ws, eqA, eqD, eqOp, nilCheckA]; rfl) ?_)
          all_goals ((first | refine nx_exit (bx_hit rfl ?_) | refine bx_hit rfl ?_ | refine bx_norm ?_ | skip); refine nx_next p (by omega) ⟨p, 2 * q + 1, y + 1, r - fs xs (y + 1), rfl, by omega, by rw [← hy, hnx], by omega, ?_, ?_, ?_, ?_, by omega, by omega, by rcases hd with h1 | h1; exact .inl (by omega); exact .inr (by rw [show y + 1 + 2 ^ p = j + 2 ^ (p + 1) by omega]; exact h1), rfl⟩ <;> simp only [oUn_not, beq_self_eq_true, eq_self, pv_mul, List.toList_toArray, opsA_cons, opsA_nil, wantedA, guardA, yieldA, stepA_t, stepA_f, callA, calleeA, targetA, runOp_c, runOp_n, opA, ev, evs, evo, consO, consOO, withH, pickA, afterA_s, putA, T.get_put, Nat.reduceEqDiff, reduceIte, List.getElem?_toArray, List.getElem?_cons_zero, List.getElem?_cons_succ, oBuiltin, oBin, binA, binG, binL, aggO, litA, intA, ltF_eq, eqF_eq, oIndexAddr, cond_true, cond_false, Bool.not_true, Bool.not_false, decide_true, decide_false, blt_eq, tt_beq, tf_beq, ft_beq, ff_beq, Bool.and_true, Bool.true_and, Option.some.injEq, I, Bo, addI, subI, oExtract, Bool.not_eq_true', fieldAddrA, oFieldAddr, oLoad, oStore, isAggD, aggH, oneH, skipH, Nat.add_eq_left, Nat.left_eq_add, Nat.succ_ne_self, fieldA, partA, cellsOf, List.length_cons, List.length_nil, Nat.reduceAdd, Nat.zero_add, Nat.add_zero, Nat.mul_one, Nat.reduceMul, nbeq_self, onesA_cons', onesA_nil, oneA, Value.oneCell', Nat.reduceLT, ty2, ti2, ty3, ti3, ty4, ti4, ty22, ti22, ty37, ti37, ty71, ti71, ty79, ti79, e0, e4, e5, e7, c0, l1, l2, ln, dv, wn, c1, c2, l4, ix, w, ws, eqA, eqD, eqOp, nilCheckA])


end Go.Proofs.Ytpioenfglmimgaa.Fw
