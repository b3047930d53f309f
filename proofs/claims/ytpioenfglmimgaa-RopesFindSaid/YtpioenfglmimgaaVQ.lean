import Derived.Test.YtpioenfglmimgaaFA
import Derived.Test.YtpioenfglmimgaaVA
import Derived.KernelRfl
namespace Go.Proofs.Ytpioenfglmimgaa.Fw
open Go Go.Proofs Go.RowKit Go.Proofs.Abs Go.Proofs.Ytpioenfglmimgaa
set_option linter.unusedSimpArgs false
set_option linter.unusedVariables false


theorem len22 {nm off n cap z : Nat} {r : Bool} (h : Hp) : builtinA ctx h .len [22] [.slice nm off n r cap z] = some (I (n : Int), h) := by
  simp only [builtinA, ty22, ti22]
theorem ia22 {nm off n cap z k : Nat} {r : Bool} (hk : k < n) : indexAddrA ctx 22 (.slice nm off n r cap z) (I (Int.ofNat k)) = some (.ptr nm (off + k)) := ia_own ty22 rfl ty2 rfl hk
theorem inc {k : Nat} (hk : k < 9223372036854775807) : IntKind.wrap .i64 (Int.ofNat k + 1) = Int.ofNat (k + 1) := by rw [IntKind.wrap_i64]; simp; omega
theorem dec {k : Nat} (hk : k < 9223372036854775807) : IntKind.wrap .i64 (Int.ofNat (k + 1) - 1) = Int.ofNat k := by rw [IntKind.wrap_i64]; simp; omega
theorem un_neg (k : Nat) : pureV (Op.unary .neg (.int .i64 (Int.ofNat k))) = some (I (IntKind.wrap .i64 (0 - Int.ofNat k))) := rfl
theorem bin_and (k : Nat) : pureV (binOp .and 3 (.int .i64 (Int.ofNat k)) (.int .i64 (IntKind.wrap .i64 (0 - Int.ofNat k)))) = some (I (lowI k)) := rfl
set_option maxHeartbeats 4000000 in
theorem fc26 (d : Nat) (h : Hp) (k : Nat) (hk : k < 8193) : runA ctx 5000 (d + 1) 45 [I (Int.ofNat k)] h = some (I (Int.ofNat (lb k)), h) := by
  have ub := un_neg k
  have ab := bin_and k
  rw [low_eq k hk] at ab
  refine wv_eq ?_
  refine wv_run fn45 rfl ?_
  have a0 : (enterEnv [I (Int.ofNat k)] Try.f45.ntmps).get 0 = some (I (Int.ofNat k)) := enter_get1 _ _ _
  generalize enterEnv [I (Int.ofNat k)] Try.f45.ntmps = e at a0 ⊢
  unfold Try.f45
  dsimp only
  repeat' (first
    | refine wc_seq ?_
    | (refine wc_region rfl ?_; simp only [oUn_not, beq_self_eq_true, eq_self, pv_mul, List.toList_toArray, opsA_cons, opsA_nil, wantedA, guardA, yieldA, stepA_t, stepA_f, callA, calleeA, targetA, runOp_c, runOp_n, opA, ev, evs, evo, consO, consOO, withH, pickA, afterA_s, putA, T.get_put, Nat.reduceEqDiff, reduceIte, List.getElem?_toArray, List.getElem?_cons_zero, List.getElem?_cons_succ, oBuiltin, oBin, binA, binG, binL, aggO, litA, intA, ltF_eq, eqF_eq, oIndexAddr, cond_true, cond_false, Bool.not_true, Bool.not_false, decide_true, decide_false, blt_eq, tt_beq, tf_beq, ft_beq, ff_beq, Bool.and_true, Bool.true_and, Option.some.injEq, I, Bo, addI, subI, oExtract, Bool.not_eq_true', fieldAddrA, oFieldAddr, oLoad, oStore, isAggD, aggH, oneH, skipH, Nat.add_eq_left, Nat.left_eq_add, Nat.succ_ne_self, fieldA, partA, cellsOf, List.length_cons, List.length_nil, Nat.reduceAdd, Nat.zero_add, Nat.add_zero, Nat.mul_one, Nat.reduceMul, nbeq_self, onesA_cons', onesA_nil, oneA, Value.oneCell', Nat.reduceLT, ty3, ti3, a0, oUn, ub, ab]; refine ⟨_, _, rfl, ?_⟩)
    | (refine wc_cond (by simp only [oUn_not, beq_self_eq_true, eq_self, pv_mul, List.toList_toArray, opsA_cons, opsA_nil, wantedA, guardA, yieldA, stepA_t, stepA_f, callA, calleeA, targetA, runOp_c, runOp_n, opA, ev, evs, evo, consO, consOO, withH, pickA, afterA_s, putA, T.get_put, Nat.reduceEqDiff, reduceIte, List.getElem?_toArray, List.getElem?_cons_zero, List.getElem?_cons_succ, oBuiltin, oBin, binA, binG, binL, aggO, litA, intA, ltF_eq, eqF_eq, oIndexAddr, cond_true, cond_false, Bool.not_true, Bool.not_false, decide_true, decide_false, blt_eq, tt_beq, tf_beq, ft_beq, ff_beq, Bool.and_true, Bool.true_and, Option.some.injEq, I, Bo, addI, subI, oExtract, Bool.not_eq_true', fieldAddrA, oFieldAddr, oLoad, oStore, isAggD, aggH, oneH, skipH, Nat.add_eq_left, Nat.left_eq_add, Nat.succ_ne_self, fieldA, partA, cellsOf, List.length_cons, List.length_nil, Nat.reduceAdd, Nat.zero_add, Nat.add_zero, Nat.mul_one, Nat.reduceMul, nbeq_self, onesA_cons', onesA_nil, oneA, Value.oneCell', Nat.reduceLT, ty3, ti3, a0, oUn, ub, ab]; rfl) ?_ ?_ <;> intro hb <;> first | (exfalso; exact Bool.noConfusion hb) | skip)
    | refine wc_block ?_
    | refine wc_skip ?_
    | refine wc_scope (by decide) ?_
    | refine wc_label ?_
    | refine wc_exit ?_
    | refine wc_ret ?_
    | refine wv_ret (by simp only [resA, resOne]; simp only [oUn_not, beq_self_eq_true, eq_self, pv_mul, List.toList_toArray, opsA_cons, opsA_nil, wantedA, guardA, yieldA, stepA_t, stepA_f, callA, calleeA, targetA, runOp_c, runOp_n, opA, ev, evs, evo, consO, consOO, withH, pickA, afterA_s, putA, T.get_put, Nat.reduceEqDiff, reduceIte, List.getElem?_toArray, List.getElem?_cons_zero, List.getElem?_cons_succ, oBuiltin, oBin, binA, binG, binL, aggO, litA, intA, ltF_eq, eqF_eq, oIndexAddr, cond_true, cond_false, Bool.not_true, Bool.not_false, decide_true, decide_false, blt_eq, tt_beq, tf_beq, ft_beq, ff_beq, Bool.and_true, Bool.true_and, Option.some.injEq, I, Bo, addI, subI, oExtract, Bool.not_eq_true', fieldAddrA, oFieldAddr, oLoad, oStore, isAggD, aggH, oneH, skipH, Nat.add_eq_left, Nat.left_eq_add, Nat.succ_ne_self, fieldA, partA, cellsOf, List.length_cons, List.length_nil, Nat.reduceAdd, Nat.zero_add, Nat.add_zero, Nat.mul_one, Nat.reduceMul, nbeq_self, onesA_cons', onesA_nil, oneA, Value.oneCell', Nat.reduceLT, ty3, ti3, a0, oUn, ub, ab]; rfl) ?_)
  all_goals exact ⟨rfl, rfl⟩
set_option maxHeartbeats 4000000 in
theorem fc29 (d : Nat) (h : Hp) (j n nm nb bt bm : Nat) (s more : Int) (hj : j < n) (ct : Cell h bt 0 (.ptr nm 0)) (c2 : Cell h nm 2 (.slice nb 0 n false n 0)) (cj : Cell h nb j (I s)) (cm : Cell h bm 0 (I more)) (hn : n ≤ 4096) :
    Wv (runA ctx 5000 (d + 1) 56 [I (Int.ofNat (j + 1)), .ptr bt 0, .ptr bm 0] h) (fun r h' => St h h' nb j (I (IntKind.wrap .i64 (s + more)))) := by
  have l1 := ct.load
  have l2 := c2.load
  have l3 := cj.load
  have l4 := cm.load
  have w := dec (k := j) (by omega)
  have ix := ia22 (nm := nb) (off := 0) (cap := n) (z := 0) (r := false) hj
  rw [Nat.zero_add] at ix
  obtain ⟨h2, hst, s2⟩ := cj.store (w := I (IntKind.wrap .i64 (s + more))) rfl
  refine wv_run fn56 rfl ?_
  have a0 : (enterEnv [I (Int.ofNat (j + 1)), .ptr bt 0, .ptr bm 0] Try.f56.ntmps).get 0 = some (I (Int.ofNat (j + 1))) := enter_get1 _ _ _
  have a1 : (enterEnv [I (Int.ofNat (j + 1)), .ptr bt 0, .ptr bm 0] Try.f56.ntmps).get 1 = some (.ptr bt 0) := enter_get2 _ _ _ _
  have a2 : (enterEnv [I (Int.ofNat (j + 1)), .ptr bt 0, .ptr bm 0] Try.f56.ntmps).get 2 = some (.ptr bm 0) := enter_get3 _ _ _ _ _
  generalize enterEnv [I (Int.ofNat (j + 1)), .ptr bt 0, .ptr bm 0] Try.f56.ntmps = e at a0 a1 a2 ⊢
  unfold Try.f56
  dsimp only
  repeat' (first
    | refine wc_seq ?_
    | (refine wc_region rfl ?_; simp only [oUn_not, beq_self_eq_true, eq_self, pv_mul, List.toList_toArray, opsA_cons, opsA_nil, wantedA, guardA, yieldA, stepA_t, stepA_f, callA, calleeA, targetA, runOp_c, runOp_n, opA, ev, evs, evo, consO, consOO, withH, pickA, afterA_s, putA, T.get_put, Nat.reduceEqDiff, reduceIte, List.getElem?_toArray, List.getElem?_cons_zero, List.getElem?_cons_succ, oBuiltin, oBin, binA, binG, binL, aggO, litA, intA, ltF_eq, eqF_eq, oIndexAddr, cond_true, cond_false, Bool.not_true, Bool.not_false, decide_true, decide_false, blt_eq, tt_beq, tf_beq, ft_beq, ff_beq, Bool.and_true, Bool.true_and, Option.some.injEq, I, Bo, addI, subI, oExtract, Bool.not_eq_true', fieldAddrA, oFieldAddr, oLoad, oStore, isAggD, aggH, oneH, skipH, Nat.add_eq_left, Nat.left_eq_add, Nat.succ_ne_self, fieldA, partA, cellsOf, List.length_cons, List.length_nil, Nat.reduceAdd, Nat.zero_add, Nat.add_zero, Nat.mul_one, Nat.reduceMul, nbeq_self, onesA_cons', onesA_nil, oneA, Value.oneCell', Nat.reduceLT, ty2, ti2, ty3, ti3, ty22, ti22, ty37, ti37, ty71, ti71, a0, a1, a2, l1, l2, l3, l4, w, ix, hst, eqA, eqD, eqOp, nilCheckA]; refine ⟨_, _, rfl, ?_⟩)
    | (refine wc_cond (by simp only [oUn_not, beq_self_eq_true, eq_self, pv_mul, List.toList_toArray, opsA_cons, opsA_nil, wantedA, guardA, yieldA, stepA_t, stepA_f, callA, calleeA, targetA, runOp_c, runOp_n, opA, ev, evs, evo, consO, consOO, withH, pickA, afterA_s, putA, T.get_put, Nat.reduceEqDiff, reduceIte, List.getElem?_toArray, List.getElem?_cons_zero, List.getElem?_cons_succ, oBuiltin, oBin, binA, binG, binL, aggO, litA, intA, ltF_eq, eqF_eq, oIndexAddr, cond_true, cond_false, Bool.not_true, Bool.not_false, decide_true, decide_false, blt_eq, tt_beq, tf_beq, ft_beq, ff_beq, Bool.and_true, Bool.true_and, Option.some.injEq, I, Bo, addI, subI, oExtract, Bool.not_eq_true', fieldAddrA, oFieldAddr, oLoad, oStore, isAggD, aggH, oneH, skipH, Nat.add_eq_left, Nat.left_eq_add, Nat.succ_ne_self, fieldA, partA, cellsOf, List.length_cons, List.length_nil, Nat.reduceAdd, Nat.zero_add, Nat.add_zero, Nat.mul_one, Nat.reduceMul, nbeq_self, onesA_cons', onesA_nil, oneA, Value.oneCell', Nat.reduceLT, ty2, ti2, ty3, ti3, ty22, ti22, ty37, ti37, ty71, ti71, a0, a1, a2, l1, l2, l3, l4, w, ix, hst, eqA, eqD, eqOp, nilCheckA]; rfl) ?_ ?_ <;> intro hb <;> first | (exfalso; exact Bool.noConfusion hb) | skip)
    | refine wc_block ?_
    | refine wc_skip ?_
    | refine wc_scope (by decide) ?_
    | refine wc_label ?_
    | refine wc_exit ?_
    | refine wc_ret ?_
    | refine wv_ret (by simp only [resA, resOne]; simp only [oUn_not, beq_self_eq_true, eq_self, pv_mul, List.toList_toArray, opsA_cons, opsA_nil, wantedA, guardA, yieldA, stepA_t, stepA_f, callA, calleeA, targetA, runOp_c, runOp_n, opA, ev, evs, evo, consO, consOO, withH, pickA, afterA_s, putA, T.get_put, Nat.reduceEqDiff, reduceIte, List.getElem?_toArray, List.getElem?_cons_zero, List.getElem?_cons_succ, oBuiltin, oBin, binA, binG, binL, aggO, litA, intA, ltF_eq, eqF_eq, oIndexAddr, cond_true, cond_false, Bool.not_true, Bool.not_false, decide_true, decide_false, blt_eq, tt_beq, tf_beq, ft_beq, ff_beq, Bool.and_true, Bool.true_and, Option.some.injEq, I, Bo, addI, subI, oExtract, Bool.not_eq_true', fieldAddrA, oFieldAddr, oLoad, oStore, isAggD, aggH, oneH, skipH, Nat.add_eq_left, Nat.left_eq_add, Nat.succ_ne_self, fieldA, partA, cellsOf, List.length_cons, List.length_nil, Nat.reduceAdd, Nat.zero_add, Nat.add_zero, Nat.mul_one, Nat.reduceMul, nbeq_self, onesA_cons', onesA_nil, oneA, Value.oneCell', Nat.reduceLT, ty2, ti2, ty3, ti3, ty22, ti22, ty37, ti37, ty71, ti71, a0, a1, a2, l1, l2, l3, l4, w, ix, hst, eqA, eqD, eqOp, nilCheckA]; rfl) ?_)
  exact s2


set_option maxHeartbeats 4000000 in
theorem fc28 (d : Nat) (h : Hp) (i n nm nb bi bt bm : Nat) (F1 F2 : Nat → Int) (more : Int) (hn : n ≤ 4096) (hi : i < n) (ci : Cell h bi 0 (I (Int.ofNat i))) (ct : Cell h bt 0 (.ptr nm 0)) (c2 : Cell h nm 2 (.slice nb 0 n false n 0)) (cm : Cell h bm 0 (I more))
    (d1 : bt ≠ nb) (d2 : nm ≠ nb) (d3 : bm ≠ nb) (hF : ∀ j, j < n → Cell h nb j (I (F1 j))) (hG : ∀ j, j < n → F2 j = if (j + 1) - lb (j + 1) ≤ i ∧ i < j + 1 then F1 j + more else F1 j) (hB : ∀ j, j < n → In (F2 j)) :
    Wv (runA ctx 5000 (d + 2) 55 [.fn (.func 56) [.ptr bt 0, .ptr bm 0], .ptr bi 0, .ptr bt 0] h) (fun r h' => (∀ j, j < n → Cell h' nb j (I (F2 j))) ∧ Only nb h h') := by
  have l1 := ci.load
  have w := inc (k := i) (by omega)
  refine wv_run fn55 rfl ?_
  have a0 : (enterEnv [.fn (.func 56) [.ptr bt 0, .ptr bm 0], .ptr bi 0, .ptr bt 0] Try.f55.ntmps).get 0 = some (.fn (.func 56) [.ptr bt 0, .ptr bm 0]) := enter_get1 _ _ _
  have a1 : (enterEnv [.fn (.func 56) [.ptr bt 0, .ptr bm 0], .ptr bi 0, .ptr bt 0] Try.f55.ntmps).get 1 = some (.ptr bi 0) := enter_get2 _ _ _ _
  have a2 : (enterEnv [.fn (.func 56) [.ptr bt 0, .ptr bm 0], .ptr bi 0, .ptr bt 0] Try.f55.ntmps).get 2 = some (.ptr bt 0) := enter_get3 _ _ _ _ _
  generalize enterEnv [.fn (.func 56) [.ptr bt 0, .ptr bm 0], .ptr bi 0, .ptr bt 0] Try.f55.ntmps = e at a0 a1 a2 ⊢
  unfold Try.f55
  dsimp only
  repeat' (first
    | refine wc_seq ?_
    | (refine wc_region rfl ?_; simp only [eq_self, opsA_cons, opsA_nil, wantedA, stepA_t, callA, runOp_n, opA, ev, withH, afterA_s, putA, T.get_put, reduceIte, oBin, binA, binG, binL, aggO, litA, intA, cond_false, I, addI, oLoad, isAggD, aggH, oneH, Nat.succ_ne_self, ty3, ti3, a1, l1, w]; refine ⟨_, _, rfl, ?_⟩)
    | refine wc_block ?_)
  refine wc_loop (fun m e h' => ∃ k, m = 4200 - k ∧ 0 < k ∧ k ≤ 8192 ∧ k - lb k ≤ i ∧ i < k ∧ e.get 0 = some (.fn (.func 56) [.ptr bt 0, .ptr bm 0]) ∧ e.get 2 = some (.ptr bt 0) ∧ e.get 4 = some (I (Int.ofNat k)) ∧ (∀ j, j < n → Cell h' nb j (I (if j + 1 < k then F2 j else F1 j))) ∧ Only nb h h') (4199 - i) ?_ ⟨i + 1, ?_⟩ ?_
  · omega
  · refine ⟨by omega, by omega, by omega, ?_, by omega, ?_, ?_, ?_, fun j hj => ?_, Only.refl _ _⟩
    · have := lb_pos (i + 1) (by omega) (by omega)
      omega
    · simp only [eq_self, T.get_put, Nat.reduceEqDiff, reduceIte, a0]
    · simp only [eq_self, T.get_put, Nat.reduceEqDiff, reduceIte, a2]
    · simp only [eq_self, T.get_put, Nat.reduceEqDiff, reduceIte, I]
    · have := hG j hj
      by_cases hji : j + 1 < i + 1
      · rw [if_neg (by omega)] at this
        rw [if_pos hji, this]
        exact hF j hj
      · rw [if_neg hji]
        exact hF j hj
  · rintro m e h' ⟨k, rfl, k0, k1, k2, k3, e0, e2, e4, hc, ho⟩
    have l2 := (ho.cell d1 ct).load
    have c2' := ho.cell d2 c2
    have l3 := c2'.load
    have ln := len22 (nm := nb) (off := 0) (n := n) (cap := n) (z := 0) (r := false)
    by_cases hk : k ≤ n
    · have c0 : decide ((n : Int) < Int.ofNat k) = false := by simp; omega
      obtain ⟨j, rfl⟩ : ∃ j, k = j + 1 := ⟨k - 1, by omega⟩
      have hj : j < n := by omega
      have q26 := fc26 d
      have cj := hc j hj
      rw [if_neg (by omega)] at cj
      have q29 := fc29 d h' j n nm nb bt bm (F1 j) more hj (ho.cell d1 ct) c2' cj (ho.cell d3 cm) hn
      have e2j : IntKind.wrap .i64 (F1 j + more) = F2 j := by
        have h1 := hG j hj
        rw [if_pos ⟨k2, k3⟩] at h1
        have h2 := hB j hj
        unfold In at h2
        rw [← h1, IntKind.wrap_i64]
        omega
      rw [e2j] at q29
      have lp := lb_pos (j + 1) (by omega) (by omega)
      have lu := lb_up (j + 1) (by omega) (by omega)
      have q26 := fun h => fc26 (d + 0) h (j + 1) (by omega)
      have wk : IntKind.wrap .i64 (Int.ofNat (j + 1) + Int.ofNat (lb (j + 1))) = Int.ofNat (j + 1 + lb (j + 1)) := by rw [IntKind.wrap_i64]; simp; omega

      repeat' (first
        | refine wc_seq ?_
        | (refine wc_region rfl ?_; simp only [eq_self, opsA_cons, opsA_nil, wantedA, stepA_t, callA, calleeA, targetA, runOp_c, runOp_n, opA, ev, evs, consO, consOO, withH, afterA_s, putA, T.get_put, Nat.reduceEqDiff, reduceIte, List.getElem?_toArray, List.getElem?_cons_zero, List.getElem?_cons_succ, oBuiltin, oBin, binA, binG, binL, aggO, litA, intA, ltF_eq, cond_true, cond_false, Bool.not_false, decide_true, blt_eq, I, addI, fieldAddrA, oFieldAddr, oLoad, isAggD, aggH, oneH, Nat.succ_ne_self, Nat.zero_add, Nat.reduceLT, ty22, ti22, ty37, ti37, ty71, ti71, e0, e2, e4, l2, l3, ln, c0, q26, wk, nilCheckA]; refine ⟨_, _, rfl, ?_⟩)
        | (refine wc_region rfl ?_; simp only [eq_self, opsA_cons, wantedA, stepA_t, callA, calleeA, targetA, runOp_c, runOp_n, opA, ev, evs, consO, consOO, withH, afterA_s, putA, T.get_put, Nat.reduceEqDiff, reduceIte, I, Nat.succ_ne_self, e0, e4]; refine wo_call (q29) ?_; rintro _ h2 s2; simp only [opsA_nil, putA]; refine ⟨_, _, rfl, ?_⟩)
        | (refine wc_cond (by simp only [eq_self, ev, T.get_put, Nat.reduceEqDiff, reduceIte, Option.some.injEq, Nat.succ_ne_self]; rfl) ?_ ?_ <;> intro hb <;> first | (exfalso; exact Bool.noConfusion hb) | skip)
        | refine wc_block ?_
        | refine wc_skip ?_)
      refine nx_next (4200 - (j + 1 + lb (j + 1))) (by omega) ⟨j + 1 + lb (j + 1), rfl, by omega, by omega, by omega, by omega, ?_, ?_, ?_, fun p hp => ?_, ho.trans s2.only⟩
      · simp only [eq_self, T.get_put, Nat.reduceEqDiff, reduceIte, e0]
      · simp only [eq_self, T.get_put, Nat.reduceEqDiff, reduceIte, e2]
      · simp only [eq_self, T.get_put, Nat.reduceEqDiff, reduceIte, I, e4]
      · have hgp := hG p hp
        by_cases h1 : p + 1 < j + 1
        · rw [if_pos (by omega)]
          have := hc p hp
          rw [if_pos h1] at this
          exact s2.others _ _ _ (.inr (by omega)) this
        · by_cases h2 : p = j
          · subst h2
            rw [if_pos (by omega)]
            exact s2.own
          · have := hc p hp
            rw [if_neg h1] at this
            have := s2.others _ _ _ (.inr h2) this
            by_cases h3 : p + 1 < j + 1 + lb (j + 1)
            · rw [if_pos h3, hgp, if_neg (by have := lb_mid (j + 1) (by omega) (p + 1) (by omega) (by omega) (by omega) h3; omega)]
              exact this
            · rw [if_neg h3]
              exact this
    · have c0 : decide ((n : Int) < Int.ofNat k) = true := by simp; omega
      repeat' (first
        | refine wc_seq ?_
        | (refine wc_region rfl ?_; simp only [eq_self, opsA_cons, opsA_nil, wantedA, stepA_t, callA, calleeA, runOp_n, opA, ev, evs, consO, consOO, withH, afterA_s, putA, T.get_put, Nat.reduceEqDiff, reduceIte, List.getElem?_toArray, List.getElem?_cons_zero, List.getElem?_cons_succ, oBuiltin, oBin, binA, binG, binL, aggO, litA, intA, ltF_eq, cond_true, cond_false, Bool.not_true, decide_true, blt_eq, I, fieldAddrA, oFieldAddr, oLoad, isAggD, aggH, oneH, Nat.succ_ne_self, Nat.zero_add, Nat.reduceLT, ty22, ti22, ty37, ti37, ty71, ti71, e2, e4, l2, l3, ln, c0, nilCheckA]; refine ⟨_, _, rfl, ?_⟩)
        | (refine wc_cond (by simp only [eq_self, ev, T.get_put, Nat.reduceEqDiff, reduceIte, Option.some.injEq, Nat.succ_ne_self]; rfl) ?_ ?_ <;> intro hb <;> first | (exfalso; exact Bool.noConfusion hb) | skip)
        | refine wc_exit ?_
        | refine wv_ret (by simp only [resA, resOne]; simp only [consO, consOO, Option.some.injEq]; rfl) ?_)
      refine ⟨fun j hj => ?_, ho⟩
      have := hc j hj
      rw [if_pos (by omega)] at this
      exact this



structure Tr (h : Hp) (nm na nb : Nat) (xs : List Int) : Prop where
  lm : nm < h.c
  la : na < h.c
  lb : nb < h.c
  d1 : nm ≠ na
  d2 : nm ≠ nb
  d3 : na ≠ nb
  c0 : Cell h nm 0 (Bo true)
  c1 : Cell h nm 1 (.slice na 0 xs.length false xs.length 0)
  c2 : Cell h nm 2 (.slice nb 0 xs.length false xs.length 0)
  c3 : Cell h nm 3 (I (sm xs))
  rows : ∀ k x, xs[k]? = some x → Cell h na k (I x)
  sums : ∀ k, k < xs.length → Cell h nb k (I (fs xs (k + 1)))
theorem Tr.fr {h h' : Hp} {nm na nb : Nat} {xs : List Int} (t : Tr h nm na nb xs) {P : Nat → Prop} (a : Fr P h h') (p1 : ¬ P nm) (p2 : ¬ P na) (p3 : ¬ P nb) : Tr h' nm na nb xs :=
  ⟨Nat.lt_of_lt_of_le t.lm a.c, Nat.lt_of_lt_of_le t.la a.c, Nat.lt_of_lt_of_le t.lb a.c, t.d1, t.d2, t.d3, a.cell t.lm p1 t.c0, a.cell t.lm p1 t.c1, a.cell t.lm p1 t.c2, a.cell t.lm p1 t.c3,
    fun k x hx => a.cell t.la p2 (t.rows k x hx), fun k hk => a.cell t.lb p3 (t.sums k hk)⟩
theorem Tr.ext {h h' : Hp} {nm na nb : Nat} {xs : List Int} (t : Tr h nm na nb xs) (a : Ext h h') : Tr h' nm na nb xs := t.fr (a.fr (fun _ => False)) id id id
theorem Tr.put {h h' : Hp} {nm na nb n o : Nat} {w : AV} {xs : List Int} (t : Tr h nm na nb xs) (s : St h h' n o w) (h1 : nm ≠ n) (h2 : na ≠ n) (h3 : nb ≠ n) : Tr h' nm na nb xs := t.fr (s.fr (P := fun k => k = n) rfl) h1 h2 h3
theorem fr_put {P : Nat → Prop} {h h' h'' : Hp} {n o : Nat} {w : AV} (a : Fr P h h') (s : St h' h'' n o w) (hn : P n ∨ h.c ≤ n) : Fr P h h'' :=
  ⟨by rw [s.c]; exact a.c, s.ro.trans a.ro, fun k hk hp => (s.m k (fun e => by subst e; rcases hn with h1 | h1; exact hp h1; omega)).trans (a.m k hk hp)⟩
theorem fr_only {P : Nat → Prop} {h h' h'' : Hp} {n : Nat} (a : Fr P h h') (s : Only n h' h'') (hn : P n ∨ h.c ≤ n) : Fr P h h'' :=
  ⟨by rw [s.c]; exact a.c, s.ro.trans a.ro, fun k hk hp => (s.m k (fun e => by subst e; rcases hn with h1 | h1; exact hp h1; omega)).trans (a.m k hk hp)⟩
/-- the blocks of a tree -/
def Of (nm na nb : Nat) (n : Nat) : Prop := n = nm ∨ n = na ∨ n = nb
set_option maxHeartbeats 4000000 in
theorem fc24 (d : Nat) (h : Hp) (i nm na nb : Nat) (xs : List Int) (x y : Int) (t : Tr h nm na nb xs) (hx : xs[i]? = some x) (hn : xs.length ≤ 4096) (v : V xs) (v' : V (xs.set i y)) :
    Wv (runA ctx 5000 (d + 3) 41 [.ptr nm 0, I (Int.ofNat i), I y] h) (fun r h' => Tr h' nm na nb (xs.set i y) ∧ Fr (Of nm na nb) h h') := by
  have hi := (List.getElem?_eq_some_iff.1 hx).1
  have hi' : (xs.set i y)[i]? = some y := by rw [List.getElem?_set_self hi]
  have hy := v'.nn i y hi'
  have hx0 := v.nn i x hx
  have hs := sm_set (y := y) hx
  have h1 := v.le
  have h2 := v'.le
  have pb := pre_bound v (i + 1)
  have pb' := pre_bound v' (i + 1)
  have ps := pre_succ hx
  have ps' := pre_succ hi'
  have p0 := pre_bound v i
  have p0' := pre_bound v' i
  have w1 : IntKind.wrap .i64 (y - x) = y - x := by rw [IntKind.wrap_i64]; omega
  have w2 : IntKind.wrap .i64 (sm xs + (y - x)) = sm (xs.set i y) := by rw [hs, IntKind.wrap_i64]; omega
  obtain ⟨h1, hb1, x1, k1, b1⟩ := box_new h 37 (.ptr nm 0)
  have ct := b1 0 (.ptr nm 0) rfl
  obtain ⟨h2, hb2, x2, k2, b2⟩ := box_new h1 3 (I (Int.ofNat i))
  have ci2 := b2 0 (I (Int.ofNat i)) rfl
  have ct2 := x2.cell (by omega) ct
  have t2 := t.ext (x1.trans x2)
  have l1 := ct2.load
  have l2 := t2.c1.load
  have l3 := ci2.load
  have l4 := (t2.rows i x hx).load
  have ix := ia22 (nm := na) (off := 0) (cap := xs.length) (z := 0) (r := false) hi
  rw [Nat.zero_add] at ix
  obtain ⟨h3, hb3, x3, k3, b3⟩ := alloc_new h2 2 (ti := ti2) rfl
  simp only [ti2] at hb3
  obtain ⟨h4, hst4, s4⟩ := (b3 0 (I 0) rfl).store (w := I (y - x)) rfl
  have bt := t.lb
  have bm := t.lm
  have ba := t.la
  have k4 := s4.c
  have t4 := (t2.ext x3).put s4 (by omega) (by omega) (by omega)
  have ct4 := s4.others _ _ _ (.inl (by omega)) (x3.cell (by omega) ct2)
  have ci4 := s4.others _ _ _ (.inl (by omega)) (x3.cell (by omega) ci2)
  have q28 := fc28 d h4 i xs.length nm nb h1.c h.c h2.c (fun j => fs xs (j + 1)) (fun j => fs (xs.set i y) (j + 1)) (y - x) hn hi ci4 ct4 t4.c2 s4.own (by omega) t4.d2 (by omega) t4.sums (fun j _ => fs_set hx) (fun j _ => by have := fs_bound v' (j + 1); unfold In; omega)

  refine wv_run fn41 rfl ?_
  have a0 : (enterEnv [.ptr nm 0, I (Int.ofNat i), I y] Try.f41.ntmps).get 0 = some (.ptr nm 0) := enter_get1 _ _ _
  have a1 : (enterEnv [.ptr nm 0, I (Int.ofNat i), I y] Try.f41.ntmps).get 1 = some (I (Int.ofNat i)) := enter_get2 _ _ _ _
  have a2 : (enterEnv [.ptr nm 0, I (Int.ofNat i), I y] Try.f41.ntmps).get 2 = some (I y) := enter_get3 _ _ _ _ _
  generalize enterEnv [.ptr nm 0, I (Int.ofNat i), I y] Try.f41.ntmps = e at a0 a1 a2 ⊢
  unfold Try.f41
  dsimp only

  refine wc_seq ?_
  (refine wc_region rfl ?_; simp only [opsA_cons, opsA_nil, wantedA, stepA_t, callA, runOp_n, opA, ev, afterA_s, putA, T.get_put, Nat.reduceEqDiff, reduceIte, I, a0, a1, hb1, hb2]; refine ⟨_, _, rfl, ?_⟩)
  refine wc_seq ?_
  (refine wc_region rfl ?_; simp only [eq_self, opsA_cons, opsA_nil, wantedA, stepA_t, callA, runOp_n, opA, ev, withH, afterA_s, putA, T.get_put, Nat.reduceEqDiff, reduceIte, List.getElem?_toArray, List.getElem?_cons_zero, List.getElem?_cons_succ, oBin, binA, binG, binL, aggO, litA, intA, oIndexAddr, cond_true, cond_false, decide_true, blt_eq, I, subI, fieldAddrA, oFieldAddr, oLoad, oStore, isAggD, aggH, oneH, skipH, Nat.succ_ne_self, cellsOf, List.length_cons, List.length_nil, Nat.zero_add, nbeq_self, Nat.reduceLT, ty2, ti2, ty3, ti3, ty22, ti22, ty37, ti37, ty71, ti71, a2, hb3, hst4, l1, l2, l3, l4, ix, w1, nilCheckA]; refine ⟨_, _, rfl, ?_⟩)
  refine wc_seq ?_
  (refine wc_region rfl ?_; simp only [eq_self, opsA_cons, opsA_nil, wantedA, stepA_t, callA, runOp_n, opA, ev, evs, consO, consOO, withH, afterA_s, putA, T.get_put, Nat.reduceEqDiff, reduceIte, Nat.succ_ne_self, oFn]; refine ⟨_, _, rfl, ?_⟩)
  refine wc_seq ?_
  (refine wc_region rfl ?_; simp only [eq_self, opsA_cons, wantedA, stepA_t, callA, calleeA, targetA, runOp_c, runOp_n, opA, ev, evs, consO, consOO, withH, afterA_s, putA, T.get_put, Nat.reduceEqDiff, reduceIte, Nat.succ_ne_self, oFn]; refine wo_call (q28) ?_; rintro _ h5 ⟨hs5, o5⟩; simp only [opsA_nil, putA]; refine ⟨_, _, rfl, ?_⟩)
  have ct5 := o5.cell (by omega) ct4
  have ci5 := o5.cell (by omega) ci4
  have cm5 := o5.cell (by omega) s4.own
  have m1 := ct5.load
  have m2 := (o5.cell t4.d2 t4.c1).load
  have m3 := ci5.load
  obtain ⟨h6, hst6, s6⟩ := (o5.cell t4.d3 (t4.rows i x hx)).store (w := I y) rfl
  have n1 := (s6.others _ _ _ (.inl (by omega)) ct5).load
  have n2 := (s6.others _ _ _ (.inl t4.d1) (o5.cell t4.d2 t4.c3)).load
  have n3 := (s6.others _ _ _ (.inl (by omega)) cm5).load
  obtain ⟨h7, hst7, s7⟩ := (s6.others _ _ _ (.inl t4.d1) (o5.cell t4.d2 t4.c3)).store (w := I (sm (xs.set i y))) rfl
  repeat' (first
    | refine wc_seq ?_
    | (refine wc_region rfl ?_; simp only [eq_self, opsA_cons, opsA_nil, wantedA, stepA_t, callA, runOp_n, opA, ev, withH, afterA_s, putA, T.get_put, Nat.reduceEqDiff, reduceIte, List.getElem?_toArray, List.getElem?_cons_zero, List.getElem?_cons_succ, oBin, binA, binG, binL, aggO, litA, intA, oIndexAddr, cond_true, cond_false, decide_true, blt_eq, I, addI, fieldAddrA, oFieldAddr, oLoad, oStore, isAggD, aggH, oneH, skipH, Nat.succ_ne_self, cellsOf, List.length_cons, List.length_nil, Nat.zero_add, nbeq_self, Nat.reduceLT, ty2, ti2, ty3, ti3, ty22, ti22, ty37, ti37, ty71, ti71, a2, m1, m2, m3, n1, n2, n3, ix, hst6, hst7, w2, nilCheckA]; refine ⟨_, _, rfl, ?_⟩)
    | refine wv_ret (by simp only [resA, resOne]; simp only [consO, consOO, Option.some.injEq]; rfl) ?_)
  have k5 := o5.c
  have k6 := s6.c
  have k7 := s7.c
  have far : ∀ {a o : Nat} {w : AV}, a ≠ nm → a ≠ na → a ≠ nb → Cell h4 a o w → Cell h7 a o w := fun a1 a2 a3 c => s7.others _ _ _ (.inl a1) (s6.others _ _ _ (.inl a2) (o5.cell a3 c))
  refine ⟨⟨by omega, by omega, by omega, t4.d1, t4.d2, t4.d3, ?_, ?_, ?_, s7.own, ?_, ?_⟩, ?_⟩
  · exact s7.others _ _ _ (.inr (by omega)) (s6.others _ _ _ (.inl t4.d1) (o5.cell t4.d2 t4.c0))
  · rw [List.length_set]
    exact s7.others _ _ _ (.inr (by omega)) (s6.others _ _ _ (.inl t4.d1) (o5.cell t4.d2 t4.c1))
  · rw [List.length_set]
    exact s7.others _ _ _ (.inr (by omega)) (s6.others _ _ _ (.inl t4.d1) (o5.cell t4.d2 t4.c2))
  · intro k z hz
    refine s7.others _ _ _ (.inl t4.d1.symm) ?_
    by_cases hk : k = i
    · subst hk
      rw [hi'] at hz
      cases hz
      exact s6.own
    · rw [List.getElem?_set_ne (fun e => hk e.symm)] at hz
      exact s6.others _ _ _ (.inr hk) (o5.cell t4.d3 (t4.rows k z hz))
  · intro k hk
    rw [List.length_set] at hk
    exact s7.others _ _ _ (.inl t4.d2.symm) (s6.others _ _ _ (.inl t4.d3.symm) (hs5 k hk))
  · have f3 : Fr (Of nm na nb) h h3 := ((x1.trans x2).trans x3).fr _
    have f4 := fr_put f3 s4 (.inr (by omega))
    have f5 := fr_only f4 o5 (.inl (.inr (.inr rfl)))
    have f6 := fr_put f5 s6 (.inl (.inr (.inl rfl)))
    exact fr_put f6 s7 (.inl (.inl rfl))



theorem lenL {h : Hp} {v : AV} {xs : List Int} (r : IsL h v (xs.map I)) (h' : Hp) : builtinA ctx h' .len [22] [v] = some (I (xs.length : Int), h') := by
  have := r.len (h' := h') ty22 rfl
  rwa [List.length_map] at this
theorem atL {h : Hp} {v : AV} {xs : List Int} (r : IsL h v (xs.map I)) {k : Nat} {x : Int} (hx : xs[k]? = some x) :
    ∃ p, indexAddrA ctx 22 v (I (Int.ofNat k)) = some p ∧ ∀ h', Ext h h' → oLoad h' (some ti2) (some p) = some (I x, h') :=
  r.at ty22 rfl ty2 rfl rfl (by rw [List.getElem?_map, hx]; rfl)
set_option maxHeartbeats 4000000 in
theorem fc12 (d : Nat) (h : Hp) (v : AV) (xs : List Int) (hv : IsL h v (xs.map I)) : runA ctx 5000 (d + 1) 37 [v] h = some (I (chkL xs), h) := by
  refine wv_eq ?_
  refine wv_run fn37 rfl ?_
  have a0 : (enterEnv [v] Try.f37.ntmps).get 0 = some (v) := enter_get1 _ _ _
  generalize enterEnv [v] Try.f37.ntmps = e at a0 ⊢
  unfold Try.f37
  dsimp only
  have hl := lenL hv
  by_cases h40 : 4096 < xs.length
  · have g : decide ((4096 : Int) < (xs.length : Int)) = true := by simp; omega
    repeat' (first
      | refine wc_seq ?_
      | (refine wc_region rfl ?_; simp only [eq_self, opsA_cons, opsA_nil, wantedA, stepA_t, callA, calleeA, runOp_n, opA, ev, evs, consO, consOO, withH, afterA_s, putA, T.get_put, Nat.reduceEqDiff, reduceIte, oBuiltin, oBin, binA, binG, binL, aggO, litA, intA, ltF_eq, I, Nat.succ_ne_self, a0, hl, g]; refine ⟨_, _, rfl, ?_⟩)
      | (refine wc_cond (by simp only [eq_self, ev, T.get_put, Nat.reduceEqDiff, reduceIte, Option.some.injEq, Nat.succ_ne_self]; rfl) ?_ ?_ <;> intro hb <;> first | (exfalso; exact Bool.noConfusion hb) | skip)
      | refine wc_ret ?_
      | refine wv_ret (by simp only [resA, resOne]; simp only [eq_self, consO, consOO, T.get_put, Nat.reduceEqDiff, reduceIte, Option.some.injEq]; rfl) ?_)
    all_goals (refine ⟨?_, rfl⟩; unfold chkL; rw [if_pos h40]; rfl)
  · have g : decide ((4096 : Int) < (xs.length : Int)) = false := by simp; omega
    repeat' (first
      | refine wc_seq ?_
      | (refine wc_region rfl ?_; simp only [eq_self, opsA_cons, opsA_nil, wantedA, stepA_t, callA, calleeA, runOp_n, opA, ev, evs, consO, consOO, withH, afterA_s, putA, T.get_put, Nat.reduceEqDiff, reduceIte, oBuiltin, oBin, binA, binG, binL, aggO, litA, intA, ltF_eq, I, Nat.succ_ne_self, a0, hl, g]; refine ⟨_, _, rfl, ?_⟩)
      | (refine wc_cond (by simp only [eq_self, ev, T.get_put, Nat.reduceEqDiff, reduceIte, Option.some.injEq, Nat.succ_ne_self]; rfl) ?_ ?_ <;> intro hb <;> first | (exfalso; exact Bool.noConfusion hb) | skip)
      | refine wc_block ?_
      | refine wc_skip ?_)
    refine wc_loop (fun m e h' => ∃ k s, m = xs.length - k ∧ k ≤ xs.length ∧ e.get 9 = some v ∧ e.get 11 = some (I (Int.ofNat k)) ∧ e.get 3 = some (I s) ∧ e.get 10 = some (I (xs.length : Int)) ∧ h' = h ∧ 0 ≤ s ∧ s ≤ 4611686018427387904 ∧ chkS 0 xs = chkS s (xs.drop k)) xs.length ?_ ⟨0, 0, ?_⟩ ?_
    · omega
    · refine ⟨rfl, Nat.zero_le _, ?_, ?_, ?_, ?_, rfl, by omega, by omega, rfl⟩
      all_goals simp only [eq_self, T.get_put, Nat.reduceEqDiff, reduceIte, Option.some.injEq, I, Nat.succ_ne_self]; try rfl
    · rintro m e h' ⟨k, s, rfl, hk, e0, e4, e3, e10, rfl, s0, s1, hc⟩
      by_cases hlt : k < xs.length
      · have c0 : decide (Int.ofNat k < (xs.length : Int)) = true := by simp; omega
        obtain ⟨x, hx⟩ := at_some hlt
        obtain ⟨p, hp, hld⟩ := atL hv hx
        have hld := hld h' (Ext.refl _)
        simp only [ti2] at hld
        have hk1 : IntKind.wrap .i64 (Int.ofNat k + 1) = Int.ofNat (k + 1) := by rw [IntKind.wrap_i64]; simp; omega
        rw [drop_at hx, chkS] at hc
        by_cases q1 : x < 0 ∨ 2305843009213693952 < x
        · rw [if_pos q1] at hc
          repeat' (first
            | refine wc_seq ?_
            | (refine wc_region rfl ?_; simp only [eq_self, opsA_cons, opsA_nil, wantedA, guardA, yieldA, stepA_t, callA, runOp_n, opA, ev, withH, afterA_s, putA, T.get_put, Nat.reduceEqDiff, reduceIte, List.getElem?_cons_zero, List.getElem?_cons_succ, oBin, binA, binG, binL, aggO, litA, intA, ltF_eq, oIndexAddr, I, addI, Nat.succ_ne_self, ty2, ti2, e0, e4, e3, c0, hp, hld, hk1, e10]; refine ⟨_, _, rfl, ?_⟩)
            | (refine wc_region rfl ?_; simp only [eq_self, opsA_cons, wantedA, guardA, yieldA, stepA_t, callA, runOp_n, opA, ev, withH, afterA_s, putA, T.get_put, Nat.reduceEqDiff, reduceIte, List.getElem?_cons_zero, List.getElem?_cons_succ, oBin, binA, binG, binL, aggO, litA, intA, ltF_eq, Nat.succ_ne_self]; (repeat' (refine wo_step ?_ ?_ <;> intro hg <;> (try simp only [beq_false, Bool.not_eq_eq_eq_not, Bool.not_true, Bool.not_false] at hg) <;> (first | (exfalso; exact Bool.noConfusion hg) | simp only [beq_self_eq_true, eq_self, opsA_cons, opsA_nil, wantedA, guardA, yieldA, stepA_t, stepA_f, callA, runOp_n, opA, ev, withH, pickA, afterA_s, putA, T.get_put, Nat.reduceEqDiff, reduceIte, List.getElem?_cons_zero, List.getElem?_cons_succ, oBin, binA, binG, binL, aggO, litA, intA, ltF_eq, tf_beq, Nat.succ_ne_self, hg]))) <;> refine ⟨_, _, rfl, ?_⟩)
            | (refine wc_cond (by simp only [eq_self, ev, T.get_put, Nat.reduceEqDiff, reduceIte, Option.some.injEq, Nat.succ_ne_self]; rfl) ?_ ?_ <;> intro hb <;> first | (exfalso; exact Bool.noConfusion hb) | skip)
            | refine wc_block ?_
            | refine wc_skip ?_
            | refine wc_ret ?_
            | refine wv_ret (by simp only [resA, resOne]; simp only [eq_self, consO, consOO, T.get_put, Nat.reduceEqDiff, reduceIte, Option.some.injEq]; rfl) ?_)
          all_goals (first | (exfalso; simp only [decide_eq_true_eq, decide_eq_false_iff_not] at *; omega) | (refine ⟨?_, rfl⟩; unfold chkL; rw [if_neg h40, hc]; rfl))
        · rw [if_neg q1] at hc
          have w1 : IntKind.wrap .i64 (s + x) = s + x := by rw [IntKind.wrap_i64]; omega
          have g1 : decide (x < 0) = false := by simp; omega
          have g2 : decide (2305843009213693952 < x) = false := by simp; omega
          by_cases q2 : 4611686018427387904 < s + x
          · rw [if_pos q2] at hc
            have q2' := decide_eq_true q2
            repeat' (first
              | refine wc_seq ?_
              | (refine wc_region rfl ?_; simp only [beq_self_eq_true, eq_self, opsA_cons, opsA_nil, wantedA, guardA, yieldA, stepA_t, callA, runOp_n, opA, ev, withH, pickA, afterA_s, putA, T.get_put, Nat.reduceEqDiff, reduceIte, List.getElem?_cons_zero, List.getElem?_cons_succ, oBin, binA, binG, binL, aggO, litA, intA, ltF_eq, oIndexAddr, I, addI, Nat.succ_ne_self, ty2, ti2, e0, e4, e3, c0, hp, hld, e10, w1, g1, g2, q2']; refine ⟨_, _, rfl, ?_⟩)
              | (refine wc_cond (by simp only [eq_self, ev, T.get_put, Nat.reduceEqDiff, reduceIte, Option.some.injEq, Nat.succ_ne_self]; rfl) ?_ ?_ <;> intro hb <;> first | (exfalso; exact Bool.noConfusion hb) | skip)
              | refine wc_block ?_
              | refine wc_skip ?_
              | refine wc_ret ?_
              | refine wv_ret (by simp only [resA, resOne]; simp only [eq_self, consO, consOO, T.get_put, Nat.reduceEqDiff, reduceIte, Option.some.injEq]; rfl) ?_)
            all_goals (refine ⟨?_, rfl⟩; unfold chkL; rw [if_neg h40, hc]; rfl)
          · rw [if_neg q2] at hc
            have q2' := decide_eq_false q2
            repeat' (first
              | refine wc_seq ?_
              | (refine wc_region rfl ?_; simp only [beq_self_eq_true, eq_self, opsA_cons, opsA_nil, wantedA, guardA, yieldA, stepA_t, callA, runOp_n, opA, ev, withH, pickA, afterA_s, putA, T.get_put, Nat.reduceEqDiff, reduceIte, List.getElem?_cons_zero, List.getElem?_cons_succ, oBin, binA, binG, binL, aggO, litA, intA, ltF_eq, oIndexAddr, I, addI, Nat.succ_ne_self, ty2, ti2, e0, e4, e3, c0, hp, hld, hk1, e10, w1, g1, g2, q2']; refine ⟨_, _, rfl, ?_⟩)
              | (refine wc_cond (by simp only [eq_self, ev, T.get_put, Nat.reduceEqDiff, reduceIte, Option.some.injEq, Nat.succ_ne_self]; rfl) ?_ ?_ <;> intro hb <;> first | (exfalso; exact Bool.noConfusion hb) | skip)
              | refine wc_block ?_
              | refine wc_skip ?_)
            refine nx_next (xs.length - (k + 1)) (by omega) ⟨k + 1, s + x, rfl, hlt, ?_, ?_, ?_, ?_, rfl, by omega, by omega, hc⟩
            all_goals simp only [eq_self, T.get_put, Nat.reduceEqDiff, reduceIte, I, e0, e4, e3, e10]
      · have c0 : decide (Int.ofNat k < (xs.length : Int)) = false := by simp; omega
        repeat' (first
          | refine wc_seq ?_
          | (refine wc_region rfl ?_; simp only [opsA_cons, opsA_nil, wantedA, stepA_t, callA, runOp_n, opA, ev, withH, afterA_s, putA, oBin, binA, binG, binL, aggO, litA, intA, ltF_eq, I, e4, c0, e10]; refine ⟨_, _, rfl, ?_⟩)
          | (refine wc_cond (by simp only [eq_self, ev, T.get_put, reduceIte, Option.some.injEq]; rfl) ?_ ?_ <;> intro hb <;> first | (exfalso; exact Bool.noConfusion hb) | skip)
          | refine wc_exit ?_
          | refine wc_ret ?_
          | refine wv_ret (by simp only [resA, resOne]; simp only [eq_self, consO, consOO, T.get_put, Nat.reduceEqDiff, reduceIte, Option.some.injEq]; rfl) ?_)
        refine ⟨?_, rfl⟩
        unfold chkL
        rw [if_neg h40, hc, List.drop_eq_nil_of_le (by omega)]
        rfl
set_option maxHeartbeats 4000000 in
theorem fc15 (d : Nat) (h : Hp) (v : AV) (xs : List Int) (i : Nat) (hv : IsL h v (xs.map I)) (hi : i ≤ xs.length) (hV : V xs) (hn : xs.length ≤ 4096) : runA ctx 5000 (d + 1) 22 [v, I (i : Int)] h = some (I (pre xs i), h) := by
  refine wv_eq ?_
  refine wv_run fn22 rfl ?_
  have a0 : (enterEnv [v, I (i : Int)] Try.f22.ntmps).get 0 = some (v) := enter_get1 _ _ _
  have a1 : (enterEnv [v, I (i : Int)] Try.f22.ntmps).get 1 = some (I (i : Int)) := enter_get2 _ _ _ _
  generalize enterEnv [v, I (i : Int)] Try.f22.ntmps = e at a0 a1 ⊢
  unfold Try.f22
  dsimp only
  repeat' (first
    | refine wc_seq ?_
    | (refine wc_region rfl ?_; simp only [opsA_cons, opsA_nil, wantedA, stepA_t, callA, runOp_n, opA, ev, withH, afterA_s, putA, I]; refine ⟨_, _, rfl, ?_⟩)
    | refine wc_block ?_)
  refine wc_loop (fun m e h' => ∃ k, m = i - k ∧ k ≤ i ∧ e.get 0 = some v ∧ e.get 1 = some (I (i : Int)) ∧ e.get 6 = some (I (Int.ofNat k)) ∧ e.get 5 = some (I (pre xs k)) ∧ h' = h) i ?_ ⟨0, ?_⟩ ?_
  · omega
  · refine ⟨rfl, Nat.zero_le _, ?_, ?_, ?_, ?_, rfl⟩
    all_goals simp only [eq_self, T.get_put, Nat.reduceEqDiff, reduceIte, Option.some.injEq, I, Nat.succ_ne_self, a0, a1]; try rfl
  · rintro m e h' ⟨k, rfl, hk, e0, e1, e6, e5, rfl⟩
    by_cases hlt : k < i
    · have c0 : decide (Int.ofNat k < (i : Int)) = true := by simp; omega
      obtain ⟨x, hx⟩ := at_some (show k < xs.length by omega)
      obtain ⟨p, hp, hld⟩ := atL hv hx
      have hld := hld h' (Ext.refl _)
      simp only [ti2] at hld
      have hk1 : IntKind.wrap .i64 (Int.ofNat k + 1) = Int.ofNat (k + 1) := by rw [IntKind.wrap_i64]; simp; omega
      have w1 : IntKind.wrap .i64 (pre xs k + x) = pre xs (k + 1) := by
        have h1 := pre_bound hV (k + 1)
        have h2 := hV.le
        rw [← pre_succ hx, IntKind.wrap_i64]
        omega
      repeat' (first
        | refine wc_seq ?_
        | (refine wc_region rfl ?_; simp only [eq_self, opsA_cons, opsA_nil, wantedA, stepA_t, callA, runOp_n, opA, ev, withH, afterA_s, putA, T.get_put, Nat.reduceEqDiff, reduceIte, oBin, binA, binG, binL, aggO, litA, intA, ltF_eq, oIndexAddr, I, addI, Nat.succ_ne_self, ty2, ti2, e0, e1, e6, e5, c0, hp, hld, hk1, w1]; refine ⟨_, _, rfl, ?_⟩)
        | (refine wc_cond (by simp only [eq_self, ev, T.get_put, Nat.reduceEqDiff, reduceIte, Option.some.injEq, Nat.succ_ne_self]; rfl) ?_ ?_ <;> intro hb <;> first | (exfalso; exact Bool.noConfusion hb) | skip)
        | refine wc_block ?_
        | refine wc_skip ?_)
      refine nx_next (i - (k + 1)) (by omega) ⟨k + 1, rfl, hlt, ?_, ?_, ?_, ?_, rfl⟩
      all_goals simp only [eq_self, T.get_put, Nat.reduceEqDiff, reduceIte, I, Nat.succ_ne_self, e0, e1, e6, e5]
    · have c0 : decide (Int.ofNat k < (i : Int)) = false := by simp; omega
      have e7 : k = i := by omega
      subst e7
      repeat' (first
        | refine wc_seq ?_
        | (refine wc_region rfl ?_; simp only [eq_self, opsA_cons, opsA_nil, wantedA, stepA_t, callA, runOp_n, opA, ev, withH, afterA_s, putA, T.get_put, Nat.reduceEqDiff, reduceIte, oBin, binA, binG, binL, aggO, litA, intA, ltF_eq, I, Nat.succ_ne_self, e1, e6, e5, c0]; refine ⟨_, _, rfl, ?_⟩)
        | (refine wc_cond (by simp only [eq_self, ev, T.get_put, Nat.reduceEqDiff, reduceIte, Option.some.injEq, Nat.succ_ne_self]; rfl) ?_ ?_ <;> intro hb <;> first | (exfalso; exact Bool.noConfusion hb) | skip)
        | refine wc_exit ?_
        | refine wc_ret ?_
        | refine wv_ret (by simp only [resA, resOne]; simp only [eq_self, consO, consOO, T.get_put, Nat.reduceEqDiff, reduceIte, Option.some.injEq]; rfl) ?_)
      all_goals exact ⟨rfl, rfl⟩
set_option maxHeartbeats 2000000 in
theorem fc13 (d : Nat) (h : Hp) (nm na nb : Nat) (xs : List Int) (t : Tr h nm na nb xs) : runA ctx 5000 (d + 1) 15 [.ptr nm 0] h = some (I (xs.length : Int), h) := by
  have l1 := t.c1.load
  have ln := len22 (nm := na) (off := 0) (n := xs.length) (cap := xs.length) (z := 0) (r := false)
  refine wv_eq ?_
  refine wv_run fn15 rfl ?_
  have a0 : (enterEnv [.ptr nm 0] Try.f15.ntmps).get 0 = some (.ptr nm 0) := enter_get1 _ _ _
  generalize enterEnv [.ptr nm 0] Try.f15.ntmps = e at a0 ⊢
  unfold Try.f15
  dsimp only
  repeat' (first
    | refine wc_seq ?_
    | (refine wc_region rfl ?_; simp only [eq_self, opsA_cons, opsA_nil, wantedA, stepA_t, callA, calleeA, runOp_n, opA, ev, evs, consO, consOO, withH, afterA_s, putA, T.get_put, Nat.reduceEqDiff, reduceIte, List.getElem?_toArray, List.getElem?_cons_zero, List.getElem?_cons_succ, oBuiltin, oBin, binA, binG, binL, aggO, cond_true, cond_false, decide_true, blt_eq, I, fieldAddrA, oFieldAddr, oLoad, isAggD, aggH, oneH, Nat.succ_ne_self, Nat.zero_add, Nat.reduceLT, ty22, ti22, ty37, ti37, ty71, ti71, a0, l1, ln, eqA, eqD, eqOp, nilCheckA]; refine ⟨_, _, rfl, ?_⟩)
    | (refine wc_cond (by simp only [eq_self, ev, T.get_put, Nat.reduceEqDiff, reduceIte, Option.some.injEq, Nat.succ_ne_self]; rfl) ?_ ?_ <;> intro hb <;> first | (exfalso; exact Bool.noConfusion hb) | skip)
    | refine wc_skip ?_
    | refine wc_ret ?_
    | refine wv_ret (by simp only [resA, resOne]; simp only [eq_self, consO, consOO, T.get_put, Nat.reduceEqDiff, reduceIte, Option.some.injEq]; rfl) ?_)
  all_goals exact ⟨rfl, rfl⟩



theorem mk22 (h : Hp) {n : Nat} (hn : n ≤ 4096) : ∃ h1, makeSliceA ctx h 22 (I (n : Int)) (I (n : Int)) = some (.slice h.c 0 n false n 0, h1) ∧ Ext h h1 ∧ h1.c = h.c + 1 ∧ ∀ k, k < n → Cell h1 h.c k (I 0) :=
  make_cells ty22 rfl ty2 rfl rfl rfl rfl (Nat.le_refl _) (by omega)


end Go.Proofs.Ytpioenfglmimgaa.Fw
