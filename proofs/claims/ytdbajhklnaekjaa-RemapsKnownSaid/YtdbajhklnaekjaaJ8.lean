import Derived.Test.YtdbajhklnaekjaaJ7
import Derived.KernelRfl
namespace Go.Proofs.Ytdbajhklnaekjaa
open Go Go.Proofs Go.RowKit
set_option linter.unusedSimpArgs false
set_option linter.unusedVariables false
open Go.Proofs.Abs
theorem atF_nn {j : Int} : ∀ {l : List Int} {i : Nat}, atF j l i ≠ -1 → ¬ atF j l i < 0
  | [], i, h => absurd rfl h
  | x :: xs, i, h => by
    rw [atF] at h ⊢
    by_cases e : x = j
    · rw [if_pos e]
      simp only [Int.ofNat_eq_natCast]
      omega
    · rw [if_neg e] at h ⊢
      exact atF_nn h
set_option maxHeartbeats 4000000 in
theorem check_law (h : Hp) (o : Int) (s : AV) (xs : List Int) (x : Int) (ro : In o) (hs : IsL h s (xs.map I)) (hb : ∀ y ∈ xs, In y) (rx : In x) : Wv (funA ctx all8 5000 [.agg [I o, s], I x] h (ctx.funs.get 3)) (fun v _ => v = Bo true) := by
  by_cases h60 : 60 < xs.length
  · obtain ⟨h1, hb1, x1, k1, b1⟩ := box_new h 24 (.agg [I o, s])
    have l1 := (b1 1 s rfl).load
    have hl := lenL hs
    have z1 : decide (60 < (xs.length : Int)) = true := by simp; omega
    have v9 := q9 h1
    refine wv_fun fn3 rfl ?_
    have a0 : (enterEnv [.agg [I o, s], I x] Try.f3.ntmps).get 0 = some (.agg [I o, s]) := enter_get1 _ _ _
    have a1 : (enterEnv [.agg [I o, s], I x] Try.f3.ntmps).get 1 = some (I x) := enter_get2 _ _ _ _
    generalize enterEnv [.agg [I o, s], I x] Try.f3.ntmps = e at a0 a1 ⊢
    unfold Try.f3
    dsimp only
    repeat' (first
      | refine wc_seq ?_
      | (refine wc_region rfl ?_; simp only [oUn_not, beq_self_eq_true, eq_self, pv_mul, List.toList_toArray, opsA_cons, opsA_nil, wantedA, guardA, yieldA, stepA_t, stepA_f, callA, calleeA, targetA, runOp_c, runOp_n, opA, ev, evs, evo, consO, consOO, withH, pickA, afterA_s, putA, T.get_put, Nat.reduceEqDiff, reduceIte, List.getElem?_toArray, List.getElem?_cons_zero, List.getElem?_cons_succ, oBuiltin, oBin, binA, binG, binL, aggO, litA, intA, ltF_eq, eqF_eq, oIndexAddr, cond_true, cond_false, Bool.not_true, Bool.not_false, decide_true, decide_false, blt_eq, tt_beq, tf_beq, ft_beq, ff_beq, Bool.and_true, Bool.true_and, Option.some.injEq, I, Bo, addI, subI, oExtract, Bool.not_eq_true', fieldAddrA, oFieldAddr, oLoad, oStore, isAggD, aggH, oneH, skipH, Nat.add_eq_left, Nat.left_eq_add, Nat.succ_ne_self, fieldA, partA, cellsOf, List.length_cons, List.length_nil, Nat.reduceAdd, Nat.zero_add, Nat.add_zero, Nat.mul_one, Nat.reduceMul, nbeq_self, onesA_cons', onesA_nil, oneA, Value.oneCell', Nat.reduceLT, ty3, ti3, ty4, ti4, ty22, ti22, ty24, ti24, ty28, ti28, a0, a1, hb1, l1, hl, z1, v9]; refine ⟨_, _, rfl, ?_⟩)
      | (refine wc_cond (by simp only [oUn_not, beq_self_eq_true, eq_self, pv_mul, List.toList_toArray, opsA_cons, opsA_nil, wantedA, guardA, yieldA, stepA_t, stepA_f, callA, calleeA, targetA, runOp_c, runOp_n, opA, ev, evs, evo, consO, consOO, withH, pickA, afterA_s, putA, T.get_put, Nat.reduceEqDiff, reduceIte, List.getElem?_toArray, List.getElem?_cons_zero, List.getElem?_cons_succ, oBuiltin, oBin, binA, binG, binL, aggO, litA, intA, ltF_eq, eqF_eq, oIndexAddr, cond_true, cond_false, Bool.not_true, Bool.not_false, decide_true, decide_false, blt_eq, tt_beq, tf_beq, ft_beq, ff_beq, Bool.and_true, Bool.true_and, Option.some.injEq, I, Bo, addI, subI, oExtract, Bool.not_eq_true', fieldAddrA, oFieldAddr, oLoad, oStore, isAggD, aggH, oneH, skipH, Nat.add_eq_left, Nat.left_eq_add, Nat.succ_ne_self, fieldA, partA, cellsOf, List.length_cons, List.length_nil, Nat.reduceAdd, Nat.zero_add, Nat.add_zero, Nat.mul_one, Nat.reduceMul, nbeq_self, onesA_cons', onesA_nil, oneA, Value.oneCell', Nat.reduceLT, ty3, ti3, ty4, ti4, ty22, ti22, ty24, ti24, ty28, ti28, a0, a1, hb1, l1, hl, z1, v9]; rfl) ?_ ?_ <;> intro hb <;> first | (exfalso; exact Bool.noConfusion hb) | skip)
      | refine wc_block ?_
      | refine wc_skip ?_
      | refine wc_scope (by decide) ?_
      | refine wc_label ?_
      | refine wc_exit ?_
      | refine wc_ret ?_
      | refine wv_ret (by simp only [resA, resOne]; simp only [oUn_not, beq_self_eq_true, eq_self, pv_mul, List.toList_toArray, opsA_cons, opsA_nil, wantedA, guardA, yieldA, stepA_t, stepA_f, callA, calleeA, targetA, runOp_c, runOp_n, opA, ev, evs, evo, consO, consOO, withH, pickA, afterA_s, putA, T.get_put, Nat.reduceEqDiff, reduceIte, List.getElem?_toArray, List.getElem?_cons_zero, List.getElem?_cons_succ, oBuiltin, oBin, binA, binG, binL, aggO, litA, intA, ltF_eq, eqF_eq, oIndexAddr, cond_true, cond_false, Bool.not_true, Bool.not_false, decide_true, decide_false, blt_eq, tt_beq, tf_beq, ft_beq, ff_beq, Bool.and_true, Bool.true_and, Option.some.injEq, I, Bo, addI, subI, oExtract, Bool.not_eq_true', fieldAddrA, oFieldAddr, oLoad, oStore, isAggD, aggH, oneH, skipH, Nat.add_eq_left, Nat.left_eq_add, Nat.succ_ne_self, fieldA, partA, cellsOf, List.length_cons, List.length_nil, Nat.reduceAdd, Nat.zero_add, Nat.add_zero, Nat.mul_one, Nat.reduceMul, nbeq_self, onesA_cons', onesA_nil, oneA, Value.oneCell', Nat.reduceLT, ty3, ti3, ty4, ti4, ty22, ti22, ty24, ti24, ty28, ti28, a0, a1, hb1, l1, hl, z1, v9]; rfl) ?_)
    all_goals exact rfl
  have n0 : ∀ h : Hp, IsL h nilS (([] : List Int).map I) := fun h => .inl ⟨rfl, rfl⟩
  have e0 : chkM 0 [] = 0 := by decide
  by_cases he : chkM o xs = 0
  · obtain ⟨N, rfl, ok⟩ := chkM_ok he
    have o1 := ok.n
    have okn : ∀ n : Nat, n ≤ 4096 → Ok n [] := fun n hn => ⟨hn, by simp, by simp, fun k x hx => by simp at hx⟩
    obtain ⟨k1, xs1, o1', hk1, q12⟩ : ∃ k1 xs1 o1', ((k1 = 0 ∧ xs.length = 0) ∨ (k1 = 16 ∧ xs.length ≠ 0)) ∧ ∀ h, IsL h s (xs.map I) → Wv (all8 12 [.agg [I (Int.ofNat N), s], .agg [I 0, nilS]] h) (fun r h' => ResM h h' r o1' xs1 k1) := by
      by_cases hz : xs.length = 0
      · exact ⟨0, _, _, .inl ⟨rfl, hz⟩, fun h hs => by rw [a8 rfl]; exact c12 5 h _ 0 s nilS xs [] hs (n0 h) he e0 (by rw [hz]; rfl) (okn _ ok.l)⟩
      · exact ⟨16, [], 0, .inr ⟨rfl, hz⟩, fun h hs => by rw [a8 rfl]; exact c12c 5 h _ 0 s nilS xs [] hs (n0 h) he e0 (by omega)⟩
    obtain ⟨k2, xs2, o2', hk2, q12b⟩ : ∃ k2 xs2 o2', ((k2 = 0 ∧ N = 0) ∨ (k2 = 16 ∧ N ≠ 0)) ∧ ∀ h, IsL h s (xs.map I) → Wv (all8 12 [.agg [I 0, nilS], .agg [I (Int.ofNat N), s]] h) (fun r h' => ResM h h' r o2' xs2 k2) := by
      by_cases hz : N = 0
      · refine ⟨0, _, _, .inl ⟨rfl, hz⟩, fun h hs => by rw [a8 rfl]; exact c12 5 h 0 _ nilS s [] xs (n0 h) hs e0 he (by rw [hz]; rfl) (by subst hz; exact ok)⟩
      · exact ⟨16, [], 0, .inr ⟨rfl, hz⟩, fun h hs => by rw [a8 rfl]; exact c12c 5 h 0 _ nilS s [] xs (n0 h) hs e0 he (by simp only [Int.ofNat_eq_natCast, List.length_nil]; omega)⟩
    obtain ⟨av, ac, hx, q14⟩ : ∃ av ac, ((av = 0 ∧ ac = 4 ∧ (x < 0 ∨ Int.ofNat N ≤ x)) ∨ (¬ x < 0 ∧ ¬ Int.ofNat N ≤ x ∧ av = 0 ∧ ac = 11 ∧ atF x xs 0 = -1) ∨ (¬ x < 0 ∧ ¬ Int.ofNat N ≤ x ∧ av = atF x xs 0 ∧ ac = 0 ∧ ¬ atF x xs 0 < 0)) ∧ ∀ h, IsL h s (xs.map I) → Wv (all8 14 [.agg [I (Int.ofNat N), s], I x] h) (fun r h' => r = .tup [I av, I ac] ∧ Ext h h') := by
      by_cases h0 : x < 0
      · exact ⟨0, 4, .inl ⟨rfl, rfl, .inl h0⟩, fun h hs => by rw [a8 rfl]; exact c14l 4 h N x s xs hs he ok h0⟩
      by_cases h1 : Int.ofNat N ≤ x
      · exact ⟨0, 4, .inl ⟨rfl, rfl, .inr h1⟩, fun h hs => by rw [a8 rfl]; exact c14g 4 h N x s xs hs he ok h0 h1⟩
      obtain ⟨j, rfl⟩ := nat_of (Int.not_lt.1 h0)
      have hj : j < N := by simp only [Int.ofNat_eq_natCast] at h1; omega
      by_cases h2 : atF (j : Int) xs 0 = -1
      · exact ⟨0, 11, .inr (.inl ⟨h0, h1, rfl, rfl, h2⟩), fun h hs => by rw [a8 rfl]; exact c14n 4 h N j s xs hs he ok hj h2⟩
      · refine ⟨atF (j : Int) xs 0, 0, .inr (.inr ⟨h0, h1, rfl, rfl, ?_⟩), fun h hs => by rw [a8 rfl]; exact c14 4 h N j s xs hs he ok hj h2⟩
        exact atF_nn h2
    refine law_a h (Int.ofNat N) x s xs hs (by omega) o1' o2' (xs.length : Int) k1 k2 av ac xs1 xs2 (plc N xs) (goneL xs N) q12 q12b ?_ q14 ?_ ?_
    · intro h hs; rw [a8 rfl, he]; exact c13 4 h N s xs hs he ok
    · intro h hs; rw [a8 rfl, he]; exact c15 4 h N s xs hs he ok
    · intro h e pm p1 p2 p3 s1 s2 s3 g pmlt pm0 pm1 hs m1 m2 m3 og e1 e2 e5 e7 e8 e9 e10 e11 e12 e13 e14 e15 e16
      rw [he] at e5 e12 e16
      have hg1 := gone_cnt xs N
      have hg2 := goneL_len xs N
      exact law_v h e N x s xs pm p1 p2 p3 s1 s2 s3 g k1 k2 av ac (goneL xs N) he o1 (by omega) pmlt pm0 pm1 hs og (by omega) (by omega) hk1 hk2 hx e1 e2 e5 e8 e10 e12 e13 e14 e15 e16
  · refine law_a h o x s xs hs (by omega) 0 0 0 (chkM o xs) (chkM o xs) 0 (chkM o xs) [] [] [] [] ?_ ?_ ?_ ?_ ?_ ?_
    · intro h hs; rw [a8 rfl]; exact c12a 5 h o 0 s nilS xs [] hs (n0 h) he
    · intro h hs; rw [a8 rfl]; exact c12b 5 h 0 o nilS s [] xs (n0 h) hs e0 he
    · intro h hs; rw [a8 rfl]; exact c13b 4 h o s xs hs he
    · intro h hs; rw [a8 rfl]; exact c14b 4 h o x s xs hs he
    · intro h hs
      rw [a8 rfl]
      obtain ⟨r, h', e9, rfl, x9⟩ := c15b 4 h o s xs hs he
      exact ⟨_, h', e9, nilS, rfl, ownS_nil _, x9⟩
    · intro h e pm p1 p2 p3 s1 s2 s3 g pmlt pm0 pm1 hs m1 m2 m3 og e1 e2 e5 e7 e8 e9 e10 e11 e12 e13 e14 e15 e16
      exact law_w h e o x s xs pm p1 p2 p3 s1 s2 s3 g he pmlt pm0 pm1 hs m1 m2 m3 og e1 e2 e5 e7 e8 e9 e10 e11 e12 e13 e14 e15 e16
end Go.Proofs.Ytdbajhklnaekjaa
