import Derived.Test.YtjfmimlmnllnjaaZ6
import Derived.KernelRfl
namespace Go.Proofs.Ytjfmimlmnllnjaa
open Go Go.Proofs Go.RowKit
set_option linter.unusedSimpArgs false
set_option linter.unusedVariables false
open Go.Proofs.Abs
theorem rot_at {L : List Int} {i k : Nat} (hi : i ≤ L.length) (hk : k < L.length) : (L.drop i ++ L.take i)[k]? = if k < L.length - i then L[i + k]? else L[k - (L.length - i)]? := by
  rw [List.getElem?_append, List.length_drop, List.getElem?_drop, List.getElem?_take]
  by_cases h : k < L.length - i
  · rw [if_pos h, if_pos h]
  · rw [if_neg h, if_neg h, if_pos (by omega)]
theorem rot_len {L : List Int} {i : Nat} (hi : i ≤ L.length) : (L.drop i ++ L.take i).length = L.length := by rw [List.length_append, List.length_drop, List.length_take]; omega
theorem rot_step {L : List Int} {k : Nat} (hk : k < L.length) : mvL (L.drop k ++ L.take k) 0 1 (L.length - 1) = L.drop (k + 1) ++ L.take (k + 1) := by
  have hl := rot_len (L := L) (i := k) (by omega)
  obtain ⟨x, hx⟩ : ∃ x, L[k]? = some x := ⟨_, List.getElem?_eq_getElem hk⟩
  have hd : L.drop k = x :: L.drop (k + 1) := by
    rw [List.drop_eq_getElem_cons hk]
    rw [List.getElem?_eq_getElem hk] at hx
    cases hx
    rfl
  have ht : L.take (k + 1) = L.take k ++ [x] := by rw [List.take_add_one, hx]; rfl
  have e1 : (L.drop k ++ L.take k).drop (0 + 1) = L.drop (k + 1) ++ L.take k := by rw [hd]; rfl
  have e2 : ((L.drop k ++ L.take k).drop 0).take 1 = [x] := by rw [hd]; rfl
  have e3 : (L.drop (k + 1) ++ L.take k).length = L.length - 1 := by rw [List.length_append, List.length_drop, List.length_take]; omega
  have e4 : (L.drop (k + 1) ++ L.take k).take (L.length - 1) = L.drop (k + 1) ++ L.take k := List.take_of_length_le (by omega)
  have e5 : (L.drop (k + 1) ++ L.take k).drop (L.length - 1) = [] := List.drop_of_length_le (by omega)
  rw [mvL, e1, e2, List.take_zero, List.nil_append, e4, e5, List.append_nil, ht, List.append_assoc]
theorem take1 {l : List Int} {x : Int} (h : l[0]? = some x) : l.take 1 = [x] := by
  cases l with
  | nil => cases h
  | cons y ys => cases h; rfl
theorem bs1 (h : Hp) : buildSliceA ctx h 22 1 [(0, .lit (.int .i64 1))] = some (.slice h.c 0 1 false 1 0, newBlk h [I 1] 3 0) := by kernel_rfl
theorem one_isL (h : Hp) : IsL (newBlk h [I 1] 3 0) (.slice h.c 0 1 false 1 0) ([(1 : Int)].map I) := by
  have nb := new_cells h [I 1] 3 0
  exact cells_isL (xs := [I 1]) (by rw [nb.2.1]; omega) (fun k x hx => nb.2.2 k x hx)
theorem _root_.Go.Proofs.Abs.Sl.isL {h : Hp} {nm a n : Nat} {M : List Int} {w : AV} (s : Sl nm a n w) (b : BI h nm M) (ha : a + n ≤ M.length) : IsL h w (((M.drop a).take n).map I) := by
  obtain ⟨o, c, rfl, ho⟩ := s
  have hl : (((M.drop a).take n).map I).length = n := by rw [List.length_map, List.length_take, List.length_drop]; omega
  refine .inr ⟨nm, o, false, c, 0, by rw [hl], b.lt, fun k x hx => ?_⟩
  rw [List.getElem?_map, Option.map_eq_some_iff] at hx
  obtain ⟨y, hy, rfl⟩ := hx
  rw [List.getElem?_take] at hy
  split at hy
  · rename_i hk
    rw [List.getElem?_drop] at hy
    rcases ho with h0 | rfl
    · omega
    · exact (b.cell hy).load
  · cases hy
set_option maxHeartbeats 4000000 in
theorem known_c (h : Hp) (e : Env) (p nm : Nat) (M L : List Int) (f t : Nat) (b : Buf h p nm M f t) (hl : L.length = 4096) (hc : con M f t = L.drop 100 ++ L.take 100) (h100 : L[100]? = some 100) (h99 : L[99]? = some 99) (h0 : L[0]? = some 0) (e5 : e.get 5 = some (.ptr p 0)) : Wc (codeA ctx (all8) 5000 4993 (subC [true, true, true, true, true, true, true] (bodyC Try.f6)) e h) (fun x e h => Wv (returnA ctx Try.f6.results.toList (some (x, e, h))) (fun v _ => v = Bo true)) := by
  have hcl : (con M f t).length = 4096 := by rw [hc, rot_len (by omega), hl]
  have g0 : (con M f t)[0]? = some 100 := by rw [hc, rot_at (by omega) (by omega), if_pos (by omega)]; exact h100
  have g1 : (con M f t)[4095]? = some 99 := by rw [hc, rot_at (by omega) (by omega), if_neg (by omega), hl]; exact h99
  have g2 : (con M f t)[3996]? = some 0 := by rw [hc, rot_at (by omega) (by omega), if_neg (by omega), hl]; exact h0
  have r0 : all8 14 [.ptr p 0, I 0] h = some (.tup [I 100, I 0], h) := by rw [a8 rfl]; exact c14 5 h p nm M f t b 0 100 g0
  have r1 : all8 14 [.ptr p 0, I 4095] h = some (.tup [I 99, I 0], h) := by rw [a8 rfl]; exact c14 5 h p nm M f t b 4095 99 g1
  have r2 : all8 14 [.ptr p 0, I 3996] h = some (.tup [I 0, I 0], h) := by rw [a8 rfl]; exact c14 5 h p nm M f t b 3996 0 g2
  obtain ⟨_, h2, er, rfl, M2, f2, t2, B2, hc2, _⟩ := c10 5 h p nm M f t b 1 4095 (by omega)
  have r3 : all8 10 [.ptr p 0, I 1, I 4095] h = some (I 0, h2) := by rw [a8 rfl]; exact er
  rw [take1 g0, List.drop_of_length_le (by omega), List.append_nil] at hc2
  have hl2 : (con M2 f2 t2).length = 1 := by rw [hc2]; rfl
  have r4 : all8 11 [.ptr p 0] h2 = some (I 1, h2) := by
    rw [a8 rfl]; have := c11 7 h2 p nm M2 _ _ B2; rw [hl2] at this; exact this
  have r5 : all8 14 [.ptr p 0, I 0] h2 = some (.tup [I 100, I 0], h2) := by rw [a8 rfl]; exact c14 5 h2 p nm M2 f2 t2 B2 0 100 (by rw [hc2]; rfl)
  have r6 : all8 10 [.ptr p 0, I 9223372036854775807, I 1] h2 = some (I 4, h2) := by rw [a8 rfl]; exact c10b 5 h2 p nm M2 f2 t2 B2 9223372036854775807 1 (by rw [hl2]; simp only [Int.ofNat_eq_natCast]; omega)
  have r7 : all8 10 [.ptr p 0, I 0, I 9223372036854775807] h2 = some (I 4, h2) := by rw [a8 rfl]; exact c10b 5 h2 p nm M2 f2 t2 B2 0 9223372036854775807 (by rw [hl2]; simp only [Int.ofNat_eq_natCast]; omega)
  have r8 : all8 12 [.ptr p 0, I 0, I 1, I 1] h2 = some (I 4, h2) := by
    obtain ⟨_, _, e9, rfl, rfl⟩ := c12c 4 h2 p nm M2 f2 t2 B2 0 1 1 (by omega) (by omega) (by rw [hl2]; simp only [Int.ofNat_eq_natCast]; omega)
    rw [a8 rfl]; exact e9
  obtain ⟨_, h3, em, rfl, _⟩ := c12 4 h2 p nm M2 f2 t2 B2 0 1 0 (by omega) (by omega) (by omega)
  have r9 : all8 12 [.ptr p 0, I 0, I 1, I 0] h2 = some (I 0, h3) := by rw [a8 rfl]; exact em
  have v7 := q7 h3
  have w0 : IntKind.wrap .i64 (0 + 0) = 0 := by rw [IntKind.wrap_i64]; rfl
  unfold bodyC Try.f6
  dsimp only [subC, Option.getD, cond]
  repeat' (first
    | refine wc_seq ?_
    | (refine wc_region rfl ?_; simp only [oUn_not, beq_self_eq_true, eq_self, pv_mul, List.toList_toArray, opsA_cons, opsA_nil, wantedA, guardA, yieldA, stepA_t, stepA_f, callA, calleeA, targetA, runOp_c, runOp_n, opA, ev, evs, evo, consO, consOO, withH, pickA, afterA_s, putA, T.get_put, Nat.reduceEqDiff, reduceIte, List.getElem?_toArray, List.getElem?_cons_zero, List.getElem?_cons_succ, oBuiltin, oBin, binA, binG, binL, aggO, litA, intA, ltF_eq, eqF_eq, oIndexAddr, cond_true, cond_false, Bool.not_true, Bool.not_false, decide_true, decide_false, blt_eq, tt_beq, tf_beq, ft_beq, ff_beq, Bool.and_true, Bool.true_and, Option.some.injEq, I, Bo, addI, subI, oExtract, Bool.not_eq_true', fieldAddrA, oFieldAddr, oLoad, oStore, isAggD, aggH, oneH, skipH, Nat.add_eq_left, Nat.left_eq_add, Nat.succ_ne_self, fieldA, partA, cellsOf, List.length_cons, List.length_nil, Nat.reduceAdd, Nat.zero_add, Nat.add_zero, Nat.mul_one, Nat.reduceMul, nbeq_self, onesA_cons', onesA_nil, oneA, Value.oneCell', Nat.reduceLT, ty3, ti3, ty22, ti22, ty25, ti25, ty26, ti26, e5, r0, r1, r2, r3, r4, r5, r6, r7, r8, r9, v7, w0, Int.reduceBEq, eqA, eqD, eqOp, nilCheckA]; refine ⟨_, _, rfl, ?_⟩)
    | (refine wc_cond (by simp only [oUn_not, beq_self_eq_true, eq_self, pv_mul, List.toList_toArray, opsA_cons, opsA_nil, wantedA, guardA, yieldA, stepA_t, stepA_f, callA, calleeA, targetA, runOp_c, runOp_n, opA, ev, evs, evo, consO, consOO, withH, pickA, afterA_s, putA, T.get_put, Nat.reduceEqDiff, reduceIte, List.getElem?_toArray, List.getElem?_cons_zero, List.getElem?_cons_succ, oBuiltin, oBin, binA, binG, binL, aggO, litA, intA, ltF_eq, eqF_eq, oIndexAddr, cond_true, cond_false, Bool.not_true, Bool.not_false, decide_true, decide_false, blt_eq, tt_beq, tf_beq, ft_beq, ff_beq, Bool.and_true, Bool.true_and, Option.some.injEq, I, Bo, addI, subI, oExtract, Bool.not_eq_true', fieldAddrA, oFieldAddr, oLoad, oStore, isAggD, aggH, oneH, skipH, Nat.add_eq_left, Nat.left_eq_add, Nat.succ_ne_self, fieldA, partA, cellsOf, List.length_cons, List.length_nil, Nat.reduceAdd, Nat.zero_add, Nat.add_zero, Nat.mul_one, Nat.reduceMul, nbeq_self, onesA_cons', onesA_nil, oneA, Value.oneCell', Nat.reduceLT, ty3, ti3, ty22, ti22, ty25, ti25, ty26, ti26, e5, r0, r1, r2, r3, r4, r5, r6, r7, r8, r9, v7, w0, Int.reduceBEq, eqA, eqD, eqOp, nilCheckA]; rfl) ?_ ?_ <;> intro hb <;> first | (exfalso; exact Bool.noConfusion hb) | skip)
    | refine wc_block ?_
    | refine wc_skip ?_
    | refine wc_scope (by decide) ?_
    | refine wc_label ?_
    | refine wc_exit ?_
    | refine wc_ret ?_
    | refine wv_ret (by simp only [resA, resOne]; simp only [oUn_not, beq_self_eq_true, eq_self, pv_mul, List.toList_toArray, opsA_cons, opsA_nil, wantedA, guardA, yieldA, stepA_t, stepA_f, callA, calleeA, targetA, runOp_c, runOp_n, opA, ev, evs, evo, consO, consOO, withH, pickA, afterA_s, putA, T.get_put, Nat.reduceEqDiff, reduceIte, List.getElem?_toArray, List.getElem?_cons_zero, List.getElem?_cons_succ, oBuiltin, oBin, binA, binG, binL, aggO, litA, intA, ltF_eq, eqF_eq, oIndexAddr, cond_true, cond_false, Bool.not_true, Bool.not_false, decide_true, decide_false, blt_eq, tt_beq, tf_beq, ft_beq, ff_beq, Bool.and_true, Bool.true_and, Option.some.injEq, I, Bo, addI, subI, oExtract, Bool.not_eq_true', fieldAddrA, oFieldAddr, oLoad, oStore, isAggD, aggH, oneH, skipH, Nat.add_eq_left, Nat.left_eq_add, Nat.succ_ne_self, fieldA, partA, cellsOf, List.length_cons, List.length_nil, Nat.reduceAdd, Nat.zero_add, Nat.add_zero, Nat.mul_one, Nat.reduceMul, nbeq_self, onesA_cons', onesA_nil, oneA, Value.oneCell', Nat.reduceLT, ty3, ti3, ty22, ti22, ty25, ti25, ty26, ti26, e5, r0, r1, r2, r3, r4, r5, r6, r7, r8, r9, v7, w0, Int.reduceBEq, eqA, eqD, eqOp, nilCheckA]; rfl) ?_)
  all_goals exact rfl
set_option maxHeartbeats 4000000 in
theorem known_b (h : Hp) (e : Env) (p nm : Nat) (M L : List Int) (f t : Nat) (b : Buf h p nm M f t) (hl : L.length = 4096) (hc : con M f t = L) (h100 : L[100]? = some 100) (h99 : L[99]? = some 99) (h0 : L[0]? = some 0) (e5 : e.get 5 = some (.ptr p 0)) : Wc (codeA ctx (all8) 5000 4994 (subC [true, true, true, true, true, true] (bodyC Try.f6)) e h) (fun x e h => Wv (returnA ctx Try.f6.results.toList (some (x, e, h))) (fun v _ => v = Bo true)) := by
  unfold bodyC Try.f6
  dsimp only [subC, Option.getD, cond]
  repeat' (first
    | refine wc_seq ?_
    | (refine wc_region rfl ?_; simp only [oUn_not, beq_self_eq_true, eq_self, pv_mul, List.toList_toArray, opsA_cons, opsA_nil, wantedA, guardA, yieldA, stepA_t, stepA_f, callA, calleeA, targetA, runOp_c, runOp_n, opA, ev, evs, evo, consO, consOO, withH, pickA, afterA_s, putA, T.get_put, Nat.reduceEqDiff, reduceIte, List.getElem?_toArray, List.getElem?_cons_zero, List.getElem?_cons_succ, oBuiltin, oBin, binA, binG, binL, aggO, litA, intA, ltF_eq, eqF_eq, oIndexAddr, cond_true, cond_false, Bool.not_true, Bool.not_false, decide_true, decide_false, blt_eq, tt_beq, tf_beq, ft_beq, ff_beq, Bool.and_true, Bool.true_and, Option.some.injEq, I, Bo, addI, subI, oExtract, Bool.not_eq_true', fieldAddrA, oFieldAddr, oLoad, oStore, isAggD, aggH, oneH, skipH, Nat.add_eq_left, Nat.left_eq_add, Nat.succ_ne_self, fieldA, partA, cellsOf, List.length_cons, List.length_nil, Nat.reduceAdd, Nat.zero_add, Nat.add_zero, Nat.mul_one, Nat.reduceMul, nbeq_self, onesA_cons', onesA_nil, oneA, Value.oneCell', Nat.reduceLT, ty3, ti3, ty22, ti22, ty25, ti25, ty26, ti26, e5]; refine ⟨_, _, rfl, ?_⟩)
    | (refine wc_cond (by simp only [oUn_not, beq_self_eq_true, eq_self, pv_mul, List.toList_toArray, opsA_cons, opsA_nil, wantedA, guardA, yieldA, stepA_t, stepA_f, callA, calleeA, targetA, runOp_c, runOp_n, opA, ev, evs, evo, consO, consOO, withH, pickA, afterA_s, putA, T.get_put, Nat.reduceEqDiff, reduceIte, List.getElem?_toArray, List.getElem?_cons_zero, List.getElem?_cons_succ, oBuiltin, oBin, binA, binG, binL, aggO, litA, intA, ltF_eq, eqF_eq, oIndexAddr, cond_true, cond_false, Bool.not_true, Bool.not_false, decide_true, decide_false, blt_eq, tt_beq, tf_beq, ft_beq, ff_beq, Bool.and_true, Bool.true_and, Option.some.injEq, I, Bo, addI, subI, oExtract, Bool.not_eq_true', fieldAddrA, oFieldAddr, oLoad, oStore, isAggD, aggH, oneH, skipH, Nat.add_eq_left, Nat.left_eq_add, Nat.succ_ne_self, fieldA, partA, cellsOf, List.length_cons, List.length_nil, Nat.reduceAdd, Nat.zero_add, Nat.add_zero, Nat.mul_one, Nat.reduceMul, nbeq_self, onesA_cons', onesA_nil, oneA, Value.oneCell', Nat.reduceLT, ty3, ti3, ty22, ti22, ty25, ti25, ty26, ti26, e5]; rfl) ?_ ?_ <;> intro hb <;> first | (exfalso; exact Bool.noConfusion hb) | skip)
    | refine wc_block ?_
    | refine wc_skip ?_
    | refine wc_scope (by decide) ?_
    | refine wc_label ?_
    | refine wc_exit ?_
    | refine wc_ret ?_
    | refine wv_ret (by simp only [resA, resOne]; simp only [oUn_not, beq_self_eq_true, eq_self, pv_mul, List.toList_toArray, opsA_cons, opsA_nil, wantedA, guardA, yieldA, stepA_t, stepA_f, callA, calleeA, targetA, runOp_c, runOp_n, opA, ev, evs, evo, consO, consOO, withH, pickA, afterA_s, putA, T.get_put, Nat.reduceEqDiff, reduceIte, List.getElem?_toArray, List.getElem?_cons_zero, List.getElem?_cons_succ, oBuiltin, oBin, binA, binG, binL, aggO, litA, intA, ltF_eq, eqF_eq, oIndexAddr, cond_true, cond_false, Bool.not_true, Bool.not_false, decide_true, decide_false, blt_eq, tt_beq, tf_beq, ft_beq, ff_beq, Bool.and_true, Bool.true_and, Option.some.injEq, I, Bo, addI, subI, oExtract, Bool.not_eq_true', fieldAddrA, oFieldAddr, oLoad, oStore, isAggD, aggH, oneH, skipH, Nat.add_eq_left, Nat.left_eq_add, Nat.succ_ne_self, fieldA, partA, cellsOf, List.length_cons, List.length_nil, Nat.reduceAdd, Nat.zero_add, Nat.add_zero, Nat.mul_one, Nat.reduceMul, nbeq_self, onesA_cons', onesA_nil, oneA, Value.oneCell', Nat.reduceLT, ty3, ti3, ty22, ti22, ty25, ti25, ty26, ti26, e5]; rfl) ?_)
  refine wc_loop (fun m e h' => ∃ k M f t, m = 100 - k ∧ k ≤ 100 ∧ e.get 5 = some (.ptr p 0) ∧ e.get 7 = some (I (Int.ofNat k)) ∧ Buf h' p nm M f t ∧ con M f t = L.drop k ++ L.take k) 100 ?_ ⟨0, M, f, t, ?_⟩ ?_
  · omega
  · refine ⟨rfl, Nat.zero_le _, ?_, ?_, b, by rw [hc, List.take_zero, List.drop_zero, List.append_nil]⟩
    all_goals simp only [oUn_not, beq_self_eq_true, eq_self, pv_mul, List.toList_toArray, opsA_cons, opsA_nil, wantedA, guardA, yieldA, stepA_t, stepA_f, callA, calleeA, targetA, runOp_c, runOp_n, opA, ev, evs, evo, consO, consOO, withH, pickA, afterA_s, putA, T.get_put, Nat.reduceEqDiff, reduceIte, List.getElem?_toArray, List.getElem?_cons_zero, List.getElem?_cons_succ, oBuiltin, oBin, binA, binG, binL, aggO, litA, intA, ltF_eq, eqF_eq, oIndexAddr, cond_true, cond_false, Bool.not_true, Bool.not_false, decide_true, decide_false, blt_eq, tt_beq, tf_beq, ft_beq, ff_beq, Bool.and_true, Bool.true_and, Option.some.injEq, I, Bo, addI, subI, oExtract, Bool.not_eq_true', fieldAddrA, oFieldAddr, oLoad, oStore, isAggD, aggH, oneH, skipH, Nat.add_eq_left, Nat.left_eq_add, Nat.succ_ne_self, fieldA, partA, cellsOf, List.length_cons, List.length_nil, Nat.reduceAdd, Nat.zero_add, Nat.add_zero, Nat.mul_one, Nat.reduceMul, nbeq_self, onesA_cons', onesA_nil, oneA, Value.oneCell', Nat.reduceLT, ty3, ti3, ty22, ti22, ty25, ti25, ty26, ti26, e5]; try rfl
  · rintro m e h' ⟨k, M, f, t, rfl, hk, e5, e7, B, hc⟩
    by_cases hlt : k < 100
    · have c0 : decide (Int.ofNat k < 100) = true := by simp only [Int.ofNat_eq_natCast, decide_eq_true_eq]; omega
      have hk1 := inc (k := k) (by omega)
      have hcl : (con M f t).length = 4096 := by rw [hc, rot_len (by omega), hl]
      obtain ⟨_, h2, em, rfl, M2, f2, t2, B2, hc2, _⟩ := c12 4 h' p nm M f t B 0 1 4095 (by omega) (by omega) (by omega)
      have r1 : all8 12 [.ptr p 0, I 0, I 1, I 4095] h' = some (I 0, h2) := by rw [a8 rfl]; exact em
      have hst := rot_step (L := L) (k := k) (by omega)
      rw [hl] at hst
      rw [hc] at hc2
      have hc3 : con M2 f2 t2 = L.drop (k + 1) ++ L.take (k + 1) := hc2.trans hst
      repeat' (first
        | refine wc_seq ?_
        | (refine wc_region rfl ?_; simp only [oUn_not, beq_self_eq_true, eq_self, pv_mul, List.toList_toArray, opsA_cons, opsA_nil, wantedA, guardA, yieldA, stepA_t, stepA_f, callA, calleeA, targetA, runOp_c, runOp_n, opA, ev, evs, evo, consO, consOO, withH, pickA, afterA_s, putA, T.get_put, Nat.reduceEqDiff, reduceIte, List.getElem?_toArray, List.getElem?_cons_zero, List.getElem?_cons_succ, oBuiltin, oBin, binA, binG, binL, aggO, litA, intA, ltF_eq, eqF_eq, oIndexAddr, cond_true, cond_false, Bool.not_true, Bool.not_false, decide_true, decide_false, blt_eq, tt_beq, tf_beq, ft_beq, ff_beq, Bool.and_true, Bool.true_and, Option.some.injEq, I, Bo, addI, subI, oExtract, Bool.not_eq_true', fieldAddrA, oFieldAddr, oLoad, oStore, isAggD, aggH, oneH, skipH, Nat.add_eq_left, Nat.left_eq_add, Nat.succ_ne_self, fieldA, partA, cellsOf, List.length_cons, List.length_nil, Nat.reduceAdd, Nat.zero_add, Nat.add_zero, Nat.mul_one, Nat.reduceMul, nbeq_self, onesA_cons', onesA_nil, oneA, Value.oneCell', Nat.reduceLT, ty3, ti3, ty22, ti22, ty25, ti25, ty26, ti26, e5, e7, c0, hk1, r1, Int.reduceBEq, eqA, eqD, eqOp, nilCheckA]; refine ⟨_, _, rfl, ?_⟩)
        | (refine wc_cond (by simp only [oUn_not, beq_self_eq_true, eq_self, pv_mul, List.toList_toArray, opsA_cons, opsA_nil, wantedA, guardA, yieldA, stepA_t, stepA_f, callA, calleeA, targetA, runOp_c, runOp_n, opA, ev, evs, evo, consO, consOO, withH, pickA, afterA_s, putA, T.get_put, Nat.reduceEqDiff, reduceIte, List.getElem?_toArray, List.getElem?_cons_zero, List.getElem?_cons_succ, oBuiltin, oBin, binA, binG, binL, aggO, litA, intA, ltF_eq, eqF_eq, oIndexAddr, cond_true, cond_false, Bool.not_true, Bool.not_false, decide_true, decide_false, blt_eq, tt_beq, tf_beq, ft_beq, ff_beq, Bool.and_true, Bool.true_and, Option.some.injEq, I, Bo, addI, subI, oExtract, Bool.not_eq_true', fieldAddrA, oFieldAddr, oLoad, oStore, isAggD, aggH, oneH, skipH, Nat.add_eq_left, Nat.left_eq_add, Nat.succ_ne_self, fieldA, partA, cellsOf, List.length_cons, List.length_nil, Nat.reduceAdd, Nat.zero_add, Nat.add_zero, Nat.mul_one, Nat.reduceMul, nbeq_self, onesA_cons', onesA_nil, oneA, Value.oneCell', Nat.reduceLT, ty3, ti3, ty22, ti22, ty25, ti25, ty26, ti26, e5, e7, c0, hk1, r1, Int.reduceBEq, eqA, eqD, eqOp, nilCheckA]; rfl) ?_ ?_ <;> intro hb <;> first | (exfalso; exact Bool.noConfusion hb) | skip)
        | refine wc_block ?_
        | refine wc_skip ?_
        | refine wc_scope (by decide) ?_
        | refine wc_label ?_
        | refine wc_exit ?_
        | refine wc_ret ?_
        | refine wv_ret (by simp only [resA, resOne]; simp only [oUn_not, beq_self_eq_true, eq_self, pv_mul, List.toList_toArray, opsA_cons, opsA_nil, wantedA, guardA, yieldA, stepA_t, stepA_f, callA, calleeA, targetA, runOp_c, runOp_n, opA, ev, evs, evo, consO, consOO, withH, pickA, afterA_s, putA, T.get_put, Nat.reduceEqDiff, reduceIte, List.getElem?_toArray, List.getElem?_cons_zero, List.getElem?_cons_succ, oBuiltin, oBin, binA, binG, binL, aggO, litA, intA, ltF_eq, eqF_eq, oIndexAddr, cond_true, cond_false, Bool.not_true, Bool.not_false, decide_true, decide_false, blt_eq, tt_beq, tf_beq, ft_beq, ff_beq, Bool.and_true, Bool.true_and, Option.some.injEq, I, Bo, addI, subI, oExtract, Bool.not_eq_true', fieldAddrA, oFieldAddr, oLoad, oStore, isAggD, aggH, oneH, skipH, Nat.add_eq_left, Nat.left_eq_add, Nat.succ_ne_self, fieldA, partA, cellsOf, List.length_cons, List.length_nil, Nat.reduceAdd, Nat.zero_add, Nat.add_zero, Nat.mul_one, Nat.reduceMul, nbeq_self, onesA_cons', onesA_nil, oneA, Value.oneCell', Nat.reduceLT, ty3, ti3, ty22, ti22, ty25, ti25, ty26, ti26, e5, e7, c0, hk1, r1, Int.reduceBEq, eqA, eqD, eqOp, nilCheckA]; rfl) ?_)
      refine nx_next (100 - (k + 1)) (by omega) ⟨k + 1, M2, f2, t2, rfl, hlt, ?_, ?_, B2, hc3⟩ <;> simp only [oUn_not, beq_self_eq_true, eq_self, pv_mul, List.toList_toArray, opsA_cons, opsA_nil, wantedA, guardA, yieldA, stepA_t, stepA_f, callA, calleeA, targetA, runOp_c, runOp_n, opA, ev, evs, evo, consO, consOO, withH, pickA, afterA_s, putA, T.get_put, Nat.reduceEqDiff, reduceIte, List.getElem?_toArray, List.getElem?_cons_zero, List.getElem?_cons_succ, oBuiltin, oBin, binA, binG, binL, aggO, litA, intA, ltF_eq, eqF_eq, oIndexAddr, cond_true, cond_false, Bool.not_true, Bool.not_false, decide_true, decide_false, blt_eq, tt_beq, tf_beq, ft_beq, ff_beq, Bool.and_true, Bool.true_and, Option.some.injEq, I, Bo, addI, subI, oExtract, Bool.not_eq_true', fieldAddrA, oFieldAddr, oLoad, oStore, isAggD, aggH, oneH, skipH, Nat.add_eq_left, Nat.left_eq_add, Nat.succ_ne_self, fieldA, partA, cellsOf, List.length_cons, List.length_nil, Nat.reduceAdd, Nat.zero_add, Nat.add_zero, Nat.mul_one, Nat.reduceMul, nbeq_self, onesA_cons', onesA_nil, oneA, Value.oneCell', Nat.reduceLT, ty3, ti3, ty22, ti22, ty25, ti25, ty26, ti26, e5, e7, c0, hk1, r1, Int.reduceBEq, eqA, eqD, eqOp, nilCheckA]
    · have c0 : decide (Int.ofNat k < 100) = false := by simp only [Int.ofNat_eq_natCast, decide_eq_false_iff_not]; omega
      obtain rfl : k = 100 := by omega
      refine wc_seq ?_
      refine wc_seq ?_
      refine wc_region rfl ?_
      simp only [oUn_not, beq_self_eq_true, eq_self, pv_mul, List.toList_toArray, opsA_cons, opsA_nil, wantedA, guardA, yieldA, stepA_t, stepA_f, callA, calleeA, targetA, runOp_c, runOp_n, opA, ev, evs, evo, consO, consOO, withH, pickA, afterA_s, putA, T.get_put, Nat.reduceEqDiff, reduceIte, List.getElem?_toArray, List.getElem?_cons_zero, List.getElem?_cons_succ, oBuiltin, oBin, binA, binG, binL, aggO, litA, intA, ltF_eq, eqF_eq, oIndexAddr, cond_true, cond_false, Bool.not_true, Bool.not_false, decide_true, decide_false, blt_eq, tt_beq, tf_beq, ft_beq, ff_beq, Bool.and_true, Bool.true_and, Option.some.injEq, I, Bo, addI, subI, oExtract, Bool.not_eq_true', fieldAddrA, oFieldAddr, oLoad, oStore, isAggD, aggH, oneH, skipH, Nat.add_eq_left, Nat.left_eq_add, Nat.succ_ne_self, fieldA, partA, cellsOf, List.length_cons, List.length_nil, Nat.reduceAdd, Nat.zero_add, Nat.add_zero, Nat.mul_one, Nat.reduceMul, nbeq_self, onesA_cons', onesA_nil, oneA, Value.oneCell', Nat.reduceLT, ty3, ti3, ty22, ti22, ty25, ti25, ty26, ti26, e5, e7, c0]
      refine ⟨_, _, rfl, ?_⟩
      refine wc_cond (by simp only [oUn_not, beq_self_eq_true, eq_self, pv_mul, List.toList_toArray, opsA_cons, opsA_nil, wantedA, guardA, yieldA, stepA_t, stepA_f, callA, calleeA, targetA, runOp_c, runOp_n, opA, ev, evs, evo, consO, consOO, withH, pickA, afterA_s, putA, T.get_put, Nat.reduceEqDiff, reduceIte, List.getElem?_toArray, List.getElem?_cons_zero, List.getElem?_cons_succ, oBuiltin, oBin, binA, binG, binL, aggO, litA, intA, ltF_eq, eqF_eq, oIndexAddr, cond_true, cond_false, Bool.not_true, Bool.not_false, decide_true, decide_false, blt_eq, tt_beq, tf_beq, ft_beq, ff_beq, Bool.and_true, Bool.true_and, Option.some.injEq, I, Bo, addI, subI, oExtract, Bool.not_eq_true', fieldAddrA, oFieldAddr, oLoad, oStore, isAggD, aggH, oneH, skipH, Nat.add_eq_left, Nat.left_eq_add, Nat.succ_ne_self, fieldA, partA, cellsOf, List.length_cons, List.length_nil, Nat.reduceAdd, Nat.zero_add, Nat.add_zero, Nat.mul_one, Nat.reduceMul, nbeq_self, onesA_cons', onesA_nil, oneA, Value.oneCell', Nat.reduceLT, ty3, ti3, ty22, ti22, ty25, ti25, ty26, ti26, e5, e7, c0]; rfl) ?_ ?_ <;> intro hb <;> first | (exfalso; exact Bool.noConfusion hb) | skip
      refine wc_exit ?_
      refine known_c h' _ p nm M L f t B hl hc h100 h99 h0 ?_
      simp only [oUn_not, beq_self_eq_true, eq_self, pv_mul, List.toList_toArray, opsA_cons, opsA_nil, wantedA, guardA, yieldA, stepA_t, stepA_f, callA, calleeA, targetA, runOp_c, runOp_n, opA, ev, evs, evo, consO, consOO, withH, pickA, afterA_s, putA, T.get_put, Nat.reduceEqDiff, reduceIte, List.getElem?_toArray, List.getElem?_cons_zero, List.getElem?_cons_succ, oBuiltin, oBin, binA, binG, binL, aggO, litA, intA, ltF_eq, eqF_eq, oIndexAddr, cond_true, cond_false, Bool.not_true, Bool.not_false, decide_true, decide_false, blt_eq, tt_beq, tf_beq, ft_beq, ff_beq, Bool.and_true, Bool.true_and, Option.some.injEq, I, Bo, addI, subI, oExtract, Bool.not_eq_true', fieldAddrA, oFieldAddr, oLoad, oStore, isAggD, aggH, oneH, skipH, Nat.add_eq_left, Nat.left_eq_add, Nat.succ_ne_self, fieldA, partA, cellsOf, List.length_cons, List.length_nil, Nat.reduceAdd, Nat.zero_add, Nat.add_zero, Nat.mul_one, Nat.reduceMul, nbeq_self, onesA_cons', onesA_nil, oneA, Value.oneCell', Nat.reduceLT, ty3, ti3, ty22, ti22, ty25, ti25, ty26, ti26, e5]
set_option maxHeartbeats 4000000 in
theorem known_a (h : Hp) (e : Env) (na : Nat) (A : List Int) (b : BI h na A) (hl : A.length = 4097) (ha : ∀ k, k < 4097 → A[k]? = some (Int.ofNat k)) (e1 : e.get 1 = some (.slice na 0 4097 false 4097 0)) : Wc (codeA ctx (all8) 5000 4997 (subC [true, true, true] (bodyC Try.f6)) e h) (fun x e h => Wv (returnA ctx Try.f6.results.toList (some (x, e, h))) (fun v _ => v = Bo true)) := by
  have il := b.isL
  rw [hl] at il
  have r1 : all8 8 [.slice na 0 4097 false 4097 0] h = some (.tup [.lit (.pointer none), I 3], h) := by rw [a8 rfl]; exact c8b 7 h _ A il (by omega)
  obtain ⟨w, hw, sw⟩ := slT (nm := na) (n := 4097) (b := 4096) (by omega)
  have hw' : ∀ h, sliceA ctx h 22 (.slice na 0 4097 false 4097 0) none (some (I 4096)) none = some (w, h) := hw
  have iw := sw.isL b (by omega)
  rw [List.drop_zero] at iw
  have hll : (A.take 4096).length = 4096 := by rw [List.length_take]; omega
  have hat : ∀ k, k < 4096 → (A.take 4096)[k]? = some (Int.ofNat k) := fun k hk => by rw [List.getElem?_take, if_pos hk]; exact ha k (by omega)
  generalize hL : A.take 4096 = L at *
  obtain ⟨_, h2, en, p, nm, rfl, B2, x2, _⟩ := c8 7 h w L iw (by omega)
  have r2 : all8 8 [w] h = some (.tup [.ptr p 0, I 0], h2) := by rw [a8 rfl]; exact en
  have hc2 : con L L.length L.length = L := by rw [con, List.take_append_drop]
  have bs2 := bs1 h2
  have nb2 := new_cells h2 [I 1] 3 0
  have B3 := B2.ext nb2.1
  have r3 : all8 9 [.ptr p 0, I 7, .slice h2.c 0 1 false 1 0] (newBlk h2 [I 1] 3 0) = some (I 3, newBlk h2 [I 1] 3 0) := by
    rw [a8 rfl]; exact c9c 5 _ p nm L _ _ B3 7 _ [1] (one_isL h2) (by rw [hc2]; omega) (by rw [hc2]; omega) (by rw [hc2, List.length_singleton]; omega)
  obtain ⟨_, h4, ei, rfl, nm4, M4, f4, t4, B4, hc4, _⟩ := c9 5 (newBlk h2 [I 1] 3 0) p nm L _ _ B3 7 nilS [] (.inl ⟨rfl, rfl⟩) (fun n hn => by cases hn) (by rw [hc2]; omega) (by rw [hc2, List.length_nil]; omega)
  have r4 : all8 9 [.ptr p 0, I 7, nilS] (newBlk h2 [I 1] 3 0) = some (I 0, h4) := by rw [a8 rfl]; exact ei
  rw [hc2, List.append_nil, List.take_append_drop] at hc4
  have r5 : all8 9 [.ptr p 0, I 4097, nilS] h4 = some (I 4, h4) := by rw [a8 rfl]; exact c9b 5 h4 p nm4 M4 f4 t4 B4 4097 _ (by rw [hc4, hll]; simp only [Int.ofNat_eq_natCast]; omega)
  have bs4 := bs1 h4
  have nb4 := new_cells h4 [I 1] 3 0
  have B5 := B4.ext nb4.1
  have r6 : all8 9 [.ptr p 0, I 4097, .slice h4.c 0 1 false 1 0] (newBlk h4 [I 1] 3 0) = some (I 4, newBlk h4 [I 1] 3 0) := by rw [a8 rfl]; exact c9b 5 _ p nm4 M4 f4 t4 B5 4097 _ (by rw [hc4, hll]; simp only [Int.ofNat_eq_natCast]; omega)
  unfold bodyC Try.f6
  dsimp only [subC, Option.getD, cond]
  refine wc_seq ?_
  (refine wc_region rfl ?_; simp only [oUn_not, beq_self_eq_true, eq_self, pv_mul, List.toList_toArray, opsA_cons, opsA_nil, wantedA, guardA, yieldA, stepA_t, stepA_f, callA, calleeA, targetA, runOp_c, runOp_n, opA, ev, evs, evo, consO, consOO, withH, pickA, afterA_s, putA, T.get_put, Nat.reduceEqDiff, reduceIte, List.getElem?_toArray, List.getElem?_cons_zero, List.getElem?_cons_succ, oBuiltin, oBin, binA, binG, binL, aggO, litA, intA, ltF_eq, eqF_eq, oIndexAddr, cond_true, cond_false, Bool.not_true, Bool.not_false, decide_true, decide_false, blt_eq, tt_beq, tf_beq, ft_beq, ff_beq, Bool.and_true, Bool.true_and, Option.some.injEq, I, Bo, addI, subI, oExtract, Bool.not_eq_true', fieldAddrA, oFieldAddr, oLoad, oStore, isAggD, aggH, oneH, skipH, Nat.add_eq_left, Nat.left_eq_add, Nat.succ_ne_self, fieldA, partA, cellsOf, List.length_cons, List.length_nil, Nat.reduceAdd, Nat.zero_add, Nat.add_zero, Nat.mul_one, Nat.reduceMul, nbeq_self, onesA_cons', onesA_nil, oneA, Value.oneCell', Nat.reduceLT, ty3, ti3, ty22, ti22, ty25, ti25, ty26, ti26, e1, r1, hw', r2, bs2, r3, r4, r5, bs4, r6, oSlice, Int.reduceBEq, eqA, eqD, eqOp, nilCheckA, oBuild, oBuildSlice, evParts, consP]; refine ⟨_, _, rfl, ?_⟩)
  refine wc_seq ?_
  (refine wc_region rfl ?_; simp only [oUn_not, beq_self_eq_true, eq_self, pv_mul, List.toList_toArray, opsA_cons, opsA_nil, wantedA, guardA, yieldA, stepA_t, stepA_f, callA, calleeA, targetA, runOp_c, runOp_n, opA, ev, evs, evo, consO, consOO, withH, pickA, afterA_s, putA, T.get_put, Nat.reduceEqDiff, reduceIte, List.getElem?_toArray, List.getElem?_cons_zero, List.getElem?_cons_succ, oBuiltin, oBin, binA, binG, binL, aggO, litA, intA, ltF_eq, eqF_eq, oIndexAddr, cond_true, cond_false, Bool.not_true, Bool.not_false, decide_true, decide_false, blt_eq, tt_beq, tf_beq, ft_beq, ff_beq, Bool.and_true, Bool.true_and, Option.some.injEq, I, Bo, addI, subI, oExtract, Bool.not_eq_true', fieldAddrA, oFieldAddr, oLoad, oStore, isAggD, aggH, oneH, skipH, Nat.add_eq_left, Nat.left_eq_add, Nat.succ_ne_self, fieldA, partA, cellsOf, List.length_cons, List.length_nil, Nat.reduceAdd, Nat.zero_add, Nat.add_zero, Nat.mul_one, Nat.reduceMul, nbeq_self, onesA_cons', onesA_nil, oneA, Value.oneCell', Nat.reduceLT, ty3, ti3, ty22, ti22, ty25, ti25, ty26, ti26, e1, r1, hw', r2, bs2, r3, r4, r5, bs4, r6, oSlice, Int.reduceBEq, eqA, eqD, eqOp, nilCheckA, oBuild, oBuildSlice, evParts, consP]; refine ⟨_, _, rfl, ?_⟩)
  refine wc_seq ?_
  refine wc_seq ?_
  (refine wc_region rfl ?_; simp only [oUn_not, beq_self_eq_true, eq_self, pv_mul, List.toList_toArray, opsA_cons, opsA_nil, wantedA, guardA, yieldA, stepA_t, stepA_f, callA, calleeA, targetA, runOp_c, runOp_n, opA, ev, evs, evo, consO, consOO, withH, pickA, afterA_s, putA, T.get_put, Nat.reduceEqDiff, reduceIte, List.getElem?_toArray, List.getElem?_cons_zero, List.getElem?_cons_succ, oBuiltin, oBin, binA, binG, binL, aggO, litA, intA, ltF_eq, eqF_eq, oIndexAddr, cond_true, cond_false, Bool.not_true, Bool.not_false, decide_true, decide_false, blt_eq, tt_beq, tf_beq, ft_beq, ff_beq, Bool.and_true, Bool.true_and, Option.some.injEq, I, Bo, addI, subI, oExtract, Bool.not_eq_true', fieldAddrA, oFieldAddr, oLoad, oStore, isAggD, aggH, oneH, skipH, Nat.add_eq_left, Nat.left_eq_add, Nat.succ_ne_self, fieldA, partA, cellsOf, List.length_cons, List.length_nil, Nat.reduceAdd, Nat.zero_add, Nat.add_zero, Nat.mul_one, Nat.reduceMul, nbeq_self, onesA_cons', onesA_nil, oneA, Value.oneCell', Nat.reduceLT, ty3, ti3, ty22, ti22, ty25, ti25, ty26, ti26, e1, r1, hw', r2, bs2, r3, r4, r5, bs4, r6, oSlice, Int.reduceBEq, eqA, eqD, eqOp, nilCheckA, oBuild, oBuildSlice, evParts, consP]; refine ⟨_, _, rfl, ?_⟩)
  (refine wc_cond (by simp only [oUn_not, beq_self_eq_true, eq_self, pv_mul, List.toList_toArray, opsA_cons, opsA_nil, wantedA, guardA, yieldA, stepA_t, stepA_f, callA, calleeA, targetA, runOp_c, runOp_n, opA, ev, evs, evo, consO, consOO, withH, pickA, afterA_s, putA, T.get_put, Nat.reduceEqDiff, reduceIte, List.getElem?_toArray, List.getElem?_cons_zero, List.getElem?_cons_succ, oBuiltin, oBin, binA, binG, binL, aggO, litA, intA, ltF_eq, eqF_eq, oIndexAddr, cond_true, cond_false, Bool.not_true, Bool.not_false, decide_true, decide_false, blt_eq, tt_beq, tf_beq, ft_beq, ff_beq, Bool.and_true, Bool.true_and, Option.some.injEq, I, Bo, addI, subI, oExtract, Bool.not_eq_true', fieldAddrA, oFieldAddr, oLoad, oStore, isAggD, aggH, oneH, skipH, Nat.add_eq_left, Nat.left_eq_add, Nat.succ_ne_self, fieldA, partA, cellsOf, List.length_cons, List.length_nil, Nat.reduceAdd, Nat.zero_add, Nat.add_zero, Nat.mul_one, Nat.reduceMul, nbeq_self, onesA_cons', onesA_nil, oneA, Value.oneCell', Nat.reduceLT, ty3, ti3, ty22, ti22, ty25, ti25, ty26, ti26, e1, r1, hw', r2, bs2, r3, r4, r5, bs4, r6, oSlice, Int.reduceBEq, eqA, eqD, eqOp, nilCheckA, oBuild, oBuildSlice, evParts, consP]; rfl) ?_ ?_ <;> intro hb <;> first | (exfalso; exact Bool.noConfusion hb) | skip)
  refine wc_skip ?_
  refine known_b (newBlk h4 [I 1] 3 0) _ p nm4 M4 L f4 t4 B5 hll hc4 (hat 100 (by omega)) (hat 99 (by omega)) (hat 0 (by omega)) ?_
  simp only [oUn_not, beq_self_eq_true, eq_self, pv_mul, List.toList_toArray, opsA_cons, opsA_nil, wantedA, guardA, yieldA, stepA_t, stepA_f, callA, calleeA, targetA, runOp_c, runOp_n, opA, ev, evs, evo, consO, consOO, withH, pickA, afterA_s, putA, T.get_put, Nat.reduceEqDiff, reduceIte, List.getElem?_toArray, List.getElem?_cons_zero, List.getElem?_cons_succ, oBuiltin, oBin, binA, binG, binL, aggO, litA, intA, ltF_eq, eqF_eq, oIndexAddr, cond_true, cond_false, Bool.not_true, Bool.not_false, decide_true, decide_false, blt_eq, tt_beq, tf_beq, ft_beq, ff_beq, Bool.and_true, Bool.true_and, Option.some.injEq, I, Bo, addI, subI, oExtract, Bool.not_eq_true', fieldAddrA, oFieldAddr, oLoad, oStore, isAggD, aggH, oneH, skipH, Nat.add_eq_left, Nat.left_eq_add, Nat.succ_ne_self, fieldA, partA, cellsOf, List.length_cons, List.length_nil, Nat.reduceAdd, Nat.zero_add, Nat.add_zero, Nat.mul_one, Nat.reduceMul, nbeq_self, onesA_cons', onesA_nil, oneA, Value.oneCell', Nat.reduceLT, ty3, ti3, ty22, ti22, ty25, ti25, ty26, ti26, e1, r1, hw', r2, bs2, r3, r4, r5, bs4, r6, oSlice, Int.reduceBEq, eqA, eqD, eqOp, nilCheckA, oBuild, oBuildSlice, evParts, consP]
set_option maxHeartbeats 4000000 in
theorem known_law (h : Hp) : Wv (funA ctx all8 5000 [] h (ctx.funs.get 6)) (fun v _ => v = Bo true) := by
  obtain ⟨h1, hmk, x1, k1, b1⟩ := mkB (h := h) (n := 4097) (by omega)
  have hmk' : makeSliceA ctx h 22 (I 4097) (I 4097) = some (.slice h.c 0 4097 false 4097 0, h1) := hmk
  have hl : ∀ h', builtinA ctx h' .len [22] [.slice h.c 0 4097 false 4097 0] = some (I (Int.ofNat 4097), h') := fun h' => len22 h'
  refine wv_fun fn6 rfl ?_
  generalize enterEnv [] Try.f6.ntmps = e at ⊢
  unfold Try.f6
  dsimp only
  refine wc_seq ?_
  (refine wc_region rfl ?_; simp only [oUn_not, beq_self_eq_true, eq_self, pv_mul, List.toList_toArray, opsA_cons, opsA_nil, wantedA, guardA, yieldA, stepA_t, stepA_f, callA, calleeA, targetA, runOp_c, runOp_n, opA, ev, evs, evo, consO, consOO, withH, pickA, afterA_s, putA, T.get_put, Nat.reduceEqDiff, reduceIte, List.getElem?_toArray, List.getElem?_cons_zero, List.getElem?_cons_succ, oBuiltin, oBin, binA, binG, binL, aggO, litA, intA, ltF_eq, eqF_eq, oIndexAddr, cond_true, cond_false, Bool.not_true, Bool.not_false, decide_true, decide_false, blt_eq, tt_beq, tf_beq, ft_beq, ff_beq, Bool.and_true, Bool.true_and, Option.some.injEq, I, Bo, addI, subI, oExtract, Bool.not_eq_true', fieldAddrA, oFieldAddr, oLoad, oStore, isAggD, aggH, oneH, skipH, Nat.add_eq_left, Nat.left_eq_add, Nat.succ_ne_self, fieldA, partA, cellsOf, List.length_cons, List.length_nil, Nat.reduceAdd, Nat.zero_add, Nat.add_zero, Nat.mul_one, Nat.reduceMul, nbeq_self, onesA_cons', onesA_nil, oneA, Value.oneCell', Nat.reduceLT, ty3, ti3, ty22, ti22, ty25, ti25, ty26, ti26, hmk', oMakeSlice]; refine ⟨_, _, rfl, ?_⟩)
  refine wc_seq ?_
  (refine wc_region rfl ?_; simp only [oUn_not, beq_self_eq_true, eq_self, pv_mul, List.toList_toArray, opsA_cons, opsA_nil, wantedA, guardA, yieldA, stepA_t, stepA_f, callA, calleeA, targetA, runOp_c, runOp_n, opA, ev, evs, evo, consO, consOO, withH, pickA, afterA_s, putA, T.get_put, Nat.reduceEqDiff, reduceIte, List.getElem?_toArray, List.getElem?_cons_zero, List.getElem?_cons_succ, oBuiltin, oBin, binA, binG, binL, aggO, litA, intA, ltF_eq, eqF_eq, oIndexAddr, cond_true, cond_false, Bool.not_true, Bool.not_false, decide_true, decide_false, blt_eq, tt_beq, tf_beq, ft_beq, ff_beq, Bool.and_true, Bool.true_and, Option.some.injEq, I, Bo, addI, subI, oExtract, Bool.not_eq_true', fieldAddrA, oFieldAddr, oLoad, oStore, isAggD, aggH, oneH, skipH, Nat.add_eq_left, Nat.left_eq_add, Nat.succ_ne_self, fieldA, partA, cellsOf, List.length_cons, List.length_nil, Nat.reduceAdd, Nat.zero_add, Nat.add_zero, Nat.mul_one, Nat.reduceMul, nbeq_self, onesA_cons', onesA_nil, oneA, Value.oneCell', Nat.reduceLT, ty3, ti3, ty22, ti22, ty25, ti25, ty26, ti26, hmk', oMakeSlice]; refine ⟨_, _, rfl, ?_⟩)
  refine wc_seq ?_
  refine wc_seq ?_
  (refine wc_region rfl ?_; simp only [oUn_not, beq_self_eq_true, eq_self, pv_mul, List.toList_toArray, opsA_cons, opsA_nil, wantedA, guardA, yieldA, stepA_t, stepA_f, callA, calleeA, targetA, runOp_c, runOp_n, opA, ev, evs, evo, consO, consOO, withH, pickA, afterA_s, putA, T.get_put, Nat.reduceEqDiff, reduceIte, List.getElem?_toArray, List.getElem?_cons_zero, List.getElem?_cons_succ, oBuiltin, oBin, binA, binG, binL, aggO, litA, intA, ltF_eq, eqF_eq, oIndexAddr, cond_true, cond_false, Bool.not_true, Bool.not_false, decide_true, decide_false, blt_eq, tt_beq, tf_beq, ft_beq, ff_beq, Bool.and_true, Bool.true_and, Option.some.injEq, I, Bo, addI, subI, oExtract, Bool.not_eq_true', fieldAddrA, oFieldAddr, oLoad, oStore, isAggD, aggH, oneH, skipH, Nat.add_eq_left, Nat.left_eq_add, Nat.succ_ne_self, fieldA, partA, cellsOf, List.length_cons, List.length_nil, Nat.reduceAdd, Nat.zero_add, Nat.add_zero, Nat.mul_one, Nat.reduceMul, nbeq_self, onesA_cons', onesA_nil, oneA, Value.oneCell', Nat.reduceLT, ty3, ti3, ty22, ti22, ty25, ti25, ty26, ti26, hmk', oMakeSlice]; refine ⟨_, _, rfl, ?_⟩)
  refine wc_block ?_
  refine wc_loop (fun m e h' => ∃ k M, m = 4097 - k ∧ k ≤ 4097 ∧ e.get 1 = some (.slice h.c 0 4097 false 4097 0) ∧ e.get 2 = some (I (Int.ofNat k)) ∧ BI h' h.c M ∧ M.length = 4097 ∧ ∀ j, j < k → M[j]? = some (Int.ofNat j)) 4097 ?_ ⟨0, List.replicate 4097 0, ?_⟩ ?_
  · omega
  · refine ⟨rfl, Nat.zero_le _, ?_, ?_, b1, List.length_replicate, fun j hj => absurd hj (Nat.not_lt_zero _)⟩
    all_goals simp only [oUn_not, beq_self_eq_true, eq_self, pv_mul, List.toList_toArray, opsA_cons, opsA_nil, wantedA, guardA, yieldA, stepA_t, stepA_f, callA, calleeA, targetA, runOp_c, runOp_n, opA, ev, evs, evo, consO, consOO, withH, pickA, afterA_s, putA, T.get_put, Nat.reduceEqDiff, reduceIte, List.getElem?_toArray, List.getElem?_cons_zero, List.getElem?_cons_succ, oBuiltin, oBin, binA, binG, binL, aggO, litA, intA, ltF_eq, eqF_eq, oIndexAddr, cond_true, cond_false, Bool.not_true, Bool.not_false, decide_true, decide_false, blt_eq, tt_beq, tf_beq, ft_beq, ff_beq, Bool.and_true, Bool.true_and, Option.some.injEq, I, Bo, addI, subI, oExtract, Bool.not_eq_true', fieldAddrA, oFieldAddr, oLoad, oStore, isAggD, aggH, oneH, skipH, Nat.add_eq_left, Nat.left_eq_add, Nat.succ_ne_self, fieldA, partA, cellsOf, List.length_cons, List.length_nil, Nat.reduceAdd, Nat.zero_add, Nat.add_zero, Nat.mul_one, Nat.reduceMul, nbeq_self, onesA_cons', onesA_nil, oneA, Value.oneCell', Nat.reduceLT, ty3, ti3, ty22, ti22, ty25, ti25, ty26, ti26, hmk', oMakeSlice]; try rfl
  · rintro m e h' ⟨k, M, rfl, hk, e1, e2, B, hM, hv⟩
    by_cases hlt : k < 4097
    · have c0 : decide (Int.ofNat k < Int.ofNat 4097) = true := by simp only [Int.ofNat_eq_natCast, decide_eq_true_eq]; omega
      have hk1 := inc (k := k) (by omega)
      have ix := ia22 (nm := h.c) (off := 0) (n := 4097) (cap := 4097) (z := 0) (r := false) hlt
      rw [Nat.zero_add] at ix
      obtain ⟨h2, hst, o2, b2⟩ := store_blk onesI B (a := k) (xs := [Int.ofNat k]) (by rw [List.length_singleton]; omega)
      have hst' : Abs.store h' h.c k [I (Int.ofNat k)] = some h2 := hst
      have hv2 : ∀ j, j < k + 1 → (patch M k [Int.ofNat k])[j]? = some (Int.ofNat j) := fun j hj => by
        rw [patch_at (by rw [List.length_singleton]; omega), List.length_singleton]
        by_cases hjk : j = k
        · subst hjk
          rw [if_pos (by omega), Nat.sub_self]
          rfl
        · rw [if_neg (by omega)]
          exact hv j (by omega)
      have hM2 : (patch M k [Int.ofNat k]).length = 4097 := by rw [patch_len (by rw [List.length_singleton]; omega), hM]
      repeat' (first
        | refine wc_seq ?_
        | (refine wc_region rfl ?_; simp only [oUn_not, beq_self_eq_true, eq_self, pv_mul, List.toList_toArray, opsA_cons, opsA_nil, wantedA, guardA, yieldA, stepA_t, stepA_f, callA, calleeA, targetA, runOp_c, runOp_n, opA, ev, evs, evo, consO, consOO, withH, pickA, afterA_s, putA, T.get_put, Nat.reduceEqDiff, reduceIte, List.getElem?_toArray, List.getElem?_cons_zero, List.getElem?_cons_succ, oBuiltin, oBin, binA, binG, binL, aggO, litA, intA, ltF_eq, eqF_eq, oIndexAddr, cond_true, cond_false, Bool.not_true, Bool.not_false, decide_true, decide_false, blt_eq, tt_beq, tf_beq, ft_beq, ff_beq, Bool.and_true, Bool.true_and, Option.some.injEq, I, Bo, addI, subI, oExtract, Bool.not_eq_true', fieldAddrA, oFieldAddr, oLoad, oStore, isAggD, aggH, oneH, skipH, Nat.add_eq_left, Nat.left_eq_add, Nat.succ_ne_self, fieldA, partA, cellsOf, List.length_cons, List.length_nil, Nat.reduceAdd, Nat.zero_add, Nat.add_zero, Nat.mul_one, Nat.reduceMul, nbeq_self, onesA_cons', onesA_nil, oneA, Value.oneCell', Nat.reduceLT, ty3, ti3, ty22, ti22, ty25, ti25, ty26, ti26, e1, e2, c0, hk1, hl, ix, hst']; refine ⟨_, _, rfl, ?_⟩)
        | (refine wc_cond (by simp only [oUn_not, beq_self_eq_true, eq_self, pv_mul, List.toList_toArray, opsA_cons, opsA_nil, wantedA, guardA, yieldA, stepA_t, stepA_f, callA, calleeA, targetA, runOp_c, runOp_n, opA, ev, evs, evo, consO, consOO, withH, pickA, afterA_s, putA, T.get_put, Nat.reduceEqDiff, reduceIte, List.getElem?_toArray, List.getElem?_cons_zero, List.getElem?_cons_succ, oBuiltin, oBin, binA, binG, binL, aggO, litA, intA, ltF_eq, eqF_eq, oIndexAddr, cond_true, cond_false, Bool.not_true, Bool.not_false, decide_true, decide_false, blt_eq, tt_beq, tf_beq, ft_beq, ff_beq, Bool.and_true, Bool.true_and, Option.some.injEq, I, Bo, addI, subI, oExtract, Bool.not_eq_true', fieldAddrA, oFieldAddr, oLoad, oStore, isAggD, aggH, oneH, skipH, Nat.add_eq_left, Nat.left_eq_add, Nat.succ_ne_self, fieldA, partA, cellsOf, List.length_cons, List.length_nil, Nat.reduceAdd, Nat.zero_add, Nat.add_zero, Nat.mul_one, Nat.reduceMul, nbeq_self, onesA_cons', onesA_nil, oneA, Value.oneCell', Nat.reduceLT, ty3, ti3, ty22, ti22, ty25, ti25, ty26, ti26, e1, e2, c0, hk1, hl, ix, hst']; rfl) ?_ ?_ <;> intro hb <;> first | (exfalso; exact Bool.noConfusion hb) | skip)
        | refine wc_block ?_
        | refine wc_skip ?_
        | refine wc_scope (by decide) ?_
        | refine wc_label ?_
        | refine wc_exit ?_
        | refine wc_ret ?_
        | refine wv_ret (by simp only [resA, resOne]; simp only [oUn_not, beq_self_eq_true, eq_self, pv_mul, List.toList_toArray, opsA_cons, opsA_nil, wantedA, guardA, yieldA, stepA_t, stepA_f, callA, calleeA, targetA, runOp_c, runOp_n, opA, ev, evs, evo, consO, consOO, withH, pickA, afterA_s, putA, T.get_put, Nat.reduceEqDiff, reduceIte, List.getElem?_toArray, List.getElem?_cons_zero, List.getElem?_cons_succ, oBuiltin, oBin, binA, binG, binL, aggO, litA, intA, ltF_eq, eqF_eq, oIndexAddr, cond_true, cond_false, Bool.not_true, Bool.not_false, decide_true, decide_false, blt_eq, tt_beq, tf_beq, ft_beq, ff_beq, Bool.and_true, Bool.true_and, Option.some.injEq, I, Bo, addI, subI, oExtract, Bool.not_eq_true', fieldAddrA, oFieldAddr, oLoad, oStore, isAggD, aggH, oneH, skipH, Nat.add_eq_left, Nat.left_eq_add, Nat.succ_ne_self, fieldA, partA, cellsOf, List.length_cons, List.length_nil, Nat.reduceAdd, Nat.zero_add, Nat.add_zero, Nat.mul_one, Nat.reduceMul, nbeq_self, onesA_cons', onesA_nil, oneA, Value.oneCell', Nat.reduceLT, ty3, ti3, ty22, ti22, ty25, ti25, ty26, ti26, e1, e2, c0, hk1, hl, ix, hst']; rfl) ?_)
      refine nx_next (4097 - (k + 1)) (by omega) ⟨k + 1, patch M k [Int.ofNat k], rfl, hlt, ?_, ?_, b2, hM2, hv2⟩ <;> simp only [oUn_not, beq_self_eq_true, eq_self, pv_mul, List.toList_toArray, opsA_cons, opsA_nil, wantedA, guardA, yieldA, stepA_t, stepA_f, callA, calleeA, targetA, runOp_c, runOp_n, opA, ev, evs, evo, consO, consOO, withH, pickA, afterA_s, putA, T.get_put, Nat.reduceEqDiff, reduceIte, List.getElem?_toArray, List.getElem?_cons_zero, List.getElem?_cons_succ, oBuiltin, oBin, binA, binG, binL, aggO, litA, intA, ltF_eq, eqF_eq, oIndexAddr, cond_true, cond_false, Bool.not_true, Bool.not_false, decide_true, decide_false, blt_eq, tt_beq, tf_beq, ft_beq, ff_beq, Bool.and_true, Bool.true_and, Option.some.injEq, I, Bo, addI, subI, oExtract, Bool.not_eq_true', fieldAddrA, oFieldAddr, oLoad, oStore, isAggD, aggH, oneH, skipH, Nat.add_eq_left, Nat.left_eq_add, Nat.succ_ne_self, fieldA, partA, cellsOf, List.length_cons, List.length_nil, Nat.reduceAdd, Nat.zero_add, Nat.add_zero, Nat.mul_one, Nat.reduceMul, nbeq_self, onesA_cons', onesA_nil, oneA, Value.oneCell', Nat.reduceLT, ty3, ti3, ty22, ti22, ty25, ti25, ty26, ti26, e1, e2, c0, hk1, hl, ix, hst']
    · have c0 : decide (Int.ofNat k < Int.ofNat 4097) = false := by simp only [Int.ofNat_eq_natCast, decide_eq_false_iff_not]; omega
      obtain rfl : k = 4097 := by omega
      refine wc_seq ?_
      refine wc_seq ?_
      refine wc_region rfl ?_
      simp only [oUn_not, beq_self_eq_true, eq_self, pv_mul, List.toList_toArray, opsA_cons, opsA_nil, wantedA, guardA, yieldA, stepA_t, stepA_f, callA, calleeA, targetA, runOp_c, runOp_n, opA, ev, evs, evo, consO, consOO, withH, pickA, afterA_s, putA, T.get_put, Nat.reduceEqDiff, reduceIte, List.getElem?_toArray, List.getElem?_cons_zero, List.getElem?_cons_succ, oBuiltin, oBin, binA, binG, binL, aggO, litA, intA, ltF_eq, eqF_eq, oIndexAddr, cond_true, cond_false, Bool.not_true, Bool.not_false, decide_true, decide_false, blt_eq, tt_beq, tf_beq, ft_beq, ff_beq, Bool.and_true, Bool.true_and, Option.some.injEq, I, Bo, addI, subI, oExtract, Bool.not_eq_true', fieldAddrA, oFieldAddr, oLoad, oStore, isAggD, aggH, oneH, skipH, Nat.add_eq_left, Nat.left_eq_add, Nat.succ_ne_self, fieldA, partA, cellsOf, List.length_cons, List.length_nil, Nat.reduceAdd, Nat.zero_add, Nat.add_zero, Nat.mul_one, Nat.reduceMul, nbeq_self, onesA_cons', onesA_nil, oneA, Value.oneCell', Nat.reduceLT, ty3, ti3, ty22, ti22, ty25, ti25, ty26, ti26, e1, e2, c0, hl]
      refine ⟨_, _, rfl, ?_⟩
      refine wc_cond (by simp only [oUn_not, beq_self_eq_true, eq_self, pv_mul, List.toList_toArray, opsA_cons, opsA_nil, wantedA, guardA, yieldA, stepA_t, stepA_f, callA, calleeA, targetA, runOp_c, runOp_n, opA, ev, evs, evo, consO, consOO, withH, pickA, afterA_s, putA, T.get_put, Nat.reduceEqDiff, reduceIte, List.getElem?_toArray, List.getElem?_cons_zero, List.getElem?_cons_succ, oBuiltin, oBin, binA, binG, binL, aggO, litA, intA, ltF_eq, eqF_eq, oIndexAddr, cond_true, cond_false, Bool.not_true, Bool.not_false, decide_true, decide_false, blt_eq, tt_beq, tf_beq, ft_beq, ff_beq, Bool.and_true, Bool.true_and, Option.some.injEq, I, Bo, addI, subI, oExtract, Bool.not_eq_true', fieldAddrA, oFieldAddr, oLoad, oStore, isAggD, aggH, oneH, skipH, Nat.add_eq_left, Nat.left_eq_add, Nat.succ_ne_self, fieldA, partA, cellsOf, List.length_cons, List.length_nil, Nat.reduceAdd, Nat.zero_add, Nat.add_zero, Nat.mul_one, Nat.reduceMul, nbeq_self, onesA_cons', onesA_nil, oneA, Value.oneCell', Nat.reduceLT, ty3, ti3, ty22, ti22, ty25, ti25, ty26, ti26, e1, e2, c0, hl]; rfl) ?_ ?_ <;> intro hb <;> first | (exfalso; exact Bool.noConfusion hb) | skip
      refine wc_exit ?_
      refine known_a h' _ h.c M B hM hv ?_
      simp only [oUn_not, beq_self_eq_true, eq_self, pv_mul, List.toList_toArray, opsA_cons, opsA_nil, wantedA, guardA, yieldA, stepA_t, stepA_f, callA, calleeA, targetA, runOp_c, runOp_n, opA, ev, evs, evo, consO, consOO, withH, pickA, afterA_s, putA, T.get_put, Nat.reduceEqDiff, reduceIte, List.getElem?_toArray, List.getElem?_cons_zero, List.getElem?_cons_succ, oBuiltin, oBin, binA, binG, binL, aggO, litA, intA, ltF_eq, eqF_eq, oIndexAddr, cond_true, cond_false, Bool.not_true, Bool.not_false, decide_true, decide_false, blt_eq, tt_beq, tf_beq, ft_beq, ff_beq, Bool.and_true, Bool.true_and, Option.some.injEq, I, Bo, addI, subI, oExtract, Bool.not_eq_true', fieldAddrA, oFieldAddr, oLoad, oStore, isAggD, aggH, oneH, skipH, Nat.add_eq_left, Nat.left_eq_add, Nat.succ_ne_self, fieldA, partA, cellsOf, List.length_cons, List.length_nil, Nat.reduceAdd, Nat.zero_add, Nat.add_zero, Nat.mul_one, Nat.reduceMul, nbeq_self, onesA_cons', onesA_nil, oneA, Value.oneCell', Nat.reduceLT, ty3, ti3, ty22, ti22, ty25, ti25, ty26, ti26, e1]
end Go.Proofs.Ytjfmimlmnllnjaa
