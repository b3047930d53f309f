import Derived.Test.YtjfmimlmnllnjaaZ6
import Derived.KernelRfl
namespace Go.Proofs.Ytjfmimlmnllnjaa
open Go Go.Proofs Go.RowKit
set_option linter.unusedSimpArgs false
set_option linter.unusedVariables false
open Go.Proofs.Abs
set_option maxHeartbeats 4000000 in
theorem own_law (h : Hp) (v : AV) (xs : List Int) (u : AV) (ys : List Int) (hv : IsL h v (xs.map I)) (hbv : ∀ x ∈ xs, In x) (hu : IsL h u (ys.map I)) (hbu : ∀ x ∈ ys, In x) : Wv (funA ctx all8 5000 [v, u] h (ctx.funs.get 4)) (fun v _ => v = Bo true) := by
  have hl1 := lenL hv
  have hl2 := lenL hu
  by_cases h1 : 40 < xs.length
  · have z1 : decide (40 < Int.ofNat xs.length) = true := by simp only [Int.ofNat_eq_natCast, decide_eq_true_eq]; omega
    have v7 := q7 h
    refine wv_fun fn4 rfl ?_
    have a0 : (enterEnv [v, u] Try.f4.ntmps).get 0 = some (v) := enter_get1 _ _ _
    have a1 : (enterEnv [v, u] Try.f4.ntmps).get 1 = some (u) := enter_get2 _ _ _ _
    generalize enterEnv [v, u] Try.f4.ntmps = e at a0 a1 ⊢
    unfold Try.f4
    dsimp only
    repeat' (first
      | refine wc_seq ?_
      | (refine wc_region rfl ?_; simp only [oUn_not, beq_self_eq_true, eq_self, pv_mul, List.toList_toArray, opsA_cons, opsA_nil, wantedA, guardA, yieldA, stepA_t, stepA_f, callA, calleeA, targetA, runOp_c, runOp_n, opA, ev, evs, evo, consO, consOO, withH, pickA, afterA_s, putA, T.get_put, Nat.reduceEqDiff, reduceIte, List.getElem?_toArray, List.getElem?_cons_zero, List.getElem?_cons_succ, oBuiltin, oBin, binA, binG, binL, aggO, litA, intA, ltF_eq, eqF_eq, oIndexAddr, cond_true, cond_false, Bool.not_true, Bool.not_false, decide_true, decide_false, blt_eq, tt_beq, tf_beq, ft_beq, ff_beq, Bool.and_true, Bool.true_and, Option.some.injEq, I, Bo, addI, subI, oExtract, Bool.not_eq_true', fieldAddrA, oFieldAddr, oStore, isAggD, aggH, oneH, skipH, Nat.add_eq_left, Nat.left_eq_add, Nat.succ_ne_self, fieldA, partA, cellsOf, List.length_cons, List.length_nil, Nat.reduceAdd, Nat.zero_add, Nat.add_zero, Nat.mul_one, Nat.reduceMul, nbeq_self, onesA_cons', onesA_nil, oneA, Value.oneCell', Nat.reduceLT, ty3, ti3, ty22, ti22, ty25, ti25, ty26, ti26, a0, a1, hl1, hl2, z1, v7, uv]; refine ⟨_, _, rfl, ?_⟩)
      | (refine wc_cond (by simp only [oUn_not, beq_self_eq_true, eq_self, pv_mul, List.toList_toArray, opsA_cons, opsA_nil, wantedA, guardA, yieldA, stepA_t, stepA_f, callA, calleeA, targetA, runOp_c, runOp_n, opA, ev, evs, evo, consO, consOO, withH, pickA, afterA_s, putA, T.get_put, Nat.reduceEqDiff, reduceIte, List.getElem?_toArray, List.getElem?_cons_zero, List.getElem?_cons_succ, oBuiltin, oBin, binA, binG, binL, aggO, litA, intA, ltF_eq, eqF_eq, oIndexAddr, cond_true, cond_false, Bool.not_true, Bool.not_false, decide_true, decide_false, blt_eq, tt_beq, tf_beq, ft_beq, ff_beq, Bool.and_true, Bool.true_and, Option.some.injEq, I, Bo, addI, subI, oExtract, Bool.not_eq_true', fieldAddrA, oFieldAddr, oStore, isAggD, aggH, oneH, skipH, Nat.add_eq_left, Nat.left_eq_add, Nat.succ_ne_self, fieldA, partA, cellsOf, List.length_cons, List.length_nil, Nat.reduceAdd, Nat.zero_add, Nat.add_zero, Nat.mul_one, Nat.reduceMul, nbeq_self, onesA_cons', onesA_nil, oneA, Value.oneCell', Nat.reduceLT, ty3, ti3, ty22, ti22, ty25, ti25, ty26, ti26, a0, a1, hl1, hl2, z1, v7, uv]; rfl) ?_ ?_ <;> intro hb <;> first | (exfalso; exact Bool.noConfusion hb) | skip)
      | refine wc_block ?_
      | refine wc_skip ?_
      | refine wc_scope (by decide) ?_
      | refine wc_label ?_
      | refine wc_exit ?_
      | refine wc_ret ?_
      | refine wv_ret (by simp only [resA, resOne]; simp only [oUn_not, beq_self_eq_true, eq_self, pv_mul, List.toList_toArray, opsA_cons, opsA_nil, wantedA, guardA, yieldA, stepA_t, stepA_f, callA, calleeA, targetA, runOp_c, runOp_n, opA, ev, evs, evo, consO, consOO, withH, pickA, afterA_s, putA, T.get_put, Nat.reduceEqDiff, reduceIte, List.getElem?_toArray, List.getElem?_cons_zero, List.getElem?_cons_succ, oBuiltin, oBin, binA, binG, binL, aggO, litA, intA, ltF_eq, eqF_eq, oIndexAddr, cond_true, cond_false, Bool.not_true, Bool.not_false, decide_true, decide_false, blt_eq, tt_beq, tf_beq, ft_beq, ff_beq, Bool.and_true, Bool.true_and, Option.some.injEq, I, Bo, addI, subI, oExtract, Bool.not_eq_true', fieldAddrA, oFieldAddr, oStore, isAggD, aggH, oneH, skipH, Nat.add_eq_left, Nat.left_eq_add, Nat.succ_ne_self, fieldA, partA, cellsOf, List.length_cons, List.length_nil, Nat.reduceAdd, Nat.zero_add, Nat.add_zero, Nat.mul_one, Nat.reduceMul, nbeq_self, onesA_cons', onesA_nil, oneA, Value.oneCell', Nat.reduceLT, ty3, ti3, ty22, ti22, ty25, ti25, ty26, ti26, a0, a1, hl1, hl2, z1, v7, uv]; rfl) ?_)
    all_goals exact rfl
  have z1 : decide (40 < Int.ofNat xs.length) = false := by simp only [Int.ofNat_eq_natCast, decide_eq_false_iff_not]; omega
  by_cases h2 : 20 < ys.length
  · have z2 : decide (20 < Int.ofNat ys.length) = true := by simp only [Int.ofNat_eq_natCast, decide_eq_true_eq]; omega
    have v7 := q7 h
    refine wv_fun fn4 rfl ?_
    have a0 : (enterEnv [v, u] Try.f4.ntmps).get 0 = some (v) := enter_get1 _ _ _
    have a1 : (enterEnv [v, u] Try.f4.ntmps).get 1 = some (u) := enter_get2 _ _ _ _
    generalize enterEnv [v, u] Try.f4.ntmps = e at a0 a1 ⊢
    unfold Try.f4
    dsimp only
    repeat' (first
      | refine wc_seq ?_
      | (refine wc_region rfl ?_; simp only [oUn_not, beq_self_eq_true, eq_self, pv_mul, List.toList_toArray, opsA_cons, opsA_nil, wantedA, guardA, yieldA, stepA_t, stepA_f, callA, calleeA, targetA, runOp_c, runOp_n, opA, ev, evs, evo, consO, consOO, withH, pickA, afterA_s, putA, T.get_put, Nat.reduceEqDiff, reduceIte, List.getElem?_toArray, List.getElem?_cons_zero, List.getElem?_cons_succ, oBuiltin, oBin, binA, binG, binL, aggO, litA, intA, ltF_eq, eqF_eq, oIndexAddr, cond_true, cond_false, Bool.not_true, Bool.not_false, decide_true, decide_false, blt_eq, tt_beq, tf_beq, ft_beq, ff_beq, Bool.and_true, Bool.true_and, Option.some.injEq, I, Bo, addI, subI, oExtract, Bool.not_eq_true', fieldAddrA, oFieldAddr, oStore, isAggD, aggH, oneH, skipH, Nat.add_eq_left, Nat.left_eq_add, Nat.succ_ne_self, fieldA, partA, cellsOf, List.length_cons, List.length_nil, Nat.reduceAdd, Nat.zero_add, Nat.add_zero, Nat.mul_one, Nat.reduceMul, nbeq_self, onesA_cons', onesA_nil, oneA, Value.oneCell', Nat.reduceLT, ty3, ti3, ty22, ti22, ty25, ti25, ty26, ti26, a0, a1, hl1, hl2, z1, z2, v7, uv]; refine ⟨_, _, rfl, ?_⟩)
      | (refine wc_cond (by simp only [oUn_not, beq_self_eq_true, eq_self, pv_mul, List.toList_toArray, opsA_cons, opsA_nil, wantedA, guardA, yieldA, stepA_t, stepA_f, callA, calleeA, targetA, runOp_c, runOp_n, opA, ev, evs, evo, consO, consOO, withH, pickA, afterA_s, putA, T.get_put, Nat.reduceEqDiff, reduceIte, List.getElem?_toArray, List.getElem?_cons_zero, List.getElem?_cons_succ, oBuiltin, oBin, binA, binG, binL, aggO, litA, intA, ltF_eq, eqF_eq, oIndexAddr, cond_true, cond_false, Bool.not_true, Bool.not_false, decide_true, decide_false, blt_eq, tt_beq, tf_beq, ft_beq, ff_beq, Bool.and_true, Bool.true_and, Option.some.injEq, I, Bo, addI, subI, oExtract, Bool.not_eq_true', fieldAddrA, oFieldAddr, oStore, isAggD, aggH, oneH, skipH, Nat.add_eq_left, Nat.left_eq_add, Nat.succ_ne_self, fieldA, partA, cellsOf, List.length_cons, List.length_nil, Nat.reduceAdd, Nat.zero_add, Nat.add_zero, Nat.mul_one, Nat.reduceMul, nbeq_self, onesA_cons', onesA_nil, oneA, Value.oneCell', Nat.reduceLT, ty3, ti3, ty22, ti22, ty25, ti25, ty26, ti26, a0, a1, hl1, hl2, z1, z2, v7, uv]; rfl) ?_ ?_ <;> intro hb <;> first | (exfalso; exact Bool.noConfusion hb) | skip)
      | refine wc_block ?_
      | refine wc_skip ?_
      | refine wc_scope (by decide) ?_
      | refine wc_label ?_
      | refine wc_exit ?_
      | refine wc_ret ?_
      | refine wv_ret (by simp only [resA, resOne]; simp only [oUn_not, beq_self_eq_true, eq_self, pv_mul, List.toList_toArray, opsA_cons, opsA_nil, wantedA, guardA, yieldA, stepA_t, stepA_f, callA, calleeA, targetA, runOp_c, runOp_n, opA, ev, evs, evo, consO, consOO, withH, pickA, afterA_s, putA, T.get_put, Nat.reduceEqDiff, reduceIte, List.getElem?_toArray, List.getElem?_cons_zero, List.getElem?_cons_succ, oBuiltin, oBin, binA, binG, binL, aggO, litA, intA, ltF_eq, eqF_eq, oIndexAddr, cond_true, cond_false, Bool.not_true, Bool.not_false, decide_true, decide_false, blt_eq, tt_beq, tf_beq, ft_beq, ff_beq, Bool.and_true, Bool.true_and, Option.some.injEq, I, Bo, addI, subI, oExtract, Bool.not_eq_true', fieldAddrA, oFieldAddr, oStore, isAggD, aggH, oneH, skipH, Nat.add_eq_left, Nat.left_eq_add, Nat.succ_ne_self, fieldA, partA, cellsOf, List.length_cons, List.length_nil, Nat.reduceAdd, Nat.zero_add, Nat.add_zero, Nat.mul_one, Nat.reduceMul, nbeq_self, onesA_cons', onesA_nil, oneA, Value.oneCell', Nat.reduceLT, ty3, ti3, ty22, ti22, ty25, ti25, ty26, ti26, a0, a1, hl1, hl2, z1, z2, v7, uv]; rfl) ?_)
    all_goals exact rfl
  have z2 : decide (20 < Int.ofNat ys.length) = false := by simp only [Int.ofNat_eq_natCast, decide_eq_false_iff_not]; omega
  have b0 := bs0 h
  obtain ⟨x, g1, hap1, gx, x1, nx⟩ := app0L hv (by omega)
  have b1 := bs0 g1
  obtain ⟨y, g2, hap2, gy, x2, ny⟩ := app0L (hu.ext x1) (by omega)
  have ix := gr_isL (Gr.ext gx x2)
  obtain ⟨_, g3, e8, p, nm, rfl, B3, x3, hp3, hn3⟩ := c8 7 g2 x xs ix (by omega)
  rw [← a8 (f := 8) rfl] at e8
  have hc3 : con xs xs.length xs.length = xs := by rw [con, List.take_append_drop]
  have l3 := B3.len
  have e11 : all8 11 [.ptr p 0] g3 = some (I (Int.ofNat xs.length), g3) := by
    rw [a8 rfl]; have := c11 7 g3 p nm xs _ _ B3; rwa [hc3] at this
  have iy := gr_isL (Gr.ext gy x3)
  have kx : ∀ n, nmO x = some n → n < g1.c := fun n hn => Gr.lt gx hn
  have ky : ∀ n, nmO y = some n → n < g2.c := fun n hn => Gr.lt gy hn
  have kc2 := x2.c
  obtain ⟨_, g4, e9, rfl, nm4, M4, f4, t4, B4, hc4, hn4, fr4⟩ := c9 5 g3 p nm xs xs.length xs.length B3 xs.length y ys iy (fun n hn => by have := ky n hn; omega) (by rw [hc3]; omega) (by rw [hc3]; omega)
  rw [← a8 (f := 9) rfl] at e9
  rw [hc3, List.take_of_length_le (Nat.le_refl _), List.drop_of_length_le (Nat.le_refl _), List.append_nil] at hc4
  have kc3 := x3.c
  have hn4' : g2.c ≤ nm4 := by rcases hn4 with h5 | h5 <;> omega
  have x4 : Ext g2 g4 := Fr.from x3 fr4 (fun n e => by rcases e with e | e <;> omega)
  have hlen : (xs ++ ys).length = xs.length + ys.length := List.length_append
  have e11b : all8 11 [.ptr p 0] g4 = some (I (Int.ofNat (xs.length + ys.length)), g4) := by
    rw [a8 rfl]; have := c11 7 g4 p nm4 M4 _ _ B4; rwa [hc4, hlen] at this
  have w1 : IntKind.wrap .i64 (Int.ofNat xs.length + Int.ofNat ys.length) = Int.ofNat (xs.length + ys.length) := by rw [IntKind.wrap_i64]; simp only [Int.ofNat_eq_natCast]; omega
  obtain ⟨gt, g5, e13, x5, hg5⟩ := c13 6 g4 p nm4 M4 f4 t4 B4 (by rw [hc4, hlen]; omega)
  rw [← a8 (f := 13) rfl] at e13
  rw [hc4] at hg5
  have hgm : Mut g5 gt (xs.length + ys.length) ∧ ∀ n, nmO gt = some n → g4.c ≤ n := by
    rcases hg5 with ⟨h5, rfl⟩ | ⟨ng, rfl, h6, bi⟩
    · exact ⟨.inl ⟨rfl, by rw [← hlen, h5]; rfl⟩, fun n hn => by cases hn⟩
    · refine ⟨.inr ⟨ng, false, _, by rw [hlen], bi.lt, fun k hk => ⟨_, bi.cell (k := k) (List.getElem?_eq_getElem (by omega))⟩⟩, fun n hn => by cases hn; exact h6⟩
  have x05 : Ext h g5 := ((x1.trans x2).trans x4).trans x5
  have B5 := B4.ext x5
  have mx := (Mut.of_gr gx).fr ((x2.trans (x4.trans x5)).fr (fun _ => False)) (fun _ _ => id)
  have my := (Mut.of_gr gy).fr ((x4.trans x5).fr (fun _ => False)) (fun _ _ => id)
  have kc4 := B4.lt
  have kn4 := B4.blk.lt
  refine wv_fun fn4 rfl ?_
  have a0 : (enterEnv [v, u] Try.f4.ntmps).get 0 = some (v) := enter_get1 _ _ _
  have a1 : (enterEnv [v, u] Try.f4.ntmps).get 1 = some (u) := enter_get2 _ _ _ _
  generalize enterEnv [v, u] Try.f4.ntmps = e at a0 a1 ⊢
  unfold Try.f4
  dsimp only
  refine wc_seq ?_
  (refine wc_region rfl ?_; simp only [oUn_not, beq_self_eq_true, eq_self, pv_mul, List.toList_toArray, opsA_cons, opsA_nil, wantedA, guardA, yieldA, stepA_t, stepA_f, callA, calleeA, targetA, runOp_c, runOp_n, opA, ev, evs, evo, consO, consOO, withH, pickA, afterA_s, putA, T.get_put, Nat.reduceEqDiff, reduceIte, List.getElem?_toArray, List.getElem?_cons_zero, List.getElem?_cons_succ, oBuiltin, oBin, binA, binG, binL, aggO, litA, intA, ltF_eq, eqF_eq, oIndexAddr, cond_true, cond_false, Bool.not_true, Bool.not_false, decide_true, decide_false, blt_eq, tt_beq, tf_beq, ft_beq, ff_beq, Bool.and_true, Bool.true_and, Option.some.injEq, I, Bo, addI, subI, oExtract, Bool.not_eq_true', fieldAddrA, oFieldAddr, oStore, isAggD, aggH, oneH, skipH, Nat.add_eq_left, Nat.left_eq_add, Nat.succ_ne_self, fieldA, partA, cellsOf, List.length_cons, List.length_nil, Nat.reduceAdd, Nat.zero_add, Nat.add_zero, Nat.mul_one, Nat.reduceMul, nbeq_self, onesA_cons', onesA_nil, oneA, Value.oneCell', Nat.reduceLT, ty3, ti3, ty22, ti22, ty25, ti25, ty26, ti26, a0, a1, hl1, hl2, z1, z2, uv, b0, hap1, b1, hap2, e8, e11, e9, e11b, w1, e13, Int.reduceBEq, eqA, eqD, eqOp, nilCheckA, oBuild, oBuildSlice, evParts, consP]; refine ⟨_, _, rfl, ?_⟩)
  refine wc_seq ?_
  refine wc_seq ?_
  (refine wc_region rfl ?_; simp only [oUn_not, beq_self_eq_true, eq_self, pv_mul, List.toList_toArray, opsA_cons, opsA_nil, wantedA, guardA, yieldA, stepA_t, stepA_f, callA, calleeA, targetA, runOp_c, runOp_n, opA, ev, evs, evo, consO, consOO, withH, pickA, afterA_s, putA, T.get_put, Nat.reduceEqDiff, reduceIte, List.getElem?_toArray, List.getElem?_cons_zero, List.getElem?_cons_succ, oBuiltin, oBin, binA, binG, binL, aggO, litA, intA, ltF_eq, eqF_eq, oIndexAddr, cond_true, cond_false, Bool.not_true, Bool.not_false, decide_true, decide_false, blt_eq, tt_beq, tf_beq, ft_beq, ff_beq, Bool.and_true, Bool.true_and, Option.some.injEq, I, Bo, addI, subI, oExtract, Bool.not_eq_true', fieldAddrA, oFieldAddr, oStore, isAggD, aggH, oneH, skipH, Nat.add_eq_left, Nat.left_eq_add, Nat.succ_ne_self, fieldA, partA, cellsOf, List.length_cons, List.length_nil, Nat.reduceAdd, Nat.zero_add, Nat.add_zero, Nat.mul_one, Nat.reduceMul, nbeq_self, onesA_cons', onesA_nil, oneA, Value.oneCell', Nat.reduceLT, ty3, ti3, ty22, ti22, ty25, ti25, ty26, ti26, a0, a1, hl1, hl2, z1, z2, uv, b0, hap1, b1, hap2, e8, e11, e9, e11b, w1, e13, Int.reduceBEq, eqA, eqD, eqOp, nilCheckA, oBuild, oBuildSlice, evParts, consP]; refine ⟨_, _, rfl, ?_⟩)
  (refine wc_cond (by simp only [oUn_not, beq_self_eq_true, eq_self, pv_mul, List.toList_toArray, opsA_cons, opsA_nil, wantedA, guardA, yieldA, stepA_t, stepA_f, callA, calleeA, targetA, runOp_c, runOp_n, opA, ev, evs, evo, consO, consOO, withH, pickA, afterA_s, putA, T.get_put, Nat.reduceEqDiff, reduceIte, List.getElem?_toArray, List.getElem?_cons_zero, List.getElem?_cons_succ, oBuiltin, oBin, binA, binG, binL, aggO, litA, intA, ltF_eq, eqF_eq, oIndexAddr, cond_true, cond_false, Bool.not_true, Bool.not_false, decide_true, decide_false, blt_eq, tt_beq, tf_beq, ft_beq, ff_beq, Bool.and_true, Bool.true_and, Option.some.injEq, I, Bo, addI, subI, oExtract, Bool.not_eq_true', fieldAddrA, oFieldAddr, oStore, isAggD, aggH, oneH, skipH, Nat.add_eq_left, Nat.left_eq_add, Nat.succ_ne_self, fieldA, partA, cellsOf, List.length_cons, List.length_nil, Nat.reduceAdd, Nat.zero_add, Nat.add_zero, Nat.mul_one, Nat.reduceMul, nbeq_self, onesA_cons', onesA_nil, oneA, Value.oneCell', Nat.reduceLT, ty3, ti3, ty22, ti22, ty25, ti25, ty26, ti26, a0, a1, hl1, hl2, z1, z2, uv, b0, hap1, b1, hap2, e8, e11, e9, e11b, w1, e13, Int.reduceBEq, eqA, eqD, eqOp, nilCheckA, oBuild, oBuildSlice, evParts, consP]; rfl) ?_ ?_ <;> intro hb <;> first | (exfalso; exact Bool.noConfusion hb) | skip)
  refine wc_skip ?_
  refine wc_seq ?_
  (refine wc_region rfl ?_; simp only [oUn_not, beq_self_eq_true, eq_self, pv_mul, List.toList_toArray, opsA_cons, opsA_nil, wantedA, guardA, yieldA, stepA_t, stepA_f, callA, calleeA, targetA, runOp_c, runOp_n, opA, ev, evs, evo, consO, consOO, withH, pickA, afterA_s, putA, T.get_put, Nat.reduceEqDiff, reduceIte, List.getElem?_toArray, List.getElem?_cons_zero, List.getElem?_cons_succ, oBuiltin, oBin, binA, binG, binL, aggO, litA, intA, ltF_eq, eqF_eq, oIndexAddr, cond_true, cond_false, Bool.not_true, Bool.not_false, decide_true, decide_false, blt_eq, tt_beq, tf_beq, ft_beq, ff_beq, Bool.and_true, Bool.true_and, Option.some.injEq, I, Bo, addI, subI, oExtract, Bool.not_eq_true', fieldAddrA, oFieldAddr, oStore, isAggD, aggH, oneH, skipH, Nat.add_eq_left, Nat.left_eq_add, Nat.succ_ne_self, fieldA, partA, cellsOf, List.length_cons, List.length_nil, Nat.reduceAdd, Nat.zero_add, Nat.add_zero, Nat.mul_one, Nat.reduceMul, nbeq_self, onesA_cons', onesA_nil, oneA, Value.oneCell', Nat.reduceLT, ty3, ti3, ty22, ti22, ty25, ti25, ty26, ti26, a0, a1, hl1, hl2, z1, z2, uv, b0, hap1, b1, hap2, e8, e11, e9, e11b, w1, e13, Int.reduceBEq, eqA, eqD, eqOp, nilCheckA, oBuild, oBuildSlice, evParts, consP]; refine ⟨_, _, rfl, ?_⟩)
  refine wc_seq ?_
  (refine wc_region rfl ?_; simp only [oUn_not, beq_self_eq_true, eq_self, pv_mul, List.toList_toArray, opsA_cons, opsA_nil, wantedA, guardA, yieldA, stepA_t, stepA_f, callA, calleeA, targetA, runOp_c, runOp_n, opA, ev, evs, evo, consO, consOO, withH, pickA, afterA_s, putA, T.get_put, Nat.reduceEqDiff, reduceIte, List.getElem?_toArray, List.getElem?_cons_zero, List.getElem?_cons_succ, oBuiltin, oBin, binA, binG, binL, aggO, litA, intA, ltF_eq, eqF_eq, oIndexAddr, cond_true, cond_false, Bool.not_true, Bool.not_false, decide_true, decide_false, blt_eq, tt_beq, tf_beq, ft_beq, ff_beq, Bool.and_true, Bool.true_and, Option.some.injEq, I, Bo, addI, subI, oExtract, Bool.not_eq_true', fieldAddrA, oFieldAddr, oStore, isAggD, aggH, oneH, skipH, Nat.add_eq_left, Nat.left_eq_add, Nat.succ_ne_self, fieldA, partA, cellsOf, List.length_cons, List.length_nil, Nat.reduceAdd, Nat.zero_add, Nat.add_zero, Nat.mul_one, Nat.reduceMul, nbeq_self, onesA_cons', onesA_nil, oneA, Value.oneCell', Nat.reduceLT, ty3, ti3, ty22, ti22, ty25, ti25, ty26, ti26, a0, a1, hl1, hl2, z1, z2, uv, b0, hap1, b1, hap2, e8, e11, e9, e11b, w1, e13, Int.reduceBEq, eqA, eqD, eqOp, nilCheckA, oBuild, oBuildSlice, evParts, consP]; refine ⟨_, _, rfl, ?_⟩)
  refine wc_seq ?_
  (refine wc_region rfl ?_; simp only [oUn_not, beq_self_eq_true, eq_self, pv_mul, List.toList_toArray, opsA_cons, opsA_nil, wantedA, guardA, yieldA, stepA_t, stepA_f, callA, calleeA, targetA, runOp_c, runOp_n, opA, ev, evs, evo, consO, consOO, withH, pickA, afterA_s, putA, T.get_put, Nat.reduceEqDiff, reduceIte, List.getElem?_toArray, List.getElem?_cons_zero, List.getElem?_cons_succ, oBuiltin, oBin, binA, binG, binL, aggO, litA, intA, ltF_eq, eqF_eq, oIndexAddr, cond_true, cond_false, Bool.not_true, Bool.not_false, decide_true, decide_false, blt_eq, tt_beq, tf_beq, ft_beq, ff_beq, Bool.and_true, Bool.true_and, Option.some.injEq, I, Bo, addI, subI, oExtract, Bool.not_eq_true', fieldAddrA, oFieldAddr, oStore, isAggD, aggH, oneH, skipH, Nat.add_eq_left, Nat.left_eq_add, Nat.succ_ne_self, fieldA, partA, cellsOf, List.length_cons, List.length_nil, Nat.reduceAdd, Nat.zero_add, Nat.add_zero, Nat.mul_one, Nat.reduceMul, nbeq_self, onesA_cons', onesA_nil, oneA, Value.oneCell', Nat.reduceLT, ty3, ti3, ty22, ti22, ty25, ti25, ty26, ti26, a0, a1, hl1, hl2, z1, z2, uv, b0, hap1, b1, hap2, e8, e11, e9, e11b, w1, e13, Int.reduceBEq, eqA, eqD, eqOp, nilCheckA, oBuild, oBuildSlice, evParts, consP]; refine ⟨_, _, rfl, ?_⟩)
  refine wc_seq ?_
  (refine wc_region rfl ?_; simp only [oUn_not, beq_self_eq_true, eq_self, pv_mul, List.toList_toArray, opsA_cons, opsA_nil, wantedA, guardA, yieldA, stepA_t, stepA_f, callA, calleeA, targetA, runOp_c, runOp_n, opA, ev, evs, evo, consO, consOO, withH, pickA, afterA_s, putA, T.get_put, Nat.reduceEqDiff, reduceIte, List.getElem?_toArray, List.getElem?_cons_zero, List.getElem?_cons_succ, oBuiltin, oBin, binA, binG, binL, aggO, litA, intA, ltF_eq, eqF_eq, oIndexAddr, cond_true, cond_false, Bool.not_true, Bool.not_false, decide_true, decide_false, blt_eq, tt_beq, tf_beq, ft_beq, ff_beq, Bool.and_true, Bool.true_and, Option.some.injEq, I, Bo, addI, subI, oExtract, Bool.not_eq_true', fieldAddrA, oFieldAddr, oStore, isAggD, aggH, oneH, skipH, Nat.add_eq_left, Nat.left_eq_add, Nat.succ_ne_self, fieldA, partA, cellsOf, List.length_cons, List.length_nil, Nat.reduceAdd, Nat.zero_add, Nat.add_zero, Nat.mul_one, Nat.reduceMul, nbeq_self, onesA_cons', onesA_nil, oneA, Value.oneCell', Nat.reduceLT, ty3, ti3, ty22, ti22, ty25, ti25, ty26, ti26, a0, a1, hl1, hl2, z1, z2, uv, b0, hap1, b1, hap2, e8, e11, e9, e11b, w1, e13, Int.reduceBEq, eqA, eqD, eqOp, nilCheckA, oBuild, oBuildSlice, evParts, consP]; refine ⟨_, _, rfl, ?_⟩)
  refine wc_seq ?_
  refine wc_seq ?_
  (refine wc_region rfl ?_; simp only [oUn_not, beq_self_eq_true, eq_self, pv_mul, List.toList_toArray, opsA_cons, opsA_nil, wantedA, guardA, yieldA, stepA_t, stepA_f, callA, calleeA, targetA, runOp_c, runOp_n, opA, ev, evs, evo, consO, consOO, withH, pickA, afterA_s, putA, T.get_put, Nat.reduceEqDiff, reduceIte, List.getElem?_toArray, List.getElem?_cons_zero, List.getElem?_cons_succ, oBuiltin, oBin, binA, binG, binL, aggO, litA, intA, ltF_eq, eqF_eq, oIndexAddr, cond_true, cond_false, Bool.not_true, Bool.not_false, decide_true, decide_false, blt_eq, tt_beq, tf_beq, ft_beq, ff_beq, Bool.and_true, Bool.true_and, Option.some.injEq, I, Bo, addI, subI, oExtract, Bool.not_eq_true', fieldAddrA, oFieldAddr, oStore, isAggD, aggH, oneH, skipH, Nat.add_eq_left, Nat.left_eq_add, Nat.succ_ne_self, fieldA, partA, cellsOf, List.length_cons, List.length_nil, Nat.reduceAdd, Nat.zero_add, Nat.add_zero, Nat.mul_one, Nat.reduceMul, nbeq_self, onesA_cons', onesA_nil, oneA, Value.oneCell', Nat.reduceLT, ty3, ti3, ty22, ti22, ty25, ti25, ty26, ti26, a0, a1, hl1, hl2, z1, z2, uv, b0, hap1, b1, hap2, e8, e11, e9, e11b, w1, e13, Int.reduceBEq, eqA, eqD, eqOp, nilCheckA, oBuild, oBuildSlice, evParts, consP]; refine ⟨_, _, rfl, ?_⟩)
  (refine wc_cond (by simp only [oUn_not, beq_self_eq_true, eq_self, pv_mul, List.toList_toArray, opsA_cons, opsA_nil, wantedA, guardA, yieldA, stepA_t, stepA_f, callA, calleeA, targetA, runOp_c, runOp_n, opA, ev, evs, evo, consO, consOO, withH, pickA, afterA_s, putA, T.get_put, Nat.reduceEqDiff, reduceIte, List.getElem?_toArray, List.getElem?_cons_zero, List.getElem?_cons_succ, oBuiltin, oBin, binA, binG, binL, aggO, litA, intA, ltF_eq, eqF_eq, oIndexAddr, cond_true, cond_false, Bool.not_true, Bool.not_false, decide_true, decide_false, blt_eq, tt_beq, tf_beq, ft_beq, ff_beq, Bool.and_true, Bool.true_and, Option.some.injEq, I, Bo, addI, subI, oExtract, Bool.not_eq_true', fieldAddrA, oFieldAddr, oStore, isAggD, aggH, oneH, skipH, Nat.add_eq_left, Nat.left_eq_add, Nat.succ_ne_self, fieldA, partA, cellsOf, List.length_cons, List.length_nil, Nat.reduceAdd, Nat.zero_add, Nat.add_zero, Nat.mul_one, Nat.reduceMul, nbeq_self, onesA_cons', onesA_nil, oneA, Value.oneCell', Nat.reduceLT, ty3, ti3, ty22, ti22, ty25, ti25, ty26, ti26, a0, a1, hl1, hl2, z1, z2, uv, b0, hap1, b1, hap2, e8, e11, e9, e11b, w1, e13, Int.reduceBEq, eqA, eqD, eqOp, nilCheckA, oBuild, oBuildSlice, evParts, consP]; rfl) ?_ ?_ <;> intro hb <;> first | (exfalso; exact Bool.noConfusion hb) | skip)
  refine wc_skip ?_
  refine wc_seq ?_
  (refine wc_region rfl ?_; simp only [oUn_not, beq_self_eq_true, eq_self, pv_mul, List.toList_toArray, opsA_cons, opsA_nil, wantedA, guardA, yieldA, stepA_t, stepA_f, callA, calleeA, targetA, runOp_c, runOp_n, opA, ev, evs, evo, consO, consOO, withH, pickA, afterA_s, putA, T.get_put, Nat.reduceEqDiff, reduceIte, List.getElem?_toArray, List.getElem?_cons_zero, List.getElem?_cons_succ, oBuiltin, oBin, binA, binG, binL, aggO, litA, intA, ltF_eq, eqF_eq, oIndexAddr, cond_true, cond_false, Bool.not_true, Bool.not_false, decide_true, decide_false, blt_eq, tt_beq, tf_beq, ft_beq, ff_beq, Bool.and_true, Bool.true_and, Option.some.injEq, I, Bo, addI, subI, oExtract, Bool.not_eq_true', fieldAddrA, oFieldAddr, oStore, isAggD, aggH, oneH, skipH, Nat.add_eq_left, Nat.left_eq_add, Nat.succ_ne_self, fieldA, partA, cellsOf, List.length_cons, List.length_nil, Nat.reduceAdd, Nat.zero_add, Nat.add_zero, Nat.mul_one, Nat.reduceMul, nbeq_self, onesA_cons', onesA_nil, oneA, Value.oneCell', Nat.reduceLT, ty3, ti3, ty22, ti22, ty25, ti25, ty26, ti26, a0, a1, hl1, hl2, z1, z2, uv, b0, hap1, b1, hap2, e8, e11, e9, e11b, w1, e13, Int.reduceBEq, eqA, eqD, eqOp, nilCheckA, oBuild, oBuildSlice, evParts, consP]; refine ⟨_, _, rfl, ?_⟩)
  refine own_0 g5 v u x y gt p _ (xs.length + ys.length) (by omega) hgm.1 ?_ ?_ ?_ ?_ ?_ ?_ ?_
  iterate 6 (· simp only [oUn_not, beq_self_eq_true, eq_self, pv_mul, List.toList_toArray, opsA_cons, opsA_nil, wantedA, guardA, yieldA, stepA_t, stepA_f, callA, calleeA, targetA, runOp_c, runOp_n, opA, ev, evs, evo, consO, consOO, withH, pickA, afterA_s, putA, T.get_put, Nat.reduceEqDiff, reduceIte, List.getElem?_toArray, List.getElem?_cons_zero, List.getElem?_cons_succ, oBuiltin, oBin, binA, binG, binL, aggO, litA, intA, ltF_eq, eqF_eq, oIndexAddr, cond_true, cond_false, Bool.not_true, Bool.not_false, decide_true, decide_false, blt_eq, tt_beq, tf_beq, ft_beq, ff_beq, Bool.and_true, Bool.true_and, Option.some.injEq, I, Bo, addI, subI, oExtract, Bool.not_eq_true', fieldAddrA, oFieldAddr, oStore, isAggD, aggH, oneH, skipH, Nat.add_eq_left, Nat.left_eq_add, Nat.succ_ne_self, fieldA, partA, cellsOf, List.length_cons, List.length_nil, Nat.reduceAdd, Nat.zero_add, Nat.add_zero, Nat.mul_one, Nat.reduceMul, nbeq_self, onesA_cons', onesA_nil, oneA, Value.oneCell', Nat.reduceLT, ty3, ti3, ty22, ti22, ty25, ti25, ty26, ti26, a0, a1, hl1, hl2, z1, z2, uv, b0, hap1, b1, hap2, e8, e11, e9, e11b, w1, e13, Int.reduceBEq, eqA, eqD, eqOp, nilCheckA, oBuild, oBuildSlice, evParts, consP])
  intro h6 e6 m6 f6 e0 e1 e5 e6' e7 e10
  refine own_1 h6 v u x y gt p e6 xs.length (by omega) (mx.fr f6 (fun n hn hh => by have := hgm.2 n hh; have := kx n hn; have := x4.c; omega)) e0 e1 e5 e6' e7 e10 ?_
  intro h7 e7' m7 f7 e0 e1 e5 e6' e7 e10
  refine own_2 h7 v u x y gt p e7' ys.length (by omega) ((my.fr f6 (fun n hn hh => by have := hgm.2 n hh; have := ky n hn; have := x4.c; omega)).fr f7 (fun n hn hh => by have := ny n hn; have := kx n hh; omega)) e0 e1 e5 e6' e7 e10 ?_
  intro h8 e8' m8 f8 e0 e1 e5 e6' e7 e10
  have bg : ∀ n, nmO gt = some n → h.c ≤ n := fun n hn => by have := hgm.2 n hn; have := x1.c; have := x4.c; omega
  have bx : ∀ n, nmO x = some n → h.c ≤ n := nx
  have by_ : ∀ n, nmO y = some n → h.c ≤ n := fun n hn => by have := ny n hn; have := x1.c; omega
  have fv := fun {w : AV} {l : List AV} (r : IsL h w l) => IsL_fr (IsL_fr (IsL_fr (r.ext x05) f6 (fun n hn hh => by have := IsL_lt r hn; have := bg n hh; omega)) f7 (fun n hn hh => by have := IsL_lt r hn; have := bx n hh; omega)) f8 (fun n hn hh => by have := IsL_lt r hn; have := by_ n hh; omega)
  have kp1 := x4.c
  have B8 := ((B5.fr f6 (fun hh => by have := hgm.2 _ hh; omega) (fun hh => by have := hgm.2 _ hh; omega)).fr f7 (fun hh => by have := kx _ hh; omega) (fun hh => by have := kx _ hh; omega)).fr f8 (fun hh => by have := ky _ hh; omega) (fun hh => by have := ky _ hh; omega)
  exact own_e h8 v u x y gt p e8' nm4 f4 t4 M4 xs ys (fv hv) (fv hu) (by omega) (by omega) B8 hc4 e0 e1 e5 e6' e7 e10
end Go.Proofs.Ytjfmimlmnllnjaa
