import Derived.Test.YtdbajhklnaekjaaR5
import Derived.KernelRfl
namespace Go.Proofs.Ytdbajhklnaekjaa
open Go Go.Proofs Go.RowKit Go.Proofs.Abs
set_option linter.unusedSimpArgs false
set_option linter.unusedVariables false
theorem avU {h : Hp} {n : Int} {s : AV} {st : List Q4} (r : IsR c4 4 h s st) : avB 4 (.agg [U8 n, s]) (.agg [U8 n, s]) = true := by
  have li : litB (.int .u8 n) (.int .u8 n) = true := by simp [litB]
  rcases r with ⟨rfl, _⟩ | ⟨nm, off, rr, cap, z, rfl, _⟩
  · show (litB (.int .u8 n) (.int .u8 n) && (litB (.slice none 0 0) (.slice none 0 0) && true)) = true
    rw [li]
    rfl
  · show (litB (.int .u8 n) (.int .u8 n) && (((nm == nm) && (off == off) && (st.length == st.length) && (rr == rr) && (cap == cap) && (z == z)) && true)) = true
    rw [li]
    simp
theorem isr_ext {α : Type} {f : α → List AV} {s : Nat} {h h' : Hp} {v : AV} {xs : List α} (r : IsR f s h v xs) (a : Ext h h') : IsR f s h' v xs := r.fr (a.fr (fun _ => False)) (fun _ _ => id)
theorem bld24z2 (o : Int) : buildA ctx 24 [(0, I o), (1, nilS)] = some (.agg [I o, nilS]) := by kernel_rfl
theorem gr_one {h : Hp} {v : AV} {xs : List Int} (g : GL h v xs) : oneA v = true := (gr_isL g).one
set_option maxHeartbeats 4000000 in
theorem k30 (d : Nat) (h : Hp) (n : Int) (s : AV) (st : List Q4) (hs : IsR c4 4 h s st) (hok : ∀ x ∈ st, x.ok) (hn : Inb n) : Wv (runA ctx 5000 (d + 4) 30 [.agg [U8 n, s]] h) (fun r h' => ∃ w, r = .agg [I (n.tmod 31), w] ∧ GL h' w (aft (st.take 12) (upto (n.tmod 31).toNat)) ∧ Ext h h') := by
  have hb := tm_lt hn.1 (show (0 : Int) < 31 by omega)
  obtain ⟨N, hN⟩ := nat_of hb.1
  have hN' : N < 31 := by rw [hN] at hb; simp only [Int.ofNat_eq_natCast] at hb; omega
  have er : pureV (binOp .rem 5 (.int .u8 n) (.int .u8 31)) = some (U8 (n.tmod 31)) := u8rem 5 (by omega)
  have ec : convA ctx 3 (U8 (n.tmod 31)) = some (I (Int.ofNat N)) := by
    rw [conv53, hN, wrap_ok (by simp only [Int.ofNat_eq_natCast]; omega) (by simp only [Int.ofNat_eq_natCast]; omega)]
  obtain ⟨h1, hb1, x1, k1, b1⟩ := box_new h 54 (.agg [U8 n, s])
  obtain ⟨h2, hb2, x2, k2, b2⟩ := alloc_new h1 24 (ti := ti24) rfl
  simp only [ti24] at hb2
  have c0 := x2.cell (by omega) (b1 0 (U8 n) rfl)
  have c1 := x2.cell (by omega) (b1 1 s rfl)
  have l0 := c0.load
  have l := load2 c0.load c1.load
  obtain ⟨w0, h3, r25, x3, g3, f3⟩ := c25 (d + 2) h2 N (by omega)
  have lb := load2 (x3.cell (by omega) c0).load (x3.cell (by omega) c1).load
  have x03 := (x1.trans x2).trans x3
  obtain ⟨w, h4, r31, x4, g4, f4⟩ := k31 d h3 n s w0 st (upto N) (isr_ext hs x03) hok g3 (by rw [upto_len]; omega)
  have x24 := x3.trans x4
  have kx3 := x3.c
  have kx4 := x4.c
  have lc := load2 (x24.cell (by omega) c0).load (x24.cell (by omega) c1).load
  have av := avU (n := n) hs
  obtain ⟨h9, hs9, o9, d0, d1, l9⟩ := st24 (x24.cell (by omega) (b2 0 (I 0) rfl)) (x24.cell (by omega) (b2 1 nilS rfl)) (x := I (Int.ofNat N)) (y := w) rfl (gr_one g4)
  have x9 : Ext h h9 := Fr.from ((x1.trans x2).trans x24) (o9.fr (P := fun k => k = h1.c) rfl) (fun k e => by omega)
  have hbd : buildA ctx 24 [(0, I (Int.ofNat N)), (1, w)] = some (.agg [I (Int.ofNat N), w]) := by
    rcases gr_isL g4 with ⟨rfl, _⟩ | ⟨nm, off, rr, cap, z, rfl, _⟩
    · exact bld24z2 _
    · exact bld24 _ _ rfl
  refine wv_run fn30 rfl ?_
  have a0 : (enterEnv [.agg [U8 n, s]] Try.f30.ntmps).get 0 = some (.agg [U8 n, s]) := enter_get1 _ _ _
  generalize enterEnv [.agg [U8 n, s]] Try.f30.ntmps = e at a0 ⊢
  unfold Try.f30
  dsimp only
  repeat' (first
    | refine wc_seq ?_
    | (refine wc_region rfl ?_; simp only [oUn_not, beq_self_eq_true, eq_self, pv_mul, List.toList_toArray, opsA_cons, opsA_nil, wantedA, guardA, yieldA, stepA_t, stepA_f, callA, calleeA, targetA, runOp_c, runOp_n, opA, ev, evs, evo, consO, consOO, withH, pickA, afterA_s, putA, T.get_put, Nat.reduceEqDiff, reduceIte, List.getElem?_toArray, List.getElem?_cons_zero, List.getElem?_cons_succ, oBuiltin, oBin, binA, binG, binL, aggO, litA, intA, ltF_eq, eqF_eq, oIndexAddr, cond_true, cond_false, Bool.not_true, Bool.not_false, decide_true, decide_false, blt_eq, tt_beq, tf_beq, ft_beq, ff_beq, Bool.and_true, Bool.true_and, Option.some.injEq, I, Bo, addI, subI, oExtract, Bool.not_eq_true', fieldAddrA, oFieldAddr, oLoad, oStore, isAggD, aggH, oneH, skipH, Nat.add_eq_left, Nat.left_eq_add, Nat.succ_ne_self, fieldA, partA, cellsOf, List.length_cons, List.length_nil, Nat.reduceAdd, Nat.zero_add, Nat.add_zero, Nat.mul_one, Nat.reduceMul, nbeq_self, onesA_cons', onesA_nil, oneA, Value.oneCell', Nat.reduceLT, ty3, ti3, ty5, ti5, ty22, ti22, ty24, ti24, ty54, ti54, a0, hb1, hb2, l0, l, er, ec, r25, r31, lb, lc, av, hs9, l9, oConv, eqA, eqD, eqOp, nilCheckA, oBuild, oBuildSlice, evParts, consP]; refine ⟨_, _, rfl, ?_⟩)
    | (refine wc_cond (by simp only [oUn_not, beq_self_eq_true, eq_self, pv_mul, List.toList_toArray, opsA_cons, opsA_nil, wantedA, guardA, yieldA, stepA_t, stepA_f, callA, calleeA, targetA, runOp_c, runOp_n, opA, ev, evs, evo, consO, consOO, withH, pickA, afterA_s, putA, T.get_put, Nat.reduceEqDiff, reduceIte, List.getElem?_toArray, List.getElem?_cons_zero, List.getElem?_cons_succ, oBuiltin, oBin, binA, binG, binL, aggO, litA, intA, ltF_eq, eqF_eq, oIndexAddr, cond_true, cond_false, Bool.not_true, Bool.not_false, decide_true, decide_false, blt_eq, tt_beq, tf_beq, ft_beq, ff_beq, Bool.and_true, Bool.true_and, Option.some.injEq, I, Bo, addI, subI, oExtract, Bool.not_eq_true', fieldAddrA, oFieldAddr, oLoad, oStore, isAggD, aggH, oneH, skipH, Nat.add_eq_left, Nat.left_eq_add, Nat.succ_ne_self, fieldA, partA, cellsOf, List.length_cons, List.length_nil, Nat.reduceAdd, Nat.zero_add, Nat.add_zero, Nat.mul_one, Nat.reduceMul, nbeq_self, onesA_cons', onesA_nil, oneA, Value.oneCell', Nat.reduceLT, ty3, ti3, ty5, ti5, ty22, ti22, ty24, ti24, ty54, ti54, a0, hb1, hb2, l0, l, er, ec, r25, r31, lb, lc, av, hs9, l9, oConv, eqA, eqD, eqOp, nilCheckA, oBuild, oBuildSlice, evParts, consP]; rfl) ?_ ?_ <;> intro hb <;> first | (exfalso; exact Bool.noConfusion hb) | skip)
    | refine wc_block ?_
    | refine wc_skip ?_
    | refine wc_scope (by decide) ?_
    | refine wc_label ?_
    | refine wc_exit ?_
    | refine wc_ret ?_
    | refine wv_ret (by simp only [resA, resOne]; simp only [oUn_not, beq_self_eq_true, eq_self, pv_mul, List.toList_toArray, opsA_cons, opsA_nil, wantedA, guardA, yieldA, stepA_t, stepA_f, callA, calleeA, targetA, runOp_c, runOp_n, opA, ev, evs, evo, consO, consOO, withH, pickA, afterA_s, putA, T.get_put, Nat.reduceEqDiff, reduceIte, List.getElem?_toArray, List.getElem?_cons_zero, List.getElem?_cons_succ, oBuiltin, oBin, binA, binG, binL, aggO, litA, intA, ltF_eq, eqF_eq, oIndexAddr, cond_true, cond_false, Bool.not_true, Bool.not_false, decide_true, decide_false, blt_eq, tt_beq, tf_beq, ft_beq, ff_beq, Bool.and_true, Bool.true_and, Option.some.injEq, I, Bo, addI, subI, oExtract, Bool.not_eq_true', fieldAddrA, oFieldAddr, oLoad, oStore, isAggD, aggH, oneH, skipH, Nat.add_eq_left, Nat.left_eq_add, Nat.succ_ne_self, fieldA, partA, cellsOf, List.length_cons, List.length_nil, Nat.reduceAdd, Nat.zero_add, Nat.add_zero, Nat.mul_one, Nat.reduceMul, nbeq_self, onesA_cons', onesA_nil, oneA, Value.oneCell', Nat.reduceLT, ty3, ti3, ty5, ti5, ty22, ti22, ty24, ti24, ty54, ti54, a0, hb1, hb2, l0, l, er, ec, r25, r31, lb, lc, av, hs9, l9, oConv, eqA, eqD, eqOp, nilCheckA, oBuild, oBuildSlice, evParts, consP]; rfl) ?_)
  refine wc_dyn (p := (1, 4)) (ps := []) (by kernel_rfl) (by simp only [oUn_not, beq_self_eq_true, eq_self, pv_mul, List.toList_toArray, opsA_cons, opsA_nil, wantedA, guardA, yieldA, stepA_t, stepA_f, callA, calleeA, targetA, runOp_c, runOp_n, opA, ev, evs, evo, consO, consOO, withH, pickA, afterA_s, putA, T.get_put, Nat.reduceEqDiff, reduceIte, List.getElem?_toArray, List.getElem?_cons_zero, List.getElem?_cons_succ, oBuiltin, oBin, binA, binG, binL, aggO, litA, intA, ltF_eq, eqF_eq, oIndexAddr, cond_true, cond_false, Bool.not_true, Bool.not_false, decide_true, decide_false, blt_eq, tt_beq, tf_beq, ft_beq, ff_beq, Bool.and_true, Bool.true_and, Option.some.injEq, I, Bo, addI, subI, oExtract, Bool.not_eq_true', fieldAddrA, oFieldAddr, oLoad, oStore, isAggD, aggH, oneH, skipH, Nat.add_eq_left, Nat.left_eq_add, Nat.succ_ne_self, fieldA, partA, cellsOf, List.length_cons, List.length_nil, Nat.reduceAdd, Nat.zero_add, Nat.add_zero, Nat.mul_one, Nat.reduceMul, nbeq_self, onesA_cons', onesA_nil, oneA, Value.oneCell', Nat.reduceLT, ty3, ti3, ty5, ti5, ty22, ti22, ty24, ti24, ty54, ti54, a0, hb1, hb2, l0, l, er, ec, r25, r31, lb, lc, av, hs9, l9, oConv, eqA, eqD, eqOp, nilCheckA, oBuild, oBuildSlice, evParts, consP, hbd, trA_nil, trA_cons, nextT, preA]; rfl) (by simp only [oUn_not, beq_self_eq_true, eq_self, pv_mul, List.toList_toArray, opsA_cons, opsA_nil, wantedA, guardA, yieldA, stepA_t, stepA_f, callA, calleeA, targetA, runOp_c, runOp_n, opA, ev, evs, evo, consO, consOO, withH, pickA, afterA_s, putA, T.get_put, Nat.reduceEqDiff, reduceIte, List.getElem?_toArray, List.getElem?_cons_zero, List.getElem?_cons_succ, oBuiltin, oBin, binA, binG, binL, aggO, litA, intA, ltF_eq, eqF_eq, oIndexAddr, cond_true, cond_false, Bool.not_true, Bool.not_false, decide_true, decide_false, blt_eq, tt_beq, tf_beq, ft_beq, ff_beq, Bool.and_true, Bool.true_and, Option.some.injEq, I, Bo, addI, subI, oExtract, Bool.not_eq_true', fieldAddrA, oFieldAddr, oLoad, oStore, isAggD, aggH, oneH, skipH, Nat.add_eq_left, Nat.left_eq_add, Nat.succ_ne_self, fieldA, partA, cellsOf, List.length_cons, List.length_nil, Nat.reduceAdd, Nat.zero_add, Nat.add_zero, Nat.mul_one, Nat.reduceMul, nbeq_self, onesA_cons', onesA_nil, oneA, Value.oneCell', Nat.reduceLT, ty3, ti3, ty5, ti5, ty22, ti22, ty24, ti24, ty54, ti54, a0, hb1, hb2, l0, l, er, ec, r25, r31, lb, lc, av, hs9, l9, oConv, eqA, eqD, eqOp, nilCheckA, oBuild, oBuildSlice, evParts, consP, hbd, checksD_nil, checksD_cons, checkD, checkG, sameR, avB_int]) rfl ?_
  repeat' (first
    | refine wc_seq ?_
    | (refine wc_region rfl ?_; simp only [oUn_not, beq_self_eq_true, eq_self, pv_mul, List.toList_toArray, opsA_cons, opsA_nil, wantedA, guardA, yieldA, stepA_t, stepA_f, callA, calleeA, targetA, runOp_c, runOp_n, opA, ev, evs, evo, consO, consOO, withH, pickA, afterA_s, putA, T.get_put, Nat.reduceEqDiff, reduceIte, List.getElem?_toArray, List.getElem?_cons_zero, List.getElem?_cons_succ, oBuiltin, oBin, binA, binG, binL, aggO, litA, intA, ltF_eq, eqF_eq, oIndexAddr, cond_true, cond_false, Bool.not_true, Bool.not_false, decide_true, decide_false, blt_eq, tt_beq, tf_beq, ft_beq, ff_beq, Bool.and_true, Bool.true_and, Option.some.injEq, I, Bo, addI, subI, oExtract, Bool.not_eq_true', fieldAddrA, oFieldAddr, oLoad, oStore, isAggD, aggH, oneH, skipH, Nat.add_eq_left, Nat.left_eq_add, Nat.succ_ne_self, fieldA, partA, cellsOf, List.length_cons, List.length_nil, Nat.reduceAdd, Nat.zero_add, Nat.add_zero, Nat.mul_one, Nat.reduceMul, nbeq_self, onesA_cons', onesA_nil, oneA, Value.oneCell', Nat.reduceLT, ty3, ti3, ty5, ti5, ty22, ti22, ty24, ti24, ty54, ti54, a0, hb1, hb2, l0, l, er, ec, r25, r31, lb, lc, av, hs9, l9, oConv, eqA, eqD, eqOp, nilCheckA, oBuild, oBuildSlice, evParts, consP, aggR, resCell]; refine ⟨_, _, rfl, ?_⟩)
    | (refine wc_cond (by simp only [oUn_not, beq_self_eq_true, eq_self, pv_mul, List.toList_toArray, opsA_cons, opsA_nil, wantedA, guardA, yieldA, stepA_t, stepA_f, callA, calleeA, targetA, runOp_c, runOp_n, opA, ev, evs, evo, consO, consOO, withH, pickA, afterA_s, putA, T.get_put, Nat.reduceEqDiff, reduceIte, List.getElem?_toArray, List.getElem?_cons_zero, List.getElem?_cons_succ, oBuiltin, oBin, binA, binG, binL, aggO, litA, intA, ltF_eq, eqF_eq, oIndexAddr, cond_true, cond_false, Bool.not_true, Bool.not_false, decide_true, decide_false, blt_eq, tt_beq, tf_beq, ft_beq, ff_beq, Bool.and_true, Bool.true_and, Option.some.injEq, I, Bo, addI, subI, oExtract, Bool.not_eq_true', fieldAddrA, oFieldAddr, oLoad, oStore, isAggD, aggH, oneH, skipH, Nat.add_eq_left, Nat.left_eq_add, Nat.succ_ne_self, fieldA, partA, cellsOf, List.length_cons, List.length_nil, Nat.reduceAdd, Nat.zero_add, Nat.add_zero, Nat.mul_one, Nat.reduceMul, nbeq_self, onesA_cons', onesA_nil, oneA, Value.oneCell', Nat.reduceLT, ty3, ti3, ty5, ti5, ty22, ti22, ty24, ti24, ty54, ti54, a0, hb1, hb2, l0, l, er, ec, r25, r31, lb, lc, av, hs9, l9, oConv, eqA, eqD, eqOp, nilCheckA, oBuild, oBuildSlice, evParts, consP, aggR, resCell]; rfl) ?_ ?_ <;> intro hb <;> first | (exfalso; exact Bool.noConfusion hb) | skip)
    | refine wc_block ?_
    | refine wc_skip ?_
    | refine wc_scope (by decide) ?_
    | refine wc_label ?_
    | refine wc_exit ?_
    | refine wc_ret ?_
    | refine wv_ret (by simp only [resA, resOne]; simp only [oUn_not, beq_self_eq_true, eq_self, pv_mul, List.toList_toArray, opsA_cons, opsA_nil, wantedA, guardA, yieldA, stepA_t, stepA_f, callA, calleeA, targetA, runOp_c, runOp_n, opA, ev, evs, evo, consO, consOO, withH, pickA, afterA_s, putA, T.get_put, Nat.reduceEqDiff, reduceIte, List.getElem?_toArray, List.getElem?_cons_zero, List.getElem?_cons_succ, oBuiltin, oBin, binA, binG, binL, aggO, litA, intA, ltF_eq, eqF_eq, oIndexAddr, cond_true, cond_false, Bool.not_true, Bool.not_false, decide_true, decide_false, blt_eq, tt_beq, tf_beq, ft_beq, ff_beq, Bool.and_true, Bool.true_and, Option.some.injEq, I, Bo, addI, subI, oExtract, Bool.not_eq_true', fieldAddrA, oFieldAddr, oLoad, oStore, isAggD, aggH, oneH, skipH, Nat.add_eq_left, Nat.left_eq_add, Nat.succ_ne_self, fieldA, partA, cellsOf, List.length_cons, List.length_nil, Nat.reduceAdd, Nat.zero_add, Nat.add_zero, Nat.mul_one, Nat.reduceMul, nbeq_self, onesA_cons', onesA_nil, oneA, Value.oneCell', Nat.reduceLT, ty3, ti3, ty5, ti5, ty22, ti22, ty24, ti24, ty54, ti54, a0, hb1, hb2, l0, l, er, ec, r25, r31, lb, lc, av, hs9, l9, oConv, eqA, eqD, eqOp, nilCheckA, oBuild, oBuildSlice, evParts, consP, aggR, resCell]; rfl) ?_)
  all_goals exact ⟨w, by rw [hN]; rfl, by rw [hN]; exact Gr.fr g4 (o9.fr (P := fun k => k = h1.c) rfl) (fun k hk e => by rcases f4 k hk with h9 | h9 <;> (try have := f3 k h9) <;> omega), x9⟩

end Go.Proofs.Ytdbajhklnaekjaa
