import Derived.Test.YtdbajhklnaekjaaRH
import Derived.KernelRfl
namespace Go.Proofs.Ytdbajhklnaekjaa
open Go Go.Proofs Go.RowKit Go.Proofs.Abs
set_option linter.unusedSimpArgs false
set_option linter.unusedVariables false
set_option maxHeartbeats 4000000 in
theorem c12f (d : Nat) (h : Hp) (oa ob : Int) (sa sb : AV) (xa xb : List Int) (ia : IsL h sa (xa.map I)) (ib : IsL h sb (xb.map I)) (ha : chkM oa xa = 0) (hb : chkM ob xb = 0) (hne : ob = (xa.length : Int)) (ok : Ok xa.length xb) : Wv (runA ctx 5000 (d + 3) 12 [.agg [I oa, sa], .agg [I ob, sb]] h) (fun r h' => ResM h h' r oa ((List.range xb.length).map fun i => cmpF xa xb i) 0 ∧ ∀ s', r = .tup [.agg [I oa, s'], I 0] → ∀ k, nmO s' = some k → h.c ≤ k) := by
  obtain ⟨h1, hb1, x1, k1, b1⟩ := box_new h 24 (.agg [I oa, sa])
  obtain ⟨h2, hb2, x2, k2, b2⟩ := box_new h1 24 (.agg [I ob, sb])
  obtain ⟨h3, hb3, x3, k3, b3⟩ := alloc_new h2 24 (ti := ti24) rfl
  simp only [ti24] at hb3
  have ca0 := x3.cell (by omega) (x2.cell (by omega) (b1 0 (I oa) rfl))
  have ca1 := x3.cell (by omega) (x2.cell (by omega) (b1 1 sa rfl))
  have cb0 := x3.cell (by omega) (b2 0 (I ob) rfl)
  have cb1 := x3.cell (by omega) (b2 1 sb rfl)
  have x03 := (x1.trans x2).trans x3
  have la := load2 ca0.load ca1.load
  obtain ⟨_, h4, r16, rfl, x4⟩ := c16 (d + 1) h3 oa sa xa (ia.ext x03)
  have z : (chkM oa xa == 0) = true := by simpa using ha
  have lb := load2 (x4.cell (by omega) cb0).load (x4.cell (by omega) cb1).load
  obtain ⟨_, h5, r16b, rfl, x5⟩ := c16 (d + 1) h4 ob sb xb (ib.ext (x03.trans x4))
  have x34 := x4.trans x5
  have kk5 := x34.c
  have z2 : (chkM ob xb == 0) = true := by simpa using hb
  have mb0 := (x34.cell (by omega) cb0).load
  have ma1 := (x34.cell (by omega) ca1).load
  have hla := lenL ia
  have z3 : (ob == (xa.length : Int)) = true := by simpa using hne
  have ma0 := (x34.cell (by omega) ca0).load
  have mb1 := (x34.cell (by omega) cb1).load
  have hlb := lenL ib
  have ol := ok.l
  have clo : ∀ (i : Nat), i < xb.length → ∀ h', Ext h5 h' → runA ctx 5000 (d + 1) 34 (I (i : Int) :: [.ptr h1.c 0, .ptr h.c 0]) h' = some (I (cmpF xa xb (i : Int).toNat), h') := fun i hi h' hx => by
    rw [Int.toNat_natCast]
    exact c34 d h' i h.c h1.c sa sb xa xb (hx.cell (by omega) (x34.cell (by omega) ca1)) (hx.cell (by omega) (x34.cell (by omega) cb1)) (ia.ext ((x03.trans x34).trans hx)) (ib.ext ((x03.trans x34).trans hx)) hi ok
  have el : ((List.range xb.length).map fun (i : Nat) => cmpF xa xb (i : Int).toNat) = (List.range xb.length).map fun i => cmpF xa xb i := by simp only [Int.toNat_natCast]
  have q33 := c33f d h5 oa xb.length 34 [.ptr h1.c 0, .ptr h.c 0] (fun i => cmpF xa xb i.toNat) ol clo
  rw [el] at q33
  refine wv_run fn12 rfl ?_
  have a0 : (enterEnv [.agg [I oa, sa], .agg [I ob, sb]] Try.f12.ntmps).get 0 = some (.agg [I oa, sa]) := enter_get1 _ _ _
  have a1 : (enterEnv [.agg [I oa, sa], .agg [I ob, sb]] Try.f12.ntmps).get 1 = some (.agg [I ob, sb]) := enter_get2 _ _ _ _
  generalize enterEnv [.agg [I oa, sa], .agg [I ob, sb]] Try.f12.ntmps = e at a0 a1 ⊢
  unfold Try.f12
  dsimp only
  repeat' (first
    | refine wc_seq ?_
    | (refine wc_region rfl ?_; simp only [oUn_not, beq_self_eq_true, eq_self, pv_mul, List.toList_toArray, opsA_cons, opsA_nil, wantedA, guardA, yieldA, stepA_t, stepA_f, callA, calleeA, targetA, runOp_c, runOp_n, opA, ev, evs, evo, consO, consOO, withH, pickA, afterA_s, putA, T.get_put, Nat.reduceEqDiff, reduceIte, List.getElem?_toArray, List.getElem?_cons_zero, List.getElem?_cons_succ, oBuiltin, oBin, binA, binG, binL, aggO, litA, intA, ltF_eq, eqF_eq, oIndexAddr, cond_true, cond_false, Bool.not_true, Bool.not_false, decide_true, decide_false, blt_eq, tt_beq, tf_beq, ft_beq, ff_beq, Bool.and_true, Bool.true_and, Option.some.injEq, I, Bo, addI, subI, oExtract, Bool.not_eq_true', fieldAddrA, oFieldAddr, oLoad, oStore, isAggD, aggH, oneH, skipH, Nat.add_eq_left, Nat.left_eq_add, Nat.succ_ne_self, fieldA, partA, cellsOf, List.length_cons, List.length_nil, Nat.reduceAdd, Nat.zero_add, Nat.add_zero, Nat.mul_one, Nat.reduceMul, nbeq_self, onesA_cons', onesA_nil, oneA, Value.oneCell', Nat.reduceLT, ty3, ti3, ty22, ti22, ty24, ti24, ty28, ti28, ty65, ti65, a0, a1, hb1, hb2, hb3, la, r16, z, lb, r16b, z2, mb0, ma1, hla, z3, ma0, mb1, hlb, oFn, eqA, eqD, eqOp, nilCheckA]; refine ⟨_, _, rfl, ?_⟩)
    | (refine wc_cond (by simp only [oUn_not, beq_self_eq_true, eq_self, pv_mul, List.toList_toArray, opsA_cons, opsA_nil, wantedA, guardA, yieldA, stepA_t, stepA_f, callA, calleeA, targetA, runOp_c, runOp_n, opA, ev, evs, evo, consO, consOO, withH, pickA, afterA_s, putA, T.get_put, Nat.reduceEqDiff, reduceIte, List.getElem?_toArray, List.getElem?_cons_zero, List.getElem?_cons_succ, oBuiltin, oBin, binA, binG, binL, aggO, litA, intA, ltF_eq, eqF_eq, oIndexAddr, cond_true, cond_false, Bool.not_true, Bool.not_false, decide_true, decide_false, blt_eq, tt_beq, tf_beq, ft_beq, ff_beq, Bool.and_true, Bool.true_and, Option.some.injEq, I, Bo, addI, subI, oExtract, Bool.not_eq_true', fieldAddrA, oFieldAddr, oLoad, oStore, isAggD, aggH, oneH, skipH, Nat.add_eq_left, Nat.left_eq_add, Nat.succ_ne_self, fieldA, partA, cellsOf, List.length_cons, List.length_nil, Nat.reduceAdd, Nat.zero_add, Nat.add_zero, Nat.mul_one, Nat.reduceMul, nbeq_self, onesA_cons', onesA_nil, oneA, Value.oneCell', Nat.reduceLT, ty3, ti3, ty22, ti22, ty24, ti24, ty28, ti28, ty65, ti65, a0, a1, hb1, hb2, hb3, la, r16, z, lb, r16b, z2, mb0, ma1, hla, z3, ma0, mb1, hlb, oFn, eqA, eqD, eqOp, nilCheckA]; rfl) ?_ ?_ <;> intro hb <;> first | (exfalso; exact Bool.noConfusion hb) | skip)
    | refine wc_block ?_
    | refine wc_skip ?_
    | refine wc_scope (by decide) ?_
    | refine wc_label ?_
    | refine wc_exit ?_
    | refine wc_ret ?_
    | refine wv_ret (by simp only [resA, resOne]; simp only [oUn_not, beq_self_eq_true, eq_self, pv_mul, List.toList_toArray, opsA_cons, opsA_nil, wantedA, guardA, yieldA, stepA_t, stepA_f, callA, calleeA, targetA, runOp_c, runOp_n, opA, ev, evs, evo, consO, consOO, withH, pickA, afterA_s, putA, T.get_put, Nat.reduceEqDiff, reduceIte, List.getElem?_toArray, List.getElem?_cons_zero, List.getElem?_cons_succ, oBuiltin, oBin, binA, binG, binL, aggO, litA, intA, ltF_eq, eqF_eq, oIndexAddr, cond_true, cond_false, Bool.not_true, Bool.not_false, decide_true, decide_false, blt_eq, tt_beq, tf_beq, ft_beq, ff_beq, Bool.and_true, Bool.true_and, Option.some.injEq, I, Bo, addI, subI, oExtract, Bool.not_eq_true', fieldAddrA, oFieldAddr, oLoad, oStore, isAggD, aggH, oneH, skipH, Nat.add_eq_left, Nat.left_eq_add, Nat.succ_ne_self, fieldA, partA, cellsOf, List.length_cons, List.length_nil, Nat.reduceAdd, Nat.zero_add, Nat.add_zero, Nat.mul_one, Nat.reduceMul, nbeq_self, onesA_cons', onesA_nil, oneA, Value.oneCell', Nat.reduceLT, ty3, ti3, ty22, ti22, ty24, ti24, ty28, ti28, ty65, ti65, a0, a1, hb1, hb2, hb3, la, r16, z, lb, r16b, z2, mb0, ma1, hla, z3, ma0, mb1, hlb, oFn, eqA, eqD, eqOp, nilCheckA]; rfl) ?_)
  · (refine wc_region rfl ?_; simp only [oUn_not, beq_self_eq_true, eq_self, pv_mul, List.toList_toArray, opsA_cons, opsA_nil, wantedA, guardA, yieldA, stepA_t, stepA_f, callA, calleeA, targetA, runOp_c, runOp_n, opA, ev, evs, evo, consO, consOO, withH, pickA, afterA_s, putA, T.get_put, Nat.reduceEqDiff, reduceIte, List.getElem?_toArray, List.getElem?_cons_zero, List.getElem?_cons_succ, oBuiltin, oBin, binA, binG, binL, aggO, litA, intA, ltF_eq, eqF_eq, oIndexAddr, cond_true, cond_false, Bool.not_true, Bool.not_false, decide_true, decide_false, blt_eq, tt_beq, tf_beq, ft_beq, ff_beq, Bool.and_true, Bool.true_and, Option.some.injEq, I, Bo, addI, subI, oExtract, Bool.not_eq_true', fieldAddrA, oFieldAddr, oLoad, oStore, isAggD, aggH, oneH, skipH, Nat.add_eq_left, Nat.left_eq_add, Nat.succ_ne_self, fieldA, partA, cellsOf, List.length_cons, List.length_nil, Nat.reduceAdd, Nat.zero_add, Nat.add_zero, Nat.mul_one, Nat.reduceMul, nbeq_self, onesA_cons', onesA_nil, oneA, Value.oneCell', Nat.reduceLT, ty3, ti3, ty22, ti22, ty24, ti24, ty28, ti28, ty65, ti65, a0, a1, hb1, hb2, hb3, la, r16, z, lb, r16b, z2, mb0, ma1, hla, z3, ma0, mb1, hlb, oFn, eqA, eqD, eqOp, nilCheckA]; refine wo_call (q33) ?_; rintro _ h8 ⟨x8, s, rfl, os, ow, on, _⟩; obtain ⟨h9, hs9, o9, _, _, l9⟩ := st24 (x8.cell (by omega) (x34.cell (by omega) (b3 0 (I 0) rfl))) (x8.cell (by omega) (x34.cell (by omega) (b3 1 nilS rfl))) (x := I oa) (y := s) rfl os; simp only [oUn_not, beq_self_eq_true, eq_self, pv_mul, List.toList_toArray, opsA_cons, opsA_nil, wantedA, guardA, yieldA, stepA_t, stepA_f, callA, calleeA, targetA, runOp_c, runOp_n, opA, ev, evs, evo, consO, consOO, withH, pickA, afterA_s, putA, T.get_put, Nat.reduceEqDiff, reduceIte, List.getElem?_toArray, List.getElem?_cons_zero, List.getElem?_cons_succ, oBuiltin, oBin, binA, binG, binL, aggO, litA, intA, ltF_eq, eqF_eq, oIndexAddr, cond_true, cond_false, Bool.not_true, Bool.not_false, decide_true, decide_false, blt_eq, tt_beq, tf_beq, ft_beq, ff_beq, Bool.and_true, Bool.true_and, Option.some.injEq, I, Bo, addI, subI, oExtract, Bool.not_eq_true', fieldAddrA, oFieldAddr, oLoad, oStore, isAggD, aggH, oneH, skipH, Nat.add_eq_left, Nat.left_eq_add, Nat.succ_ne_self, fieldA, partA, cellsOf, List.length_cons, List.length_nil, Nat.reduceAdd, Nat.zero_add, Nat.add_zero, Nat.mul_one, Nat.reduceMul, nbeq_self, onesA_cons', onesA_nil, oneA, Value.oneCell', Nat.reduceLT, ty3, ti3, ty22, ti22, ty24, ti24, ty28, ti28, ty65, ti65, a0, a1, hb1, hb2, hb3, la, r16, z, lb, r16b, z2, mb0, ma1, hla, z3, ma0, mb1, hlb, oFn, eqA, eqD, eqOp, nilCheckA, hs9]; refine ⟨_, _, rfl, ?_⟩)
    have kk9 := o9.c
    have kk8 := x8.c
    have x9 : Ext h h9 := Fr.from ((x03.trans x34).trans x8) (o9.fr (P := fun k => k = h2.c) rfl) (fun k e => by omega)
    repeat' (first
      | refine wc_seq ?_
      | (refine wc_region rfl ?_; simp only [oUn_not, beq_self_eq_true, eq_self, pv_mul, List.toList_toArray, opsA_cons, opsA_nil, wantedA, guardA, yieldA, stepA_t, stepA_f, callA, calleeA, targetA, runOp_c, runOp_n, opA, ev, evs, evo, consO, consOO, withH, pickA, afterA_s, putA, T.get_put, Nat.reduceEqDiff, reduceIte, List.getElem?_toArray, List.getElem?_cons_zero, List.getElem?_cons_succ, oBuiltin, oBin, binA, binG, binL, aggO, litA, intA, ltF_eq, eqF_eq, oIndexAddr, cond_true, cond_false, Bool.not_true, Bool.not_false, decide_true, decide_false, blt_eq, tt_beq, tf_beq, ft_beq, ff_beq, Bool.and_true, Bool.true_and, Option.some.injEq, I, Bo, addI, subI, oExtract, Bool.not_eq_true', fieldAddrA, oFieldAddr, oLoad, oStore, isAggD, aggH, oneH, skipH, Nat.add_eq_left, Nat.left_eq_add, Nat.succ_ne_self, fieldA, partA, cellsOf, List.length_cons, List.length_nil, Nat.reduceAdd, Nat.zero_add, Nat.add_zero, Nat.mul_one, Nat.reduceMul, nbeq_self, onesA_cons', onesA_nil, oneA, Value.oneCell', Nat.reduceLT, ty3, ti3, ty22, ti22, ty24, ti24, ty28, ti28, ty65, ti65, a0, a1, hb1, hb2, hb3, la, r16, z, lb, r16b, z2, mb0, ma1, hla, z3, ma0, mb1, hlb, oFn, eqA, eqD, eqOp, nilCheckA, hs9, l9, aggR, resCell]; refine ⟨_, _, rfl, ?_⟩)
      | (refine wc_cond (by simp only [oUn_not, beq_self_eq_true, eq_self, pv_mul, List.toList_toArray, opsA_cons, opsA_nil, wantedA, guardA, yieldA, stepA_t, stepA_f, callA, calleeA, targetA, runOp_c, runOp_n, opA, ev, evs, evo, consO, consOO, withH, pickA, afterA_s, putA, T.get_put, Nat.reduceEqDiff, reduceIte, List.getElem?_toArray, List.getElem?_cons_zero, List.getElem?_cons_succ, oBuiltin, oBin, binA, binG, binL, aggO, litA, intA, ltF_eq, eqF_eq, oIndexAddr, cond_true, cond_false, Bool.not_true, Bool.not_false, decide_true, decide_false, blt_eq, tt_beq, tf_beq, ft_beq, ff_beq, Bool.and_true, Bool.true_and, Option.some.injEq, I, Bo, addI, subI, oExtract, Bool.not_eq_true', fieldAddrA, oFieldAddr, oLoad, oStore, isAggD, aggH, oneH, skipH, Nat.add_eq_left, Nat.left_eq_add, Nat.succ_ne_self, fieldA, partA, cellsOf, List.length_cons, List.length_nil, Nat.reduceAdd, Nat.zero_add, Nat.add_zero, Nat.mul_one, Nat.reduceMul, nbeq_self, onesA_cons', onesA_nil, oneA, Value.oneCell', Nat.reduceLT, ty3, ti3, ty22, ti22, ty24, ti24, ty28, ti28, ty65, ti65, a0, a1, hb1, hb2, hb3, la, r16, z, lb, r16b, z2, mb0, ma1, hla, z3, ma0, mb1, hlb, oFn, eqA, eqD, eqOp, nilCheckA, hs9, l9, aggR, resCell]; rfl) ?_ ?_ <;> intro hb <;> first | (exfalso; exact Bool.noConfusion hb) | skip)
      | refine wc_block ?_
      | refine wc_skip ?_
      | refine wc_scope (by decide) ?_
      | refine wc_label ?_
      | refine wc_exit ?_
      | refine wc_ret ?_
      | refine wv_ret (by simp only [resA, resOne]; simp only [oUn_not, beq_self_eq_true, eq_self, pv_mul, List.toList_toArray, opsA_cons, opsA_nil, wantedA, guardA, yieldA, stepA_t, stepA_f, callA, calleeA, targetA, runOp_c, runOp_n, opA, ev, evs, evo, consO, consOO, withH, pickA, afterA_s, putA, T.get_put, Nat.reduceEqDiff, reduceIte, List.getElem?_toArray, List.getElem?_cons_zero, List.getElem?_cons_succ, oBuiltin, oBin, binA, binG, binL, aggO, litA, intA, ltF_eq, eqF_eq, oIndexAddr, cond_true, cond_false, Bool.not_true, Bool.not_false, decide_true, decide_false, blt_eq, tt_beq, tf_beq, ft_beq, ff_beq, Bool.and_true, Bool.true_and, Option.some.injEq, I, Bo, addI, subI, oExtract, Bool.not_eq_true', fieldAddrA, oFieldAddr, oLoad, oStore, isAggD, aggH, oneH, skipH, Nat.add_eq_left, Nat.left_eq_add, Nat.succ_ne_self, fieldA, partA, cellsOf, List.length_cons, List.length_nil, Nat.reduceAdd, Nat.zero_add, Nat.add_zero, Nat.mul_one, Nat.reduceMul, nbeq_self, onesA_cons', onesA_nil, oneA, Value.oneCell', Nat.reduceLT, ty3, ti3, ty22, ti22, ty24, ti24, ty28, ti28, ty65, ti65, a0, a1, hb1, hb2, hb3, la, r16, z, lb, r16b, z2, mb0, ma1, hla, z3, ma0, mb1, hlb, oFn, eqA, eqD, eqOp, nilCheckA, hs9, l9, aggR, resCell]; rfl) ?_)
    have xx := x03.trans x34
    have kx := xx.c
    all_goals exact ⟨⟨x9, _, rfl, os, ow.only o9 (fun k hk => by have := on k hk; omega)⟩, fun s' e' k hk => by cases e'; have := on k hk; omega⟩

end Go.Proofs.Ytdbajhklnaekjaa
