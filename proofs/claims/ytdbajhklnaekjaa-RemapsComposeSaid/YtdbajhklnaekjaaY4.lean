import Derived.Test.YtdbajhklnaekjaaY3
import Derived.KernelRfl
namespace Go.Proofs.Ytdbajhklnaekjaa
open Go Go.Proofs Go.RowKit
set_option linter.unusedSimpArgs false
set_option linter.unusedVariables false
open Go.Proofs.Abs
theorem IsL_fr {h h' : Hp} {v : AV} {xs : List AV} (r : IsL h v xs) {P : Nat → Prop} (f : Fr P h h') (hp : ∀ n, nmO v = some n → ¬ P n) : IsL h' v xs := by
  rcases r with h1 | ⟨nm, off, rest, cap, z, rfl, h2, h3⟩
  · exact .inl h1
  · exact .inr ⟨nm, off, rest, cap, z, rfl, Nat.lt_of_lt_of_le h2 f.c, fun k x hx => by
      have := h3 k x hx
      unfold Abs.load at this ⊢
      rw [f.ro, f.m nm h2 (hp nm rfl)]
      exact this⟩
theorem OwnS.only {h h' : Hp} {g : AV} {xs : List Int} (o : OwnS h g xs) {n : Nat} (f : Only n h h') (hn : ∀ k, nmO g = some k → n < k) : OwnS h' g xs :=
  ⟨IsL_fr o.isL (f.fr (P := fun k => k = n) rfl) (fun k hk e => by have := hn k hk; omega), o.cap⟩
structure ResM (h h' : Hp) (r : AV) (o : Int) (xs : List Int) (code : Int) : Prop where
  x : Ext h h'
  s : ∃ s, r = .tup [.agg [I o, s], I code] ∧ oneA s = true ∧ OwnS h' s xs
set_option maxHeartbeats 4000000 in
theorem c21 (d : Nat) (h : Hp) (n : Nat)  (hn : n ≤ 4096) : Wv (runA ctx 5000 (d + 3) 21 [I (Int.ofNat n)] h) (fun r h' => ResM h h' r (Int.ofNat n) ((List.range n).map fun (i : Nat) => (i : Int)) 0) := by
  obtain ⟨h1, hb1, x1, k1, b1⟩ := alloc_new h 24 (ti := ti24) rfl
  simp only [ti24] at hb1
  have xK : Ext h h1 := x1
  have z1 : decide (Int.ofNat n < 0) = false := by first | (simp; done) | (simp; omega)
  have z2 : decide (4096 < Int.ofNat n) = false := by first | (simp; done) | (simp; omega)
  refine wv_run fn21 rfl ?_
  have a0 : (enterEnv [I (Int.ofNat n)] Try.f21.ntmps).get 0 = some (I (Int.ofNat n)) := enter_get1 _ _ _
  generalize enterEnv [I (Int.ofNat n)] Try.f21.ntmps = e at a0 ⊢
  unfold Try.f21
  dsimp only
  repeat' (first
    | refine wc_seq ?_
    | (refine wc_region rfl ?_; simp only [oUn_not, beq_self_eq_true, eq_self, pv_mul, List.toList_toArray, opsA_cons, opsA_nil, wantedA, guardA, yieldA, stepA_t, stepA_f, callA, calleeA, targetA, runOp_c, runOp_n, opA, ev, evs, evo, consO, consOO, withH, pickA, afterA_s, putA, T.get_put, Nat.reduceEqDiff, reduceIte, List.getElem?_toArray, List.getElem?_cons_zero, List.getElem?_cons_succ, oBuiltin, oBin, binA, binG, binL, aggO, litA, intA, ltF_eq, eqF_eq, oIndexAddr, cond_true, cond_false, Bool.not_true, Bool.not_false, decide_true, decide_false, blt_eq, tt_beq, tf_beq, ft_beq, ff_beq, Bool.and_true, Bool.true_and, Option.some.injEq, I, Bo, addI, subI, oExtract, Bool.not_eq_true', fieldAddrA, oFieldAddr, oLoad, oStore, isAggD, aggH, oneH, skipH, Nat.add_eq_left, Nat.left_eq_add, Nat.succ_ne_self, fieldA, partA, cellsOf, List.length_cons, List.length_nil, Nat.reduceAdd, Nat.zero_add, Nat.add_zero, Nat.mul_one, Nat.reduceMul, nbeq_self, onesA_cons', onesA_nil, oneA, Value.oneCell', Nat.reduceLT, ty3, ti3, ty24, ti24, ty65, ti65, a0, hb1, z1, z2, uv, oFn, bld24z]; refine ⟨_, _, rfl, ?_⟩)
    | (refine wc_cond (by simp only [oUn_not, beq_self_eq_true, eq_self, pv_mul, List.toList_toArray, opsA_cons, opsA_nil, wantedA, guardA, yieldA, stepA_t, stepA_f, callA, calleeA, targetA, runOp_c, runOp_n, opA, ev, evs, evo, consO, consOO, withH, pickA, afterA_s, putA, T.get_put, Nat.reduceEqDiff, reduceIte, List.getElem?_toArray, List.getElem?_cons_zero, List.getElem?_cons_succ, oBuiltin, oBin, binA, binG, binL, aggO, litA, intA, ltF_eq, eqF_eq, oIndexAddr, cond_true, cond_false, Bool.not_true, Bool.not_false, decide_true, decide_false, blt_eq, tt_beq, tf_beq, ft_beq, ff_beq, Bool.and_true, Bool.true_and, Option.some.injEq, I, Bo, addI, subI, oExtract, Bool.not_eq_true', fieldAddrA, oFieldAddr, oLoad, oStore, isAggD, aggH, oneH, skipH, Nat.add_eq_left, Nat.left_eq_add, Nat.succ_ne_self, fieldA, partA, cellsOf, List.length_cons, List.length_nil, Nat.reduceAdd, Nat.zero_add, Nat.add_zero, Nat.mul_one, Nat.reduceMul, nbeq_self, onesA_cons', onesA_nil, oneA, Value.oneCell', Nat.reduceLT, ty3, ti3, ty24, ti24, ty65, ti65, a0, hb1, z1, z2, uv, oFn, bld24z]; rfl) ?_ ?_ <;> intro hb <;> first | (exfalso; exact Bool.noConfusion hb) | skip)
    | refine wc_block ?_
    | refine wc_skip ?_
    | refine wc_scope (by decide) ?_
    | refine wc_label ?_
    | refine wc_exit ?_
    | refine wc_ret ?_
    | refine wv_ret (by simp only [resA, resOne]; simp only [oUn_not, beq_self_eq_true, eq_self, pv_mul, List.toList_toArray, opsA_cons, opsA_nil, wantedA, guardA, yieldA, stepA_t, stepA_f, callA, calleeA, targetA, runOp_c, runOp_n, opA, ev, evs, evo, consO, consOO, withH, pickA, afterA_s, putA, T.get_put, Nat.reduceEqDiff, reduceIte, List.getElem?_toArray, List.getElem?_cons_zero, List.getElem?_cons_succ, oBuiltin, oBin, binA, binG, binL, aggO, litA, intA, ltF_eq, eqF_eq, oIndexAddr, cond_true, cond_false, Bool.not_true, Bool.not_false, decide_true, decide_false, blt_eq, tt_beq, tf_beq, ft_beq, ff_beq, Bool.and_true, Bool.true_and, Option.some.injEq, I, Bo, addI, subI, oExtract, Bool.not_eq_true', fieldAddrA, oFieldAddr, oLoad, oStore, isAggD, aggH, oneH, skipH, Nat.add_eq_left, Nat.left_eq_add, Nat.succ_ne_self, fieldA, partA, cellsOf, List.length_cons, List.length_nil, Nat.reduceAdd, Nat.zero_add, Nat.add_zero, Nat.mul_one, Nat.reduceMul, nbeq_self, onesA_cons', onesA_nil, oneA, Value.oneCell', Nat.reduceLT, ty3, ti3, ty24, ti24, ty65, ti65, a0, hb1, z1, z2, uv, oFn, bld24z]; rfl) ?_)
  · (refine wc_region rfl ?_; simp only [oUn_not, beq_self_eq_true, eq_self, pv_mul, List.toList_toArray, opsA_cons, opsA_nil, wantedA, guardA, yieldA, stepA_t, stepA_f, callA, calleeA, targetA, runOp_c, runOp_n, opA, ev, evs, evo, consO, consOO, withH, pickA, afterA_s, putA, T.get_put, Nat.reduceEqDiff, reduceIte, List.getElem?_toArray, List.getElem?_cons_zero, List.getElem?_cons_succ, oBuiltin, oBin, binA, binG, binL, aggO, litA, intA, ltF_eq, eqF_eq, oIndexAddr, cond_true, cond_false, Bool.not_true, Bool.not_false, decide_true, decide_false, blt_eq, tt_beq, tf_beq, ft_beq, ff_beq, Bool.and_true, Bool.true_and, Option.some.injEq, I, Bo, addI, subI, oExtract, Bool.not_eq_true', fieldAddrA, oFieldAddr, oLoad, oStore, isAggD, aggH, oneH, skipH, Nat.add_eq_left, Nat.left_eq_add, Nat.succ_ne_self, fieldA, partA, cellsOf, List.length_cons, List.length_nil, Nat.reduceAdd, Nat.zero_add, Nat.add_zero, Nat.mul_one, Nat.reduceMul, nbeq_self, onesA_cons', onesA_nil, oneA, Value.oneCell', Nat.reduceLT, ty3, ti3, ty24, ti24, ty65, ti65, a0, hb1, z1, z2, uv, oFn, bld24z]; refine wo_call (c33 d h1 (Int.ofNat n) n (fun i => i) hn (fun i _ h' _ => c37 d h' i)) ?_; rintro _ h8 ⟨x8, s, rfl, os, ow, on, _⟩; obtain ⟨h9, hs9, o9, _, _, l9⟩ := st24 (x8.cell (by omega) (b1 0 (I 0) rfl)) (x8.cell (by omega) (b1 1 nilS rfl)) (x := I (Int.ofNat n)) (y := s) rfl os; simp only [oUn_not, beq_self_eq_true, eq_self, pv_mul, List.toList_toArray, opsA_cons, opsA_nil, wantedA, guardA, yieldA, stepA_t, stepA_f, callA, calleeA, targetA, runOp_c, runOp_n, opA, ev, evs, evo, consO, consOO, withH, pickA, afterA_s, putA, T.get_put, Nat.reduceEqDiff, reduceIte, List.getElem?_toArray, List.getElem?_cons_zero, List.getElem?_cons_succ, oBuiltin, oBin, binA, binG, binL, aggO, litA, intA, ltF_eq, eqF_eq, oIndexAddr, cond_true, cond_false, Bool.not_true, Bool.not_false, decide_true, decide_false, blt_eq, tt_beq, tf_beq, ft_beq, ff_beq, Bool.and_true, Bool.true_and, Option.some.injEq, I, Bo, addI, subI, oExtract, Bool.not_eq_true', fieldAddrA, oFieldAddr, oLoad, oStore, isAggD, aggH, oneH, skipH, Nat.add_eq_left, Nat.left_eq_add, Nat.succ_ne_self, fieldA, partA, cellsOf, List.length_cons, List.length_nil, Nat.reduceAdd, Nat.zero_add, Nat.add_zero, Nat.mul_one, Nat.reduceMul, nbeq_self, onesA_cons', onesA_nil, oneA, Value.oneCell', Nat.reduceLT, ty3, ti3, ty24, ti24, ty65, ti65, a0, hb1, z1, z2, uv, oFn, bld24z, hs9]; refine ⟨_, _, rfl, ?_⟩)
    have kk9 := o9.c
    have kk8 := x8.c
    have x9 : Ext h h9 := Fr.from (xK.trans x8) (o9.fr (P := fun k => k = h.c) rfl) (fun k e => by omega)
    repeat' (first
      | refine wc_seq ?_
      | (refine wc_region rfl ?_; simp only [oUn_not, beq_self_eq_true, eq_self, pv_mul, List.toList_toArray, opsA_cons, opsA_nil, wantedA, guardA, yieldA, stepA_t, stepA_f, callA, calleeA, targetA, runOp_c, runOp_n, opA, ev, evs, evo, consO, consOO, withH, pickA, afterA_s, putA, T.get_put, Nat.reduceEqDiff, reduceIte, List.getElem?_toArray, List.getElem?_cons_zero, List.getElem?_cons_succ, oBuiltin, oBin, binA, binG, binL, aggO, litA, intA, ltF_eq, eqF_eq, oIndexAddr, cond_true, cond_false, Bool.not_true, Bool.not_false, decide_true, decide_false, blt_eq, tt_beq, tf_beq, ft_beq, ff_beq, Bool.and_true, Bool.true_and, Option.some.injEq, I, Bo, addI, subI, oExtract, Bool.not_eq_true', fieldAddrA, oFieldAddr, oLoad, oStore, isAggD, aggH, oneH, skipH, Nat.add_eq_left, Nat.left_eq_add, Nat.succ_ne_self, fieldA, partA, cellsOf, List.length_cons, List.length_nil, Nat.reduceAdd, Nat.zero_add, Nat.add_zero, Nat.mul_one, Nat.reduceMul, nbeq_self, onesA_cons', onesA_nil, oneA, Value.oneCell', Nat.reduceLT, ty3, ti3, ty24, ti24, ty65, ti65, a0, hb1, z1, z2, uv, oFn, bld24z, hs9, l9, aggR, resCell]; refine ⟨_, _, rfl, ?_⟩)
      | (refine wc_cond (by simp only [oUn_not, beq_self_eq_true, eq_self, pv_mul, List.toList_toArray, opsA_cons, opsA_nil, wantedA, guardA, yieldA, stepA_t, stepA_f, callA, calleeA, targetA, runOp_c, runOp_n, opA, ev, evs, evo, consO, consOO, withH, pickA, afterA_s, putA, T.get_put, Nat.reduceEqDiff, reduceIte, List.getElem?_toArray, List.getElem?_cons_zero, List.getElem?_cons_succ, oBuiltin, oBin, binA, binG, binL, aggO, litA, intA, ltF_eq, eqF_eq, oIndexAddr, cond_true, cond_false, Bool.not_true, Bool.not_false, decide_true, decide_false, blt_eq, tt_beq, tf_beq, ft_beq, ff_beq, Bool.and_true, Bool.true_and, Option.some.injEq, I, Bo, addI, subI, oExtract, Bool.not_eq_true', fieldAddrA, oFieldAddr, oLoad, oStore, isAggD, aggH, oneH, skipH, Nat.add_eq_left, Nat.left_eq_add, Nat.succ_ne_self, fieldA, partA, cellsOf, List.length_cons, List.length_nil, Nat.reduceAdd, Nat.zero_add, Nat.add_zero, Nat.mul_one, Nat.reduceMul, nbeq_self, onesA_cons', onesA_nil, oneA, Value.oneCell', Nat.reduceLT, ty3, ti3, ty24, ti24, ty65, ti65, a0, hb1, z1, z2, uv, oFn, bld24z, hs9, l9, aggR, resCell]; rfl) ?_ ?_ <;> intro hb <;> first | (exfalso; exact Bool.noConfusion hb) | skip)
      | refine wc_block ?_
      | refine wc_skip ?_
      | refine wc_scope (by decide) ?_
      | refine wc_label ?_
      | refine wc_exit ?_
      | refine wc_ret ?_
      | refine wv_ret (by simp only [resA, resOne]; simp only [oUn_not, beq_self_eq_true, eq_self, pv_mul, List.toList_toArray, opsA_cons, opsA_nil, wantedA, guardA, yieldA, stepA_t, stepA_f, callA, calleeA, targetA, runOp_c, runOp_n, opA, ev, evs, evo, consO, consOO, withH, pickA, afterA_s, putA, T.get_put, Nat.reduceEqDiff, reduceIte, List.getElem?_toArray, List.getElem?_cons_zero, List.getElem?_cons_succ, oBuiltin, oBin, binA, binG, binL, aggO, litA, intA, ltF_eq, eqF_eq, oIndexAddr, cond_true, cond_false, Bool.not_true, Bool.not_false, decide_true, decide_false, blt_eq, tt_beq, tf_beq, ft_beq, ff_beq, Bool.and_true, Bool.true_and, Option.some.injEq, I, Bo, addI, subI, oExtract, Bool.not_eq_true', fieldAddrA, oFieldAddr, oLoad, oStore, isAggD, aggH, oneH, skipH, Nat.add_eq_left, Nat.left_eq_add, Nat.succ_ne_self, fieldA, partA, cellsOf, List.length_cons, List.length_nil, Nat.reduceAdd, Nat.zero_add, Nat.add_zero, Nat.mul_one, Nat.reduceMul, nbeq_self, onesA_cons', onesA_nil, oneA, Value.oneCell', Nat.reduceLT, ty3, ti3, ty24, ti24, ty65, ti65, a0, hb1, z1, z2, uv, oFn, bld24z, hs9, l9, aggR, resCell]; rfl) ?_)
    all_goals exact ⟨x9, _, rfl, os, ow.only o9 (fun k hk => by have := on k hk; omega)⟩
set_option maxHeartbeats 4000000 in
theorem c21l (d : Nat) (h : Hp)  (n : Int) (hn : n < 0) : Wv (runA ctx 5000 (d + 3) 21 [I n] h) (fun r h' => ResM h h' r (0) ([]) 4) := by
  obtain ⟨h1, hb1, x1, k1, b1⟩ := alloc_new h 24 (ti := ti24) rfl
  simp only [ti24] at hb1
  have xK : Ext h h1 := x1
  have z1 : decide (n < 0) = true := by first | (simp; done) | (simp; omega)
  obtain ⟨h9, hs9, o9, _, _, l9⟩ := st24 (b1 0 (I 0) rfl) (b1 1 nilS rfl) (x := I 0) (y := nilS) rfl rfl
  have x9 : Ext h h9 := Fr.from xK (o9.fr (P := fun k => k = h.c) rfl) (fun k e => by omega)
  refine wv_run fn21 rfl ?_
  have a0 : (enterEnv [I n] Try.f21.ntmps).get 0 = some (I n) := enter_get1 _ _ _
  generalize enterEnv [I n] Try.f21.ntmps = e at a0 ⊢
  unfold Try.f21
  dsimp only
  repeat' (first
    | refine wc_seq ?_
    | (refine wc_region rfl ?_; simp only [oUn_not, beq_self_eq_true, eq_self, pv_mul, List.toList_toArray, opsA_cons, opsA_nil, wantedA, guardA, yieldA, stepA_t, stepA_f, callA, calleeA, targetA, runOp_c, runOp_n, opA, ev, evs, evo, consO, consOO, withH, pickA, afterA_s, putA, T.get_put, Nat.reduceEqDiff, reduceIte, List.getElem?_toArray, List.getElem?_cons_zero, List.getElem?_cons_succ, oBuiltin, oBin, binA, binG, binL, aggO, litA, intA, ltF_eq, eqF_eq, oIndexAddr, cond_true, cond_false, Bool.not_true, Bool.not_false, decide_true, decide_false, blt_eq, tt_beq, tf_beq, ft_beq, ff_beq, Bool.and_true, Bool.true_and, Option.some.injEq, I, Bo, addI, subI, oExtract, Bool.not_eq_true', fieldAddrA, oFieldAddr, oLoad, oStore, isAggD, aggH, oneH, skipH, Nat.add_eq_left, Nat.left_eq_add, Nat.succ_ne_self, fieldA, partA, cellsOf, List.length_cons, List.length_nil, Nat.reduceAdd, Nat.zero_add, Nat.add_zero, Nat.mul_one, Nat.reduceMul, nbeq_self, onesA_cons', onesA_nil, oneA, Value.oneCell', Nat.reduceLT, ty3, ti3, ty24, ti24, ty65, ti65, a0, hb1, z1, uv, oFn, bld24z, hs9, l9, aggR, resCell, oBuild, evParts, consP]; refine ⟨_, _, rfl, ?_⟩)
    | (refine wc_cond (by simp only [oUn_not, beq_self_eq_true, eq_self, pv_mul, List.toList_toArray, opsA_cons, opsA_nil, wantedA, guardA, yieldA, stepA_t, stepA_f, callA, calleeA, targetA, runOp_c, runOp_n, opA, ev, evs, evo, consO, consOO, withH, pickA, afterA_s, putA, T.get_put, Nat.reduceEqDiff, reduceIte, List.getElem?_toArray, List.getElem?_cons_zero, List.getElem?_cons_succ, oBuiltin, oBin, binA, binG, binL, aggO, litA, intA, ltF_eq, eqF_eq, oIndexAddr, cond_true, cond_false, Bool.not_true, Bool.not_false, decide_true, decide_false, blt_eq, tt_beq, tf_beq, ft_beq, ff_beq, Bool.and_true, Bool.true_and, Option.some.injEq, I, Bo, addI, subI, oExtract, Bool.not_eq_true', fieldAddrA, oFieldAddr, oLoad, oStore, isAggD, aggH, oneH, skipH, Nat.add_eq_left, Nat.left_eq_add, Nat.succ_ne_self, fieldA, partA, cellsOf, List.length_cons, List.length_nil, Nat.reduceAdd, Nat.zero_add, Nat.add_zero, Nat.mul_one, Nat.reduceMul, nbeq_self, onesA_cons', onesA_nil, oneA, Value.oneCell', Nat.reduceLT, ty3, ti3, ty24, ti24, ty65, ti65, a0, hb1, z1, uv, oFn, bld24z, hs9, l9, aggR, resCell, oBuild, evParts, consP]; rfl) ?_ ?_ <;> intro hb <;> first | (exfalso; exact Bool.noConfusion hb) | skip)
    | refine wc_block ?_
    | refine wc_skip ?_
    | refine wc_scope (by decide) ?_
    | refine wc_label ?_
    | refine wc_exit ?_
    | refine wc_ret ?_
    | refine wv_ret (by simp only [resA, resOne]; simp only [oUn_not, beq_self_eq_true, eq_self, pv_mul, List.toList_toArray, opsA_cons, opsA_nil, wantedA, guardA, yieldA, stepA_t, stepA_f, callA, calleeA, targetA, runOp_c, runOp_n, opA, ev, evs, evo, consO, consOO, withH, pickA, afterA_s, putA, T.get_put, Nat.reduceEqDiff, reduceIte, List.getElem?_toArray, List.getElem?_cons_zero, List.getElem?_cons_succ, oBuiltin, oBin, binA, binG, binL, aggO, litA, intA, ltF_eq, eqF_eq, oIndexAddr, cond_true, cond_false, Bool.not_true, Bool.not_false, decide_true, decide_false, blt_eq, tt_beq, tf_beq, ft_beq, ff_beq, Bool.and_true, Bool.true_and, Option.some.injEq, I, Bo, addI, subI, oExtract, Bool.not_eq_true', fieldAddrA, oFieldAddr, oLoad, oStore, isAggD, aggH, oneH, skipH, Nat.add_eq_left, Nat.left_eq_add, Nat.succ_ne_self, fieldA, partA, cellsOf, List.length_cons, List.length_nil, Nat.reduceAdd, Nat.zero_add, Nat.add_zero, Nat.mul_one, Nat.reduceMul, nbeq_self, onesA_cons', onesA_nil, oneA, Value.oneCell', Nat.reduceLT, ty3, ti3, ty24, ti24, ty65, ti65, a0, hb1, z1, uv, oFn, bld24z, hs9, l9, aggR, resCell, oBuild, evParts, consP]; rfl) ?_)
  all_goals exact ⟨x9, _, rfl, rfl, ownS_nil _⟩
set_option maxHeartbeats 4000000 in
theorem c21b (d : Nat) (h : Hp)  (n : Int) (h0 : ¬ n < 0) (hn : 4096 < n) : Wv (runA ctx 5000 (d + 3) 21 [I n] h) (fun r h' => ResM h h' r (0) ([]) 4) := by
  obtain ⟨h1, hb1, x1, k1, b1⟩ := alloc_new h 24 (ti := ti24) rfl
  simp only [ti24] at hb1
  have xK : Ext h h1 := x1
  have z1 : decide (n < 0) = false := by first | (simp; done) | (simp; omega)
  have z2 : decide (4096 < n) = true := by first | (simp; done) | (simp; omega)
  obtain ⟨h9, hs9, o9, _, _, l9⟩ := st24 (b1 0 (I 0) rfl) (b1 1 nilS rfl) (x := I 0) (y := nilS) rfl rfl
  have x9 : Ext h h9 := Fr.from xK (o9.fr (P := fun k => k = h.c) rfl) (fun k e => by omega)
  refine wv_run fn21 rfl ?_
  have a0 : (enterEnv [I n] Try.f21.ntmps).get 0 = some (I n) := enter_get1 _ _ _
  generalize enterEnv [I n] Try.f21.ntmps = e at a0 ⊢
  unfold Try.f21
  dsimp only
  repeat' (first
    | refine wc_seq ?_
    | (refine wc_region rfl ?_; simp only [oUn_not, beq_self_eq_true, eq_self, pv_mul, List.toList_toArray, opsA_cons, opsA_nil, wantedA, guardA, yieldA, stepA_t, stepA_f, callA, calleeA, targetA, runOp_c, runOp_n, opA, ev, evs, evo, consO, consOO, withH, pickA, afterA_s, putA, T.get_put, Nat.reduceEqDiff, reduceIte, List.getElem?_toArray, List.getElem?_cons_zero, List.getElem?_cons_succ, oBuiltin, oBin, binA, binG, binL, aggO, litA, intA, ltF_eq, eqF_eq, oIndexAddr, cond_true, cond_false, Bool.not_true, Bool.not_false, decide_true, decide_false, blt_eq, tt_beq, tf_beq, ft_beq, ff_beq, Bool.and_true, Bool.true_and, Option.some.injEq, I, Bo, addI, subI, oExtract, Bool.not_eq_true', fieldAddrA, oFieldAddr, oLoad, oStore, isAggD, aggH, oneH, skipH, Nat.add_eq_left, Nat.left_eq_add, Nat.succ_ne_self, fieldA, partA, cellsOf, List.length_cons, List.length_nil, Nat.reduceAdd, Nat.zero_add, Nat.add_zero, Nat.mul_one, Nat.reduceMul, nbeq_self, onesA_cons', onesA_nil, oneA, Value.oneCell', Nat.reduceLT, ty3, ti3, ty24, ti24, ty65, ti65, a0, hb1, z1, z2, uv, oFn, bld24z, hs9, l9, aggR, resCell, oBuild, evParts, consP]; refine ⟨_, _, rfl, ?_⟩)
    | (refine wc_cond (by simp only [oUn_not, beq_self_eq_true, eq_self, pv_mul, List.toList_toArray, opsA_cons, opsA_nil, wantedA, guardA, yieldA, stepA_t, stepA_f, callA, calleeA, targetA, runOp_c, runOp_n, opA, ev, evs, evo, consO, consOO, withH, pickA, afterA_s, putA, T.get_put, Nat.reduceEqDiff, reduceIte, List.getElem?_toArray, List.getElem?_cons_zero, List.getElem?_cons_succ, oBuiltin, oBin, binA, binG, binL, aggO, litA, intA, ltF_eq, eqF_eq, oIndexAddr, cond_true, cond_false, Bool.not_true, Bool.not_false, decide_true, decide_false, blt_eq, tt_beq, tf_beq, ft_beq, ff_beq, Bool.and_true, Bool.true_and, Option.some.injEq, I, Bo, addI, subI, oExtract, Bool.not_eq_true', fieldAddrA, oFieldAddr, oLoad, oStore, isAggD, aggH, oneH, skipH, Nat.add_eq_left, Nat.left_eq_add, Nat.succ_ne_self, fieldA, partA, cellsOf, List.length_cons, List.length_nil, Nat.reduceAdd, Nat.zero_add, Nat.add_zero, Nat.mul_one, Nat.reduceMul, nbeq_self, onesA_cons', onesA_nil, oneA, Value.oneCell', Nat.reduceLT, ty3, ti3, ty24, ti24, ty65, ti65, a0, hb1, z1, z2, uv, oFn, bld24z, hs9, l9, aggR, resCell, oBuild, evParts, consP]; rfl) ?_ ?_ <;> intro hb <;> first | (exfalso; exact Bool.noConfusion hb) | skip)
    | refine wc_block ?_
    | refine wc_skip ?_
    | refine wc_scope (by decide) ?_
    | refine wc_label ?_
    | refine wc_exit ?_
    | refine wc_ret ?_
    | refine wv_ret (by simp only [resA, resOne]; simp only [oUn_not, beq_self_eq_true, eq_self, pv_mul, List.toList_toArray, opsA_cons, opsA_nil, wantedA, guardA, yieldA, stepA_t, stepA_f, callA, calleeA, targetA, runOp_c, runOp_n, opA, ev, evs, evo, consO, consOO, withH, pickA, afterA_s, putA, T.get_put, Nat.reduceEqDiff, reduceIte, List.getElem?_toArray, List.getElem?_cons_zero, List.getElem?_cons_succ, oBuiltin, oBin, binA, binG, binL, aggO, litA, intA, ltF_eq, eqF_eq, oIndexAddr, cond_true, cond_false, Bool.not_true, Bool.not_false, decide_true, decide_false, blt_eq, tt_beq, tf_beq, ft_beq, ff_beq, Bool.and_true, Bool.true_and, Option.some.injEq, I, Bo, addI, subI, oExtract, Bool.not_eq_true', fieldAddrA, oFieldAddr, oLoad, oStore, isAggD, aggH, oneH, skipH, Nat.add_eq_left, Nat.left_eq_add, Nat.succ_ne_self, fieldA, partA, cellsOf, List.length_cons, List.length_nil, Nat.reduceAdd, Nat.zero_add, Nat.add_zero, Nat.mul_one, Nat.reduceMul, nbeq_self, onesA_cons', onesA_nil, oneA, Value.oneCell', Nat.reduceLT, ty3, ti3, ty24, ti24, ty65, ti65, a0, hb1, z1, z2, uv, oFn, bld24z, hs9, l9, aggR, resCell, oBuild, evParts, consP]; rfl) ?_)
  all_goals exact ⟨x9, _, rfl, rfl, ownS_nil _⟩
set_option maxHeartbeats 4000000 in
theorem c22 (d : Nat) (h : Hp) (n a m : Nat)  (hn : n ≤ 4096) (ha : a ≤ n) (hm : n + m ≤ 4096) : Wv (runA ctx 5000 (d + 3) 22 [I (Int.ofNat n), I (Int.ofNat a), I (Int.ofNat m)] h) (fun r h' => ResM h h' r (Int.ofNat n) ((List.range (n + m)).map fun (i : Nat) => insF (Int.ofNat a) (Int.ofNat m) i) 0) := by
  obtain ⟨h1, hb1, x1, k1, b1⟩ := box_new h 3 (I (Int.ofNat a))
  obtain ⟨h2, hb2, x2, k2, b2⟩ := box_new h1 3 (I (Int.ofNat m))
  obtain ⟨h3, hb3, x3, k3, b3⟩ := alloc_new h2 24 (ti := ti24) rfl
  simp only [ti24] at hb3
  have cc1 := x3.cell (by omega) (x2.cell (by omega) ((b1 0 _ rfl)))
  have l1 := cc1.load
  have cc2 := x3.cell (by omega) ((b2 0 _ rfl))
  have l2 := cc2.load
  have xK : Ext h h3 := ((x1.trans x2).trans x3)
  have z1 : decide (Int.ofNat n < 0) = false := by first | (simp; done) | (simp; omega)
  have z2 : decide (4096 < Int.ofNat n) = false := by first | (simp; done) | (simp; omega)
  have z3 : decide (Int.ofNat a < 0) = false := by first | (simp; done) | (simp; omega)
  have z4 : decide (Int.ofNat n < Int.ofNat a) = false := by first | (simp; done) | (simp; omega)
  have z5 : decide (Int.ofNat m < 0) = false := by first | (simp; done) | (simp; omega)
  have w1 : IntKind.wrap .i64 (4096 - Int.ofNat n) = 4096 - Int.ofNat n := by rw [IntKind.wrap_i64]; simp only [Int.ofNat_eq_natCast]; omega
  have z6 : decide (4096 - Int.ofNat n < Int.ofNat m) = false := by first | (simp; done) | (simp; omega)
  have w2 : IntKind.wrap .i64 (Int.ofNat n + Int.ofNat m) = Int.ofNat (n + m) := by rw [IntKind.wrap_i64]; simp only [Int.ofNat_eq_natCast]; omega
  refine wv_run fn22 rfl ?_
  have a0 : (enterEnv [I (Int.ofNat n), I (Int.ofNat a), I (Int.ofNat m)] Try.f22.ntmps).get 0 = some (I (Int.ofNat n)) := enter_get1 _ _ _
  have a1 : (enterEnv [I (Int.ofNat n), I (Int.ofNat a), I (Int.ofNat m)] Try.f22.ntmps).get 1 = some (I (Int.ofNat a)) := enter_get2 _ _ _ _
  have a2 : (enterEnv [I (Int.ofNat n), I (Int.ofNat a), I (Int.ofNat m)] Try.f22.ntmps).get 2 = some (I (Int.ofNat m)) := enter_get3 _ _ _ _ _
  generalize enterEnv [I (Int.ofNat n), I (Int.ofNat a), I (Int.ofNat m)] Try.f22.ntmps = e at a0 a1 a2 ⊢
  unfold Try.f22
  dsimp only
  repeat' (first
    | refine wc_seq ?_
    | (refine wc_region rfl ?_; simp only [oUn_not, beq_self_eq_true, eq_self, pv_mul, List.toList_toArray, opsA_cons, opsA_nil, wantedA, guardA, yieldA, stepA_t, stepA_f, callA, calleeA, targetA, runOp_c, runOp_n, opA, ev, evs, evo, consO, consOO, withH, pickA, afterA_s, putA, T.get_put, Nat.reduceEqDiff, reduceIte, List.getElem?_toArray, List.getElem?_cons_zero, List.getElem?_cons_succ, oBuiltin, oBin, binA, binG, binL, aggO, litA, intA, ltF_eq, eqF_eq, oIndexAddr, cond_true, cond_false, Bool.not_true, Bool.not_false, decide_true, decide_false, blt_eq, tt_beq, tf_beq, ft_beq, ff_beq, Bool.and_true, Bool.true_and, Option.some.injEq, I, Bo, addI, subI, oExtract, Bool.not_eq_true', fieldAddrA, oFieldAddr, oLoad, oStore, isAggD, aggH, oneH, skipH, Nat.add_eq_left, Nat.left_eq_add, Nat.succ_ne_self, fieldA, partA, cellsOf, List.length_cons, List.length_nil, Nat.reduceAdd, Nat.zero_add, Nat.add_zero, Nat.mul_one, Nat.reduceMul, nbeq_self, onesA_cons', onesA_nil, oneA, Value.oneCell', Nat.reduceLT, ty3, ti3, ty24, ti24, ty65, ti65, a0, a1, a2, hb1, hb2, hb3, l1, l2, z1, z2, z3, z4, z5, w1, z6, w2, uv, oFn, bld24z]; refine ⟨_, _, rfl, ?_⟩)
    | (refine wc_cond (by simp only [oUn_not, beq_self_eq_true, eq_self, pv_mul, List.toList_toArray, opsA_cons, opsA_nil, wantedA, guardA, yieldA, stepA_t, stepA_f, callA, calleeA, targetA, runOp_c, runOp_n, opA, ev, evs, evo, consO, consOO, withH, pickA, afterA_s, putA, T.get_put, Nat.reduceEqDiff, reduceIte, List.getElem?_toArray, List.getElem?_cons_zero, List.getElem?_cons_succ, oBuiltin, oBin, binA, binG, binL, aggO, litA, intA, ltF_eq, eqF_eq, oIndexAddr, cond_true, cond_false, Bool.not_true, Bool.not_false, decide_true, decide_false, blt_eq, tt_beq, tf_beq, ft_beq, ff_beq, Bool.and_true, Bool.true_and, Option.some.injEq, I, Bo, addI, subI, oExtract, Bool.not_eq_true', fieldAddrA, oFieldAddr, oLoad, oStore, isAggD, aggH, oneH, skipH, Nat.add_eq_left, Nat.left_eq_add, Nat.succ_ne_self, fieldA, partA, cellsOf, List.length_cons, List.length_nil, Nat.reduceAdd, Nat.zero_add, Nat.add_zero, Nat.mul_one, Nat.reduceMul, nbeq_self, onesA_cons', onesA_nil, oneA, Value.oneCell', Nat.reduceLT, ty3, ti3, ty24, ti24, ty65, ti65, a0, a1, a2, hb1, hb2, hb3, l1, l2, z1, z2, z3, z4, z5, w1, z6, w2, uv, oFn, bld24z]; rfl) ?_ ?_ <;> intro hb <;> first | (exfalso; exact Bool.noConfusion hb) | skip)
    | refine wc_block ?_
    | refine wc_skip ?_
    | refine wc_scope (by decide) ?_
    | refine wc_label ?_
    | refine wc_exit ?_
    | refine wc_ret ?_
    | refine wv_ret (by simp only [resA, resOne]; simp only [oUn_not, beq_self_eq_true, eq_self, pv_mul, List.toList_toArray, opsA_cons, opsA_nil, wantedA, guardA, yieldA, stepA_t, stepA_f, callA, calleeA, targetA, runOp_c, runOp_n, opA, ev, evs, evo, consO, consOO, withH, pickA, afterA_s, putA, T.get_put, Nat.reduceEqDiff, reduceIte, List.getElem?_toArray, List.getElem?_cons_zero, List.getElem?_cons_succ, oBuiltin, oBin, binA, binG, binL, aggO, litA, intA, ltF_eq, eqF_eq, oIndexAddr, cond_true, cond_false, Bool.not_true, Bool.not_false, decide_true, decide_false, blt_eq, tt_beq, tf_beq, ft_beq, ff_beq, Bool.and_true, Bool.true_and, Option.some.injEq, I, Bo, addI, subI, oExtract, Bool.not_eq_true', fieldAddrA, oFieldAddr, oLoad, oStore, isAggD, aggH, oneH, skipH, Nat.add_eq_left, Nat.left_eq_add, Nat.succ_ne_self, fieldA, partA, cellsOf, List.length_cons, List.length_nil, Nat.reduceAdd, Nat.zero_add, Nat.add_zero, Nat.mul_one, Nat.reduceMul, nbeq_self, onesA_cons', onesA_nil, oneA, Value.oneCell', Nat.reduceLT, ty3, ti3, ty24, ti24, ty65, ti65, a0, a1, a2, hb1, hb2, hb3, l1, l2, z1, z2, z3, z4, z5, w1, z6, w2, uv, oFn, bld24z]; rfl) ?_)
  · (refine wc_region rfl ?_; simp only [oUn_not, beq_self_eq_true, eq_self, pv_mul, List.toList_toArray, opsA_cons, opsA_nil, wantedA, guardA, yieldA, stepA_t, stepA_f, callA, calleeA, targetA, runOp_c, runOp_n, opA, ev, evs, evo, consO, consOO, withH, pickA, afterA_s, putA, T.get_put, Nat.reduceEqDiff, reduceIte, List.getElem?_toArray, List.getElem?_cons_zero, List.getElem?_cons_succ, oBuiltin, oBin, binA, binG, binL, aggO, litA, intA, ltF_eq, eqF_eq, oIndexAddr, cond_true, cond_false, Bool.not_true, Bool.not_false, decide_true, decide_false, blt_eq, tt_beq, tf_beq, ft_beq, ff_beq, Bool.and_true, Bool.true_and, Option.some.injEq, I, Bo, addI, subI, oExtract, Bool.not_eq_true', fieldAddrA, oFieldAddr, oLoad, oStore, isAggD, aggH, oneH, skipH, Nat.add_eq_left, Nat.left_eq_add, Nat.succ_ne_self, fieldA, partA, cellsOf, List.length_cons, List.length_nil, Nat.reduceAdd, Nat.zero_add, Nat.add_zero, Nat.mul_one, Nat.reduceMul, nbeq_self, onesA_cons', onesA_nil, oneA, Value.oneCell', Nat.reduceLT, ty3, ti3, ty24, ti24, ty65, ti65, a0, a1, a2, hb1, hb2, hb3, l1, l2, z1, z2, z3, z4, z5, w1, z6, w2, uv, oFn, bld24z]; refine wo_call (c33f d h3 (Int.ofNat n) (n + m) 38 [.ptr h.c 0, .ptr h1.c 0] (fun i => insF (Int.ofNat a) (Int.ofNat m) i) hm (fun i hi h' hx => c38 d h' i (Int.ofNat a) (Int.ofNat m) h.c h1.c (hx.cell (by omega) cc1) (hx.cell (by omega) cc2) (by (try simp only [Int.ofNat_eq_natCast]); omega) (by (try simp only [Int.ofNat_eq_natCast]); omega) (by (try simp only [Int.ofNat_eq_natCast]); omega))) ?_; rintro _ h8 ⟨x8, s, rfl, os, ow, on, _⟩; obtain ⟨h9, hs9, o9, _, _, l9⟩ := st24 (x8.cell (by omega) (b3 0 (I 0) rfl)) (x8.cell (by omega) (b3 1 nilS rfl)) (x := I (Int.ofNat n)) (y := s) rfl os; simp only [oUn_not, beq_self_eq_true, eq_self, pv_mul, List.toList_toArray, opsA_cons, opsA_nil, wantedA, guardA, yieldA, stepA_t, stepA_f, callA, calleeA, targetA, runOp_c, runOp_n, opA, ev, evs, evo, consO, consOO, withH, pickA, afterA_s, putA, T.get_put, Nat.reduceEqDiff, reduceIte, List.getElem?_toArray, List.getElem?_cons_zero, List.getElem?_cons_succ, oBuiltin, oBin, binA, binG, binL, aggO, litA, intA, ltF_eq, eqF_eq, oIndexAddr, cond_true, cond_false, Bool.not_true, Bool.not_false, decide_true, decide_false, blt_eq, tt_beq, tf_beq, ft_beq, ff_beq, Bool.and_true, Bool.true_and, Option.some.injEq, I, Bo, addI, subI, oExtract, Bool.not_eq_true', fieldAddrA, oFieldAddr, oLoad, oStore, isAggD, aggH, oneH, skipH, Nat.add_eq_left, Nat.left_eq_add, Nat.succ_ne_self, fieldA, partA, cellsOf, List.length_cons, List.length_nil, Nat.reduceAdd, Nat.zero_add, Nat.add_zero, Nat.mul_one, Nat.reduceMul, nbeq_self, onesA_cons', onesA_nil, oneA, Value.oneCell', Nat.reduceLT, ty3, ti3, ty24, ti24, ty65, ti65, a0, a1, a2, hb1, hb2, hb3, l1, l2, z1, z2, z3, z4, z5, w1, z6, w2, uv, oFn, bld24z, hs9]; refine ⟨_, _, rfl, ?_⟩)
    have kk9 := o9.c
    have kk8 := x8.c
    have x9 : Ext h h9 := Fr.from (xK.trans x8) (o9.fr (P := fun k => k = h2.c) rfl) (fun k e => by omega)
    repeat' (first
      | refine wc_seq ?_
      | (refine wc_region rfl ?_; simp only [oUn_not, beq_self_eq_true, eq_self, pv_mul, List.toList_toArray, opsA_cons, opsA_nil, wantedA, guardA, yieldA, stepA_t, stepA_f, callA, calleeA, targetA, runOp_c, runOp_n, opA, ev, evs, evo, consO, consOO, withH, pickA, afterA_s, putA, T.get_put, Nat.reduceEqDiff, reduceIte, List.getElem?_toArray, List.getElem?_cons_zero, List.getElem?_cons_succ, oBuiltin, oBin, binA, binG, binL, aggO, litA, intA, ltF_eq, eqF_eq, oIndexAddr, cond_true, cond_false, Bool.not_true, Bool.not_false, decide_true, decide_false, blt_eq, tt_beq, tf_beq, ft_beq, ff_beq, Bool.and_true, Bool.true_and, Option.some.injEq, I, Bo, addI, subI, oExtract, Bool.not_eq_true', fieldAddrA, oFieldAddr, oLoad, oStore, isAggD, aggH, oneH, skipH, Nat.add_eq_left, Nat.left_eq_add, Nat.succ_ne_self, fieldA, partA, cellsOf, List.length_cons, List.length_nil, Nat.reduceAdd, Nat.zero_add, Nat.add_zero, Nat.mul_one, Nat.reduceMul, nbeq_self, onesA_cons', onesA_nil, oneA, Value.oneCell', Nat.reduceLT, ty3, ti3, ty24, ti24, ty65, ti65, a0, a1, a2, hb1, hb2, hb3, l1, l2, z1, z2, z3, z4, z5, w1, z6, w2, uv, oFn, bld24z, hs9, l9, aggR, resCell]; refine ⟨_, _, rfl, ?_⟩)
      | (refine wc_cond (by simp only [oUn_not, beq_self_eq_true, eq_self, pv_mul, List.toList_toArray, opsA_cons, opsA_nil, wantedA, guardA, yieldA, stepA_t, stepA_f, callA, calleeA, targetA, runOp_c, runOp_n, opA, ev, evs, evo, consO, consOO, withH, pickA, afterA_s, putA, T.get_put, Nat.reduceEqDiff, reduceIte, List.getElem?_toArray, List.getElem?_cons_zero, List.getElem?_cons_succ, oBuiltin, oBin, binA, binG, binL, aggO, litA, intA, ltF_eq, eqF_eq, oIndexAddr, cond_true, cond_false, Bool.not_true, Bool.not_false, decide_true, decide_false, blt_eq, tt_beq, tf_beq, ft_beq, ff_beq, Bool.and_true, Bool.true_and, Option.some.injEq, I, Bo, addI, subI, oExtract, Bool.not_eq_true', fieldAddrA, oFieldAddr, oLoad, oStore, isAggD, aggH, oneH, skipH, Nat.add_eq_left, Nat.left_eq_add, Nat.succ_ne_self, fieldA, partA, cellsOf, List.length_cons, List.length_nil, Nat.reduceAdd, Nat.zero_add, Nat.add_zero, Nat.mul_one, Nat.reduceMul, nbeq_self, onesA_cons', onesA_nil, oneA, Value.oneCell', Nat.reduceLT, ty3, ti3, ty24, ti24, ty65, ti65, a0, a1, a2, hb1, hb2, hb3, l1, l2, z1, z2, z3, z4, z5, w1, z6, w2, uv, oFn, bld24z, hs9, l9, aggR, resCell]; rfl) ?_ ?_ <;> intro hb <;> first | (exfalso; exact Bool.noConfusion hb) | skip)
      | refine wc_block ?_
      | refine wc_skip ?_
      | refine wc_scope (by decide) ?_
      | refine wc_label ?_
      | refine wc_exit ?_
      | refine wc_ret ?_
      | refine wv_ret (by simp only [resA, resOne]; simp only [oUn_not, beq_self_eq_true, eq_self, pv_mul, List.toList_toArray, opsA_cons, opsA_nil, wantedA, guardA, yieldA, stepA_t, stepA_f, callA, calleeA, targetA, runOp_c, runOp_n, opA, ev, evs, evo, consO, consOO, withH, pickA, afterA_s, putA, T.get_put, Nat.reduceEqDiff, reduceIte, List.getElem?_toArray, List.getElem?_cons_zero, List.getElem?_cons_succ, oBuiltin, oBin, binA, binG, binL, aggO, litA, intA, ltF_eq, eqF_eq, oIndexAddr, cond_true, cond_false, Bool.not_true, Bool.not_false, decide_true, decide_false, blt_eq, tt_beq, tf_beq, ft_beq, ff_beq, Bool.and_true, Bool.true_and, Option.some.injEq, I, Bo, addI, subI, oExtract, Bool.not_eq_true', fieldAddrA, oFieldAddr, oLoad, oStore, isAggD, aggH, oneH, skipH, Nat.add_eq_left, Nat.left_eq_add, Nat.succ_ne_self, fieldA, partA, cellsOf, List.length_cons, List.length_nil, Nat.reduceAdd, Nat.zero_add, Nat.add_zero, Nat.mul_one, Nat.reduceMul, nbeq_self, onesA_cons', onesA_nil, oneA, Value.oneCell', Nat.reduceLT, ty3, ti3, ty24, ti24, ty65, ti65, a0, a1, a2, hb1, hb2, hb3, l1, l2, z1, z2, z3, z4, z5, w1, z6, w2, uv, oFn, bld24z, hs9, l9, aggR, resCell]; rfl) ?_)
    all_goals exact ⟨x9, _, rfl, os, ow.only o9 (fun k hk => by have := on k hk; omega)⟩
set_option maxHeartbeats 4000000 in
theorem c22b (d : Nat) (h : Hp) (n a : Nat) (m : Int) (hn : n ≤ 4096) (ha : a ≤ n) (h0 : 0 ≤ m) (hm : 4096 - Int.ofNat n < m) : Wv (runA ctx 5000 (d + 3) 22 [I (Int.ofNat n), I (Int.ofNat a), I m] h) (fun r h' => ResM h h' r (0) ([]) 3) := by
  obtain ⟨h1, hb1, x1, k1, b1⟩ := box_new h 3 (I (Int.ofNat a))
  obtain ⟨h2, hb2, x2, k2, b2⟩ := box_new h1 3 (I m)
  obtain ⟨h3, hb3, x3, k3, b3⟩ := alloc_new h2 24 (ti := ti24) rfl
  simp only [ti24] at hb3
  have cc1 := x3.cell (by omega) (x2.cell (by omega) ((b1 0 _ rfl)))
  have l1 := cc1.load
  have cc2 := x3.cell (by omega) ((b2 0 _ rfl))
  have l2 := cc2.load
  have xK : Ext h h3 := ((x1.trans x2).trans x3)
  have z1 : decide (Int.ofNat n < 0) = false := by first | (simp; done) | (simp; omega)
  have z2 : decide (4096 < Int.ofNat n) = false := by first | (simp; done) | (simp; omega)
  have z3 : decide (Int.ofNat a < 0) = false := by first | (simp; done) | (simp; omega)
  have z4 : decide (Int.ofNat n < Int.ofNat a) = false := by first | (simp; done) | (simp; omega)
  have z5 : decide (m < 0) = false := by first | (simp; done) | (simp; omega)
  have w1 : IntKind.wrap .i64 (4096 - Int.ofNat n) = 4096 - Int.ofNat n := by rw [IntKind.wrap_i64]; simp only [Int.ofNat_eq_natCast]; omega
  have z6 : decide (4096 - Int.ofNat n < m) = true := by simpa using hm
  obtain ⟨h9, hs9, o9, _, _, l9⟩ := st24 (b3 0 (I 0) rfl) (b3 1 nilS rfl) (x := I 0) (y := nilS) rfl rfl
  have x9 : Ext h h9 := Fr.from xK (o9.fr (P := fun k => k = h2.c) rfl) (fun k e => by omega)
  refine wv_run fn22 rfl ?_
  have a0 : (enterEnv [I (Int.ofNat n), I (Int.ofNat a), I m] Try.f22.ntmps).get 0 = some (I (Int.ofNat n)) := enter_get1 _ _ _
  have a1 : (enterEnv [I (Int.ofNat n), I (Int.ofNat a), I m] Try.f22.ntmps).get 1 = some (I (Int.ofNat a)) := enter_get2 _ _ _ _
  have a2 : (enterEnv [I (Int.ofNat n), I (Int.ofNat a), I m] Try.f22.ntmps).get 2 = some (I m) := enter_get3 _ _ _ _ _
  generalize enterEnv [I (Int.ofNat n), I (Int.ofNat a), I m] Try.f22.ntmps = e at a0 a1 a2 ⊢
  unfold Try.f22
  dsimp only
  repeat' (first
    | refine wc_seq ?_
    | (refine wc_region rfl ?_; simp only [oUn_not, beq_self_eq_true, eq_self, pv_mul, List.toList_toArray, opsA_cons, opsA_nil, wantedA, guardA, yieldA, stepA_t, stepA_f, callA, calleeA, targetA, runOp_c, runOp_n, opA, ev, evs, evo, consO, consOO, withH, pickA, afterA_s, putA, T.get_put, Nat.reduceEqDiff, reduceIte, List.getElem?_toArray, List.getElem?_cons_zero, List.getElem?_cons_succ, oBuiltin, oBin, binA, binG, binL, aggO, litA, intA, ltF_eq, eqF_eq, oIndexAddr, cond_true, cond_false, Bool.not_true, Bool.not_false, decide_true, decide_false, blt_eq, tt_beq, tf_beq, ft_beq, ff_beq, Bool.and_true, Bool.true_and, Option.some.injEq, I, Bo, addI, subI, oExtract, Bool.not_eq_true', fieldAddrA, oFieldAddr, oLoad, oStore, isAggD, aggH, oneH, skipH, Nat.add_eq_left, Nat.left_eq_add, Nat.succ_ne_self, fieldA, partA, cellsOf, List.length_cons, List.length_nil, Nat.reduceAdd, Nat.zero_add, Nat.add_zero, Nat.mul_one, Nat.reduceMul, nbeq_self, onesA_cons', onesA_nil, oneA, Value.oneCell', Nat.reduceLT, ty3, ti3, ty24, ti24, ty65, ti65, a0, a1, a2, hb1, hb2, hb3, l1, l2, z1, z2, z3, z4, z5, w1, z6, uv, oFn, bld24z, hs9, l9, aggR, resCell, oBuild, evParts, consP]; refine ⟨_, _, rfl, ?_⟩)
    | (refine wc_cond (by simp only [oUn_not, beq_self_eq_true, eq_self, pv_mul, List.toList_toArray, opsA_cons, opsA_nil, wantedA, guardA, yieldA, stepA_t, stepA_f, callA, calleeA, targetA, runOp_c, runOp_n, opA, ev, evs, evo, consO, consOO, withH, pickA, afterA_s, putA, T.get_put, Nat.reduceEqDiff, reduceIte, List.getElem?_toArray, List.getElem?_cons_zero, List.getElem?_cons_succ, oBuiltin, oBin, binA, binG, binL, aggO, litA, intA, ltF_eq, eqF_eq, oIndexAddr, cond_true, cond_false, Bool.not_true, Bool.not_false, decide_true, decide_false, blt_eq, tt_beq, tf_beq, ft_beq, ff_beq, Bool.and_true, Bool.true_and, Option.some.injEq, I, Bo, addI, subI, oExtract, Bool.not_eq_true', fieldAddrA, oFieldAddr, oLoad, oStore, isAggD, aggH, oneH, skipH, Nat.add_eq_left, Nat.left_eq_add, Nat.succ_ne_self, fieldA, partA, cellsOf, List.length_cons, List.length_nil, Nat.reduceAdd, Nat.zero_add, Nat.add_zero, Nat.mul_one, Nat.reduceMul, nbeq_self, onesA_cons', onesA_nil, oneA, Value.oneCell', Nat.reduceLT, ty3, ti3, ty24, ti24, ty65, ti65, a0, a1, a2, hb1, hb2, hb3, l1, l2, z1, z2, z3, z4, z5, w1, z6, uv, oFn, bld24z, hs9, l9, aggR, resCell, oBuild, evParts, consP]; rfl) ?_ ?_ <;> intro hb <;> first | (exfalso; exact Bool.noConfusion hb) | skip)
    | refine wc_block ?_
    | refine wc_skip ?_
    | refine wc_scope (by decide) ?_
    | refine wc_label ?_
    | refine wc_exit ?_
    | refine wc_ret ?_
    | refine wv_ret (by simp only [resA, resOne]; simp only [oUn_not, beq_self_eq_true, eq_self, pv_mul, List.toList_toArray, opsA_cons, opsA_nil, wantedA, guardA, yieldA, stepA_t, stepA_f, callA, calleeA, targetA, runOp_c, runOp_n, opA, ev, evs, evo, consO, consOO, withH, pickA, afterA_s, putA, T.get_put, Nat.reduceEqDiff, reduceIte, List.getElem?_toArray, List.getElem?_cons_zero, List.getElem?_cons_succ, oBuiltin, oBin, binA, binG, binL, aggO, litA, intA, ltF_eq, eqF_eq, oIndexAddr, cond_true, cond_false, Bool.not_true, Bool.not_false, decide_true, decide_false, blt_eq, tt_beq, tf_beq, ft_beq, ff_beq, Bool.and_true, Bool.true_and, Option.some.injEq, I, Bo, addI, subI, oExtract, Bool.not_eq_true', fieldAddrA, oFieldAddr, oLoad, oStore, isAggD, aggH, oneH, skipH, Nat.add_eq_left, Nat.left_eq_add, Nat.succ_ne_self, fieldA, partA, cellsOf, List.length_cons, List.length_nil, Nat.reduceAdd, Nat.zero_add, Nat.add_zero, Nat.mul_one, Nat.reduceMul, nbeq_self, onesA_cons', onesA_nil, oneA, Value.oneCell', Nat.reduceLT, ty3, ti3, ty24, ti24, ty65, ti65, a0, a1, a2, hb1, hb2, hb3, l1, l2, z1, z2, z3, z4, z5, w1, z6, uv, oFn, bld24z, hs9, l9, aggR, resCell, oBuild, evParts, consP]; rfl) ?_)
  all_goals exact ⟨x9, _, rfl, rfl, ownS_nil _⟩
set_option maxHeartbeats 4000000 in
theorem c22x0 (d : Nat) (h : Hp)  (n a m : Int)  (q0 : n < 0) : Wv (runA ctx 5000 (d + 3) 22 [I n, I a, I m] h) (fun r h' => ResM h h' r (0) ([]) 4) := by
  obtain ⟨h1, hb1, x1, k1, b1⟩ := box_new h 3 (I a)
  obtain ⟨h2, hb2, x2, k2, b2⟩ := box_new h1 3 (I m)
  obtain ⟨h3, hb3, x3, k3, b3⟩ := alloc_new h2 24 (ti := ti24) rfl
  simp only [ti24] at hb3
  have cc1 := x3.cell (by omega) (x2.cell (by omega) ((b1 0 _ rfl)))
  have l1 := cc1.load
  have cc2 := x3.cell (by omega) ((b2 0 _ rfl))
  have l2 := cc2.load
  have xK : Ext h h3 := ((x1.trans x2).trans x3)
  have z1 : decide (n < 0) = true := by first | (simp; done) | (simp; omega)
  obtain ⟨h9, hs9, o9, _, _, l9⟩ := st24 (b3 0 (I 0) rfl) (b3 1 nilS rfl) (x := I 0) (y := nilS) rfl rfl
  have x9 : Ext h h9 := Fr.from xK (o9.fr (P := fun k => k = h2.c) rfl) (fun k e => by omega)
  refine wv_run fn22 rfl ?_
  have a0 : (enterEnv [I n, I a, I m] Try.f22.ntmps).get 0 = some (I n) := enter_get1 _ _ _
  have a1 : (enterEnv [I n, I a, I m] Try.f22.ntmps).get 1 = some (I a) := enter_get2 _ _ _ _
  have a2 : (enterEnv [I n, I a, I m] Try.f22.ntmps).get 2 = some (I m) := enter_get3 _ _ _ _ _
  generalize enterEnv [I n, I a, I m] Try.f22.ntmps = e at a0 a1 a2 ⊢
  unfold Try.f22
  dsimp only
  repeat' (first
    | refine wc_seq ?_
    | (refine wc_region rfl ?_; simp only [oUn_not, beq_self_eq_true, eq_self, pv_mul, List.toList_toArray, opsA_cons, opsA_nil, wantedA, guardA, yieldA, stepA_t, stepA_f, callA, calleeA, targetA, runOp_c, runOp_n, opA, ev, evs, evo, consO, consOO, withH, pickA, afterA_s, putA, T.get_put, Nat.reduceEqDiff, reduceIte, List.getElem?_toArray, List.getElem?_cons_zero, List.getElem?_cons_succ, oBuiltin, oBin, binA, binG, binL, aggO, litA, intA, ltF_eq, eqF_eq, oIndexAddr, cond_true, cond_false, Bool.not_true, Bool.not_false, decide_true, decide_false, blt_eq, tt_beq, tf_beq, ft_beq, ff_beq, Bool.and_true, Bool.true_and, Option.some.injEq, I, Bo, addI, subI, oExtract, Bool.not_eq_true', fieldAddrA, oFieldAddr, oLoad, oStore, isAggD, aggH, oneH, skipH, Nat.add_eq_left, Nat.left_eq_add, Nat.succ_ne_self, fieldA, partA, cellsOf, List.length_cons, List.length_nil, Nat.reduceAdd, Nat.zero_add, Nat.add_zero, Nat.mul_one, Nat.reduceMul, nbeq_self, onesA_cons', onesA_nil, oneA, Value.oneCell', Nat.reduceLT, ty3, ti3, ty24, ti24, ty65, ti65, a0, a1, a2, hb1, hb2, hb3, l1, l2, z1, uv, oFn, bld24z, hs9, l9, aggR, resCell, oBuild, evParts, consP]; refine ⟨_, _, rfl, ?_⟩)
    | (refine wc_cond (by simp only [oUn_not, beq_self_eq_true, eq_self, pv_mul, List.toList_toArray, opsA_cons, opsA_nil, wantedA, guardA, yieldA, stepA_t, stepA_f, callA, calleeA, targetA, runOp_c, runOp_n, opA, ev, evs, evo, consO, consOO, withH, pickA, afterA_s, putA, T.get_put, Nat.reduceEqDiff, reduceIte, List.getElem?_toArray, List.getElem?_cons_zero, List.getElem?_cons_succ, oBuiltin, oBin, binA, binG, binL, aggO, litA, intA, ltF_eq, eqF_eq, oIndexAddr, cond_true, cond_false, Bool.not_true, Bool.not_false, decide_true, decide_false, blt_eq, tt_beq, tf_beq, ft_beq, ff_beq, Bool.and_true, Bool.true_and, Option.some.injEq, I, Bo, addI, subI, oExtract, Bool.not_eq_true', fieldAddrA, oFieldAddr, oLoad, oStore, isAggD, aggH, oneH, skipH, Nat.add_eq_left, Nat.left_eq_add, Nat.succ_ne_self, fieldA, partA, cellsOf, List.length_cons, List.length_nil, Nat.reduceAdd, Nat.zero_add, Nat.add_zero, Nat.mul_one, Nat.reduceMul, nbeq_self, onesA_cons', onesA_nil, oneA, Value.oneCell', Nat.reduceLT, ty3, ti3, ty24, ti24, ty65, ti65, a0, a1, a2, hb1, hb2, hb3, l1, l2, z1, uv, oFn, bld24z, hs9, l9, aggR, resCell, oBuild, evParts, consP]; rfl) ?_ ?_ <;> intro hb <;> first | (exfalso; exact Bool.noConfusion hb) | skip)
    | refine wc_block ?_
    | refine wc_skip ?_
    | refine wc_scope (by decide) ?_
    | refine wc_label ?_
    | refine wc_exit ?_
    | refine wc_ret ?_
    | refine wv_ret (by simp only [resA, resOne]; simp only [oUn_not, beq_self_eq_true, eq_self, pv_mul, List.toList_toArray, opsA_cons, opsA_nil, wantedA, guardA, yieldA, stepA_t, stepA_f, callA, calleeA, targetA, runOp_c, runOp_n, opA, ev, evs, evo, consO, consOO, withH, pickA, afterA_s, putA, T.get_put, Nat.reduceEqDiff, reduceIte, List.getElem?_toArray, List.getElem?_cons_zero, List.getElem?_cons_succ, oBuiltin, oBin, binA, binG, binL, aggO, litA, intA, ltF_eq, eqF_eq, oIndexAddr, cond_true, cond_false, Bool.not_true, Bool.not_false, decide_true, decide_false, blt_eq, tt_beq, tf_beq, ft_beq, ff_beq, Bool.and_true, Bool.true_and, Option.some.injEq, I, Bo, addI, subI, oExtract, Bool.not_eq_true', fieldAddrA, oFieldAddr, oLoad, oStore, isAggD, aggH, oneH, skipH, Nat.add_eq_left, Nat.left_eq_add, Nat.succ_ne_self, fieldA, partA, cellsOf, List.length_cons, List.length_nil, Nat.reduceAdd, Nat.zero_add, Nat.add_zero, Nat.mul_one, Nat.reduceMul, nbeq_self, onesA_cons', onesA_nil, oneA, Value.oneCell', Nat.reduceLT, ty3, ti3, ty24, ti24, ty65, ti65, a0, a1, a2, hb1, hb2, hb3, l1, l2, z1, uv, oFn, bld24z, hs9, l9, aggR, resCell, oBuild, evParts, consP]; rfl) ?_)
  all_goals exact ⟨x9, _, rfl, rfl, ownS_nil _⟩
set_option maxHeartbeats 4000000 in
theorem c22x1 (d : Nat) (h : Hp)  (n a m : Int) (q0 : ¬ n < 0) (q1 : 4096 < n) : Wv (runA ctx 5000 (d + 3) 22 [I n, I a, I m] h) (fun r h' => ResM h h' r (0) ([]) 4) := by
  obtain ⟨h1, hb1, x1, k1, b1⟩ := box_new h 3 (I a)
  obtain ⟨h2, hb2, x2, k2, b2⟩ := box_new h1 3 (I m)
  obtain ⟨h3, hb3, x3, k3, b3⟩ := alloc_new h2 24 (ti := ti24) rfl
  simp only [ti24] at hb3
  have cc1 := x3.cell (by omega) (x2.cell (by omega) ((b1 0 _ rfl)))
  have l1 := cc1.load
  have cc2 := x3.cell (by omega) ((b2 0 _ rfl))
  have l2 := cc2.load
  have xK : Ext h h3 := ((x1.trans x2).trans x3)
  have z1 : decide (n < 0) = false := by first | (simp; done) | (simp; omega)
  have z2 : decide (4096 < n) = true := by first | (simp; done) | (simp; omega)
  obtain ⟨h9, hs9, o9, _, _, l9⟩ := st24 (b3 0 (I 0) rfl) (b3 1 nilS rfl) (x := I 0) (y := nilS) rfl rfl
  have x9 : Ext h h9 := Fr.from xK (o9.fr (P := fun k => k = h2.c) rfl) (fun k e => by omega)
  refine wv_run fn22 rfl ?_
  have a0 : (enterEnv [I n, I a, I m] Try.f22.ntmps).get 0 = some (I n) := enter_get1 _ _ _
  have a1 : (enterEnv [I n, I a, I m] Try.f22.ntmps).get 1 = some (I a) := enter_get2 _ _ _ _
  have a2 : (enterEnv [I n, I a, I m] Try.f22.ntmps).get 2 = some (I m) := enter_get3 _ _ _ _ _
  generalize enterEnv [I n, I a, I m] Try.f22.ntmps = e at a0 a1 a2 ⊢
  unfold Try.f22
  dsimp only
  repeat' (first
    | refine wc_seq ?_
    | (refine wc_region rfl ?_; simp only [oUn_not, beq_self_eq_true, eq_self, pv_mul, List.toList_toArray, opsA_cons, opsA_nil, wantedA, guardA, yieldA, stepA_t, stepA_f, callA, calleeA, targetA, runOp_c, runOp_n, opA, ev, evs, evo, consO, consOO, withH, pickA, afterA_s, putA, T.get_put, Nat.reduceEqDiff, reduceIte, List.getElem?_toArray, List.getElem?_cons_zero, List.getElem?_cons_succ, oBuiltin, oBin, binA, binG, binL, aggO, litA, intA, ltF_eq, eqF_eq, oIndexAddr, cond_true, cond_false, Bool.not_true, Bool.not_false, decide_true, decide_false, blt_eq, tt_beq, tf_beq, ft_beq, ff_beq, Bool.and_true, Bool.true_and, Option.some.injEq, I, Bo, addI, subI, oExtract, Bool.not_eq_true', fieldAddrA, oFieldAddr, oLoad, oStore, isAggD, aggH, oneH, skipH, Nat.add_eq_left, Nat.left_eq_add, Nat.succ_ne_self, fieldA, partA, cellsOf, List.length_cons, List.length_nil, Nat.reduceAdd, Nat.zero_add, Nat.add_zero, Nat.mul_one, Nat.reduceMul, nbeq_self, onesA_cons', onesA_nil, oneA, Value.oneCell', Nat.reduceLT, ty3, ti3, ty24, ti24, ty65, ti65, a0, a1, a2, hb1, hb2, hb3, l1, l2, z1, z2, uv, oFn, bld24z, hs9, l9, aggR, resCell, oBuild, evParts, consP]; refine ⟨_, _, rfl, ?_⟩)
    | (refine wc_cond (by simp only [oUn_not, beq_self_eq_true, eq_self, pv_mul, List.toList_toArray, opsA_cons, opsA_nil, wantedA, guardA, yieldA, stepA_t, stepA_f, callA, calleeA, targetA, runOp_c, runOp_n, opA, ev, evs, evo, consO, consOO, withH, pickA, afterA_s, putA, T.get_put, Nat.reduceEqDiff, reduceIte, List.getElem?_toArray, List.getElem?_cons_zero, List.getElem?_cons_succ, oBuiltin, oBin, binA, binG, binL, aggO, litA, intA, ltF_eq, eqF_eq, oIndexAddr, cond_true, cond_false, Bool.not_true, Bool.not_false, decide_true, decide_false, blt_eq, tt_beq, tf_beq, ft_beq, ff_beq, Bool.and_true, Bool.true_and, Option.some.injEq, I, Bo, addI, subI, oExtract, Bool.not_eq_true', fieldAddrA, oFieldAddr, oLoad, oStore, isAggD, aggH, oneH, skipH, Nat.add_eq_left, Nat.left_eq_add, Nat.succ_ne_self, fieldA, partA, cellsOf, List.length_cons, List.length_nil, Nat.reduceAdd, Nat.zero_add, Nat.add_zero, Nat.mul_one, Nat.reduceMul, nbeq_self, onesA_cons', onesA_nil, oneA, Value.oneCell', Nat.reduceLT, ty3, ti3, ty24, ti24, ty65, ti65, a0, a1, a2, hb1, hb2, hb3, l1, l2, z1, z2, uv, oFn, bld24z, hs9, l9, aggR, resCell, oBuild, evParts, consP]; rfl) ?_ ?_ <;> intro hb <;> first | (exfalso; exact Bool.noConfusion hb) | skip)
    | refine wc_block ?_
    | refine wc_skip ?_
    | refine wc_scope (by decide) ?_
    | refine wc_label ?_
    | refine wc_exit ?_
    | refine wc_ret ?_
    | refine wv_ret (by simp only [resA, resOne]; simp only [oUn_not, beq_self_eq_true, eq_self, pv_mul, List.toList_toArray, opsA_cons, opsA_nil, wantedA, guardA, yieldA, stepA_t, stepA_f, callA, calleeA, targetA, runOp_c, runOp_n, opA, ev, evs, evo, consO, consOO, withH, pickA, afterA_s, putA, T.get_put, Nat.reduceEqDiff, reduceIte, List.getElem?_toArray, List.getElem?_cons_zero, List.getElem?_cons_succ, oBuiltin, oBin, binA, binG, binL, aggO, litA, intA, ltF_eq, eqF_eq, oIndexAddr, cond_true, cond_false, Bool.not_true, Bool.not_false, decide_true, decide_false, blt_eq, tt_beq, tf_beq, ft_beq, ff_beq, Bool.and_true, Bool.true_and, Option.some.injEq, I, Bo, addI, subI, oExtract, Bool.not_eq_true', fieldAddrA, oFieldAddr, oLoad, oStore, isAggD, aggH, oneH, skipH, Nat.add_eq_left, Nat.left_eq_add, Nat.succ_ne_self, fieldA, partA, cellsOf, List.length_cons, List.length_nil, Nat.reduceAdd, Nat.zero_add, Nat.add_zero, Nat.mul_one, Nat.reduceMul, nbeq_self, onesA_cons', onesA_nil, oneA, Value.oneCell', Nat.reduceLT, ty3, ti3, ty24, ti24, ty65, ti65, a0, a1, a2, hb1, hb2, hb3, l1, l2, z1, z2, uv, oFn, bld24z, hs9, l9, aggR, resCell, oBuild, evParts, consP]; rfl) ?_)
  all_goals exact ⟨x9, _, rfl, rfl, ownS_nil _⟩
set_option maxHeartbeats 4000000 in
theorem c22x2 (d : Nat) (h : Hp)  (n a m : Int) (q0 : ¬ n < 0) (q1 : ¬ 4096 < n) (q2 : a < 0) : Wv (runA ctx 5000 (d + 3) 22 [I n, I a, I m] h) (fun r h' => ResM h h' r (0) ([]) 4) := by
  obtain ⟨h1, hb1, x1, k1, b1⟩ := box_new h 3 (I a)
  obtain ⟨h2, hb2, x2, k2, b2⟩ := box_new h1 3 (I m)
  obtain ⟨h3, hb3, x3, k3, b3⟩ := alloc_new h2 24 (ti := ti24) rfl
  simp only [ti24] at hb3
  have cc1 := x3.cell (by omega) (x2.cell (by omega) ((b1 0 _ rfl)))
  have l1 := cc1.load
  have cc2 := x3.cell (by omega) ((b2 0 _ rfl))
  have l2 := cc2.load
  have xK : Ext h h3 := ((x1.trans x2).trans x3)
  have z1 : decide (n < 0) = false := by first | (simp; done) | (simp; omega)
  have z2 : decide (4096 < n) = false := by first | (simp; done) | (simp; omega)
  have z3 : decide (a < 0) = true := by first | (simp; done) | (simp; omega)
  obtain ⟨h9, hs9, o9, _, _, l9⟩ := st24 (b3 0 (I 0) rfl) (b3 1 nilS rfl) (x := I 0) (y := nilS) rfl rfl
  have x9 : Ext h h9 := Fr.from xK (o9.fr (P := fun k => k = h2.c) rfl) (fun k e => by omega)
  refine wv_run fn22 rfl ?_
  have a0 : (enterEnv [I n, I a, I m] Try.f22.ntmps).get 0 = some (I n) := enter_get1 _ _ _
  have a1 : (enterEnv [I n, I a, I m] Try.f22.ntmps).get 1 = some (I a) := enter_get2 _ _ _ _
  have a2 : (enterEnv [I n, I a, I m] Try.f22.ntmps).get 2 = some (I m) := enter_get3 _ _ _ _ _
  generalize enterEnv [I n, I a, I m] Try.f22.ntmps = e at a0 a1 a2 ⊢
  unfold Try.f22
  dsimp only
  repeat' (first
    | refine wc_seq ?_
    | (refine wc_region rfl ?_; simp only [oUn_not, beq_self_eq_true, eq_self, pv_mul, List.toList_toArray, opsA_cons, opsA_nil, wantedA, guardA, yieldA, stepA_t, stepA_f, callA, calleeA, targetA, runOp_c, runOp_n, opA, ev, evs, evo, consO, consOO, withH, pickA, afterA_s, putA, T.get_put, Nat.reduceEqDiff, reduceIte, List.getElem?_toArray, List.getElem?_cons_zero, List.getElem?_cons_succ, oBuiltin, oBin, binA, binG, binL, aggO, litA, intA, ltF_eq, eqF_eq, oIndexAddr, cond_true, cond_false, Bool.not_true, Bool.not_false, decide_true, decide_false, blt_eq, tt_beq, tf_beq, ft_beq, ff_beq, Bool.and_true, Bool.true_and, Option.some.injEq, I, Bo, addI, subI, oExtract, Bool.not_eq_true', fieldAddrA, oFieldAddr, oLoad, oStore, isAggD, aggH, oneH, skipH, Nat.add_eq_left, Nat.left_eq_add, Nat.succ_ne_self, fieldA, partA, cellsOf, List.length_cons, List.length_nil, Nat.reduceAdd, Nat.zero_add, Nat.add_zero, Nat.mul_one, Nat.reduceMul, nbeq_self, onesA_cons', onesA_nil, oneA, Value.oneCell', Nat.reduceLT, ty3, ti3, ty24, ti24, ty65, ti65, a0, a1, a2, hb1, hb2, hb3, l1, l2, z1, z2, z3, uv, oFn, bld24z, hs9, l9, aggR, resCell, oBuild, evParts, consP]; refine ⟨_, _, rfl, ?_⟩)
    | (refine wc_cond (by simp only [oUn_not, beq_self_eq_true, eq_self, pv_mul, List.toList_toArray, opsA_cons, opsA_nil, wantedA, guardA, yieldA, stepA_t, stepA_f, callA, calleeA, targetA, runOp_c, runOp_n, opA, ev, evs, evo, consO, consOO, withH, pickA, afterA_s, putA, T.get_put, Nat.reduceEqDiff, reduceIte, List.getElem?_toArray, List.getElem?_cons_zero, List.getElem?_cons_succ, oBuiltin, oBin, binA, binG, binL, aggO, litA, intA, ltF_eq, eqF_eq, oIndexAddr, cond_true, cond_false, Bool.not_true, Bool.not_false, decide_true, decide_false, blt_eq, tt_beq, tf_beq, ft_beq, ff_beq, Bool.and_true, Bool.true_and, Option.some.injEq, I, Bo, addI, subI, oExtract, Bool.not_eq_true', fieldAddrA, oFieldAddr, oLoad, oStore, isAggD, aggH, oneH, skipH, Nat.add_eq_left, Nat.left_eq_add, Nat.succ_ne_self, fieldA, partA, cellsOf, List.length_cons, List.length_nil, Nat.reduceAdd, Nat.zero_add, Nat.add_zero, Nat.mul_one, Nat.reduceMul, nbeq_self, onesA_cons', onesA_nil, oneA, Value.oneCell', Nat.reduceLT, ty3, ti3, ty24, ti24, ty65, ti65, a0, a1, a2, hb1, hb2, hb3, l1, l2, z1, z2, z3, uv, oFn, bld24z, hs9, l9, aggR, resCell, oBuild, evParts, consP]; rfl) ?_ ?_ <;> intro hb <;> first | (exfalso; exact Bool.noConfusion hb) | skip)
    | refine wc_block ?_
    | refine wc_skip ?_
    | refine wc_scope (by decide) ?_
    | refine wc_label ?_
    | refine wc_exit ?_
    | refine wc_ret ?_
    | refine wv_ret (by simp only [resA, resOne]; simp only [oUn_not, beq_self_eq_true, eq_self, pv_mul, List.toList_toArray, opsA_cons, opsA_nil, wantedA, guardA, yieldA, stepA_t, stepA_f, callA, calleeA, targetA, runOp_c, runOp_n, opA, ev, evs, evo, consO, consOO, withH, pickA, afterA_s, putA, T.get_put, Nat.reduceEqDiff, reduceIte, List.getElem?_toArray, List.getElem?_cons_zero, List.getElem?_cons_succ, oBuiltin, oBin, binA, binG, binL, aggO, litA, intA, ltF_eq, eqF_eq, oIndexAddr, cond_true, cond_false, Bool.not_true, Bool.not_false, decide_true, decide_false, blt_eq, tt_beq, tf_beq, ft_beq, ff_beq, Bool.and_true, Bool.true_and, Option.some.injEq, I, Bo, addI, subI, oExtract, Bool.not_eq_true', fieldAddrA, oFieldAddr, oLoad, oStore, isAggD, aggH, oneH, skipH, Nat.add_eq_left, Nat.left_eq_add, Nat.succ_ne_self, fieldA, partA, cellsOf, List.length_cons, List.length_nil, Nat.reduceAdd, Nat.zero_add, Nat.add_zero, Nat.mul_one, Nat.reduceMul, nbeq_self, onesA_cons', onesA_nil, oneA, Value.oneCell', Nat.reduceLT, ty3, ti3, ty24, ti24, ty65, ti65, a0, a1, a2, hb1, hb2, hb3, l1, l2, z1, z2, z3, uv, oFn, bld24z, hs9, l9, aggR, resCell, oBuild, evParts, consP]; rfl) ?_)
  all_goals exact ⟨x9, _, rfl, rfl, ownS_nil _⟩
set_option maxHeartbeats 4000000 in
theorem c22x3 (d : Nat) (h : Hp)  (n a m : Int) (q0 : ¬ n < 0) (q1 : ¬ 4096 < n) (q2 : ¬ a < 0) (q3 : n < a) : Wv (runA ctx 5000 (d + 3) 22 [I n, I a, I m] h) (fun r h' => ResM h h' r (0) ([]) 4) := by
  obtain ⟨h1, hb1, x1, k1, b1⟩ := box_new h 3 (I a)
  obtain ⟨h2, hb2, x2, k2, b2⟩ := box_new h1 3 (I m)
  obtain ⟨h3, hb3, x3, k3, b3⟩ := alloc_new h2 24 (ti := ti24) rfl
  simp only [ti24] at hb3
  have cc1 := x3.cell (by omega) (x2.cell (by omega) ((b1 0 _ rfl)))
  have l1 := cc1.load
  have cc2 := x3.cell (by omega) ((b2 0 _ rfl))
  have l2 := cc2.load
  have xK : Ext h h3 := ((x1.trans x2).trans x3)
  have z1 : decide (n < 0) = false := by first | (simp; done) | (simp; omega)
  have z2 : decide (4096 < n) = false := by first | (simp; done) | (simp; omega)
  have z3 : decide (a < 0) = false := by first | (simp; done) | (simp; omega)
  have z4 : decide (n < a) = true := by first | (simp; done) | (simp; omega)
  obtain ⟨h9, hs9, o9, _, _, l9⟩ := st24 (b3 0 (I 0) rfl) (b3 1 nilS rfl) (x := I 0) (y := nilS) rfl rfl
  have x9 : Ext h h9 := Fr.from xK (o9.fr (P := fun k => k = h2.c) rfl) (fun k e => by omega)
  refine wv_run fn22 rfl ?_
  have a0 : (enterEnv [I n, I a, I m] Try.f22.ntmps).get 0 = some (I n) := enter_get1 _ _ _
  have a1 : (enterEnv [I n, I a, I m] Try.f22.ntmps).get 1 = some (I a) := enter_get2 _ _ _ _
  have a2 : (enterEnv [I n, I a, I m] Try.f22.ntmps).get 2 = some (I m) := enter_get3 _ _ _ _ _
  generalize enterEnv [I n, I a, I m] Try.f22.ntmps = e at a0 a1 a2 ⊢
  unfold Try.f22
  dsimp only
  repeat' (first
    | refine wc_seq ?_
    | (refine wc_region rfl ?_; simp only [oUn_not, beq_self_eq_true, eq_self, pv_mul, List.toList_toArray, opsA_cons, opsA_nil, wantedA, guardA, yieldA, stepA_t, stepA_f, callA, calleeA, targetA, runOp_c, runOp_n, opA, ev, evs, evo, consO, consOO, withH, pickA, afterA_s, putA, T.get_put, Nat.reduceEqDiff, reduceIte, List.getElem?_toArray, List.getElem?_cons_zero, List.getElem?_cons_succ, oBuiltin, oBin, binA, binG, binL, aggO, litA, intA, ltF_eq, eqF_eq, oIndexAddr, cond_true, cond_false, Bool.not_true, Bool.not_false, decide_true, decide_false, blt_eq, tt_beq, tf_beq, ft_beq, ff_beq, Bool.and_true, Bool.true_and, Option.some.injEq, I, Bo, addI, subI, oExtract, Bool.not_eq_true', fieldAddrA, oFieldAddr, oLoad, oStore, isAggD, aggH, oneH, skipH, Nat.add_eq_left, Nat.left_eq_add, Nat.succ_ne_self, fieldA, partA, cellsOf, List.length_cons, List.length_nil, Nat.reduceAdd, Nat.zero_add, Nat.add_zero, Nat.mul_one, Nat.reduceMul, nbeq_self, onesA_cons', onesA_nil, oneA, Value.oneCell', Nat.reduceLT, ty3, ti3, ty24, ti24, ty65, ti65, a0, a1, a2, hb1, hb2, hb3, l1, l2, z1, z2, z3, z4, uv, oFn, bld24z, hs9, l9, aggR, resCell, oBuild, evParts, consP]; refine ⟨_, _, rfl, ?_⟩)
    | (refine wc_cond (by simp only [oUn_not, beq_self_eq_true, eq_self, pv_mul, List.toList_toArray, opsA_cons, opsA_nil, wantedA, guardA, yieldA, stepA_t, stepA_f, callA, calleeA, targetA, runOp_c, runOp_n, opA, ev, evs, evo, consO, consOO, withH, pickA, afterA_s, putA, T.get_put, Nat.reduceEqDiff, reduceIte, List.getElem?_toArray, List.getElem?_cons_zero, List.getElem?_cons_succ, oBuiltin, oBin, binA, binG, binL, aggO, litA, intA, ltF_eq, eqF_eq, oIndexAddr, cond_true, cond_false, Bool.not_true, Bool.not_false, decide_true, decide_false, blt_eq, tt_beq, tf_beq, ft_beq, ff_beq, Bool.and_true, Bool.true_and, Option.some.injEq, I, Bo, addI, subI, oExtract, Bool.not_eq_true', fieldAddrA, oFieldAddr, oLoad, oStore, isAggD, aggH, oneH, skipH, Nat.add_eq_left, Nat.left_eq_add, Nat.succ_ne_self, fieldA, partA, cellsOf, List.length_cons, List.length_nil, Nat.reduceAdd, Nat.zero_add, Nat.add_zero, Nat.mul_one, Nat.reduceMul, nbeq_self, onesA_cons', onesA_nil, oneA, Value.oneCell', Nat.reduceLT, ty3, ti3, ty24, ti24, ty65, ti65, a0, a1, a2, hb1, hb2, hb3, l1, l2, z1, z2, z3, z4, uv, oFn, bld24z, hs9, l9, aggR, resCell, oBuild, evParts, consP]; rfl) ?_ ?_ <;> intro hb <;> first | (exfalso; exact Bool.noConfusion hb) | skip)
    | refine wc_block ?_
    | refine wc_skip ?_
    | refine wc_scope (by decide) ?_
    | refine wc_label ?_
    | refine wc_exit ?_
    | refine wc_ret ?_
    | refine wv_ret (by simp only [resA, resOne]; simp only [oUn_not, beq_self_eq_true, eq_self, pv_mul, List.toList_toArray, opsA_cons, opsA_nil, wantedA, guardA, yieldA, stepA_t, stepA_f, callA, calleeA, targetA, runOp_c, runOp_n, opA, ev, evs, evo, consO, consOO, withH, pickA, afterA_s, putA, T.get_put, Nat.reduceEqDiff, reduceIte, List.getElem?_toArray, List.getElem?_cons_zero, List.getElem?_cons_succ, oBuiltin, oBin, binA, binG, binL, aggO, litA, intA, ltF_eq, eqF_eq, oIndexAddr, cond_true, cond_false, Bool.not_true, Bool.not_false, decide_true, decide_false, blt_eq, tt_beq, tf_beq, ft_beq, ff_beq, Bool.and_true, Bool.true_and, Option.some.injEq, I, Bo, addI, subI, oExtract, Bool.not_eq_true', fieldAddrA, oFieldAddr, oLoad, oStore, isAggD, aggH, oneH, skipH, Nat.add_eq_left, Nat.left_eq_add, Nat.succ_ne_self, fieldA, partA, cellsOf, List.length_cons, List.length_nil, Nat.reduceAdd, Nat.zero_add, Nat.add_zero, Nat.mul_one, Nat.reduceMul, nbeq_self, onesA_cons', onesA_nil, oneA, Value.oneCell', Nat.reduceLT, ty3, ti3, ty24, ti24, ty65, ti65, a0, a1, a2, hb1, hb2, hb3, l1, l2, z1, z2, z3, z4, uv, oFn, bld24z, hs9, l9, aggR, resCell, oBuild, evParts, consP]; rfl) ?_)
  all_goals exact ⟨x9, _, rfl, rfl, ownS_nil _⟩
set_option maxHeartbeats 4000000 in
theorem c22x4 (d : Nat) (h : Hp)  (n a m : Int) (q0 : ¬ n < 0) (q1 : ¬ 4096 < n) (q2 : ¬ a < 0) (q3 : ¬ n < a) (q4 : m < 0) : Wv (runA ctx 5000 (d + 3) 22 [I n, I a, I m] h) (fun r h' => ResM h h' r (0) ([]) 4) := by
  obtain ⟨h1, hb1, x1, k1, b1⟩ := box_new h 3 (I a)
  obtain ⟨h2, hb2, x2, k2, b2⟩ := box_new h1 3 (I m)
  obtain ⟨h3, hb3, x3, k3, b3⟩ := alloc_new h2 24 (ti := ti24) rfl
  simp only [ti24] at hb3
  have cc1 := x3.cell (by omega) (x2.cell (by omega) ((b1 0 _ rfl)))
  have l1 := cc1.load
  have cc2 := x3.cell (by omega) ((b2 0 _ rfl))
  have l2 := cc2.load
  have xK : Ext h h3 := ((x1.trans x2).trans x3)
  have z1 : decide (n < 0) = false := by first | (simp; done) | (simp; omega)
  have z2 : decide (4096 < n) = false := by first | (simp; done) | (simp; omega)
  have z3 : decide (a < 0) = false := by first | (simp; done) | (simp; omega)
  have z4 : decide (n < a) = false := by first | (simp; done) | (simp; omega)
  have z5 : decide (m < 0) = true := by first | (simp; done) | (simp; omega)
  obtain ⟨h9, hs9, o9, _, _, l9⟩ := st24 (b3 0 (I 0) rfl) (b3 1 nilS rfl) (x := I 0) (y := nilS) rfl rfl
  have x9 : Ext h h9 := Fr.from xK (o9.fr (P := fun k => k = h2.c) rfl) (fun k e => by omega)
  refine wv_run fn22 rfl ?_
  have a0 : (enterEnv [I n, I a, I m] Try.f22.ntmps).get 0 = some (I n) := enter_get1 _ _ _
  have a1 : (enterEnv [I n, I a, I m] Try.f22.ntmps).get 1 = some (I a) := enter_get2 _ _ _ _
  have a2 : (enterEnv [I n, I a, I m] Try.f22.ntmps).get 2 = some (I m) := enter_get3 _ _ _ _ _
  generalize enterEnv [I n, I a, I m] Try.f22.ntmps = e at a0 a1 a2 ⊢
  unfold Try.f22
  dsimp only
  repeat' (first
    | refine wc_seq ?_
    | (refine wc_region rfl ?_; simp only [oUn_not, beq_self_eq_true, eq_self, pv_mul, List.toList_toArray, opsA_cons, opsA_nil, wantedA, guardA, yieldA, stepA_t, stepA_f, callA, calleeA, targetA, runOp_c, runOp_n, opA, ev, evs, evo, consO, consOO, withH, pickA, afterA_s, putA, T.get_put, Nat.reduceEqDiff, reduceIte, List.getElem?_toArray, List.getElem?_cons_zero, List.getElem?_cons_succ, oBuiltin, oBin, binA, binG, binL, aggO, litA, intA, ltF_eq, eqF_eq, oIndexAddr, cond_true, cond_false, Bool.not_true, Bool.not_false, decide_true, decide_false, blt_eq, tt_beq, tf_beq, ft_beq, ff_beq, Bool.and_true, Bool.true_and, Option.some.injEq, I, Bo, addI, subI, oExtract, Bool.not_eq_true', fieldAddrA, oFieldAddr, oLoad, oStore, isAggD, aggH, oneH, skipH, Nat.add_eq_left, Nat.left_eq_add, Nat.succ_ne_self, fieldA, partA, cellsOf, List.length_cons, List.length_nil, Nat.reduceAdd, Nat.zero_add, Nat.add_zero, Nat.mul_one, Nat.reduceMul, nbeq_self, onesA_cons', onesA_nil, oneA, Value.oneCell', Nat.reduceLT, ty3, ti3, ty24, ti24, ty65, ti65, a0, a1, a2, hb1, hb2, hb3, l1, l2, z1, z2, z3, z4, z5, uv, oFn, bld24z, hs9, l9, aggR, resCell, oBuild, evParts, consP]; refine ⟨_, _, rfl, ?_⟩)
    | (refine wc_cond (by simp only [oUn_not, beq_self_eq_true, eq_self, pv_mul, List.toList_toArray, opsA_cons, opsA_nil, wantedA, guardA, yieldA, stepA_t, stepA_f, callA, calleeA, targetA, runOp_c, runOp_n, opA, ev, evs, evo, consO, consOO, withH, pickA, afterA_s, putA, T.get_put, Nat.reduceEqDiff, reduceIte, List.getElem?_toArray, List.getElem?_cons_zero, List.getElem?_cons_succ, oBuiltin, oBin, binA, binG, binL, aggO, litA, intA, ltF_eq, eqF_eq, oIndexAddr, cond_true, cond_false, Bool.not_true, Bool.not_false, decide_true, decide_false, blt_eq, tt_beq, tf_beq, ft_beq, ff_beq, Bool.and_true, Bool.true_and, Option.some.injEq, I, Bo, addI, subI, oExtract, Bool.not_eq_true', fieldAddrA, oFieldAddr, oLoad, oStore, isAggD, aggH, oneH, skipH, Nat.add_eq_left, Nat.left_eq_add, Nat.succ_ne_self, fieldA, partA, cellsOf, List.length_cons, List.length_nil, Nat.reduceAdd, Nat.zero_add, Nat.add_zero, Nat.mul_one, Nat.reduceMul, nbeq_self, onesA_cons', onesA_nil, oneA, Value.oneCell', Nat.reduceLT, ty3, ti3, ty24, ti24, ty65, ti65, a0, a1, a2, hb1, hb2, hb3, l1, l2, z1, z2, z3, z4, z5, uv, oFn, bld24z, hs9, l9, aggR, resCell, oBuild, evParts, consP]; rfl) ?_ ?_ <;> intro hb <;> first | (exfalso; exact Bool.noConfusion hb) | skip)
    | refine wc_block ?_
    | refine wc_skip ?_
    | refine wc_scope (by decide) ?_
    | refine wc_label ?_
    | refine wc_exit ?_
    | refine wc_ret ?_
    | refine wv_ret (by simp only [resA, resOne]; simp only [oUn_not, beq_self_eq_true, eq_self, pv_mul, List.toList_toArray, opsA_cons, opsA_nil, wantedA, guardA, yieldA, stepA_t, stepA_f, callA, calleeA, targetA, runOp_c, runOp_n, opA, ev, evs, evo, consO, consOO, withH, pickA, afterA_s, putA, T.get_put, Nat.reduceEqDiff, reduceIte, List.getElem?_toArray, List.getElem?_cons_zero, List.getElem?_cons_succ, oBuiltin, oBin, binA, binG, binL, aggO, litA, intA, ltF_eq, eqF_eq, oIndexAddr, cond_true, cond_false, Bool.not_true, Bool.not_false, decide_true, decide_false, blt_eq, tt_beq, tf_beq, ft_beq, ff_beq, Bool.and_true, Bool.true_and, Option.some.injEq, I, Bo, addI, subI, oExtract, Bool.not_eq_true', fieldAddrA, oFieldAddr, oLoad, oStore, isAggD, aggH, oneH, skipH, Nat.add_eq_left, Nat.left_eq_add, Nat.succ_ne_self, fieldA, partA, cellsOf, List.length_cons, List.length_nil, Nat.reduceAdd, Nat.zero_add, Nat.add_zero, Nat.mul_one, Nat.reduceMul, nbeq_self, onesA_cons', onesA_nil, oneA, Value.oneCell', Nat.reduceLT, ty3, ti3, ty24, ti24, ty65, ti65, a0, a1, a2, hb1, hb2, hb3, l1, l2, z1, z2, z3, z4, z5, uv, oFn, bld24z, hs9, l9, aggR, resCell, oBuild, evParts, consP]; rfl) ?_)
  all_goals exact ⟨x9, _, rfl, rfl, ownS_nil _⟩
set_option maxHeartbeats 4000000 in
theorem c23 (d : Nat) (h : Hp) (n a m : Nat)  (hn : n ≤ 4096) (ha : a + m ≤ n) : Wv (runA ctx 5000 (d + 3) 23 [I (Int.ofNat n), I (Int.ofNat a), I (Int.ofNat m)] h) (fun r h' => ResM h h' r (Int.ofNat n) ((List.range (n - m)).map fun (i : Nat) => remF (Int.ofNat a) (Int.ofNat m) i) 0) := by
  obtain ⟨h1, hb1, x1, k1, b1⟩ := box_new h 3 (I (Int.ofNat a))
  obtain ⟨h2, hb2, x2, k2, b2⟩ := box_new h1 3 (I (Int.ofNat m))
  obtain ⟨h3, hb3, x3, k3, b3⟩ := alloc_new h2 24 (ti := ti24) rfl
  simp only [ti24] at hb3
  have cc1 := x3.cell (by omega) (x2.cell (by omega) ((b1 0 _ rfl)))
  have l1 := cc1.load
  have cc2 := x3.cell (by omega) ((b2 0 _ rfl))
  have l2 := cc2.load
  have xK : Ext h h3 := ((x1.trans x2).trans x3)
  have q39 : runA ctx 5000 (d + 2) 39 [I (Int.ofNat n), I (Int.ofNat a), I (Int.ofNat m)] h3 = some (Bo true, h3) := c39 (d + 1) h3 _ _ _ ⟨(by (try simp only [Int.ofNat_eq_natCast]); omega), (by (try simp only [Int.ofNat_eq_natCast]); omega), (by (try simp only [Int.ofNat_eq_natCast]); omega), (by (try simp only [Int.ofNat_eq_natCast]); omega), (by (try simp only [Int.ofNat_eq_natCast]); omega), (by (try simp only [Int.ofNat_eq_natCast]); omega)⟩
  have w2 : IntKind.wrap .i64 (Int.ofNat n - Int.ofNat m) = Int.ofNat (n - m) := by rw [IntKind.wrap_i64]; simp only [Int.ofNat_eq_natCast]; omega
  refine wv_run fn23 rfl ?_
  have a0 : (enterEnv [I (Int.ofNat n), I (Int.ofNat a), I (Int.ofNat m)] Try.f23.ntmps).get 0 = some (I (Int.ofNat n)) := enter_get1 _ _ _
  have a1 : (enterEnv [I (Int.ofNat n), I (Int.ofNat a), I (Int.ofNat m)] Try.f23.ntmps).get 1 = some (I (Int.ofNat a)) := enter_get2 _ _ _ _
  have a2 : (enterEnv [I (Int.ofNat n), I (Int.ofNat a), I (Int.ofNat m)] Try.f23.ntmps).get 2 = some (I (Int.ofNat m)) := enter_get3 _ _ _ _ _
  generalize enterEnv [I (Int.ofNat n), I (Int.ofNat a), I (Int.ofNat m)] Try.f23.ntmps = e at a0 a1 a2 ⊢
  unfold Try.f23
  dsimp only
  repeat' (first
    | refine wc_seq ?_
    | (refine wc_region rfl ?_; simp only [oUn_not, beq_self_eq_true, eq_self, pv_mul, List.toList_toArray, opsA_cons, opsA_nil, wantedA, guardA, yieldA, stepA_t, stepA_f, callA, calleeA, targetA, runOp_c, runOp_n, opA, ev, evs, evo, consO, consOO, withH, pickA, afterA_s, putA, T.get_put, Nat.reduceEqDiff, reduceIte, List.getElem?_toArray, List.getElem?_cons_zero, List.getElem?_cons_succ, oBuiltin, oBin, binA, binG, binL, aggO, litA, intA, ltF_eq, eqF_eq, oIndexAddr, cond_true, cond_false, Bool.not_true, Bool.not_false, decide_true, decide_false, blt_eq, tt_beq, tf_beq, ft_beq, ff_beq, Bool.and_true, Bool.true_and, Option.some.injEq, I, Bo, addI, subI, oExtract, Bool.not_eq_true', fieldAddrA, oFieldAddr, oLoad, oStore, isAggD, aggH, oneH, skipH, Nat.add_eq_left, Nat.left_eq_add, Nat.succ_ne_self, fieldA, partA, cellsOf, List.length_cons, List.length_nil, Nat.reduceAdd, Nat.zero_add, Nat.add_zero, Nat.mul_one, Nat.reduceMul, nbeq_self, onesA_cons', onesA_nil, oneA, Value.oneCell', Nat.reduceLT, ty3, ti3, ty24, ti24, ty65, ti65, a0, a1, a2, hb1, hb2, hb3, l1, l2, q39, w2, uv, oFn, bld24z]; refine ⟨_, _, rfl, ?_⟩)
    | (refine wc_cond (by simp only [oUn_not, beq_self_eq_true, eq_self, pv_mul, List.toList_toArray, opsA_cons, opsA_nil, wantedA, guardA, yieldA, stepA_t, stepA_f, callA, calleeA, targetA, runOp_c, runOp_n, opA, ev, evs, evo, consO, consOO, withH, pickA, afterA_s, putA, T.get_put, Nat.reduceEqDiff, reduceIte, List.getElem?_toArray, List.getElem?_cons_zero, List.getElem?_cons_succ, oBuiltin, oBin, binA, binG, binL, aggO, litA, intA, ltF_eq, eqF_eq, oIndexAddr, cond_true, cond_false, Bool.not_true, Bool.not_false, decide_true, decide_false, blt_eq, tt_beq, tf_beq, ft_beq, ff_beq, Bool.and_true, Bool.true_and, Option.some.injEq, I, Bo, addI, subI, oExtract, Bool.not_eq_true', fieldAddrA, oFieldAddr, oLoad, oStore, isAggD, aggH, oneH, skipH, Nat.add_eq_left, Nat.left_eq_add, Nat.succ_ne_self, fieldA, partA, cellsOf, List.length_cons, List.length_nil, Nat.reduceAdd, Nat.zero_add, Nat.add_zero, Nat.mul_one, Nat.reduceMul, nbeq_self, onesA_cons', onesA_nil, oneA, Value.oneCell', Nat.reduceLT, ty3, ti3, ty24, ti24, ty65, ti65, a0, a1, a2, hb1, hb2, hb3, l1, l2, q39, w2, uv, oFn, bld24z]; rfl) ?_ ?_ <;> intro hb <;> first | (exfalso; exact Bool.noConfusion hb) | skip)
    | refine wc_block ?_
    | refine wc_skip ?_
    | refine wc_scope (by decide) ?_
    | refine wc_label ?_
    | refine wc_exit ?_
    | refine wc_ret ?_
    | refine wv_ret (by simp only [resA, resOne]; simp only [oUn_not, beq_self_eq_true, eq_self, pv_mul, List.toList_toArray, opsA_cons, opsA_nil, wantedA, guardA, yieldA, stepA_t, stepA_f, callA, calleeA, targetA, runOp_c, runOp_n, opA, ev, evs, evo, consO, consOO, withH, pickA, afterA_s, putA, T.get_put, Nat.reduceEqDiff, reduceIte, List.getElem?_toArray, List.getElem?_cons_zero, List.getElem?_cons_succ, oBuiltin, oBin, binA, binG, binL, aggO, litA, intA, ltF_eq, eqF_eq, oIndexAddr, cond_true, cond_false, Bool.not_true, Bool.not_false, decide_true, decide_false, blt_eq, tt_beq, tf_beq, ft_beq, ff_beq, Bool.and_true, Bool.true_and, Option.some.injEq, I, Bo, addI, subI, oExtract, Bool.not_eq_true', fieldAddrA, oFieldAddr, oLoad, oStore, isAggD, aggH, oneH, skipH, Nat.add_eq_left, Nat.left_eq_add, Nat.succ_ne_self, fieldA, partA, cellsOf, List.length_cons, List.length_nil, Nat.reduceAdd, Nat.zero_add, Nat.add_zero, Nat.mul_one, Nat.reduceMul, nbeq_self, onesA_cons', onesA_nil, oneA, Value.oneCell', Nat.reduceLT, ty3, ti3, ty24, ti24, ty65, ti65, a0, a1, a2, hb1, hb2, hb3, l1, l2, q39, w2, uv, oFn, bld24z]; rfl) ?_)
  · (refine wc_region rfl ?_; simp only [oUn_not, beq_self_eq_true, eq_self, pv_mul, List.toList_toArray, opsA_cons, opsA_nil, wantedA, guardA, yieldA, stepA_t, stepA_f, callA, calleeA, targetA, runOp_c, runOp_n, opA, ev, evs, evo, consO, consOO, withH, pickA, afterA_s, putA, T.get_put, Nat.reduceEqDiff, reduceIte, List.getElem?_toArray, List.getElem?_cons_zero, List.getElem?_cons_succ, oBuiltin, oBin, binA, binG, binL, aggO, litA, intA, ltF_eq, eqF_eq, oIndexAddr, cond_true, cond_false, Bool.not_true, Bool.not_false, decide_true, decide_false, blt_eq, tt_beq, tf_beq, ft_beq, ff_beq, Bool.and_true, Bool.true_and, Option.some.injEq, I, Bo, addI, subI, oExtract, Bool.not_eq_true', fieldAddrA, oFieldAddr, oLoad, oStore, isAggD, aggH, oneH, skipH, Nat.add_eq_left, Nat.left_eq_add, Nat.succ_ne_self, fieldA, partA, cellsOf, List.length_cons, List.length_nil, Nat.reduceAdd, Nat.zero_add, Nat.add_zero, Nat.mul_one, Nat.reduceMul, nbeq_self, onesA_cons', onesA_nil, oneA, Value.oneCell', Nat.reduceLT, ty3, ti3, ty24, ti24, ty65, ti65, a0, a1, a2, hb1, hb2, hb3, l1, l2, q39, w2, uv, oFn, bld24z]; refine wo_call (c33f d h3 (Int.ofNat n) (n - m) 40 [.ptr h.c 0, .ptr h1.c 0] (fun i => remF (Int.ofNat a) (Int.ofNat m) i) (by omega) (fun i hi h' hx => c40 d h' i (Int.ofNat a) (Int.ofNat m) h.c h1.c (hx.cell (by omega) cc1) (hx.cell (by omega) cc2) (by (try simp only [Int.ofNat_eq_natCast]); omega) (by (try simp only [Int.ofNat_eq_natCast]); omega) (by (try simp only [Int.ofNat_eq_natCast]); omega))) ?_; rintro _ h8 ⟨x8, s, rfl, os, ow, on, _⟩; obtain ⟨h9, hs9, o9, _, _, l9⟩ := st24 (x8.cell (by omega) (b3 0 (I 0) rfl)) (x8.cell (by omega) (b3 1 nilS rfl)) (x := I (Int.ofNat n)) (y := s) rfl os; simp only [oUn_not, beq_self_eq_true, eq_self, pv_mul, List.toList_toArray, opsA_cons, opsA_nil, wantedA, guardA, yieldA, stepA_t, stepA_f, callA, calleeA, targetA, runOp_c, runOp_n, opA, ev, evs, evo, consO, consOO, withH, pickA, afterA_s, putA, T.get_put, Nat.reduceEqDiff, reduceIte, List.getElem?_toArray, List.getElem?_cons_zero, List.getElem?_cons_succ, oBuiltin, oBin, binA, binG, binL, aggO, litA, intA, ltF_eq, eqF_eq, oIndexAddr, cond_true, cond_false, Bool.not_true, Bool.not_false, decide_true, decide_false, blt_eq, tt_beq, tf_beq, ft_beq, ff_beq, Bool.and_true, Bool.true_and, Option.some.injEq, I, Bo, addI, subI, oExtract, Bool.not_eq_true', fieldAddrA, oFieldAddr, oLoad, oStore, isAggD, aggH, oneH, skipH, Nat.add_eq_left, Nat.left_eq_add, Nat.succ_ne_self, fieldA, partA, cellsOf, List.length_cons, List.length_nil, Nat.reduceAdd, Nat.zero_add, Nat.add_zero, Nat.mul_one, Nat.reduceMul, nbeq_self, onesA_cons', onesA_nil, oneA, Value.oneCell', Nat.reduceLT, ty3, ti3, ty24, ti24, ty65, ti65, a0, a1, a2, hb1, hb2, hb3, l1, l2, q39, w2, uv, oFn, bld24z, hs9]; refine ⟨_, _, rfl, ?_⟩)
    have kk9 := o9.c
    have kk8 := x8.c
    have x9 : Ext h h9 := Fr.from (xK.trans x8) (o9.fr (P := fun k => k = h2.c) rfl) (fun k e => by omega)
    repeat' (first
      | refine wc_seq ?_
      | (refine wc_region rfl ?_; simp only [oUn_not, beq_self_eq_true, eq_self, pv_mul, List.toList_toArray, opsA_cons, opsA_nil, wantedA, guardA, yieldA, stepA_t, stepA_f, callA, calleeA, targetA, runOp_c, runOp_n, opA, ev, evs, evo, consO, consOO, withH, pickA, afterA_s, putA, T.get_put, Nat.reduceEqDiff, reduceIte, List.getElem?_toArray, List.getElem?_cons_zero, List.getElem?_cons_succ, oBuiltin, oBin, binA, binG, binL, aggO, litA, intA, ltF_eq, eqF_eq, oIndexAddr, cond_true, cond_false, Bool.not_true, Bool.not_false, decide_true, decide_false, blt_eq, tt_beq, tf_beq, ft_beq, ff_beq, Bool.and_true, Bool.true_and, Option.some.injEq, I, Bo, addI, subI, oExtract, Bool.not_eq_true', fieldAddrA, oFieldAddr, oLoad, oStore, isAggD, aggH, oneH, skipH, Nat.add_eq_left, Nat.left_eq_add, Nat.succ_ne_self, fieldA, partA, cellsOf, List.length_cons, List.length_nil, Nat.reduceAdd, Nat.zero_add, Nat.add_zero, Nat.mul_one, Nat.reduceMul, nbeq_self, onesA_cons', onesA_nil, oneA, Value.oneCell', Nat.reduceLT, ty3, ti3, ty24, ti24, ty65, ti65, a0, a1, a2, hb1, hb2, hb3, l1, l2, q39, w2, uv, oFn, bld24z, hs9, l9, aggR, resCell]; refine ⟨_, _, rfl, ?_⟩)
      | (refine wc_cond (by simp only [oUn_not, beq_self_eq_true, eq_self, pv_mul, List.toList_toArray, opsA_cons, opsA_nil, wantedA, guardA, yieldA, stepA_t, stepA_f, callA, calleeA, targetA, runOp_c, runOp_n, opA, ev, evs, evo, consO, consOO, withH, pickA, afterA_s, putA, T.get_put, Nat.reduceEqDiff, reduceIte, List.getElem?_toArray, List.getElem?_cons_zero, List.getElem?_cons_succ, oBuiltin, oBin, binA, binG, binL, aggO, litA, intA, ltF_eq, eqF_eq, oIndexAddr, cond_true, cond_false, Bool.not_true, Bool.not_false, decide_true, decide_false, blt_eq, tt_beq, tf_beq, ft_beq, ff_beq, Bool.and_true, Bool.true_and, Option.some.injEq, I, Bo, addI, subI, oExtract, Bool.not_eq_true', fieldAddrA, oFieldAddr, oLoad, oStore, isAggD, aggH, oneH, skipH, Nat.add_eq_left, Nat.left_eq_add, Nat.succ_ne_self, fieldA, partA, cellsOf, List.length_cons, List.length_nil, Nat.reduceAdd, Nat.zero_add, Nat.add_zero, Nat.mul_one, Nat.reduceMul, nbeq_self, onesA_cons', onesA_nil, oneA, Value.oneCell', Nat.reduceLT, ty3, ti3, ty24, ti24, ty65, ti65, a0, a1, a2, hb1, hb2, hb3, l1, l2, q39, w2, uv, oFn, bld24z, hs9, l9, aggR, resCell]; rfl) ?_ ?_ <;> intro hb <;> first | (exfalso; exact Bool.noConfusion hb) | skip)
      | refine wc_block ?_
      | refine wc_skip ?_
      | refine wc_scope (by decide) ?_
      | refine wc_label ?_
      | refine wc_exit ?_
      | refine wc_ret ?_
      | refine wv_ret (by simp only [resA, resOne]; simp only [oUn_not, beq_self_eq_true, eq_self, pv_mul, List.toList_toArray, opsA_cons, opsA_nil, wantedA, guardA, yieldA, stepA_t, stepA_f, callA, calleeA, targetA, runOp_c, runOp_n, opA, ev, evs, evo, consO, consOO, withH, pickA, afterA_s, putA, T.get_put, Nat.reduceEqDiff, reduceIte, List.getElem?_toArray, List.getElem?_cons_zero, List.getElem?_cons_succ, oBuiltin, oBin, binA, binG, binL, aggO, litA, intA, ltF_eq, eqF_eq, oIndexAddr, cond_true, cond_false, Bool.not_true, Bool.not_false, decide_true, decide_false, blt_eq, tt_beq, tf_beq, ft_beq, ff_beq, Bool.and_true, Bool.true_and, Option.some.injEq, I, Bo, addI, subI, oExtract, Bool.not_eq_true', fieldAddrA, oFieldAddr, oLoad, oStore, isAggD, aggH, oneH, skipH, Nat.add_eq_left, Nat.left_eq_add, Nat.succ_ne_self, fieldA, partA, cellsOf, List.length_cons, List.length_nil, Nat.reduceAdd, Nat.zero_add, Nat.add_zero, Nat.mul_one, Nat.reduceMul, nbeq_self, onesA_cons', onesA_nil, oneA, Value.oneCell', Nat.reduceLT, ty3, ti3, ty24, ti24, ty65, ti65, a0, a1, a2, hb1, hb2, hb3, l1, l2, q39, w2, uv, oFn, bld24z, hs9, l9, aggR, resCell]; rfl) ?_)
    all_goals exact ⟨x9, _, rfl, os, ow.only o9 (fun k hk => by have := on k hk; omega)⟩
set_option maxHeartbeats 4000000 in
theorem c23b (d : Nat) (h : Hp)  (n a m : Int) (hv : ¬ Sv n a m) : Wv (runA ctx 5000 (d + 3) 23 [I n, I a, I m] h) (fun r h' => ResM h h' r (0) ([]) 4) := by
  obtain ⟨h1, hb1, x1, k1, b1⟩ := box_new h 3 (I a)
  obtain ⟨h2, hb2, x2, k2, b2⟩ := box_new h1 3 (I m)
  obtain ⟨h3, hb3, x3, k3, b3⟩ := alloc_new h2 24 (ti := ti24) rfl
  simp only [ti24] at hb3
  have cc1 := x3.cell (by omega) (x2.cell (by omega) ((b1 0 _ rfl)))
  have l1 := cc1.load
  have cc2 := x3.cell (by omega) ((b2 0 _ rfl))
  have l2 := cc2.load
  have xK : Ext h h3 := ((x1.trans x2).trans x3)
  have q39 : runA ctx 5000 (d + 2) 39 [I n, I a, I m] h3 = some (Bo false, h3) := c39b (d + 1) h3 _ _ _ hv
  obtain ⟨h9, hs9, o9, _, _, l9⟩ := st24 (b3 0 (I 0) rfl) (b3 1 nilS rfl) (x := I 0) (y := nilS) rfl rfl
  have x9 : Ext h h9 := Fr.from xK (o9.fr (P := fun k => k = h2.c) rfl) (fun k e => by omega)
  refine wv_run fn23 rfl ?_
  have a0 : (enterEnv [I n, I a, I m] Try.f23.ntmps).get 0 = some (I n) := enter_get1 _ _ _
  have a1 : (enterEnv [I n, I a, I m] Try.f23.ntmps).get 1 = some (I a) := enter_get2 _ _ _ _
  have a2 : (enterEnv [I n, I a, I m] Try.f23.ntmps).get 2 = some (I m) := enter_get3 _ _ _ _ _
  generalize enterEnv [I n, I a, I m] Try.f23.ntmps = e at a0 a1 a2 ⊢
  unfold Try.f23
  dsimp only
  repeat' (first
    | refine wc_seq ?_
    | (refine wc_region rfl ?_; simp only [oUn_not, beq_self_eq_true, eq_self, pv_mul, List.toList_toArray, opsA_cons, opsA_nil, wantedA, guardA, yieldA, stepA_t, stepA_f, callA, calleeA, targetA, runOp_c, runOp_n, opA, ev, evs, evo, consO, consOO, withH, pickA, afterA_s, putA, T.get_put, Nat.reduceEqDiff, reduceIte, List.getElem?_toArray, List.getElem?_cons_zero, List.getElem?_cons_succ, oBuiltin, oBin, binA, binG, binL, aggO, litA, intA, ltF_eq, eqF_eq, oIndexAddr, cond_true, cond_false, Bool.not_true, Bool.not_false, decide_true, decide_false, blt_eq, tt_beq, tf_beq, ft_beq, ff_beq, Bool.and_true, Bool.true_and, Option.some.injEq, I, Bo, addI, subI, oExtract, Bool.not_eq_true', fieldAddrA, oFieldAddr, oLoad, oStore, isAggD, aggH, oneH, skipH, Nat.add_eq_left, Nat.left_eq_add, Nat.succ_ne_self, fieldA, partA, cellsOf, List.length_cons, List.length_nil, Nat.reduceAdd, Nat.zero_add, Nat.add_zero, Nat.mul_one, Nat.reduceMul, nbeq_self, onesA_cons', onesA_nil, oneA, Value.oneCell', Nat.reduceLT, ty3, ti3, ty24, ti24, ty65, ti65, a0, a1, a2, hb1, hb2, hb3, l1, l2, q39, uv, oFn, bld24z, hs9, l9, aggR, resCell, oBuild, evParts, consP]; refine ⟨_, _, rfl, ?_⟩)
    | (refine wc_cond (by simp only [oUn_not, beq_self_eq_true, eq_self, pv_mul, List.toList_toArray, opsA_cons, opsA_nil, wantedA, guardA, yieldA, stepA_t, stepA_f, callA, calleeA, targetA, runOp_c, runOp_n, opA, ev, evs, evo, consO, consOO, withH, pickA, afterA_s, putA, T.get_put, Nat.reduceEqDiff, reduceIte, List.getElem?_toArray, List.getElem?_cons_zero, List.getElem?_cons_succ, oBuiltin, oBin, binA, binG, binL, aggO, litA, intA, ltF_eq, eqF_eq, oIndexAddr, cond_true, cond_false, Bool.not_true, Bool.not_false, decide_true, decide_false, blt_eq, tt_beq, tf_beq, ft_beq, ff_beq, Bool.and_true, Bool.true_and, Option.some.injEq, I, Bo, addI, subI, oExtract, Bool.not_eq_true', fieldAddrA, oFieldAddr, oLoad, oStore, isAggD, aggH, oneH, skipH, Nat.add_eq_left, Nat.left_eq_add, Nat.succ_ne_self, fieldA, partA, cellsOf, List.length_cons, List.length_nil, Nat.reduceAdd, Nat.zero_add, Nat.add_zero, Nat.mul_one, Nat.reduceMul, nbeq_self, onesA_cons', onesA_nil, oneA, Value.oneCell', Nat.reduceLT, ty3, ti3, ty24, ti24, ty65, ti65, a0, a1, a2, hb1, hb2, hb3, l1, l2, q39, uv, oFn, bld24z, hs9, l9, aggR, resCell, oBuild, evParts, consP]; rfl) ?_ ?_ <;> intro hb <;> first | (exfalso; exact Bool.noConfusion hb) | skip)
    | refine wc_block ?_
    | refine wc_skip ?_
    | refine wc_scope (by decide) ?_
    | refine wc_label ?_
    | refine wc_exit ?_
    | refine wc_ret ?_
    | refine wv_ret (by simp only [resA, resOne]; simp only [oUn_not, beq_self_eq_true, eq_self, pv_mul, List.toList_toArray, opsA_cons, opsA_nil, wantedA, guardA, yieldA, stepA_t, stepA_f, callA, calleeA, targetA, runOp_c, runOp_n, opA, ev, evs, evo, consO, consOO, withH, pickA, afterA_s, putA, T.get_put, Nat.reduceEqDiff, reduceIte, List.getElem?_toArray, List.getElem?_cons_zero, List.getElem?_cons_succ, oBuiltin, oBin, binA, binG, binL, aggO, litA, intA, ltF_eq, eqF_eq, oIndexAddr, cond_true, cond_false, Bool.not_true, Bool.not_false, decide_true, decide_false, blt_eq, tt_beq, tf_beq, ft_beq, ff_beq, Bool.and_true, Bool.true_and, Option.some.injEq, I, Bo, addI, subI, oExtract, Bool.not_eq_true', fieldAddrA, oFieldAddr, oLoad, oStore, isAggD, aggH, oneH, skipH, Nat.add_eq_left, Nat.left_eq_add, Nat.succ_ne_self, fieldA, partA, cellsOf, List.length_cons, List.length_nil, Nat.reduceAdd, Nat.zero_add, Nat.add_zero, Nat.mul_one, Nat.reduceMul, nbeq_self, onesA_cons', onesA_nil, oneA, Value.oneCell', Nat.reduceLT, ty3, ti3, ty24, ti24, ty65, ti65, a0, a1, a2, hb1, hb2, hb3, l1, l2, q39, uv, oFn, bld24z, hs9, l9, aggR, resCell, oBuild, evParts, consP]; rfl) ?_)
  all_goals exact ⟨x9, _, rfl, rfl, ownS_nil _⟩
set_option maxHeartbeats 4000000 in
theorem c24 (d : Nat) (h : Hp) (n a m t : Nat)  (hn : n ≤ 4096) (ha : a + m ≤ n) (ht : t ≤ n - m) : Wv (runA ctx 5000 (d + 3) 24 [I (Int.ofNat n), I (Int.ofNat a), I (Int.ofNat m), I (Int.ofNat t)] h) (fun r h' => ResM h h' r (Int.ofNat n) ((List.range n).map fun (i : Nat) => mvF (Int.ofNat a) (Int.ofNat m) (Int.ofNat t) i) 0) := by
  obtain ⟨h1, hb1, x1, k1, b1⟩ := box_new h 3 (I (Int.ofNat a))
  obtain ⟨h2, hb2, x2, k2, b2⟩ := box_new h1 3 (I (Int.ofNat m))
  obtain ⟨h3, hb3, x3, k3, b3⟩ := box_new h2 3 (I (Int.ofNat t))
  obtain ⟨h4, hb4, x4, k4, b4⟩ := alloc_new h3 24 (ti := ti24) rfl
  simp only [ti24] at hb4
  have cc1 := x4.cell (by omega) (x3.cell (by omega) (x2.cell (by omega) ((b1 0 _ rfl))))
  have l1 := cc1.load
  have cc2 := x4.cell (by omega) (x3.cell (by omega) ((b2 0 _ rfl)))
  have l2 := cc2.load
  have cc3 := x4.cell (by omega) ((b3 0 _ rfl))
  have l3 := cc3.load
  have xK : Ext h h4 := (((x1.trans x2).trans x3).trans x4)
  have q39 : runA ctx 5000 (d + 2) 39 [I (Int.ofNat n), I (Int.ofNat a), I (Int.ofNat m)] h4 = some (Bo true, h4) := c39 (d + 1) h4 _ _ _ ⟨(by (try simp only [Int.ofNat_eq_natCast]); omega), (by (try simp only [Int.ofNat_eq_natCast]); omega), (by (try simp only [Int.ofNat_eq_natCast]); omega), (by (try simp only [Int.ofNat_eq_natCast]); omega), (by (try simp only [Int.ofNat_eq_natCast]); omega), (by (try simp only [Int.ofNat_eq_natCast]); omega)⟩
  have w2 : IntKind.wrap .i64 (Int.ofNat n - Int.ofNat m) = Int.ofNat n - Int.ofNat m := by rw [IntKind.wrap_i64]; simp only [Int.ofNat_eq_natCast]; omega
  have z1 : decide (Int.ofNat t < 0) = false := by first | (simp; done) | (simp; omega)
  have z2 : decide (Int.ofNat n - Int.ofNat m < Int.ofNat t) = false := by first | (simp; done) | (simp; omega)
  refine wv_run fn24 rfl ?_
  have a0 : (enterEnv [I (Int.ofNat n), I (Int.ofNat a), I (Int.ofNat m), I (Int.ofNat t)] Try.f24.ntmps).get 0 = some (I (Int.ofNat n)) := enter_get1 _ _ _
  have a1 : (enterEnv [I (Int.ofNat n), I (Int.ofNat a), I (Int.ofNat m), I (Int.ofNat t)] Try.f24.ntmps).get 1 = some (I (Int.ofNat a)) := enter_get2 _ _ _ _
  have a2 : (enterEnv [I (Int.ofNat n), I (Int.ofNat a), I (Int.ofNat m), I (Int.ofNat t)] Try.f24.ntmps).get 2 = some (I (Int.ofNat m)) := enter_get3 _ _ _ _ _
  have a3 : (enterEnv [I (Int.ofNat n), I (Int.ofNat a), I (Int.ofNat m), I (Int.ofNat t)] Try.f24.ntmps).get 3 = some (I (Int.ofNat t)) := enter_get4 _ _ _ _ _ _
  generalize enterEnv [I (Int.ofNat n), I (Int.ofNat a), I (Int.ofNat m), I (Int.ofNat t)] Try.f24.ntmps = e at a0 a1 a2 a3 ⊢
  unfold Try.f24
  dsimp only
  repeat' (first
    | refine wc_seq ?_
    | (refine wc_region rfl ?_; simp only [oUn_not, beq_self_eq_true, eq_self, pv_mul, List.toList_toArray, opsA_cons, opsA_nil, wantedA, guardA, yieldA, stepA_t, stepA_f, callA, calleeA, targetA, runOp_c, runOp_n, opA, ev, evs, evo, consO, consOO, withH, pickA, afterA_s, putA, T.get_put, Nat.reduceEqDiff, reduceIte, List.getElem?_toArray, List.getElem?_cons_zero, List.getElem?_cons_succ, oBuiltin, oBin, binA, binG, binL, aggO, litA, intA, ltF_eq, eqF_eq, oIndexAddr, cond_true, cond_false, Bool.not_true, Bool.not_false, decide_true, decide_false, blt_eq, tt_beq, tf_beq, ft_beq, ff_beq, Bool.and_true, Bool.true_and, Option.some.injEq, I, Bo, addI, subI, oExtract, Bool.not_eq_true', fieldAddrA, oFieldAddr, oLoad, oStore, isAggD, aggH, oneH, skipH, Nat.add_eq_left, Nat.left_eq_add, Nat.succ_ne_self, fieldA, partA, cellsOf, List.length_cons, List.length_nil, Nat.reduceAdd, Nat.zero_add, Nat.add_zero, Nat.mul_one, Nat.reduceMul, nbeq_self, onesA_cons', onesA_nil, oneA, Value.oneCell', Nat.reduceLT, ty3, ti3, ty24, ti24, ty65, ti65, a0, a1, a2, a3, hb1, hb2, hb3, hb4, l1, l2, l3, q39, w2, z1, z2, uv, oFn, bld24z]; refine ⟨_, _, rfl, ?_⟩)
    | (refine wc_cond (by simp only [oUn_not, beq_self_eq_true, eq_self, pv_mul, List.toList_toArray, opsA_cons, opsA_nil, wantedA, guardA, yieldA, stepA_t, stepA_f, callA, calleeA, targetA, runOp_c, runOp_n, opA, ev, evs, evo, consO, consOO, withH, pickA, afterA_s, putA, T.get_put, Nat.reduceEqDiff, reduceIte, List.getElem?_toArray, List.getElem?_cons_zero, List.getElem?_cons_succ, oBuiltin, oBin, binA, binG, binL, aggO, litA, intA, ltF_eq, eqF_eq, oIndexAddr, cond_true, cond_false, Bool.not_true, Bool.not_false, decide_true, decide_false, blt_eq, tt_beq, tf_beq, ft_beq, ff_beq, Bool.and_true, Bool.true_and, Option.some.injEq, I, Bo, addI, subI, oExtract, Bool.not_eq_true', fieldAddrA, oFieldAddr, oLoad, oStore, isAggD, aggH, oneH, skipH, Nat.add_eq_left, Nat.left_eq_add, Nat.succ_ne_self, fieldA, partA, cellsOf, List.length_cons, List.length_nil, Nat.reduceAdd, Nat.zero_add, Nat.add_zero, Nat.mul_one, Nat.reduceMul, nbeq_self, onesA_cons', onesA_nil, oneA, Value.oneCell', Nat.reduceLT, ty3, ti3, ty24, ti24, ty65, ti65, a0, a1, a2, a3, hb1, hb2, hb3, hb4, l1, l2, l3, q39, w2, z1, z2, uv, oFn, bld24z]; rfl) ?_ ?_ <;> intro hb <;> first | (exfalso; exact Bool.noConfusion hb) | skip)
    | refine wc_block ?_
    | refine wc_skip ?_
    | refine wc_scope (by decide) ?_
    | refine wc_label ?_
    | refine wc_exit ?_
    | refine wc_ret ?_
    | refine wv_ret (by simp only [resA, resOne]; simp only [oUn_not, beq_self_eq_true, eq_self, pv_mul, List.toList_toArray, opsA_cons, opsA_nil, wantedA, guardA, yieldA, stepA_t, stepA_f, callA, calleeA, targetA, runOp_c, runOp_n, opA, ev, evs, evo, consO, consOO, withH, pickA, afterA_s, putA, T.get_put, Nat.reduceEqDiff, reduceIte, List.getElem?_toArray, List.getElem?_cons_zero, List.getElem?_cons_succ, oBuiltin, oBin, binA, binG, binL, aggO, litA, intA, ltF_eq, eqF_eq, oIndexAddr, cond_true, cond_false, Bool.not_true, Bool.not_false, decide_true, decide_false, blt_eq, tt_beq, tf_beq, ft_beq, ff_beq, Bool.and_true, Bool.true_and, Option.some.injEq, I, Bo, addI, subI, oExtract, Bool.not_eq_true', fieldAddrA, oFieldAddr, oLoad, oStore, isAggD, aggH, oneH, skipH, Nat.add_eq_left, Nat.left_eq_add, Nat.succ_ne_self, fieldA, partA, cellsOf, List.length_cons, List.length_nil, Nat.reduceAdd, Nat.zero_add, Nat.add_zero, Nat.mul_one, Nat.reduceMul, nbeq_self, onesA_cons', onesA_nil, oneA, Value.oneCell', Nat.reduceLT, ty3, ti3, ty24, ti24, ty65, ti65, a0, a1, a2, a3, hb1, hb2, hb3, hb4, l1, l2, l3, q39, w2, z1, z2, uv, oFn, bld24z]; rfl) ?_)
  · (refine wc_region rfl ?_; simp only [oUn_not, beq_self_eq_true, eq_self, pv_mul, List.toList_toArray, opsA_cons, opsA_nil, wantedA, guardA, yieldA, stepA_t, stepA_f, callA, calleeA, targetA, runOp_c, runOp_n, opA, ev, evs, evo, consO, consOO, withH, pickA, afterA_s, putA, T.get_put, Nat.reduceEqDiff, reduceIte, List.getElem?_toArray, List.getElem?_cons_zero, List.getElem?_cons_succ, oBuiltin, oBin, binA, binG, binL, aggO, litA, intA, ltF_eq, eqF_eq, oIndexAddr, cond_true, cond_false, Bool.not_true, Bool.not_false, decide_true, decide_false, blt_eq, tt_beq, tf_beq, ft_beq, ff_beq, Bool.and_true, Bool.true_and, Option.some.injEq, I, Bo, addI, subI, oExtract, Bool.not_eq_true', fieldAddrA, oFieldAddr, oLoad, oStore, isAggD, aggH, oneH, skipH, Nat.add_eq_left, Nat.left_eq_add, Nat.succ_ne_self, fieldA, partA, cellsOf, List.length_cons, List.length_nil, Nat.reduceAdd, Nat.zero_add, Nat.add_zero, Nat.mul_one, Nat.reduceMul, nbeq_self, onesA_cons', onesA_nil, oneA, Value.oneCell', Nat.reduceLT, ty3, ti3, ty24, ti24, ty65, ti65, a0, a1, a2, a3, hb1, hb2, hb3, hb4, l1, l2, l3, q39, w2, z1, z2, uv, oFn, bld24z]; refine wo_call (c33f d h4 (Int.ofNat n) n 41 [.ptr h2.c 0, .ptr h1.c 0, .ptr h.c 0] (fun i => mvF (Int.ofNat a) (Int.ofNat m) (Int.ofNat t) i) hn (fun i hi h' hx => c41 d h' i (Int.ofNat a) (Int.ofNat m) (Int.ofNat t) h2.c h1.c h.c (hx.cell (by omega) cc3) (hx.cell (by omega) cc2) (hx.cell (by omega) cc1) (by (try simp only [Int.ofNat_eq_natCast]); omega) (by (try simp only [Int.ofNat_eq_natCast]); omega) (by (try simp only [Int.ofNat_eq_natCast]); omega) (by (try simp only [Int.ofNat_eq_natCast]); omega))) ?_; rintro _ h8 ⟨x8, s, rfl, os, ow, on, _⟩; obtain ⟨h9, hs9, o9, _, _, l9⟩ := st24 (x8.cell (by omega) (b4 0 (I 0) rfl)) (x8.cell (by omega) (b4 1 nilS rfl)) (x := I (Int.ofNat n)) (y := s) rfl os; simp only [oUn_not, beq_self_eq_true, eq_self, pv_mul, List.toList_toArray, opsA_cons, opsA_nil, wantedA, guardA, yieldA, stepA_t, stepA_f, callA, calleeA, targetA, runOp_c, runOp_n, opA, ev, evs, evo, consO, consOO, withH, pickA, afterA_s, putA, T.get_put, Nat.reduceEqDiff, reduceIte, List.getElem?_toArray, List.getElem?_cons_zero, List.getElem?_cons_succ, oBuiltin, oBin, binA, binG, binL, aggO, litA, intA, ltF_eq, eqF_eq, oIndexAddr, cond_true, cond_false, Bool.not_true, Bool.not_false, decide_true, decide_false, blt_eq, tt_beq, tf_beq, ft_beq, ff_beq, Bool.and_true, Bool.true_and, Option.some.injEq, I, Bo, addI, subI, oExtract, Bool.not_eq_true', fieldAddrA, oFieldAddr, oLoad, oStore, isAggD, aggH, oneH, skipH, Nat.add_eq_left, Nat.left_eq_add, Nat.succ_ne_self, fieldA, partA, cellsOf, List.length_cons, List.length_nil, Nat.reduceAdd, Nat.zero_add, Nat.add_zero, Nat.mul_one, Nat.reduceMul, nbeq_self, onesA_cons', onesA_nil, oneA, Value.oneCell', Nat.reduceLT, ty3, ti3, ty24, ti24, ty65, ti65, a0, a1, a2, a3, hb1, hb2, hb3, hb4, l1, l2, l3, q39, w2, z1, z2, uv, oFn, bld24z, hs9]; refine ⟨_, _, rfl, ?_⟩)
    have kk9 := o9.c
    have kk8 := x8.c
    have x9 : Ext h h9 := Fr.from (xK.trans x8) (o9.fr (P := fun k => k = h3.c) rfl) (fun k e => by omega)
    repeat' (first
      | refine wc_seq ?_
      | (refine wc_region rfl ?_; simp only [oUn_not, beq_self_eq_true, eq_self, pv_mul, List.toList_toArray, opsA_cons, opsA_nil, wantedA, guardA, yieldA, stepA_t, stepA_f, callA, calleeA, targetA, runOp_c, runOp_n, opA, ev, evs, evo, consO, consOO, withH, pickA, afterA_s, putA, T.get_put, Nat.reduceEqDiff, reduceIte, List.getElem?_toArray, List.getElem?_cons_zero, List.getElem?_cons_succ, oBuiltin, oBin, binA, binG, binL, aggO, litA, intA, ltF_eq, eqF_eq, oIndexAddr, cond_true, cond_false, Bool.not_true, Bool.not_false, decide_true, decide_false, blt_eq, tt_beq, tf_beq, ft_beq, ff_beq, Bool.and_true, Bool.true_and, Option.some.injEq, I, Bo, addI, subI, oExtract, Bool.not_eq_true', fieldAddrA, oFieldAddr, oLoad, oStore, isAggD, aggH, oneH, skipH, Nat.add_eq_left, Nat.left_eq_add, Nat.succ_ne_self, fieldA, partA, cellsOf, List.length_cons, List.length_nil, Nat.reduceAdd, Nat.zero_add, Nat.add_zero, Nat.mul_one, Nat.reduceMul, nbeq_self, onesA_cons', onesA_nil, oneA, Value.oneCell', Nat.reduceLT, ty3, ti3, ty24, ti24, ty65, ti65, a0, a1, a2, a3, hb1, hb2, hb3, hb4, l1, l2, l3, q39, w2, z1, z2, uv, oFn, bld24z, hs9, l9, aggR, resCell]; refine ⟨_, _, rfl, ?_⟩)
      | (refine wc_cond (by simp only [oUn_not, beq_self_eq_true, eq_self, pv_mul, List.toList_toArray, opsA_cons, opsA_nil, wantedA, guardA, yieldA, stepA_t, stepA_f, callA, calleeA, targetA, runOp_c, runOp_n, opA, ev, evs, evo, consO, consOO, withH, pickA, afterA_s, putA, T.get_put, Nat.reduceEqDiff, reduceIte, List.getElem?_toArray, List.getElem?_cons_zero, List.getElem?_cons_succ, oBuiltin, oBin, binA, binG, binL, aggO, litA, intA, ltF_eq, eqF_eq, oIndexAddr, cond_true, cond_false, Bool.not_true, Bool.not_false, decide_true, decide_false, blt_eq, tt_beq, tf_beq, ft_beq, ff_beq, Bool.and_true, Bool.true_and, Option.some.injEq, I, Bo, addI, subI, oExtract, Bool.not_eq_true', fieldAddrA, oFieldAddr, oLoad, oStore, isAggD, aggH, oneH, skipH, Nat.add_eq_left, Nat.left_eq_add, Nat.succ_ne_self, fieldA, partA, cellsOf, List.length_cons, List.length_nil, Nat.reduceAdd, Nat.zero_add, Nat.add_zero, Nat.mul_one, Nat.reduceMul, nbeq_self, onesA_cons', onesA_nil, oneA, Value.oneCell', Nat.reduceLT, ty3, ti3, ty24, ti24, ty65, ti65, a0, a1, a2, a3, hb1, hb2, hb3, hb4, l1, l2, l3, q39, w2, z1, z2, uv, oFn, bld24z, hs9, l9, aggR, resCell]; rfl) ?_ ?_ <;> intro hb <;> first | (exfalso; exact Bool.noConfusion hb) | skip)
      | refine wc_block ?_
      | refine wc_skip ?_
      | refine wc_scope (by decide) ?_
      | refine wc_label ?_
      | refine wc_exit ?_
      | refine wc_ret ?_
      | refine wv_ret (by simp only [resA, resOne]; simp only [oUn_not, beq_self_eq_true, eq_self, pv_mul, List.toList_toArray, opsA_cons, opsA_nil, wantedA, guardA, yieldA, stepA_t, stepA_f, callA, calleeA, targetA, runOp_c, runOp_n, opA, ev, evs, evo, consO, consOO, withH, pickA, afterA_s, putA, T.get_put, Nat.reduceEqDiff, reduceIte, List.getElem?_toArray, List.getElem?_cons_zero, List.getElem?_cons_succ, oBuiltin, oBin, binA, binG, binL, aggO, litA, intA, ltF_eq, eqF_eq, oIndexAddr, cond_true, cond_false, Bool.not_true, Bool.not_false, decide_true, decide_false, blt_eq, tt_beq, tf_beq, ft_beq, ff_beq, Bool.and_true, Bool.true_and, Option.some.injEq, I, Bo, addI, subI, oExtract, Bool.not_eq_true', fieldAddrA, oFieldAddr, oLoad, oStore, isAggD, aggH, oneH, skipH, Nat.add_eq_left, Nat.left_eq_add, Nat.succ_ne_self, fieldA, partA, cellsOf, List.length_cons, List.length_nil, Nat.reduceAdd, Nat.zero_add, Nat.add_zero, Nat.mul_one, Nat.reduceMul, nbeq_self, onesA_cons', onesA_nil, oneA, Value.oneCell', Nat.reduceLT, ty3, ti3, ty24, ti24, ty65, ti65, a0, a1, a2, a3, hb1, hb2, hb3, hb4, l1, l2, l3, q39, w2, z1, z2, uv, oFn, bld24z, hs9, l9, aggR, resCell]; rfl) ?_)
    all_goals exact ⟨x9, _, rfl, os, ow.only o9 (fun k hk => by have := on k hk; omega)⟩
set_option maxHeartbeats 4000000 in
theorem c24b (d : Nat) (h : Hp)  (n a m t : Int) (hv : ¬ Sv n a m) : Wv (runA ctx 5000 (d + 3) 24 [I n, I a, I m, I t] h) (fun r h' => ResM h h' r (0) ([]) 4) := by
  obtain ⟨h1, hb1, x1, k1, b1⟩ := box_new h 3 (I a)
  obtain ⟨h2, hb2, x2, k2, b2⟩ := box_new h1 3 (I m)
  obtain ⟨h3, hb3, x3, k3, b3⟩ := box_new h2 3 (I t)
  obtain ⟨h4, hb4, x4, k4, b4⟩ := alloc_new h3 24 (ti := ti24) rfl
  simp only [ti24] at hb4
  have cc1 := x4.cell (by omega) (x3.cell (by omega) (x2.cell (by omega) ((b1 0 _ rfl))))
  have l1 := cc1.load
  have cc2 := x4.cell (by omega) (x3.cell (by omega) ((b2 0 _ rfl)))
  have l2 := cc2.load
  have cc3 := x4.cell (by omega) ((b3 0 _ rfl))
  have l3 := cc3.load
  have xK : Ext h h4 := (((x1.trans x2).trans x3).trans x4)
  have q39 : runA ctx 5000 (d + 2) 39 [I n, I a, I m] h4 = some (Bo false, h4) := c39b (d + 1) h4 _ _ _ hv
  obtain ⟨h9, hs9, o9, _, _, l9⟩ := st24 (b4 0 (I 0) rfl) (b4 1 nilS rfl) (x := I 0) (y := nilS) rfl rfl
  have x9 : Ext h h9 := Fr.from xK (o9.fr (P := fun k => k = h3.c) rfl) (fun k e => by omega)
  refine wv_run fn24 rfl ?_
  have a0 : (enterEnv [I n, I a, I m, I t] Try.f24.ntmps).get 0 = some (I n) := enter_get1 _ _ _
  have a1 : (enterEnv [I n, I a, I m, I t] Try.f24.ntmps).get 1 = some (I a) := enter_get2 _ _ _ _
  have a2 : (enterEnv [I n, I a, I m, I t] Try.f24.ntmps).get 2 = some (I m) := enter_get3 _ _ _ _ _
  have a3 : (enterEnv [I n, I a, I m, I t] Try.f24.ntmps).get 3 = some (I t) := enter_get4 _ _ _ _ _ _
  generalize enterEnv [I n, I a, I m, I t] Try.f24.ntmps = e at a0 a1 a2 a3 ⊢
  unfold Try.f24
  dsimp only
  repeat' (first
    | refine wc_seq ?_
    | (refine wc_region rfl ?_; simp only [oUn_not, beq_self_eq_true, eq_self, pv_mul, List.toList_toArray, opsA_cons, opsA_nil, wantedA, guardA, yieldA, stepA_t, stepA_f, callA, calleeA, targetA, runOp_c, runOp_n, opA, ev, evs, evo, consO, consOO, withH, pickA, afterA_s, putA, T.get_put, Nat.reduceEqDiff, reduceIte, List.getElem?_toArray, List.getElem?_cons_zero, List.getElem?_cons_succ, oBuiltin, oBin, binA, binG, binL, aggO, litA, intA, ltF_eq, eqF_eq, oIndexAddr, cond_true, cond_false, Bool.not_true, Bool.not_false, decide_true, decide_false, blt_eq, tt_beq, tf_beq, ft_beq, ff_beq, Bool.and_true, Bool.true_and, Option.some.injEq, I, Bo, addI, subI, oExtract, Bool.not_eq_true', fieldAddrA, oFieldAddr, oLoad, oStore, isAggD, aggH, oneH, skipH, Nat.add_eq_left, Nat.left_eq_add, Nat.succ_ne_self, fieldA, partA, cellsOf, List.length_cons, List.length_nil, Nat.reduceAdd, Nat.zero_add, Nat.add_zero, Nat.mul_one, Nat.reduceMul, nbeq_self, onesA_cons', onesA_nil, oneA, Value.oneCell', Nat.reduceLT, ty3, ti3, ty24, ti24, ty65, ti65, a0, a1, a2, a3, hb1, hb2, hb3, hb4, l1, l2, l3, q39, uv, oFn, bld24z, hs9, l9, aggR, resCell, oBuild, evParts, consP]; refine ⟨_, _, rfl, ?_⟩)
    | (refine wc_cond (by simp only [oUn_not, beq_self_eq_true, eq_self, pv_mul, List.toList_toArray, opsA_cons, opsA_nil, wantedA, guardA, yieldA, stepA_t, stepA_f, callA, calleeA, targetA, runOp_c, runOp_n, opA, ev, evs, evo, consO, consOO, withH, pickA, afterA_s, putA, T.get_put, Nat.reduceEqDiff, reduceIte, List.getElem?_toArray, List.getElem?_cons_zero, List.getElem?_cons_succ, oBuiltin, oBin, binA, binG, binL, aggO, litA, intA, ltF_eq, eqF_eq, oIndexAddr, cond_true, cond_false, Bool.not_true, Bool.not_false, decide_true, decide_false, blt_eq, tt_beq, tf_beq, ft_beq, ff_beq, Bool.and_true, Bool.true_and, Option.some.injEq, I, Bo, addI, subI, oExtract, Bool.not_eq_true', fieldAddrA, oFieldAddr, oLoad, oStore, isAggD, aggH, oneH, skipH, Nat.add_eq_left, Nat.left_eq_add, Nat.succ_ne_self, fieldA, partA, cellsOf, List.length_cons, List.length_nil, Nat.reduceAdd, Nat.zero_add, Nat.add_zero, Nat.mul_one, Nat.reduceMul, nbeq_self, onesA_cons', onesA_nil, oneA, Value.oneCell', Nat.reduceLT, ty3, ti3, ty24, ti24, ty65, ti65, a0, a1, a2, a3, hb1, hb2, hb3, hb4, l1, l2, l3, q39, uv, oFn, bld24z, hs9, l9, aggR, resCell, oBuild, evParts, consP]; rfl) ?_ ?_ <;> intro hb <;> first | (exfalso; exact Bool.noConfusion hb) | skip)
    | refine wc_block ?_
    | refine wc_skip ?_
    | refine wc_scope (by decide) ?_
    | refine wc_label ?_
    | refine wc_exit ?_
    | refine wc_ret ?_
    | refine wv_ret (by simp only [resA, resOne]; simp only [oUn_not, beq_self_eq_true, eq_self, pv_mul, List.toList_toArray, opsA_cons, opsA_nil, wantedA, guardA, yieldA, stepA_t, stepA_f, callA, calleeA, targetA, runOp_c, runOp_n, opA, ev, evs, evo, consO, consOO, withH, pickA, afterA_s, putA, T.get_put, Nat.reduceEqDiff, reduceIte, List.getElem?_toArray, List.getElem?_cons_zero, List.getElem?_cons_succ, oBuiltin, oBin, binA, binG, binL, aggO, litA, intA, ltF_eq, eqF_eq, oIndexAddr, cond_true, cond_false, Bool.not_true, Bool.not_false, decide_true, decide_false, blt_eq, tt_beq, tf_beq, ft_beq, ff_beq, Bool.and_true, Bool.true_and, Option.some.injEq, I, Bo, addI, subI, oExtract, Bool.not_eq_true', fieldAddrA, oFieldAddr, oLoad, oStore, isAggD, aggH, oneH, skipH, Nat.add_eq_left, Nat.left_eq_add, Nat.succ_ne_self, fieldA, partA, cellsOf, List.length_cons, List.length_nil, Nat.reduceAdd, Nat.zero_add, Nat.add_zero, Nat.mul_one, Nat.reduceMul, nbeq_self, onesA_cons', onesA_nil, oneA, Value.oneCell', Nat.reduceLT, ty3, ti3, ty24, ti24, ty65, ti65, a0, a1, a2, a3, hb1, hb2, hb3, hb4, l1, l2, l3, q39, uv, oFn, bld24z, hs9, l9, aggR, resCell, oBuild, evParts, consP]; rfl) ?_)
  all_goals exact ⟨x9, _, rfl, rfl, ownS_nil _⟩
set_option maxHeartbeats 4000000 in
theorem c24c (d : Nat) (h : Hp)  (n a m t : Int) (hv : Sv n a m) (ht : t < 0) : Wv (runA ctx 5000 (d + 3) 24 [I n, I a, I m, I t] h) (fun r h' => ResM h h' r (0) ([]) 4) := by
  obtain ⟨h1, hb1, x1, k1, b1⟩ := box_new h 3 (I a)
  obtain ⟨h2, hb2, x2, k2, b2⟩ := box_new h1 3 (I m)
  obtain ⟨h3, hb3, x3, k3, b3⟩ := box_new h2 3 (I t)
  obtain ⟨h4, hb4, x4, k4, b4⟩ := alloc_new h3 24 (ti := ti24) rfl
  simp only [ti24] at hb4
  have cc1 := x4.cell (by omega) (x3.cell (by omega) (x2.cell (by omega) ((b1 0 _ rfl))))
  have l1 := cc1.load
  have cc2 := x4.cell (by omega) (x3.cell (by omega) ((b2 0 _ rfl)))
  have l2 := cc2.load
  have cc3 := x4.cell (by omega) ((b3 0 _ rfl))
  have l3 := cc3.load
  have xK : Ext h h4 := (((x1.trans x2).trans x3).trans x4)
  have q39 : runA ctx 5000 (d + 2) 39 [I n, I a, I m] h4 = some (Bo true, h4) := c39 (d + 1) h4 _ _ _ hv
  have z1 : decide (t < 0) = true := by first | (simp; done) | (simp; omega)
  obtain ⟨h9, hs9, o9, _, _, l9⟩ := st24 (b4 0 (I 0) rfl) (b4 1 nilS rfl) (x := I 0) (y := nilS) rfl rfl
  have x9 : Ext h h9 := Fr.from xK (o9.fr (P := fun k => k = h3.c) rfl) (fun k e => by omega)
  refine wv_run fn24 rfl ?_
  have a0 : (enterEnv [I n, I a, I m, I t] Try.f24.ntmps).get 0 = some (I n) := enter_get1 _ _ _
  have a1 : (enterEnv [I n, I a, I m, I t] Try.f24.ntmps).get 1 = some (I a) := enter_get2 _ _ _ _
  have a2 : (enterEnv [I n, I a, I m, I t] Try.f24.ntmps).get 2 = some (I m) := enter_get3 _ _ _ _ _
  have a3 : (enterEnv [I n, I a, I m, I t] Try.f24.ntmps).get 3 = some (I t) := enter_get4 _ _ _ _ _ _
  generalize enterEnv [I n, I a, I m, I t] Try.f24.ntmps = e at a0 a1 a2 a3 ⊢
  unfold Try.f24
  dsimp only
  repeat' (first
    | refine wc_seq ?_
    | (refine wc_region rfl ?_; simp only [oUn_not, beq_self_eq_true, eq_self, pv_mul, List.toList_toArray, opsA_cons, opsA_nil, wantedA, guardA, yieldA, stepA_t, stepA_f, callA, calleeA, targetA, runOp_c, runOp_n, opA, ev, evs, evo, consO, consOO, withH, pickA, afterA_s, putA, T.get_put, Nat.reduceEqDiff, reduceIte, List.getElem?_toArray, List.getElem?_cons_zero, List.getElem?_cons_succ, oBuiltin, oBin, binA, binG, binL, aggO, litA, intA, ltF_eq, eqF_eq, oIndexAddr, cond_true, cond_false, Bool.not_true, Bool.not_false, decide_true, decide_false, blt_eq, tt_beq, tf_beq, ft_beq, ff_beq, Bool.and_true, Bool.true_and, Option.some.injEq, I, Bo, addI, subI, oExtract, Bool.not_eq_true', fieldAddrA, oFieldAddr, oLoad, oStore, isAggD, aggH, oneH, skipH, Nat.add_eq_left, Nat.left_eq_add, Nat.succ_ne_self, fieldA, partA, cellsOf, List.length_cons, List.length_nil, Nat.reduceAdd, Nat.zero_add, Nat.add_zero, Nat.mul_one, Nat.reduceMul, nbeq_self, onesA_cons', onesA_nil, oneA, Value.oneCell', Nat.reduceLT, ty3, ti3, ty24, ti24, ty65, ti65, a0, a1, a2, a3, hb1, hb2, hb3, hb4, l1, l2, l3, q39, z1, uv, oFn, bld24z, hs9, l9, aggR, resCell, oBuild, evParts, consP]; refine ⟨_, _, rfl, ?_⟩)
    | (refine wc_cond (by simp only [oUn_not, beq_self_eq_true, eq_self, pv_mul, List.toList_toArray, opsA_cons, opsA_nil, wantedA, guardA, yieldA, stepA_t, stepA_f, callA, calleeA, targetA, runOp_c, runOp_n, opA, ev, evs, evo, consO, consOO, withH, pickA, afterA_s, putA, T.get_put, Nat.reduceEqDiff, reduceIte, List.getElem?_toArray, List.getElem?_cons_zero, List.getElem?_cons_succ, oBuiltin, oBin, binA, binG, binL, aggO, litA, intA, ltF_eq, eqF_eq, oIndexAddr, cond_true, cond_false, Bool.not_true, Bool.not_false, decide_true, decide_false, blt_eq, tt_beq, tf_beq, ft_beq, ff_beq, Bool.and_true, Bool.true_and, Option.some.injEq, I, Bo, addI, subI, oExtract, Bool.not_eq_true', fieldAddrA, oFieldAddr, oLoad, oStore, isAggD, aggH, oneH, skipH, Nat.add_eq_left, Nat.left_eq_add, Nat.succ_ne_self, fieldA, partA, cellsOf, List.length_cons, List.length_nil, Nat.reduceAdd, Nat.zero_add, Nat.add_zero, Nat.mul_one, Nat.reduceMul, nbeq_self, onesA_cons', onesA_nil, oneA, Value.oneCell', Nat.reduceLT, ty3, ti3, ty24, ti24, ty65, ti65, a0, a1, a2, a3, hb1, hb2, hb3, hb4, l1, l2, l3, q39, z1, uv, oFn, bld24z, hs9, l9, aggR, resCell, oBuild, evParts, consP]; rfl) ?_ ?_ <;> intro hb <;> first | (exfalso; exact Bool.noConfusion hb) | skip)
    | refine wc_block ?_
    | refine wc_skip ?_
    | refine wc_scope (by decide) ?_
    | refine wc_label ?_
    | refine wc_exit ?_
    | refine wc_ret ?_
    | refine wv_ret (by simp only [resA, resOne]; simp only [oUn_not, beq_self_eq_true, eq_self, pv_mul, List.toList_toArray, opsA_cons, opsA_nil, wantedA, guardA, yieldA, stepA_t, stepA_f, callA, calleeA, targetA, runOp_c, runOp_n, opA, ev, evs, evo, consO, consOO, withH, pickA, afterA_s, putA, T.get_put, Nat.reduceEqDiff, reduceIte, List.getElem?_toArray, List.getElem?_cons_zero, List.getElem?_cons_succ, oBuiltin, oBin, binA, binG, binL, aggO, litA, intA, ltF_eq, eqF_eq, oIndexAddr, cond_true, cond_false, Bool.not_true, Bool.not_false, decide_true, decide_false, blt_eq, tt_beq, tf_beq, ft_beq, ff_beq, Bool.and_true, Bool.true_and, Option.some.injEq, I, Bo, addI, subI, oExtract, Bool.not_eq_true', fieldAddrA, oFieldAddr, oLoad, oStore, isAggD, aggH, oneH, skipH, Nat.add_eq_left, Nat.left_eq_add, Nat.succ_ne_self, fieldA, partA, cellsOf, List.length_cons, List.length_nil, Nat.reduceAdd, Nat.zero_add, Nat.add_zero, Nat.mul_one, Nat.reduceMul, nbeq_self, onesA_cons', onesA_nil, oneA, Value.oneCell', Nat.reduceLT, ty3, ti3, ty24, ti24, ty65, ti65, a0, a1, a2, a3, hb1, hb2, hb3, hb4, l1, l2, l3, q39, z1, uv, oFn, bld24z, hs9, l9, aggR, resCell, oBuild, evParts, consP]; rfl) ?_)
  all_goals exact ⟨x9, _, rfl, rfl, ownS_nil _⟩
set_option maxHeartbeats 4000000 in
theorem c24d (d : Nat) (h : Hp)  (n a m t : Int) (hv : Sv n a m) (h0 : ¬ t < 0) (ht : n - m < t) : Wv (runA ctx 5000 (d + 3) 24 [I n, I a, I m, I t] h) (fun r h' => ResM h h' r (0) ([]) 4) := by
  obtain ⟨h1, hb1, x1, k1, b1⟩ := box_new h 3 (I a)
  obtain ⟨h2, hb2, x2, k2, b2⟩ := box_new h1 3 (I m)
  obtain ⟨h3, hb3, x3, k3, b3⟩ := box_new h2 3 (I t)
  obtain ⟨h4, hb4, x4, k4, b4⟩ := alloc_new h3 24 (ti := ti24) rfl
  simp only [ti24] at hb4
  have cc1 := x4.cell (by omega) (x3.cell (by omega) (x2.cell (by omega) ((b1 0 _ rfl))))
  have l1 := cc1.load
  have cc2 := x4.cell (by omega) (x3.cell (by omega) ((b2 0 _ rfl)))
  have l2 := cc2.load
  have cc3 := x4.cell (by omega) ((b3 0 _ rfl))
  have l3 := cc3.load
  have xK : Ext h h4 := (((x1.trans x2).trans x3).trans x4)
  have q39 : runA ctx 5000 (d + 2) 39 [I n, I a, I m] h4 = some (Bo true, h4) := c39 (d + 1) h4 _ _ _ hv
  have z1 : decide (t < 0) = false := by first | (simp; done) | (simp; omega)
  have w2 : IntKind.wrap .i64 (n - m) = n - m := by unfold Sv at hv; rw [IntKind.wrap_i64]; omega
  have z2 : decide (n - m < t) = true := by simpa using ht
  obtain ⟨h9, hs9, o9, _, _, l9⟩ := st24 (b4 0 (I 0) rfl) (b4 1 nilS rfl) (x := I 0) (y := nilS) rfl rfl
  have x9 : Ext h h9 := Fr.from xK (o9.fr (P := fun k => k = h3.c) rfl) (fun k e => by omega)
  refine wv_run fn24 rfl ?_
  have a0 : (enterEnv [I n, I a, I m, I t] Try.f24.ntmps).get 0 = some (I n) := enter_get1 _ _ _
  have a1 : (enterEnv [I n, I a, I m, I t] Try.f24.ntmps).get 1 = some (I a) := enter_get2 _ _ _ _
  have a2 : (enterEnv [I n, I a, I m, I t] Try.f24.ntmps).get 2 = some (I m) := enter_get3 _ _ _ _ _
  have a3 : (enterEnv [I n, I a, I m, I t] Try.f24.ntmps).get 3 = some (I t) := enter_get4 _ _ _ _ _ _
  generalize enterEnv [I n, I a, I m, I t] Try.f24.ntmps = e at a0 a1 a2 a3 ⊢
  unfold Try.f24
  dsimp only
  repeat' (first
    | refine wc_seq ?_
    | (refine wc_region rfl ?_; simp only [oUn_not, beq_self_eq_true, eq_self, pv_mul, List.toList_toArray, opsA_cons, opsA_nil, wantedA, guardA, yieldA, stepA_t, stepA_f, callA, calleeA, targetA, runOp_c, runOp_n, opA, ev, evs, evo, consO, consOO, withH, pickA, afterA_s, putA, T.get_put, Nat.reduceEqDiff, reduceIte, List.getElem?_toArray, List.getElem?_cons_zero, List.getElem?_cons_succ, oBuiltin, oBin, binA, binG, binL, aggO, litA, intA, ltF_eq, eqF_eq, oIndexAddr, cond_true, cond_false, Bool.not_true, Bool.not_false, decide_true, decide_false, blt_eq, tt_beq, tf_beq, ft_beq, ff_beq, Bool.and_true, Bool.true_and, Option.some.injEq, I, Bo, addI, subI, oExtract, Bool.not_eq_true', fieldAddrA, oFieldAddr, oLoad, oStore, isAggD, aggH, oneH, skipH, Nat.add_eq_left, Nat.left_eq_add, Nat.succ_ne_self, fieldA, partA, cellsOf, List.length_cons, List.length_nil, Nat.reduceAdd, Nat.zero_add, Nat.add_zero, Nat.mul_one, Nat.reduceMul, nbeq_self, onesA_cons', onesA_nil, oneA, Value.oneCell', Nat.reduceLT, ty3, ti3, ty24, ti24, ty65, ti65, a0, a1, a2, a3, hb1, hb2, hb3, hb4, l1, l2, l3, q39, z1, w2, z2, uv, oFn, bld24z, hs9, l9, aggR, resCell, oBuild, evParts, consP]; refine ⟨_, _, rfl, ?_⟩)
    | (refine wc_cond (by simp only [oUn_not, beq_self_eq_true, eq_self, pv_mul, List.toList_toArray, opsA_cons, opsA_nil, wantedA, guardA, yieldA, stepA_t, stepA_f, callA, calleeA, targetA, runOp_c, runOp_n, opA, ev, evs, evo, consO, consOO, withH, pickA, afterA_s, putA, T.get_put, Nat.reduceEqDiff, reduceIte, List.getElem?_toArray, List.getElem?_cons_zero, List.getElem?_cons_succ, oBuiltin, oBin, binA, binG, binL, aggO, litA, intA, ltF_eq, eqF_eq, oIndexAddr, cond_true, cond_false, Bool.not_true, Bool.not_false, decide_true, decide_false, blt_eq, tt_beq, tf_beq, ft_beq, ff_beq, Bool.and_true, Bool.true_and, Option.some.injEq, I, Bo, addI, subI, oExtract, Bool.not_eq_true', fieldAddrA, oFieldAddr, oLoad, oStore, isAggD, aggH, oneH, skipH, Nat.add_eq_left, Nat.left_eq_add, Nat.succ_ne_self, fieldA, partA, cellsOf, List.length_cons, List.length_nil, Nat.reduceAdd, Nat.zero_add, Nat.add_zero, Nat.mul_one, Nat.reduceMul, nbeq_self, onesA_cons', onesA_nil, oneA, Value.oneCell', Nat.reduceLT, ty3, ti3, ty24, ti24, ty65, ti65, a0, a1, a2, a3, hb1, hb2, hb3, hb4, l1, l2, l3, q39, z1, w2, z2, uv, oFn, bld24z, hs9, l9, aggR, resCell, oBuild, evParts, consP]; rfl) ?_ ?_ <;> intro hb <;> first | (exfalso; exact Bool.noConfusion hb) | skip)
    | refine wc_block ?_
    | refine wc_skip ?_
    | refine wc_scope (by decide) ?_
    | refine wc_label ?_
    | refine wc_exit ?_
    | refine wc_ret ?_
    | refine wv_ret (by simp only [resA, resOne]; simp only [oUn_not, beq_self_eq_true, eq_self, pv_mul, List.toList_toArray, opsA_cons, opsA_nil, wantedA, guardA, yieldA, stepA_t, stepA_f, callA, calleeA, targetA, runOp_c, runOp_n, opA, ev, evs, evo, consO, consOO, withH, pickA, afterA_s, putA, T.get_put, Nat.reduceEqDiff, reduceIte, List.getElem?_toArray, List.getElem?_cons_zero, List.getElem?_cons_succ, oBuiltin, oBin, binA, binG, binL, aggO, litA, intA, ltF_eq, eqF_eq, oIndexAddr, cond_true, cond_false, Bool.not_true, Bool.not_false, decide_true, decide_false, blt_eq, tt_beq, tf_beq, ft_beq, ff_beq, Bool.and_true, Bool.true_and, Option.some.injEq, I, Bo, addI, subI, oExtract, Bool.not_eq_true', fieldAddrA, oFieldAddr, oLoad, oStore, isAggD, aggH, oneH, skipH, Nat.add_eq_left, Nat.left_eq_add, Nat.succ_ne_self, fieldA, partA, cellsOf, List.length_cons, List.length_nil, Nat.reduceAdd, Nat.zero_add, Nat.add_zero, Nat.mul_one, Nat.reduceMul, nbeq_self, onesA_cons', onesA_nil, oneA, Value.oneCell', Nat.reduceLT, ty3, ti3, ty24, ti24, ty65, ti65, a0, a1, a2, a3, hb1, hb2, hb3, hb4, l1, l2, l3, q39, z1, w2, z2, uv, oFn, bld24z, hs9, l9, aggR, resCell, oBuild, evParts, consP]; rfl) ?_)
  all_goals exact ⟨x9, _, rfl, rfl, ownS_nil _⟩
end Go.Proofs.Ytdbajhklnaekjaa
