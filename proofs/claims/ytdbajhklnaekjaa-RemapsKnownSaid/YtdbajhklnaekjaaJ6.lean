import Derived.Test.YtdbajhklnaekjaaJ5
import Derived.KernelRfl
namespace Go.Proofs.Ytdbajhklnaekjaa
open Go Go.Proofs Go.RowKit
set_option linter.unusedSimpArgs false
set_option linter.unusedVariables false
open Go.Proofs.Abs
/-- a part of a text -/
def subC : List Bool → Code → Code
  | [], c => c
  | b :: l, .seq x y => subC l (cond b y x)
  | b :: l, .cond _ x y => subC l (cond b y x)
  | _ :: l, .block _ x => subC l x
  | _ :: l, .loop x => subC l x
  | _ :: l, .scope x => subC l x
  | _, c => c
def bodyC (fn : Func) : Code := fn.body.getD .skip
theorem cnt_or {α : Type} {p q r : α → Bool} (h : ∀ x, p x = true → q x = true ∨ r x = true) : ∀ l : List α, l.countP p ≤ l.countP q + l.countP r := by
  intro l
  induction l with
  | nil => simp
  | cons x l ih =>
    rw [List.countP_cons, List.countP_cons, List.countP_cons]
    have := h x
    by_cases hp : p x = true
    · rw [if_pos hp]
      rcases this hp with h1 | h1
      · rw [if_pos h1]; split <;> omega
      · rw [if_pos h1]; split <;> omega
    · rw [if_neg hp]; omega
theorem cnt_one (x : Int) (N : Nat) : (List.range N).countP (fun j : Nat => decide ((j : Int) = x)) ≤ 1 ∧ (x < 0 ∨ (N : Int) ≤ x → (List.range N).countP (fun j : Nat => decide ((j : Int) = x)) = 0) := by
  induction N with
  | zero => simp
  | succ N ih =>
    rw [List.range_succ, List.countP_append, List.countP_cons, List.countP_nil]
    by_cases h : (N : Int) = x
    · rw [ih.2 (by omega)]
      simp [h]
      omega
    · simp only [h, decide_false, Bool.false_eq_true, if_false]
      exact ⟨by have := ih.1; omega, fun h2 => by rw [ih.2 (by omega)]⟩
theorem cnt_mem (N : Nat) : ∀ xs : List Int, (List.range N).countP (fun j : Nat => decide ((j : Int) ∈ xs)) ≤ xs.length := by
  intro xs
  induction xs with
  | nil => simp
  | cons x xs ih =>
    have h1 := cnt_or (p := fun j : Nat => decide ((j : Int) ∈ x :: xs)) (q := fun j : Nat => decide ((j : Int) = x)) (r := fun j : Nat => decide ((j : Int) ∈ xs)) (fun j hj => by
      simp only [decide_eq_true_eq, List.mem_cons] at hj ⊢
      exact hj) (List.range N)
    have h2 := (cnt_one x N).1
    rw [List.length_cons]
    omega
theorem atF_mem {j : Int} (hj : 0 ≤ j) : ∀ {l : List Int} {i : Nat}, j ∈ l → atF j l i ≠ -1
  | x :: xs, i, h => by
    rw [atF]
    by_cases e : x = j
    · rw [if_pos e]
      simp only [Int.ofNat_eq_natCast]
      omega
    · rw [if_neg e]
      rcases List.mem_cons.1 h with h1 | h1
      · exact absurd h1.symm e
      · exact atF_mem hj h1
/-- no more indices are there than the list has elements -/
theorem gone_cnt (xs : List Int) (N : Nat) : N ≤ (goneL xs N).length + xs.length := by
  have h1 := cnt_mem N xs
  have h2 : (goneL xs N).length = (List.range N).countP (fun j : Nat => atF (j : Int) xs 0 == -1) := by
    unfold goneL
    rw [List.length_map, List.countP_eq_length_filter]
  have h3 := cnt_or (p := fun _ : Nat => true) (q := fun j : Nat => atF (j : Int) xs 0 == -1) (r := fun j : Nat => decide ((j : Int) ∈ xs)) (fun j _ => by
    by_cases hm : (j : Int) ∈ xs
    · exact .inr (by simpa using hm)
    · exact .inl (by rw [atF_not hm]; rfl)) (List.range N)
  have h4 : (List.range N).countP (fun _ : Nat => true) = N := by
    rw [List.countP_true, List.length_range]
  omega
theorem fn11 : ctx.funs.get 11 = some Try.f11 := by kernel_rfl
set_option maxHeartbeats 4000000 in
theorem c11 (d : Nat) (h : Hp) : Wv (runA ctx 5000 (d + 1) 11 [I 0, nilS] h) (fun r h' => r = .agg [I 0, nilS] ∧ Ext h h') := by
  obtain ⟨h1, hb1, x1, k1, b1⟩ := alloc_new h 24 (ti := ti24) rfl
  simp only [ti24] at hb1
  have bl : buildA ctx 24 [(0, I 0), (1, nilS)] = some (.agg [I 0, nilS]) := by kernel_rfl
  obtain ⟨h9, hs9, o9, _, _, l9⟩ := st24 (b1 0 (I 0) rfl) (b1 1 nilS rfl) (x := I 0) (y := nilS) rfl rfl
  have x9 : Ext h h9 := Fr.from x1 (o9.fr (P := fun k => k = h.c) rfl) (fun k e => by omega)
  refine wv_run fn11 rfl ?_
  have a0 : (enterEnv [I 0, nilS] Try.f11.ntmps).get 0 = some (I 0) := enter_get1 _ _ _
  have a1 : (enterEnv [I 0, nilS] Try.f11.ntmps).get 1 = some (nilS) := enter_get2 _ _ _ _
  generalize enterEnv [I 0, nilS] Try.f11.ntmps = e at a0 a1 ⊢
  unfold Try.f11
  dsimp only
  repeat' (first
    | refine wc_seq ?_
    | (refine wc_region rfl ?_; simp only [oUn_not, beq_self_eq_true, eq_self, pv_mul, List.toList_toArray, opsA_cons, opsA_nil, wantedA, guardA, yieldA, stepA_t, stepA_f, callA, calleeA, targetA, runOp_c, runOp_n, opA, ev, evs, evo, consO, consOO, withH, pickA, afterA_s, putA, T.get_put, Nat.reduceEqDiff, reduceIte, List.getElem?_toArray, List.getElem?_cons_zero, List.getElem?_cons_succ, oBuiltin, oBin, binA, binG, binL, aggO, litA, intA, ltF_eq, eqF_eq, oIndexAddr, cond_true, cond_false, Bool.not_true, Bool.not_false, decide_true, decide_false, blt_eq, tt_beq, tf_beq, ft_beq, ff_beq, Bool.and_true, Bool.true_and, Option.some.injEq, I, Bo, addI, subI, oExtract, Bool.not_eq_true', fieldAddrA, oFieldAddr, oLoad, oStore, isAggD, aggH, oneH, skipH, Nat.add_eq_left, Nat.left_eq_add, Nat.succ_ne_self, fieldA, partA, cellsOf, List.length_cons, List.length_nil, Nat.reduceAdd, Nat.zero_add, Nat.add_zero, Nat.mul_one, Nat.reduceMul, nbeq_self, onesA_cons', onesA_nil, oneA, Value.oneCell', Nat.reduceLT, ty24, ti24, a0, a1, hb1, bl, hs9, l9, aggR, resCell, oBuild, oBuildSlice, evParts, consP]; refine ⟨_, _, rfl, ?_⟩)
    | (refine wc_cond (by simp only [oUn_not, beq_self_eq_true, eq_self, pv_mul, List.toList_toArray, opsA_cons, opsA_nil, wantedA, guardA, yieldA, stepA_t, stepA_f, callA, calleeA, targetA, runOp_c, runOp_n, opA, ev, evs, evo, consO, consOO, withH, pickA, afterA_s, putA, T.get_put, Nat.reduceEqDiff, reduceIte, List.getElem?_toArray, List.getElem?_cons_zero, List.getElem?_cons_succ, oBuiltin, oBin, binA, binG, binL, aggO, litA, intA, ltF_eq, eqF_eq, oIndexAddr, cond_true, cond_false, Bool.not_true, Bool.not_false, decide_true, decide_false, blt_eq, tt_beq, tf_beq, ft_beq, ff_beq, Bool.and_true, Bool.true_and, Option.some.injEq, I, Bo, addI, subI, oExtract, Bool.not_eq_true', fieldAddrA, oFieldAddr, oLoad, oStore, isAggD, aggH, oneH, skipH, Nat.add_eq_left, Nat.left_eq_add, Nat.succ_ne_self, fieldA, partA, cellsOf, List.length_cons, List.length_nil, Nat.reduceAdd, Nat.zero_add, Nat.add_zero, Nat.mul_one, Nat.reduceMul, nbeq_self, onesA_cons', onesA_nil, oneA, Value.oneCell', Nat.reduceLT, ty24, ti24, a0, a1, hb1, bl, hs9, l9, aggR, resCell, oBuild, oBuildSlice, evParts, consP]; rfl) ?_ ?_ <;> intro hb <;> first | (exfalso; exact Bool.noConfusion hb) | skip)
    | refine wc_block ?_
    | refine wc_skip ?_
    | refine wc_scope (by decide) ?_
    | refine wc_label ?_
    | refine wc_exit ?_
    | refine wc_ret ?_
    | refine wv_ret (by simp only [resA, resOne]; simp only [oUn_not, beq_self_eq_true, eq_self, pv_mul, List.toList_toArray, opsA_cons, opsA_nil, wantedA, guardA, yieldA, stepA_t, stepA_f, callA, calleeA, targetA, runOp_c, runOp_n, opA, ev, evs, evo, consO, consOO, withH, pickA, afterA_s, putA, T.get_put, Nat.reduceEqDiff, reduceIte, List.getElem?_toArray, List.getElem?_cons_zero, List.getElem?_cons_succ, oBuiltin, oBin, binA, binG, binL, aggO, litA, intA, ltF_eq, eqF_eq, oIndexAddr, cond_true, cond_false, Bool.not_true, Bool.not_false, decide_true, decide_false, blt_eq, tt_beq, tf_beq, ft_beq, ff_beq, Bool.and_true, Bool.true_and, Option.some.injEq, I, Bo, addI, subI, oExtract, Bool.not_eq_true', fieldAddrA, oFieldAddr, oLoad, oStore, isAggD, aggH, oneH, skipH, Nat.add_eq_left, Nat.left_eq_add, Nat.succ_ne_self, fieldA, partA, cellsOf, List.length_cons, List.length_nil, Nat.reduceAdd, Nat.zero_add, Nat.add_zero, Nat.mul_one, Nat.reduceMul, nbeq_self, onesA_cons', onesA_nil, oneA, Value.oneCell', Nat.reduceLT, ty24, ti24, a0, a1, hb1, bl, hs9, l9, aggR, resCell, oBuild, oBuildSlice, evParts, consP]; rfl) ?_)
  all_goals exact ⟨rfl, x9⟩
def isLives (f : FuncId) : Bool := Nat.beq f 9
noncomputable def all8 : CallF := plus isLives (runA ctx 5000 8)
theorem q9 (h : Hp) : all8 9 [] h = some (Bo true, h) := plus_lit rfl
theorem a8 {f : FuncId} {args : List AV} {h : Hp} (hf : isLives f = false) : all8 f args h = runA ctx 5000 8 f args h := by
  unfold all8; exact plus_not hf
structure MapAt (h : Hp) (p : Nat) (o : Int) (s : AV) (xs : List Int) : Prop where
  lt : p < h.c
  c0 : Cell h p 0 (I o)
  c1 : Cell h p 1 s
  own : OwnS h s xs
theorem MapAt.ext {h h' : Hp} {p : Nat} {o : Int} {s : AV} {xs : List Int} (m : MapAt h p o s xs) (a : Ext h h') : MapAt h' p o s xs :=
  ⟨Nat.lt_of_lt_of_le m.lt a.c, a.cell m.lt m.c0, a.cell m.lt m.c1, m.own.ext a⟩
theorem MapAt.load {h : Hp} {p : Nat} {o : Int} {s : AV} {xs : List Int} (m : MapAt h p o s xs) : Abs.load h p 0 2 = some [I o, s] := load2 m.c0.load m.c1.load
set_option maxHeartbeats 4000000 in
theorem law_a (h : Hp) (o x : Int) (s : AV) (xs : List Int) (hs : IsL h s (xs.map I)) (hl60 : xs.length ≤ 60) (o1 o2 o3 k1 k2 av ac : Int) (xs1 xs2 xs3 gl : List Int) (q12 : ∀ h, IsL h s (xs.map I) → Wv (all8 12 [.agg [I o, s], .agg [I 0, nilS]] h) (fun r h' => ResM h h' r o1 xs1 k1)) (q12b : ∀ h, IsL h s (xs.map I) → Wv (all8 12 [.agg [I 0, nilS], .agg [I o, s]] h) (fun r h' => ResM h h' r o2 xs2 k2)) (q13 : ∀ h, IsL h s (xs.map I) → Wv (all8 13 [.agg [I o, s]] h) (fun r h' => ResM h h' r o3 xs3 (chkM o xs))) (q14 : ∀ h, IsL h s (xs.map I) → Wv (all8 14 [.agg [I o, s], I x] h) (fun r h' => r = .tup [I av, I ac] ∧ Ext h h')) (q15 : ∀ h, IsL h s (xs.map I) → Wv (all8 15 [.agg [I o, s]] h) (fun r h' => ∃ w, r = .tup [w, I (chkM o xs)] ∧ OwnS h' w gl ∧ Ext h h'))
    (rest : ∀ (h : Hp) (e : Env) (pm p1 p2 p3 : Nat) (s1 s2 s3 g : AV) (pmlt : pm < h.c) (pm0 : Cell h pm 0 (I o)) (pm1 : Cell h pm 1 s) (hs : IsL h s (xs.map I)) (m1 : MapAt h p1 o1 s1 xs1) (m2 : MapAt h p2 o2 s2 xs2) (m3 : MapAt h p3 o3 s3 xs3) (og : OwnS h g gl) (e1 : e.get 1 = some (I x)) (e2 : e.get 2 = some (.ptr pm 0)) (e5 : e.get 5 = some (I (chkM o xs))) (e7 : e.get 7 = some (.ptr p1 0)) (e8 : e.get 8 = some (I k1)) (e9 : e.get 9 = some (.ptr p2 0)) (e10 : e.get 10 = some (I k2)) (e11 : e.get 11 = some (.ptr p3 0)) (e12 : e.get 12 = some (I (chkM o xs))) (e13 : e.get 13 = some (I av)) (e14 : e.get 14 = some (I ac)) (e15 : e.get 15 = some g) (e16 : e.get 16 = some (I (chkM o xs))), Wc (codeA ctx (all8) 5000 4991 (subC [true, true, true, true, true, true, true, true, true] (bodyC Try.f3)) e h) (fun x e h => Wv (returnA ctx Try.f3.results.toList (some (x, e, h))) (fun v _ => v = Bo true))) : Wv (funA ctx all8 5000 [.agg [I o, s], I x] h (ctx.funs.get 3)) (fun v _ => v = Bo true) := by
  obtain ⟨h1, hb1, x1, y1, b1⟩ := box_new h 24 (.agg [I o, s])
  have c0 := b1 0 (I o) rfl
  have c1 := b1 1 s rfl
  have l0 := c0.load
  have l1 := c1.load
  have hl := lenL hs
  have z60 : decide (60 < (xs.length : Int)) = false := by simp; omega
  have r10 : all8 10 [I o, s] h1 = some (I (chkM o xs), h1) := by rw [a8 rfl]; exact c10 7 h1 o s xs (hs.ext x1)
  obtain ⟨_, g0, e11, rfl, xc0⟩ := c11 7 h1
  rw [← a8 (f := 11) rfl] at e11
  obtain ⟨u0, ha0, xa0, y0, ba0⟩ := alloc_new g0 24 (ti := ti24) rfl
  simp only [ti24] at ha0
  obtain ⟨v0, hs0, oo0, ca0, cb0, _⟩ := st24 (ba0 0 (I 0) rfl) (ba0 1 nilS rfl) (x := I 0) (y := nilS) rfl rfl
  have oc0 := oo0.c
  have xv0 : Ext h1 v0 := xc0.trans (Fr.from xa0 (oo0.fr (P := fun k => k = g0.c) rfl) (fun k e => by omega))
  have kv0 := xv0.c
  have lm0 := load2 (xv0.cell (by omega) c0).load (xv0.cell (by omega) c1).load
  have ln0 := load2 ca0.load cb0.load
  obtain ⟨_, g1, r1, ⟨xc1, s1, rfl, os1, w1⟩⟩ := q12 v0 (hs.ext (x1.trans xv0))
  obtain ⟨u1, ha1, xa1, y1', ba1⟩ := alloc_new g1 24 (ti := ti24) rfl
  simp only [ti24] at ha1
  obtain ⟨v1, hs1, oo1, ca1, cb1, _⟩ := st24 (ba1 0 (I 0) rfl) (ba1 1 nilS rfl) (x := I o1) (y := s1) rfl os1
  have oc1 := oo1.c
  have xw1 : Ext g1 v1 := Fr.from xa1 (oo1.fr (P := fun k => k = g1.c) rfl) (fun k e => by omega)
  have M1 : MapAt v1 g1.c o1 s1 xs1 := ⟨by omega, ca1, cb1, w1.ext xw1⟩
  have xv1 := xc1.trans xw1
  have kv1 := xv1.c
  have lm1 := load2 (xv1.cell (by omega) (xv0.cell (by omega) c0)).load (xv1.cell (by omega) (xv0.cell (by omega) c1)).load
  have ln1 := load2 (xv1.cell (by omega) ca0).load (xv1.cell (by omega) cb0).load
  have x11 := xv0.trans xv1
  obtain ⟨_, g2, r2, ⟨xc2, s2, rfl, os2, w2⟩⟩ := q12b v1 (hs.ext (x1.trans x11))
  obtain ⟨u2, ha2, xa2, y2', ba2⟩ := alloc_new g2 24 (ti := ti24) rfl
  simp only [ti24] at ha2
  obtain ⟨v2, hs2, oo2, ca2, cb2, _⟩ := st24 (ba2 0 (I 0) rfl) (ba2 1 nilS rfl) (x := I o2) (y := s2) rfl os2
  have oc2 := oo2.c
  have xw2 : Ext g2 v2 := Fr.from xa2 (oo2.fr (P := fun k => k = g2.c) rfl) (fun k e => by omega)
  have M2 : MapAt v2 g2.c o2 s2 xs2 := ⟨by omega, ca2, cb2, w2.ext xw2⟩
  have xv2 := xc2.trans xw2
  have kv2 := xv2.c
  have x12 := x11.trans xv2
  have lm2 := load2 (x12.cell (by omega) c0).load (x12.cell (by omega) c1).load
  obtain ⟨_, g3, r3, ⟨xc3, s3, rfl, os3, w3⟩⟩ := q13 v2 (hs.ext (x1.trans x12))
  obtain ⟨u3, ha3, xa3, y3', ba3⟩ := alloc_new g3 24 (ti := ti24) rfl
  simp only [ti24] at ha3
  obtain ⟨v3, hs3, oo3, ca3, cb3, _⟩ := st24 (ba3 0 (I 0) rfl) (ba3 1 nilS rfl) (x := I o3) (y := s3) rfl os3
  have oc3 := oo3.c
  have xw3 : Ext g3 v3 := Fr.from xa3 (oo3.fr (P := fun k => k = g3.c) rfl) (fun k e => by omega)
  have M3 : MapAt v3 g3.c o3 s3 xs3 := ⟨by omega, ca3, cb3, w3.ext xw3⟩
  have xv3 := xc3.trans xw3
  have kv3 := xv3.c
  have x13 := x12.trans xv3
  have lm3 := load2 (x13.cell (by omega) c0).load (x13.cell (by omega) c1).load
  obtain ⟨_, h4, r14, rfl, x4⟩ := q14 v3 (hs.ext (x1.trans x13))
  have kv4 := x4.c
  have x14 := x13.trans x4
  have lm4 := load2 (x14.cell (by omega) c0).load (x14.cell (by omega) c1).load
  obtain ⟨_, h5, r15, w, rfl, ow, x5⟩ := q15 h4 (hs.ext (x1.trans x14))
  have x15 := x14.trans x5
  have av_m := avM (o := o) hs
  have av_n : avB 4 (.agg [I 0, nilS]) (.agg [I 0, nilS]) = true := by kernel_rfl

  refine wv_fun fn3 rfl ?_
  have a0 : (enterEnv [.agg [I o, s], I x] Try.f3.ntmps).get 0 = some (.agg [I o, s]) := enter_get1 _ _ _
  have a1 : (enterEnv [.agg [I o, s], I x] Try.f3.ntmps).get 1 = some (I x) := enter_get2 _ _ _ _
  generalize enterEnv [.agg [I o, s], I x] Try.f3.ntmps = e at a0 a1 ⊢
  unfold Try.f3
  dsimp only
  refine wc_seq ?_
  (refine wc_region rfl ?_; simp only [oUn_not, beq_self_eq_true, eq_self, pv_mul, List.toList_toArray, opsA_cons, opsA_nil, wantedA, guardA, yieldA, stepA_t, stepA_f, callA, calleeA, targetA, runOp_c, runOp_n, opA, ev, evs, evo, consO, consOO, withH, pickA, afterA_s, putA, T.get_put, Nat.reduceEqDiff, reduceIte, List.getElem?_toArray, List.getElem?_cons_zero, List.getElem?_cons_succ, oBuiltin, oBin, binA, binG, binL, aggO, litA, intA, ltF_eq, eqF_eq, oIndexAddr, cond_true, cond_false, Bool.not_true, Bool.not_false, decide_true, decide_false, blt_eq, tt_beq, tf_beq, ft_beq, ff_beq, Bool.and_true, Bool.true_and, Option.some.injEq, I, Bo, addI, subI, oExtract, Bool.not_eq_true', fieldAddrA, oFieldAddr, oLoad, oStore, isAggD, aggH, oneH, skipH, Nat.add_eq_left, Nat.left_eq_add, Nat.succ_ne_self, fieldA, partA, cellsOf, List.length_cons, List.length_nil, Nat.reduceAdd, Nat.zero_add, Nat.add_zero, Nat.mul_one, Nat.reduceMul, nbeq_self, onesA_cons', onesA_nil, oneA, Value.oneCell', Nat.reduceLT, ty3, ti3, ty4, ti4, ty22, ti22, ty24, ti24, ty28, ti28, a0, a1, hb1, l0, l1, hl, z60, r10, e11, ha0, hs0, lm0, ln0, r1, ha1, hs1, lm1, ln1, r2, ha2, hs2, lm2, r3, ha3, hs3, lm3, r14, lm4, r15, av_m, av_n]; refine ⟨_, _, rfl, ?_⟩)
  refine wc_seq ?_
  refine wc_seq ?_
  (refine wc_region rfl ?_; simp only [oUn_not, beq_self_eq_true, eq_self, pv_mul, List.toList_toArray, opsA_cons, opsA_nil, wantedA, guardA, yieldA, stepA_t, stepA_f, callA, calleeA, targetA, runOp_c, runOp_n, opA, ev, evs, evo, consO, consOO, withH, pickA, afterA_s, putA, T.get_put, Nat.reduceEqDiff, reduceIte, List.getElem?_toArray, List.getElem?_cons_zero, List.getElem?_cons_succ, oBuiltin, oBin, binA, binG, binL, aggO, litA, intA, ltF_eq, eqF_eq, oIndexAddr, cond_true, cond_false, Bool.not_true, Bool.not_false, decide_true, decide_false, blt_eq, tt_beq, tf_beq, ft_beq, ff_beq, Bool.and_true, Bool.true_and, Option.some.injEq, I, Bo, addI, subI, oExtract, Bool.not_eq_true', fieldAddrA, oFieldAddr, oLoad, oStore, isAggD, aggH, oneH, skipH, Nat.add_eq_left, Nat.left_eq_add, Nat.succ_ne_self, fieldA, partA, cellsOf, List.length_cons, List.length_nil, Nat.reduceAdd, Nat.zero_add, Nat.add_zero, Nat.mul_one, Nat.reduceMul, nbeq_self, onesA_cons', onesA_nil, oneA, Value.oneCell', Nat.reduceLT, ty3, ti3, ty4, ti4, ty22, ti22, ty24, ti24, ty28, ti28, a0, a1, hb1, l0, l1, hl, z60, r10, e11, ha0, hs0, lm0, ln0, r1, ha1, hs1, lm1, ln1, r2, ha2, hs2, lm2, r3, ha3, hs3, lm3, r14, lm4, r15, av_m, av_n]; refine ⟨_, _, rfl, ?_⟩)
  (refine wc_cond (by simp only [oUn_not, beq_self_eq_true, eq_self, pv_mul, List.toList_toArray, opsA_cons, opsA_nil, wantedA, guardA, yieldA, stepA_t, stepA_f, callA, calleeA, targetA, runOp_c, runOp_n, opA, ev, evs, evo, consO, consOO, withH, pickA, afterA_s, putA, T.get_put, Nat.reduceEqDiff, reduceIte, List.getElem?_toArray, List.getElem?_cons_zero, List.getElem?_cons_succ, oBuiltin, oBin, binA, binG, binL, aggO, litA, intA, ltF_eq, eqF_eq, oIndexAddr, cond_true, cond_false, Bool.not_true, Bool.not_false, decide_true, decide_false, blt_eq, tt_beq, tf_beq, ft_beq, ff_beq, Bool.and_true, Bool.true_and, Option.some.injEq, I, Bo, addI, subI, oExtract, Bool.not_eq_true', fieldAddrA, oFieldAddr, oLoad, oStore, isAggD, aggH, oneH, skipH, Nat.add_eq_left, Nat.left_eq_add, Nat.succ_ne_self, fieldA, partA, cellsOf, List.length_cons, List.length_nil, Nat.reduceAdd, Nat.zero_add, Nat.add_zero, Nat.mul_one, Nat.reduceMul, nbeq_self, onesA_cons', onesA_nil, oneA, Value.oneCell', Nat.reduceLT, ty3, ti3, ty4, ti4, ty22, ti22, ty24, ti24, ty28, ti28, a0, a1, hb1, l0, l1, hl, z60, r10, e11, ha0, hs0, lm0, ln0, r1, ha1, hs1, lm1, ln1, r2, ha2, hs2, lm2, r3, ha3, hs3, lm3, r14, lm4, r15, av_m, av_n]; rfl) ?_ ?_ <;> intro hb <;> first | (exfalso; exact Bool.noConfusion hb) | skip)
  refine wc_skip ?_
  refine wc_seq ?_
  (refine wc_region rfl ?_; simp only [oUn_not, beq_self_eq_true, eq_self, pv_mul, List.toList_toArray, opsA_cons, opsA_nil, wantedA, guardA, yieldA, stepA_t, stepA_f, callA, calleeA, targetA, runOp_c, runOp_n, opA, ev, evs, evo, consO, consOO, withH, pickA, afterA_s, putA, T.get_put, Nat.reduceEqDiff, reduceIte, List.getElem?_toArray, List.getElem?_cons_zero, List.getElem?_cons_succ, oBuiltin, oBin, binA, binG, binL, aggO, litA, intA, ltF_eq, eqF_eq, oIndexAddr, cond_true, cond_false, Bool.not_true, Bool.not_false, decide_true, decide_false, blt_eq, tt_beq, tf_beq, ft_beq, ff_beq, Bool.and_true, Bool.true_and, Option.some.injEq, I, Bo, addI, subI, oExtract, Bool.not_eq_true', fieldAddrA, oFieldAddr, oLoad, oStore, isAggD, aggH, oneH, skipH, Nat.add_eq_left, Nat.left_eq_add, Nat.succ_ne_self, fieldA, partA, cellsOf, List.length_cons, List.length_nil, Nat.reduceAdd, Nat.zero_add, Nat.add_zero, Nat.mul_one, Nat.reduceMul, nbeq_self, onesA_cons', onesA_nil, oneA, Value.oneCell', Nat.reduceLT, ty3, ti3, ty4, ti4, ty22, ti22, ty24, ti24, ty28, ti28, a0, a1, hb1, l0, l1, hl, z60, r10, e11, ha0, hs0, lm0, ln0, r1, ha1, hs1, lm1, ln1, r2, ha2, hs2, lm2, r3, ha3, hs3, lm3, r14, lm4, r15, av_m, av_n]; refine ⟨_, _, rfl, ?_⟩)
  refine wc_seq ?_
  (refine wc_region rfl ?_; simp only [oUn_not, beq_self_eq_true, eq_self, pv_mul, List.toList_toArray, opsA_cons, opsA_nil, wantedA, guardA, yieldA, stepA_t, stepA_f, callA, calleeA, targetA, runOp_c, runOp_n, opA, ev, evs, evo, consO, consOO, withH, pickA, afterA_s, putA, T.get_put, Nat.reduceEqDiff, reduceIte, List.getElem?_toArray, List.getElem?_cons_zero, List.getElem?_cons_succ, oBuiltin, oBin, binA, binG, binL, aggO, litA, intA, ltF_eq, eqF_eq, oIndexAddr, cond_true, cond_false, Bool.not_true, Bool.not_false, decide_true, decide_false, blt_eq, tt_beq, tf_beq, ft_beq, ff_beq, Bool.and_true, Bool.true_and, Option.some.injEq, I, Bo, addI, subI, oExtract, Bool.not_eq_true', fieldAddrA, oFieldAddr, oLoad, oStore, isAggD, aggH, oneH, skipH, Nat.add_eq_left, Nat.left_eq_add, Nat.succ_ne_self, fieldA, partA, cellsOf, List.length_cons, List.length_nil, Nat.reduceAdd, Nat.zero_add, Nat.add_zero, Nat.mul_one, Nat.reduceMul, nbeq_self, onesA_cons', onesA_nil, oneA, Value.oneCell', Nat.reduceLT, ty3, ti3, ty4, ti4, ty22, ti22, ty24, ti24, ty28, ti28, a0, a1, hb1, l0, l1, hl, z60, r10, e11, ha0, hs0, lm0, ln0, r1, ha1, hs1, lm1, ln1, r2, ha2, hs2, lm2, r3, ha3, hs3, lm3, r14, lm4, r15, av_m, av_n]; refine ⟨_, _, rfl, ?_⟩)
  refine wc_seq ?_
  first
  | (refine wc_region rfl ?_; simp only [oUn_not, beq_self_eq_true, eq_self, pv_mul, List.toList_toArray, opsA_cons, opsA_nil, wantedA, guardA, yieldA, stepA_t, stepA_f, callA, calleeA, targetA, runOp_c, runOp_n, opA, ev, evs, evo, consO, consOO, withH, pickA, afterA_s, putA, T.get_put, Nat.reduceEqDiff, reduceIte, List.getElem?_toArray, List.getElem?_cons_zero, List.getElem?_cons_succ, oBuiltin, oBin, binA, binG, binL, aggO, litA, intA, ltF_eq, eqF_eq, oIndexAddr, cond_true, cond_false, Bool.not_true, Bool.not_false, decide_true, decide_false, blt_eq, tt_beq, tf_beq, ft_beq, ff_beq, Bool.and_true, Bool.true_and, Option.some.injEq, I, Bo, addI, subI, oExtract, Bool.not_eq_true', fieldAddrA, oFieldAddr, oLoad, oStore, isAggD, aggH, oneH, skipH, Nat.add_eq_left, Nat.left_eq_add, Nat.succ_ne_self, fieldA, partA, cellsOf, List.length_cons, List.length_nil, Nat.reduceAdd, Nat.zero_add, Nat.add_zero, Nat.mul_one, Nat.reduceMul, nbeq_self, onesA_cons', onesA_nil, oneA, Value.oneCell', Nat.reduceLT, ty3, ti3, ty4, ti4, ty22, ti22, ty24, ti24, ty28, ti28, a0, a1, hb1, l0, l1, hl, z60, r10, e11, ha0, hs0, lm0, ln0, r1, ha1, hs1, lm1, ln1, r2, ha2, hs2, lm2, r3, ha3, hs3, lm3, r14, lm4, r15, av_m, av_n]; refine ⟨_, _, rfl, ?_⟩)
  | refine wc_dyn (p := (0, 7)) (ps := [(1, 7)]) (by kernel_rfl) (by simp only [oUn_not, beq_self_eq_true, eq_self, pv_mul, List.toList_toArray, opsA_cons, opsA_nil, wantedA, guardA, yieldA, stepA_t, stepA_f, callA, calleeA, targetA, runOp_c, runOp_n, opA, ev, evs, evo, consO, consOO, withH, pickA, afterA_s, putA, T.get_put, Nat.reduceEqDiff, reduceIte, List.getElem?_toArray, List.getElem?_cons_zero, List.getElem?_cons_succ, oBuiltin, oBin, binA, binG, binL, aggO, litA, intA, ltF_eq, eqF_eq, oIndexAddr, cond_true, cond_false, Bool.not_true, Bool.not_false, decide_true, decide_false, blt_eq, tt_beq, tf_beq, ft_beq, ff_beq, Bool.and_true, Bool.true_and, Option.some.injEq, I, Bo, addI, subI, oExtract, Bool.not_eq_true', fieldAddrA, oFieldAddr, oLoad, oStore, isAggD, aggH, oneH, skipH, Nat.add_eq_left, Nat.left_eq_add, Nat.succ_ne_self, fieldA, partA, cellsOf, List.length_cons, List.length_nil, Nat.reduceAdd, Nat.zero_add, Nat.add_zero, Nat.mul_one, Nat.reduceMul, nbeq_self, onesA_cons', onesA_nil, oneA, Value.oneCell', Nat.reduceLT, ty3, ti3, ty4, ti4, ty22, ti22, ty24, ti24, ty28, ti28, a0, a1, hb1, l0, l1, hl, z60, r10, e11, ha0, hs0, lm0, ln0, r1, ha1, hs1, lm1, ln1, r2, ha2, hs2, lm2, r3, ha3, hs3, lm3, r14, lm4, r15, av_m, av_n, trA_nil, trA_cons, nextT, preA]; rfl) (by simp only [oUn_not, beq_self_eq_true, eq_self, pv_mul, List.toList_toArray, opsA_cons, opsA_nil, wantedA, guardA, yieldA, stepA_t, stepA_f, callA, calleeA, targetA, runOp_c, runOp_n, opA, ev, evs, evo, consO, consOO, withH, pickA, afterA_s, putA, T.get_put, Nat.reduceEqDiff, reduceIte, List.getElem?_toArray, List.getElem?_cons_zero, List.getElem?_cons_succ, oBuiltin, oBin, binA, binG, binL, aggO, litA, intA, ltF_eq, eqF_eq, oIndexAddr, cond_true, cond_false, Bool.not_true, Bool.not_false, decide_true, decide_false, blt_eq, tt_beq, tf_beq, ft_beq, ff_beq, Bool.and_true, Bool.true_and, Option.some.injEq, I, Bo, addI, subI, oExtract, Bool.not_eq_true', fieldAddrA, oFieldAddr, oLoad, oStore, isAggD, aggH, oneH, skipH, Nat.add_eq_left, Nat.left_eq_add, Nat.succ_ne_self, fieldA, partA, cellsOf, List.length_cons, List.length_nil, Nat.reduceAdd, Nat.zero_add, Nat.add_zero, Nat.mul_one, Nat.reduceMul, nbeq_self, onesA_cons', onesA_nil, oneA, Value.oneCell', Nat.reduceLT, ty3, ti3, ty4, ti4, ty22, ti22, ty24, ti24, ty28, ti28, a0, a1, hb1, l0, l1, hl, z60, r10, e11, ha0, hs0, lm0, ln0, r1, ha1, hs1, lm1, ln1, r2, ha2, hs2, lm2, r3, ha3, hs3, lm3, r14, lm4, r15, av_m, av_n, checksD_nil, checksD_cons, checkD, checkG, sameR, avB_int]) rfl ?_
  refine wc_seq ?_
  first
  | (refine wc_region rfl ?_; simp only [oUn_not, beq_self_eq_true, eq_self, pv_mul, List.toList_toArray, opsA_cons, opsA_nil, wantedA, guardA, yieldA, stepA_t, stepA_f, callA, calleeA, targetA, runOp_c, runOp_n, opA, ev, evs, evo, consO, consOO, withH, pickA, afterA_s, putA, T.get_put, Nat.reduceEqDiff, reduceIte, List.getElem?_toArray, List.getElem?_cons_zero, List.getElem?_cons_succ, oBuiltin, oBin, binA, binG, binL, aggO, litA, intA, ltF_eq, eqF_eq, oIndexAddr, cond_true, cond_false, Bool.not_true, Bool.not_false, decide_true, decide_false, blt_eq, tt_beq, tf_beq, ft_beq, ff_beq, Bool.and_true, Bool.true_and, Option.some.injEq, I, Bo, addI, subI, oExtract, Bool.not_eq_true', fieldAddrA, oFieldAddr, oLoad, oStore, isAggD, aggH, oneH, skipH, Nat.add_eq_left, Nat.left_eq_add, Nat.succ_ne_self, fieldA, partA, cellsOf, List.length_cons, List.length_nil, Nat.reduceAdd, Nat.zero_add, Nat.add_zero, Nat.mul_one, Nat.reduceMul, nbeq_self, onesA_cons', onesA_nil, oneA, Value.oneCell', Nat.reduceLT, ty3, ti3, ty4, ti4, ty22, ti22, ty24, ti24, ty28, ti28, a0, a1, hb1, l0, l1, hl, z60, r10, e11, ha0, hs0, lm0, ln0, r1, ha1, hs1, lm1, ln1, r2, ha2, hs2, lm2, r3, ha3, hs3, lm3, r14, lm4, r15, av_m, av_n]; refine ⟨_, _, rfl, ?_⟩)
  | refine wc_dyn (p := (0, 7)) (ps := [(1, 7)]) (by kernel_rfl) (by simp only [oUn_not, beq_self_eq_true, eq_self, pv_mul, List.toList_toArray, opsA_cons, opsA_nil, wantedA, guardA, yieldA, stepA_t, stepA_f, callA, calleeA, targetA, runOp_c, runOp_n, opA, ev, evs, evo, consO, consOO, withH, pickA, afterA_s, putA, T.get_put, Nat.reduceEqDiff, reduceIte, List.getElem?_toArray, List.getElem?_cons_zero, List.getElem?_cons_succ, oBuiltin, oBin, binA, binG, binL, aggO, litA, intA, ltF_eq, eqF_eq, oIndexAddr, cond_true, cond_false, Bool.not_true, Bool.not_false, decide_true, decide_false, blt_eq, tt_beq, tf_beq, ft_beq, ff_beq, Bool.and_true, Bool.true_and, Option.some.injEq, I, Bo, addI, subI, oExtract, Bool.not_eq_true', fieldAddrA, oFieldAddr, oLoad, oStore, isAggD, aggH, oneH, skipH, Nat.add_eq_left, Nat.left_eq_add, Nat.succ_ne_self, fieldA, partA, cellsOf, List.length_cons, List.length_nil, Nat.reduceAdd, Nat.zero_add, Nat.add_zero, Nat.mul_one, Nat.reduceMul, nbeq_self, onesA_cons', onesA_nil, oneA, Value.oneCell', Nat.reduceLT, ty3, ti3, ty4, ti4, ty22, ti22, ty24, ti24, ty28, ti28, a0, a1, hb1, l0, l1, hl, z60, r10, e11, ha0, hs0, lm0, ln0, r1, ha1, hs1, lm1, ln1, r2, ha2, hs2, lm2, r3, ha3, hs3, lm3, r14, lm4, r15, av_m, av_n, trA_nil, trA_cons, nextT, preA]; rfl) (by simp only [oUn_not, beq_self_eq_true, eq_self, pv_mul, List.toList_toArray, opsA_cons, opsA_nil, wantedA, guardA, yieldA, stepA_t, stepA_f, callA, calleeA, targetA, runOp_c, runOp_n, opA, ev, evs, evo, consO, consOO, withH, pickA, afterA_s, putA, T.get_put, Nat.reduceEqDiff, reduceIte, List.getElem?_toArray, List.getElem?_cons_zero, List.getElem?_cons_succ, oBuiltin, oBin, binA, binG, binL, aggO, litA, intA, ltF_eq, eqF_eq, oIndexAddr, cond_true, cond_false, Bool.not_true, Bool.not_false, decide_true, decide_false, blt_eq, tt_beq, tf_beq, ft_beq, ff_beq, Bool.and_true, Bool.true_and, Option.some.injEq, I, Bo, addI, subI, oExtract, Bool.not_eq_true', fieldAddrA, oFieldAddr, oLoad, oStore, isAggD, aggH, oneH, skipH, Nat.add_eq_left, Nat.left_eq_add, Nat.succ_ne_self, fieldA, partA, cellsOf, List.length_cons, List.length_nil, Nat.reduceAdd, Nat.zero_add, Nat.add_zero, Nat.mul_one, Nat.reduceMul, nbeq_self, onesA_cons', onesA_nil, oneA, Value.oneCell', Nat.reduceLT, ty3, ti3, ty4, ti4, ty22, ti22, ty24, ti24, ty28, ti28, a0, a1, hb1, l0, l1, hl, z60, r10, e11, ha0, hs0, lm0, ln0, r1, ha1, hs1, lm1, ln1, r2, ha2, hs2, lm2, r3, ha3, hs3, lm3, r14, lm4, r15, av_m, av_n, checksD_nil, checksD_cons, checkD, checkG, sameR, avB_int]) rfl ?_
  refine wc_seq ?_
  first
  | (refine wc_region rfl ?_; simp only [oUn_not, beq_self_eq_true, eq_self, pv_mul, List.toList_toArray, opsA_cons, opsA_nil, wantedA, guardA, yieldA, stepA_t, stepA_f, callA, calleeA, targetA, runOp_c, runOp_n, opA, ev, evs, evo, consO, consOO, withH, pickA, afterA_s, putA, T.get_put, Nat.reduceEqDiff, reduceIte, List.getElem?_toArray, List.getElem?_cons_zero, List.getElem?_cons_succ, oBuiltin, oBin, binA, binG, binL, aggO, litA, intA, ltF_eq, eqF_eq, oIndexAddr, cond_true, cond_false, Bool.not_true, Bool.not_false, decide_true, decide_false, blt_eq, tt_beq, tf_beq, ft_beq, ff_beq, Bool.and_true, Bool.true_and, Option.some.injEq, I, Bo, addI, subI, oExtract, Bool.not_eq_true', fieldAddrA, oFieldAddr, oLoad, oStore, isAggD, aggH, oneH, skipH, Nat.add_eq_left, Nat.left_eq_add, Nat.succ_ne_self, fieldA, partA, cellsOf, List.length_cons, List.length_nil, Nat.reduceAdd, Nat.zero_add, Nat.add_zero, Nat.mul_one, Nat.reduceMul, nbeq_self, onesA_cons', onesA_nil, oneA, Value.oneCell', Nat.reduceLT, ty3, ti3, ty4, ti4, ty22, ti22, ty24, ti24, ty28, ti28, a0, a1, hb1, l0, l1, hl, z60, r10, e11, ha0, hs0, lm0, ln0, r1, ha1, hs1, lm1, ln1, r2, ha2, hs2, lm2, r3, ha3, hs3, lm3, r14, lm4, r15, av_m, av_n]; refine ⟨_, _, rfl, ?_⟩)
  | refine wc_dyn (p := (0, 6)) (ps := []) (by kernel_rfl) (by simp only [oUn_not, beq_self_eq_true, eq_self, pv_mul, List.toList_toArray, opsA_cons, opsA_nil, wantedA, guardA, yieldA, stepA_t, stepA_f, callA, calleeA, targetA, runOp_c, runOp_n, opA, ev, evs, evo, consO, consOO, withH, pickA, afterA_s, putA, T.get_put, Nat.reduceEqDiff, reduceIte, List.getElem?_toArray, List.getElem?_cons_zero, List.getElem?_cons_succ, oBuiltin, oBin, binA, binG, binL, aggO, litA, intA, ltF_eq, eqF_eq, oIndexAddr, cond_true, cond_false, Bool.not_true, Bool.not_false, decide_true, decide_false, blt_eq, tt_beq, tf_beq, ft_beq, ff_beq, Bool.and_true, Bool.true_and, Option.some.injEq, I, Bo, addI, subI, oExtract, Bool.not_eq_true', fieldAddrA, oFieldAddr, oLoad, oStore, isAggD, aggH, oneH, skipH, Nat.add_eq_left, Nat.left_eq_add, Nat.succ_ne_self, fieldA, partA, cellsOf, List.length_cons, List.length_nil, Nat.reduceAdd, Nat.zero_add, Nat.add_zero, Nat.mul_one, Nat.reduceMul, nbeq_self, onesA_cons', onesA_nil, oneA, Value.oneCell', Nat.reduceLT, ty3, ti3, ty4, ti4, ty22, ti22, ty24, ti24, ty28, ti28, a0, a1, hb1, l0, l1, hl, z60, r10, e11, ha0, hs0, lm0, ln0, r1, ha1, hs1, lm1, ln1, r2, ha2, hs2, lm2, r3, ha3, hs3, lm3, r14, lm4, r15, av_m, av_n, trA_nil, trA_cons, nextT, preA]; rfl) (by simp only [oUn_not, beq_self_eq_true, eq_self, pv_mul, List.toList_toArray, opsA_cons, opsA_nil, wantedA, guardA, yieldA, stepA_t, stepA_f, callA, calleeA, targetA, runOp_c, runOp_n, opA, ev, evs, evo, consO, consOO, withH, pickA, afterA_s, putA, T.get_put, Nat.reduceEqDiff, reduceIte, List.getElem?_toArray, List.getElem?_cons_zero, List.getElem?_cons_succ, oBuiltin, oBin, binA, binG, binL, aggO, litA, intA, ltF_eq, eqF_eq, oIndexAddr, cond_true, cond_false, Bool.not_true, Bool.not_false, decide_true, decide_false, blt_eq, tt_beq, tf_beq, ft_beq, ff_beq, Bool.and_true, Bool.true_and, Option.some.injEq, I, Bo, addI, subI, oExtract, Bool.not_eq_true', fieldAddrA, oFieldAddr, oLoad, oStore, isAggD, aggH, oneH, skipH, Nat.add_eq_left, Nat.left_eq_add, Nat.succ_ne_self, fieldA, partA, cellsOf, List.length_cons, List.length_nil, Nat.reduceAdd, Nat.zero_add, Nat.add_zero, Nat.mul_one, Nat.reduceMul, nbeq_self, onesA_cons', onesA_nil, oneA, Value.oneCell', Nat.reduceLT, ty3, ti3, ty4, ti4, ty22, ti22, ty24, ti24, ty28, ti28, a0, a1, hb1, l0, l1, hl, z60, r10, e11, ha0, hs0, lm0, ln0, r1, ha1, hs1, lm1, ln1, r2, ha2, hs2, lm2, r3, ha3, hs3, lm3, r14, lm4, r15, av_m, av_n, checksD_nil, checksD_cons, checkD, checkG, sameR, avB_int]) rfl ?_
  refine wc_seq ?_
  (refine wc_region rfl ?_; simp only [oUn_not, beq_self_eq_true, eq_self, pv_mul, List.toList_toArray, opsA_cons, opsA_nil, wantedA, guardA, yieldA, stepA_t, stepA_f, callA, calleeA, targetA, runOp_c, runOp_n, opA, ev, evs, evo, consO, consOO, withH, pickA, afterA_s, putA, T.get_put, Nat.reduceEqDiff, reduceIte, List.getElem?_toArray, List.getElem?_cons_zero, List.getElem?_cons_succ, oBuiltin, oBin, binA, binG, binL, aggO, litA, intA, ltF_eq, eqF_eq, oIndexAddr, cond_true, cond_false, Bool.not_true, Bool.not_false, decide_true, decide_false, blt_eq, tt_beq, tf_beq, ft_beq, ff_beq, Bool.and_true, Bool.true_and, Option.some.injEq, I, Bo, addI, subI, oExtract, Bool.not_eq_true', fieldAddrA, oFieldAddr, oLoad, oStore, isAggD, aggH, oneH, skipH, Nat.add_eq_left, Nat.left_eq_add, Nat.succ_ne_self, fieldA, partA, cellsOf, List.length_cons, List.length_nil, Nat.reduceAdd, Nat.zero_add, Nat.add_zero, Nat.mul_one, Nat.reduceMul, nbeq_self, onesA_cons', onesA_nil, oneA, Value.oneCell', Nat.reduceLT, ty3, ti3, ty4, ti4, ty22, ti22, ty24, ti24, ty28, ti28, a0, a1, hb1, l0, l1, hl, z60, r10, e11, ha0, hs0, lm0, ln0, r1, ha1, hs1, lm1, ln1, r2, ha2, hs2, lm2, r3, ha3, hs3, lm3, r14, lm4, r15, av_m, av_n]; refine ⟨_, _, rfl, ?_⟩)
  refine wc_seq ?_
  (refine wc_region rfl ?_; simp only [oUn_not, beq_self_eq_true, eq_self, pv_mul, List.toList_toArray, opsA_cons, opsA_nil, wantedA, guardA, yieldA, stepA_t, stepA_f, callA, calleeA, targetA, runOp_c, runOp_n, opA, ev, evs, evo, consO, consOO, withH, pickA, afterA_s, putA, T.get_put, Nat.reduceEqDiff, reduceIte, List.getElem?_toArray, List.getElem?_cons_zero, List.getElem?_cons_succ, oBuiltin, oBin, binA, binG, binL, aggO, litA, intA, ltF_eq, eqF_eq, oIndexAddr, cond_true, cond_false, Bool.not_true, Bool.not_false, decide_true, decide_false, blt_eq, tt_beq, tf_beq, ft_beq, ff_beq, Bool.and_true, Bool.true_and, Option.some.injEq, I, Bo, addI, subI, oExtract, Bool.not_eq_true', fieldAddrA, oFieldAddr, oLoad, oStore, isAggD, aggH, oneH, skipH, Nat.add_eq_left, Nat.left_eq_add, Nat.succ_ne_self, fieldA, partA, cellsOf, List.length_cons, List.length_nil, Nat.reduceAdd, Nat.zero_add, Nat.add_zero, Nat.mul_one, Nat.reduceMul, nbeq_self, onesA_cons', onesA_nil, oneA, Value.oneCell', Nat.reduceLT, ty3, ti3, ty4, ti4, ty22, ti22, ty24, ti24, ty28, ti28, a0, a1, hb1, l0, l1, hl, z60, r10, e11, ha0, hs0, lm0, ln0, r1, ha1, hs1, lm1, ln1, r2, ha2, hs2, lm2, r3, ha3, hs3, lm3, r14, lm4, r15, av_m, av_n]; refine ⟨_, _, rfl, ?_⟩)
  refine rest h5 _ _ _ _ _ s1 s2 s3 w ?_ (x15.cell (by omega) c0) (x15.cell (by omega) c1) (hs.ext (x1.trans x15)) (M1.ext (((xv2.trans xv3).trans x4).trans x5)) (M2.ext ((xv3.trans x4).trans x5)) (M3.ext (x4.trans x5)) ow ?_ ?_ ?_ ?_ ?_ ?_ ?_ ?_ ?_ ?_ ?_ ?_ ?_
  · have := x15.c
    omega
  all_goals simp only [oUn_not, beq_self_eq_true, eq_self, pv_mul, List.toList_toArray, opsA_cons, opsA_nil, wantedA, guardA, yieldA, stepA_t, stepA_f, callA, calleeA, targetA, runOp_c, runOp_n, opA, ev, evs, evo, consO, consOO, withH, pickA, afterA_s, putA, T.get_put, Nat.reduceEqDiff, reduceIte, List.getElem?_toArray, List.getElem?_cons_zero, List.getElem?_cons_succ, oBuiltin, oBin, binA, binG, binL, aggO, litA, intA, ltF_eq, eqF_eq, oIndexAddr, cond_true, cond_false, Bool.not_true, Bool.not_false, decide_true, decide_false, blt_eq, tt_beq, tf_beq, ft_beq, ff_beq, Bool.and_true, Bool.true_and, Option.some.injEq, I, Bo, addI, subI, oExtract, Bool.not_eq_true', fieldAddrA, oFieldAddr, oLoad, oStore, isAggD, aggH, oneH, skipH, Nat.add_eq_left, Nat.left_eq_add, Nat.succ_ne_self, fieldA, partA, cellsOf, List.length_cons, List.length_nil, Nat.reduceAdd, Nat.zero_add, Nat.add_zero, Nat.mul_one, Nat.reduceMul, nbeq_self, onesA_cons', onesA_nil, oneA, Value.oneCell', Nat.reduceLT, ty3, ti3, ty4, ti4, ty22, ti22, ty24, ti24, ty28, ti28, a0, a1, hb1, l0, l1, hl, z60, r10, e11, ha0, hs0, lm0, ln0, r1, ha1, hs1, lm1, ln1, r2, ha2, hs2, lm2, r3, ha3, hs3, lm3, r14, lm4, r15, av_m, av_n]
end Go.Proofs.Ytdbajhklnaekjaa
