import Derived.Test.YtdbajhklnaekjaaY6
import Derived.KernelRfl
namespace Go.Proofs.Ytdbajhklnaekjaa
open Go Go.Proofs Go.RowKit
set_option linter.unusedSimpArgs false
set_option linter.unusedVariables false
open Go.Proofs.Abs
/-- a part of a text -/
def subC : List Bool → Code → Code
  | [], c => c
  | b :: l, .seq x y => subC l (cond b y x)
  | b :: l, .cond _ x y => subC l (cond b y x)
  | _ :: l, .block _ x => subC l x
  | _ :: l, .loop x => subC l x
  | _ :: l, .scope x => subC l x
  | _, c => c
def bodyC (fn : Func) : Code := fn.body.getD .skip
def isLives (f : FuncId) : Bool := Nat.beq f 9
noncomputable def all8 : CallF := plus isLives (runA ctx 5000 8)
theorem q9 (h : Hp) : all8 9 [] h = some (Bo true, h) := plus_lit rfl
theorem q18 (h : Hp) (g v : AV) (o e0 : Int) (xs : List Int) (hg : OwnS h g xs) (hv : IsL h v (xs.map I)) (hn : xs.length ≤ 4500) : Wv (all8 18 [.agg [I o, g], I e0, I o, v, I e0] h) (fun r h' => r = Bo true ∧ Ext h h') := by
  unfold all8; rw [plus_not rfl]; exact c18 6 h g v o e0 xs hg hv hn
theorem q25 (h : Hp) (n : Nat) (hn : n ≤ 4096) : Wv (all8 25 [I (Int.ofNat n)] h) (fun r h' => Ext h h' ∧ GL h' r (upto n) ∧ ∀ k, nmO r = some k → h.c ≤ k) := by
  unfold all8; rw [plus_not rfl]; exact c25 7 h n hn
theorem q29 (h : Hp) (n k : Int) : all8 29 [I n, I k] h = some (I (oldI n k), h) := by
  unfold all8; rw [plus_not rfl]; exact c29 7 h n k
structure MapAt (h : Hp) (p : Nat) (o : Int) (s : AV) (xs : List Int) : Prop where
  lt : p < h.c
  c0 : Cell h p 0 (I o)
  c1 : Cell h p 1 s
  own : OwnS h s xs
theorem MapAt.ext {h h' : Hp} {p : Nat} {o : Int} {s : AV} {xs : List Int} (m : MapAt h p o s xs) (a : Ext h h') : MapAt h' p o s xs :=
  ⟨Nat.lt_of_lt_of_le m.lt a.c, a.cell m.lt m.c0, a.cell m.lt m.c1, m.own.ext a⟩
theorem MapAt.load {h : Hp} {p : Nat} {o : Int} {s : AV} {xs : List Int} (m : MapAt h p o s xs) : Abs.load h p 0 2 = some [I o, s] := load2 m.c0.load m.c1.load
theorem MapAt.av {h : Hp} {p : Nat} {o : Int} {s : AV} {xs : List Int} (m : MapAt h p o s xs) : avB 4 (.agg [I o, s]) (.agg [I o, s]) = true := by
  have li : litB (.int .i64 o) (.int .i64 o) = true := by
    have := avB_int o
    exact this
  rcases m.own.isL with ⟨rfl, _⟩ | ⟨nm, off, r, cap, z, rfl, _⟩
  · show (litB (.int .i64 o) (.int .i64 o) && (litB (.slice none 0 0) (.slice none 0 0) && true)) = true
    rw [li]
    rfl
  · show (litB (.int .i64 o) (.int .i64 o) && (((nm == nm) && (off == off) && ((xs.map I).length == (xs.map I).length) && (r == r) && (cap == cap) && (z == z)) && true)) = true
    rw [li]
    simp
theorem ia42_0 (n : Nat) : indexAddrA ctx 42 (.ptr n 0) (.lit (.int .i64 0)) = some (.ptr n 0) := by kernel_rfl
theorem ia42_1 (n : Nat) : indexAddrA ctx 42 (.ptr n 0) (.lit (.int .i64 1)) = some (.ptr n 1) := by kernel_rfl
theorem ia42_2 (n : Nat) : indexAddrA ctx 42 (.ptr n 0) (.lit (.int .i64 2)) = some (.ptr n 2) := by kernel_rfl
theorem ia42_3 (n : Nat) : indexAddrA ctx 42 (.ptr n 0) (.lit (.int .i64 3)) = some (.ptr n 3) := by kernel_rfl
set_option maxHeartbeats 4000000 in
theorem law_a (h : Hp) (z0 z1 z2 z3 o1 o2 o3 o4 k1 k2 k3 k4 : Int) (xs1 xs2 xs3 xs4 : List Int) (q21 : ∀ h, Wv (all8 21 [I z0] h) (fun r h' => ResM h h' r o1 xs1 k1)) (q22 : ∀ h, Wv (all8 22 [I z0, I z1, I z2] h) (fun r h' => ResM h h' r o2 xs2 k2)) (q23 : ∀ h, Wv (all8 23 [I z0, I z1, I z2] h) (fun r h' => ResM h h' r o3 xs3 k3)) (q24 : ∀ h, Wv (all8 24 [I z0, I z1, I z2, I z3] h) (fun r h' => ResM h h' r o4 xs4 k4))
    (rest : ∀ (h : Hp) (e : Env) (p1 p2 p3 p4 : Nat) (s1 s2 s3 s4 : AV) (m1 : MapAt h p1 o1 s1 xs1) (m2 : MapAt h p2 o2 s2 xs2) (m3 : MapAt h p3 o3 s3 xs3) (m4 : MapAt h p4 o4 s4 xs4) (e3 : e.get 3 = some (I z0)) (e4 : e.get 4 = some (I z1)) (e5 : e.get 5 = some (I z2)) (e6 : e.get 6 = some (I z3)) (e7 : e.get 7 = some (.ptr p1 0)) (e8 : e.get 8 = some (I k1)) (e9 : e.get 9 = some (.ptr p2 0)) (e10 : e.get 10 = some (I k2)) (e11 : e.get 11 = some (.ptr p3 0)) (e12 : e.get 12 = some (I k3)) (e13 : e.get 13 = some (.ptr p4 0)) (e14 : e.get 14 = some (I k4)), Wc (codeA ctx (all8) 5000 4994 (subC [true, true, true, true, true, true] (bodyC Try.f4)) e h) (fun x e h => Wv (returnA ctx Try.f4.results.toList (some (x, e, h))) (fun v _ => v = Bo true))) : Wv (funA ctx all8 5000 [.agg [I z0, I z1, I z2, I z3]] h (ctx.funs.get 4)) (fun v _ => v = Bo true) := by
  obtain ⟨h1, hb1, x1, y1, b1⟩ := box_new h 42 (.agg [I z0, I z1, I z2, I z3])
  have l0 := (b1 0 (I z0) rfl).load
  have l1 := (b1 1 (I z1) rfl).load
  have l2 := (b1 2 (I z2) rfl).load
  have l3 := (b1 3 (I z3) rfl).load
  obtain ⟨_, g1, r1, ⟨xc1, s1, rfl, os1, w1⟩⟩ := q21 h1
  obtain ⟨u1, ha1, xa1, y1, ba1⟩ := alloc_new g1 24 (ti := ti24) rfl
  simp only [ti24] at ha1
  obtain ⟨v1, hs1, oo1, ca1, cb1, _⟩ := st24 (ba1 0 (I 0) rfl) (ba1 1 nilS rfl) (x := I o1) (y := s1) rfl os1
  have xv1 : Ext g1 v1 := Fr.from xa1 (oo1.fr (P := fun k => k = g1.c) rfl) (fun k e => by omega)
  have oc1 := oo1.c
  have M1 : MapAt v1 g1.c o1 s1 xs1 := ⟨by omega, ca1, cb1, w1.ext xv1⟩
  obtain ⟨_, g2, r2, ⟨xc2, s2, rfl, os2, w2⟩⟩ := q22 v1
  obtain ⟨u2, ha2, xa2, y2, ba2⟩ := alloc_new g2 24 (ti := ti24) rfl
  simp only [ti24] at ha2
  obtain ⟨v2, hs2, oo2, ca2, cb2, _⟩ := st24 (ba2 0 (I 0) rfl) (ba2 1 nilS rfl) (x := I o2) (y := s2) rfl os2
  have xv2 : Ext g2 v2 := Fr.from xa2 (oo2.fr (P := fun k => k = g2.c) rfl) (fun k e => by omega)
  have oc2 := oo2.c
  have M2 : MapAt v2 g2.c o2 s2 xs2 := ⟨by omega, ca2, cb2, w2.ext xv2⟩
  obtain ⟨_, g3, r3, ⟨xc3, s3, rfl, os3, w3⟩⟩ := q23 v2
  obtain ⟨u3, ha3, xa3, y3, ba3⟩ := alloc_new g3 24 (ti := ti24) rfl
  simp only [ti24] at ha3
  obtain ⟨v3, hs3, oo3, ca3, cb3, _⟩ := st24 (ba3 0 (I 0) rfl) (ba3 1 nilS rfl) (x := I o3) (y := s3) rfl os3
  have xv3 : Ext g3 v3 := Fr.from xa3 (oo3.fr (P := fun k => k = g3.c) rfl) (fun k e => by omega)
  have oc3 := oo3.c
  have M3 : MapAt v3 g3.c o3 s3 xs3 := ⟨by omega, ca3, cb3, w3.ext xv3⟩
  obtain ⟨_, g4, r4, ⟨xc4, s4, rfl, os4, w4⟩⟩ := q24 v3
  obtain ⟨u4, ha4, xa4, y4, ba4⟩ := alloc_new g4 24 (ti := ti24) rfl
  simp only [ti24] at ha4
  obtain ⟨v4, hs4, oo4, ca4, cb4, _⟩ := st24 (ba4 0 (I 0) rfl) (ba4 1 nilS rfl) (x := I o4) (y := s4) rfl os4
  have xv4 : Ext g4 v4 := Fr.from xa4 (oo4.fr (P := fun k => k = g4.c) rfl) (fun k e => by omega)
  have oc4 := oo4.c
  have M4 : MapAt v4 g4.c o4 s4 xs4 := ⟨by omega, ca4, cb4, w4.ext xv4⟩
  refine wv_fun fn4 rfl ?_
  have a0 : (enterEnv [.agg [I z0, I z1, I z2, I z3]] Try.f4.ntmps).get 0 = some (.agg [I z0, I z1, I z2, I z3]) := enter_get1 _ _ _
  generalize enterEnv [.agg [I z0, I z1, I z2, I z3]] Try.f4.ntmps = e at a0 ⊢
  unfold Try.f4
  dsimp only
  refine wc_seq ?_
  (refine wc_region rfl ?_; simp only [oUn_not, beq_self_eq_true, eq_self, pv_mul, List.toList_toArray, opsA_cons, opsA_nil, wantedA, guardA, yieldA, stepA_t, stepA_f, callA, calleeA, targetA, runOp_c, runOp_n, opA, ev, evs, evo, consO, consOO, withH, pickA, afterA_s, putA, T.get_put, Nat.reduceEqDiff, reduceIte, List.getElem?_toArray, List.getElem?_cons_zero, List.getElem?_cons_succ, oBuiltin, oBin, binA, binG, binL, aggO, litA, intA, ltF_eq, eqF_eq, oIndexAddr, cond_true, cond_false, Bool.not_true, Bool.not_false, decide_true, decide_false, blt_eq, tt_beq, tf_beq, ft_beq, ff_beq, Bool.and_true, Bool.true_and, Option.some.injEq, I, Bo, addI, subI, oExtract, Bool.not_eq_true', fieldAddrA, oFieldAddr, oLoad, oStore, isAggD, aggH, oneH, skipH, Nat.add_eq_left, Nat.left_eq_add, Nat.succ_ne_self, fieldA, partA, cellsOf, List.length_cons, List.length_nil, Nat.reduceAdd, Nat.zero_add, Nat.add_zero, Nat.mul_one, Nat.reduceMul, nbeq_self, onesA_cons', onesA_nil, oneA, Value.oneCell', Nat.reduceLT, ty3, ti3, ty22, ti22, ty24, ti24, ty28, ti28, ty42, ti42, a0, hb1, l0, l1, l2, l3, ia42_0, ia42_1, ia42_2, ia42_3, r1, ha1, hs1, r2, ha2, hs2, r3, ha3, hs3, r4, ha4, hs4]; refine ⟨_, _, rfl, ?_⟩)
  refine wc_seq ?_
  (refine wc_region rfl ?_; simp only [oUn_not, beq_self_eq_true, eq_self, pv_mul, List.toList_toArray, opsA_cons, opsA_nil, wantedA, guardA, yieldA, stepA_t, stepA_f, callA, calleeA, targetA, runOp_c, runOp_n, opA, ev, evs, evo, consO, consOO, withH, pickA, afterA_s, putA, T.get_put, Nat.reduceEqDiff, reduceIte, List.getElem?_toArray, List.getElem?_cons_zero, List.getElem?_cons_succ, oBuiltin, oBin, binA, binG, binL, aggO, litA, intA, ltF_eq, eqF_eq, oIndexAddr, cond_true, cond_false, Bool.not_true, Bool.not_false, decide_true, decide_false, blt_eq, tt_beq, tf_beq, ft_beq, ff_beq, Bool.and_true, Bool.true_and, Option.some.injEq, I, Bo, addI, subI, oExtract, Bool.not_eq_true', fieldAddrA, oFieldAddr, oLoad, oStore, isAggD, aggH, oneH, skipH, Nat.add_eq_left, Nat.left_eq_add, Nat.succ_ne_self, fieldA, partA, cellsOf, List.length_cons, List.length_nil, Nat.reduceAdd, Nat.zero_add, Nat.add_zero, Nat.mul_one, Nat.reduceMul, nbeq_self, onesA_cons', onesA_nil, oneA, Value.oneCell', Nat.reduceLT, ty3, ti3, ty22, ti22, ty24, ti24, ty28, ti28, ty42, ti42, a0, hb1, l0, l1, l2, l3, ia42_0, ia42_1, ia42_2, ia42_3, r1, ha1, hs1, r2, ha2, hs2, r3, ha3, hs3, r4, ha4, hs4]; refine ⟨_, _, rfl, ?_⟩)
  refine wc_seq ?_
  (refine wc_region rfl ?_; simp only [oUn_not, beq_self_eq_true, eq_self, pv_mul, List.toList_toArray, opsA_cons, opsA_nil, wantedA, guardA, yieldA, stepA_t, stepA_f, callA, calleeA, targetA, runOp_c, runOp_n, opA, ev, evs, evo, consO, consOO, withH, pickA, afterA_s, putA, T.get_put, Nat.reduceEqDiff, reduceIte, List.getElem?_toArray, List.getElem?_cons_zero, List.getElem?_cons_succ, oBuiltin, oBin, binA, binG, binL, aggO, litA, intA, ltF_eq, eqF_eq, oIndexAddr, cond_true, cond_false, Bool.not_true, Bool.not_false, decide_true, decide_false, blt_eq, tt_beq, tf_beq, ft_beq, ff_beq, Bool.and_true, Bool.true_and, Option.some.injEq, I, Bo, addI, subI, oExtract, Bool.not_eq_true', fieldAddrA, oFieldAddr, oLoad, oStore, isAggD, aggH, oneH, skipH, Nat.add_eq_left, Nat.left_eq_add, Nat.succ_ne_self, fieldA, partA, cellsOf, List.length_cons, List.length_nil, Nat.reduceAdd, Nat.zero_add, Nat.add_zero, Nat.mul_one, Nat.reduceMul, nbeq_self, onesA_cons', onesA_nil, oneA, Value.oneCell', Nat.reduceLT, ty3, ti3, ty22, ti22, ty24, ti24, ty28, ti28, ty42, ti42, a0, hb1, l0, l1, l2, l3, ia42_0, ia42_1, ia42_2, ia42_3, r1, ha1, hs1, r2, ha2, hs2, r3, ha3, hs3, r4, ha4, hs4]; refine ⟨_, _, rfl, ?_⟩)
  refine wc_seq ?_
  (refine wc_region rfl ?_; simp only [oUn_not, beq_self_eq_true, eq_self, pv_mul, List.toList_toArray, opsA_cons, opsA_nil, wantedA, guardA, yieldA, stepA_t, stepA_f, callA, calleeA, targetA, runOp_c, runOp_n, opA, ev, evs, evo, consO, consOO, withH, pickA, afterA_s, putA, T.get_put, Nat.reduceEqDiff, reduceIte, List.getElem?_toArray, List.getElem?_cons_zero, List.getElem?_cons_succ, oBuiltin, oBin, binA, binG, binL, aggO, litA, intA, ltF_eq, eqF_eq, oIndexAddr, cond_true, cond_false, Bool.not_true, Bool.not_false, decide_true, decide_false, blt_eq, tt_beq, tf_beq, ft_beq, ff_beq, Bool.and_true, Bool.true_and, Option.some.injEq, I, Bo, addI, subI, oExtract, Bool.not_eq_true', fieldAddrA, oFieldAddr, oLoad, oStore, isAggD, aggH, oneH, skipH, Nat.add_eq_left, Nat.left_eq_add, Nat.succ_ne_self, fieldA, partA, cellsOf, List.length_cons, List.length_nil, Nat.reduceAdd, Nat.zero_add, Nat.add_zero, Nat.mul_one, Nat.reduceMul, nbeq_self, onesA_cons', onesA_nil, oneA, Value.oneCell', Nat.reduceLT, ty3, ti3, ty22, ti22, ty24, ti24, ty28, ti28, ty42, ti42, a0, hb1, l0, l1, l2, l3, ia42_0, ia42_1, ia42_2, ia42_3, r1, ha1, hs1, r2, ha2, hs2, r3, ha3, hs3, r4, ha4, hs4]; refine ⟨_, _, rfl, ?_⟩)
  refine wc_seq ?_
  (refine wc_region rfl ?_; simp only [oUn_not, beq_self_eq_true, eq_self, pv_mul, List.toList_toArray, opsA_cons, opsA_nil, wantedA, guardA, yieldA, stepA_t, stepA_f, callA, calleeA, targetA, runOp_c, runOp_n, opA, ev, evs, evo, consO, consOO, withH, pickA, afterA_s, putA, T.get_put, Nat.reduceEqDiff, reduceIte, List.getElem?_toArray, List.getElem?_cons_zero, List.getElem?_cons_succ, oBuiltin, oBin, binA, binG, binL, aggO, litA, intA, ltF_eq, eqF_eq, oIndexAddr, cond_true, cond_false, Bool.not_true, Bool.not_false, decide_true, decide_false, blt_eq, tt_beq, tf_beq, ft_beq, ff_beq, Bool.and_true, Bool.true_and, Option.some.injEq, I, Bo, addI, subI, oExtract, Bool.not_eq_true', fieldAddrA, oFieldAddr, oLoad, oStore, isAggD, aggH, oneH, skipH, Nat.add_eq_left, Nat.left_eq_add, Nat.succ_ne_self, fieldA, partA, cellsOf, List.length_cons, List.length_nil, Nat.reduceAdd, Nat.zero_add, Nat.add_zero, Nat.mul_one, Nat.reduceMul, nbeq_self, onesA_cons', onesA_nil, oneA, Value.oneCell', Nat.reduceLT, ty3, ti3, ty22, ti22, ty24, ti24, ty28, ti28, ty42, ti42, a0, hb1, l0, l1, l2, l3, ia42_0, ia42_1, ia42_2, ia42_3, r1, ha1, hs1, r2, ha2, hs2, r3, ha3, hs3, r4, ha4, hs4]; refine ⟨_, _, rfl, ?_⟩)
  refine wc_seq ?_
  (refine wc_region rfl ?_; simp only [oUn_not, beq_self_eq_true, eq_self, pv_mul, List.toList_toArray, opsA_cons, opsA_nil, wantedA, guardA, yieldA, stepA_t, stepA_f, callA, calleeA, targetA, runOp_c, runOp_n, opA, ev, evs, evo, consO, consOO, withH, pickA, afterA_s, putA, T.get_put, Nat.reduceEqDiff, reduceIte, List.getElem?_toArray, List.getElem?_cons_zero, List.getElem?_cons_succ, oBuiltin, oBin, binA, binG, binL, aggO, litA, intA, ltF_eq, eqF_eq, oIndexAddr, cond_true, cond_false, Bool.not_true, Bool.not_false, decide_true, decide_false, blt_eq, tt_beq, tf_beq, ft_beq, ff_beq, Bool.and_true, Bool.true_and, Option.some.injEq, I, Bo, addI, subI, oExtract, Bool.not_eq_true', fieldAddrA, oFieldAddr, oLoad, oStore, isAggD, aggH, oneH, skipH, Nat.add_eq_left, Nat.left_eq_add, Nat.succ_ne_self, fieldA, partA, cellsOf, List.length_cons, List.length_nil, Nat.reduceAdd, Nat.zero_add, Nat.add_zero, Nat.mul_one, Nat.reduceMul, nbeq_self, onesA_cons', onesA_nil, oneA, Value.oneCell', Nat.reduceLT, ty3, ti3, ty22, ti22, ty24, ti24, ty28, ti28, ty42, ti42, a0, hb1, l0, l1, l2, l3, ia42_0, ia42_1, ia42_2, ia42_3, r1, ha1, hs1, r2, ha2, hs2, r3, ha3, hs3, r4, ha4, hs4]; refine ⟨_, _, rfl, ?_⟩)
  refine rest v4 _ _ _ _ _ s1 s2 s3 s4 (M1.ext (((xc2.trans xv2).trans (xc3.trans xv3)).trans (xc4.trans xv4))) (M2.ext ((xc3.trans xv3).trans (xc4.trans xv4))) (M3.ext (xc4.trans xv4)) M4 ?_ ?_ ?_ ?_ ?_ ?_ ?_ ?_ ?_ ?_ ?_ ?_
  all_goals simp only [oUn_not, beq_self_eq_true, eq_self, pv_mul, List.toList_toArray, opsA_cons, opsA_nil, wantedA, guardA, yieldA, stepA_t, stepA_f, callA, calleeA, targetA, runOp_c, runOp_n, opA, ev, evs, evo, consO, consOO, withH, pickA, afterA_s, putA, T.get_put, Nat.reduceEqDiff, reduceIte, List.getElem?_toArray, List.getElem?_cons_zero, List.getElem?_cons_succ, oBuiltin, oBin, binA, binG, binL, aggO, litA, intA, ltF_eq, eqF_eq, oIndexAddr, cond_true, cond_false, Bool.not_true, Bool.not_false, decide_true, decide_false, blt_eq, tt_beq, tf_beq, ft_beq, ff_beq, Bool.and_true, Bool.true_and, Option.some.injEq, I, Bo, addI, subI, oExtract, Bool.not_eq_true', fieldAddrA, oFieldAddr, oLoad, oStore, isAggD, aggH, oneH, skipH, Nat.add_eq_left, Nat.left_eq_add, Nat.succ_ne_self, fieldA, partA, cellsOf, List.length_cons, List.length_nil, Nat.reduceAdd, Nat.zero_add, Nat.add_zero, Nat.mul_one, Nat.reduceMul, nbeq_self, onesA_cons', onesA_nil, oneA, Value.oneCell', Nat.reduceLT, ty3, ti3, ty22, ti22, ty24, ti24, ty28, ti28, ty42, ti42, a0, hb1, l0, l1, l2, l3, ia42_0, ia42_1, ia42_2, ia42_3, r1, ha1, hs1, r2, ha2, hs2, r3, ha3, hs3, r4, ha4, hs4]
set_option maxHeartbeats 4000000 in
theorem law_l (h : Hp) (z0 z1 z2 z3 : Int) (e : Env) (p1 p2 p3 p4 : Nat) (s1 s2 s3 s4 : AV) (hz : z0 < 0) (m1 : MapAt h p1 0 s1 []) (m2 : MapAt h p2 0 s2 []) (m3 : MapAt h p3 0 s3 []) (m4 : MapAt h p4 0 s4 []) (e3 : e.get 3 = some (I z0)) (e4 : e.get 4 = some (I z1)) (e5 : e.get 5 = some (I z2)) (e6 : e.get 6 = some (I z3)) (e7 : e.get 7 = some (.ptr p1 0)) (e8 : e.get 8 = some (I 4)) (e9 : e.get 9 = some (.ptr p2 0)) (e10 : e.get 10 = some (I 4)) (e11 : e.get 11 = some (.ptr p3 0)) (e12 : e.get 12 = some (I 4)) (e13 : e.get 13 = some (.ptr p4 0)) (e14 : e.get 14 = some (I 4)) : Wc (codeA ctx (all8) 5000 4994 (subC [true, true, true, true, true, true] (bodyC Try.f4)) e h) (fun x e h => Wv (returnA ctx Try.f4.results.toList (some (x, e, h))) (fun v _ => v = Bo true)) := by
  have zz1 : decide (z0 < 0) = true := by simpa using hz
  have n0 : ∀ h : Hp, IsL h nilS (([] : List Int).map I) := fun h => .inl ⟨rfl, rfl⟩
  have l1 := m1.load
  obtain ⟨_, h1, r1, rfl, x1⟩ := q18 h s1 nilS 0 4 [] m1.own (n0 _) (by simp)
  have l2 := (m2.ext x1).load
  obtain ⟨_, h2, r2, rfl, x2⟩ := q18 h1 s2 nilS 0 4 [] (m2.ext x1).own (n0 _) (by simp)
  have l3 := (m3.ext (x1.trans x2)).load
  obtain ⟨_, h3, r3, rfl, x3⟩ := q18 h2 s3 nilS 0 4 [] (m3.ext (x1.trans x2)).own (n0 _) (by simp)
  have l4 := (m4.ext ((x1.trans x2).trans x3)).load
  obtain ⟨_, h4, r4, rfl, x4⟩ := q18 h3 s4 nilS 0 4 [] (m4.ext ((x1.trans x2).trans x3)).own (n0 _) (by simp)
  have v9 := q9 h4
  unfold bodyC Try.f4
  dsimp only [subC, Option.getD, cond]
  repeat' (first
    | refine wc_seq ?_
    | (refine wc_region rfl ?_; simp only [oUn_not, beq_self_eq_true, eq_self, pv_mul, List.toList_toArray, opsA_cons, opsA_nil, wantedA, guardA, yieldA, stepA_t, stepA_f, callA, calleeA, targetA, runOp_c, runOp_n, opA, ev, evs, evo, consO, consOO, withH, pickA, afterA_s, putA, T.get_put, Nat.reduceEqDiff, reduceIte, List.getElem?_toArray, List.getElem?_cons_zero, List.getElem?_cons_succ, oBuiltin, oBin, binA, binG, binL, aggO, litA, intA, ltF_eq, eqF_eq, oIndexAddr, cond_true, cond_false, Bool.not_true, Bool.not_false, decide_true, decide_false, blt_eq, tt_beq, tf_beq, ft_beq, ff_beq, Bool.and_true, Bool.true_and, Option.some.injEq, I, Bo, addI, subI, oExtract, Bool.not_eq_true', fieldAddrA, oFieldAddr, oLoad, oStore, isAggD, aggH, oneH, skipH, Nat.add_eq_left, Nat.left_eq_add, Nat.succ_ne_self, fieldA, partA, cellsOf, List.length_cons, List.length_nil, Nat.reduceAdd, Nat.zero_add, Nat.add_zero, Nat.mul_one, Nat.reduceMul, nbeq_self, onesA_cons', onesA_nil, oneA, Value.oneCell', Nat.reduceLT, ty3, ti3, ty22, ti22, ty24, ti24, ty28, ti28, ty42, ti42, e3, e4, e5, e6, e7, e8, e9, e10, e11, e12, e13, e14, uv, l1, l2, l3, l4, r1, r2, r3, r4, v9, zz1]; refine ⟨_, _, rfl, ?_⟩)
    | (refine wc_cond (by simp only [oUn_not, beq_self_eq_true, eq_self, pv_mul, List.toList_toArray, opsA_cons, opsA_nil, wantedA, guardA, yieldA, stepA_t, stepA_f, callA, calleeA, targetA, runOp_c, runOp_n, opA, ev, evs, evo, consO, consOO, withH, pickA, afterA_s, putA, T.get_put, Nat.reduceEqDiff, reduceIte, List.getElem?_toArray, List.getElem?_cons_zero, List.getElem?_cons_succ, oBuiltin, oBin, binA, binG, binL, aggO, litA, intA, ltF_eq, eqF_eq, oIndexAddr, cond_true, cond_false, Bool.not_true, Bool.not_false, decide_true, decide_false, blt_eq, tt_beq, tf_beq, ft_beq, ff_beq, Bool.and_true, Bool.true_and, Option.some.injEq, I, Bo, addI, subI, oExtract, Bool.not_eq_true', fieldAddrA, oFieldAddr, oLoad, oStore, isAggD, aggH, oneH, skipH, Nat.add_eq_left, Nat.left_eq_add, Nat.succ_ne_self, fieldA, partA, cellsOf, List.length_cons, List.length_nil, Nat.reduceAdd, Nat.zero_add, Nat.add_zero, Nat.mul_one, Nat.reduceMul, nbeq_self, onesA_cons', onesA_nil, oneA, Value.oneCell', Nat.reduceLT, ty3, ti3, ty22, ti22, ty24, ti24, ty28, ti28, ty42, ti42, e3, e4, e5, e6, e7, e8, e9, e10, e11, e12, e13, e14, uv, l1, l2, l3, l4, r1, r2, r3, r4, v9, zz1]; rfl) ?_ ?_ <;> intro hb <;> first | (exfalso; exact Bool.noConfusion hb) | skip)
    | refine wc_block ?_
    | refine wc_skip ?_
    | refine wc_scope (by decide) ?_
    | refine wc_label ?_
    | refine wc_exit ?_
    | refine wc_ret ?_
    | refine wv_ret (by simp only [resA, resOne]; simp only [oUn_not, beq_self_eq_true, eq_self, pv_mul, List.toList_toArray, opsA_cons, opsA_nil, wantedA, guardA, yieldA, stepA_t, stepA_f, callA, calleeA, targetA, runOp_c, runOp_n, opA, ev, evs, evo, consO, consOO, withH, pickA, afterA_s, putA, T.get_put, Nat.reduceEqDiff, reduceIte, List.getElem?_toArray, List.getElem?_cons_zero, List.getElem?_cons_succ, oBuiltin, oBin, binA, binG, binL, aggO, litA, intA, ltF_eq, eqF_eq, oIndexAddr, cond_true, cond_false, Bool.not_true, Bool.not_false, decide_true, decide_false, blt_eq, tt_beq, tf_beq, ft_beq, ff_beq, Bool.and_true, Bool.true_and, Option.some.injEq, I, Bo, addI, subI, oExtract, Bool.not_eq_true', fieldAddrA, oFieldAddr, oLoad, oStore, isAggD, aggH, oneH, skipH, Nat.add_eq_left, Nat.left_eq_add, Nat.succ_ne_self, fieldA, partA, cellsOf, List.length_cons, List.length_nil, Nat.reduceAdd, Nat.zero_add, Nat.add_zero, Nat.mul_one, Nat.reduceMul, nbeq_self, onesA_cons', onesA_nil, oneA, Value.oneCell', Nat.reduceLT, ty3, ti3, ty22, ti22, ty24, ti24, ty28, ti28, ty42, ti42, e3, e4, e5, e6, e7, e8, e9, e10, e11, e12, e13, e14, uv, l1, l2, l3, l4, r1, r2, r3, r4, v9, zz1]; rfl) ?_)
  all_goals exact rfl
set_option maxHeartbeats 4000000 in
theorem law_g (h : Hp) (z0 z1 z2 z3 : Int) (e : Env) (p1 p2 p3 p4 : Nat) (s1 s2 s3 s4 : AV) (h0 : ¬ z0 < 0) (hz : 4096 < z0) (m1 : MapAt h p1 0 s1 []) (m2 : MapAt h p2 0 s2 []) (m3 : MapAt h p3 0 s3 []) (m4 : MapAt h p4 0 s4 []) (e3 : e.get 3 = some (I z0)) (e4 : e.get 4 = some (I z1)) (e5 : e.get 5 = some (I z2)) (e6 : e.get 6 = some (I z3)) (e7 : e.get 7 = some (.ptr p1 0)) (e8 : e.get 8 = some (I 4)) (e9 : e.get 9 = some (.ptr p2 0)) (e10 : e.get 10 = some (I 4)) (e11 : e.get 11 = some (.ptr p3 0)) (e12 : e.get 12 = some (I 4)) (e13 : e.get 13 = some (.ptr p4 0)) (e14 : e.get 14 = some (I 4)) : Wc (codeA ctx (all8) 5000 4994 (subC [true, true, true, true, true, true] (bodyC Try.f4)) e h) (fun x e h => Wv (returnA ctx Try.f4.results.toList (some (x, e, h))) (fun v _ => v = Bo true)) := by
  have zz1 : decide (z0 < 0) = false := by simpa using h0
  have zz2 : decide (4096 < z0) = true := by simpa using hz
  have n0 : ∀ h : Hp, IsL h nilS (([] : List Int).map I) := fun h => .inl ⟨rfl, rfl⟩
  have l1 := m1.load
  obtain ⟨_, h1, r1, rfl, x1⟩ := q18 h s1 nilS 0 4 [] m1.own (n0 _) (by simp)
  have l2 := (m2.ext x1).load
  obtain ⟨_, h2, r2, rfl, x2⟩ := q18 h1 s2 nilS 0 4 [] (m2.ext x1).own (n0 _) (by simp)
  have l3 := (m3.ext (x1.trans x2)).load
  obtain ⟨_, h3, r3, rfl, x3⟩ := q18 h2 s3 nilS 0 4 [] (m3.ext (x1.trans x2)).own (n0 _) (by simp)
  have l4 := (m4.ext ((x1.trans x2).trans x3)).load
  obtain ⟨_, h4, r4, rfl, x4⟩ := q18 h3 s4 nilS 0 4 [] (m4.ext ((x1.trans x2).trans x3)).own (n0 _) (by simp)
  have v9 := q9 h4
  unfold bodyC Try.f4
  dsimp only [subC, Option.getD, cond]
  repeat' (first
    | refine wc_seq ?_
    | (refine wc_region rfl ?_; simp only [oUn_not, beq_self_eq_true, eq_self, pv_mul, List.toList_toArray, opsA_cons, opsA_nil, wantedA, guardA, yieldA, stepA_t, stepA_f, callA, calleeA, targetA, runOp_c, runOp_n, opA, ev, evs, evo, consO, consOO, withH, pickA, afterA_s, putA, T.get_put, Nat.reduceEqDiff, reduceIte, List.getElem?_toArray, List.getElem?_cons_zero, List.getElem?_cons_succ, oBuiltin, oBin, binA, binG, binL, aggO, litA, intA, ltF_eq, eqF_eq, oIndexAddr, cond_true, cond_false, Bool.not_true, Bool.not_false, decide_true, decide_false, blt_eq, tt_beq, tf_beq, ft_beq, ff_beq, Bool.and_true, Bool.true_and, Option.some.injEq, I, Bo, addI, subI, oExtract, Bool.not_eq_true', fieldAddrA, oFieldAddr, oLoad, oStore, isAggD, aggH, oneH, skipH, Nat.add_eq_left, Nat.left_eq_add, Nat.succ_ne_self, fieldA, partA, cellsOf, List.length_cons, List.length_nil, Nat.reduceAdd, Nat.zero_add, Nat.add_zero, Nat.mul_one, Nat.reduceMul, nbeq_self, onesA_cons', onesA_nil, oneA, Value.oneCell', Nat.reduceLT, ty3, ti3, ty22, ti22, ty24, ti24, ty28, ti28, ty42, ti42, e3, e4, e5, e6, e7, e8, e9, e10, e11, e12, e13, e14, uv, l1, l2, l3, l4, r1, r2, r3, r4, v9, zz1, zz2]; refine ⟨_, _, rfl, ?_⟩)
    | (refine wc_cond (by simp only [oUn_not, beq_self_eq_true, eq_self, pv_mul, List.toList_toArray, opsA_cons, opsA_nil, wantedA, guardA, yieldA, stepA_t, stepA_f, callA, calleeA, targetA, runOp_c, runOp_n, opA, ev, evs, evo, consO, consOO, withH, pickA, afterA_s, putA, T.get_put, Nat.reduceEqDiff, reduceIte, List.getElem?_toArray, List.getElem?_cons_zero, List.getElem?_cons_succ, oBuiltin, oBin, binA, binG, binL, aggO, litA, intA, ltF_eq, eqF_eq, oIndexAddr, cond_true, cond_false, Bool.not_true, Bool.not_false, decide_true, decide_false, blt_eq, tt_beq, tf_beq, ft_beq, ff_beq, Bool.and_true, Bool.true_and, Option.some.injEq, I, Bo, addI, subI, oExtract, Bool.not_eq_true', fieldAddrA, oFieldAddr, oLoad, oStore, isAggD, aggH, oneH, skipH, Nat.add_eq_left, Nat.left_eq_add, Nat.succ_ne_self, fieldA, partA, cellsOf, List.length_cons, List.length_nil, Nat.reduceAdd, Nat.zero_add, Nat.add_zero, Nat.mul_one, Nat.reduceMul, nbeq_self, onesA_cons', onesA_nil, oneA, Value.oneCell', Nat.reduceLT, ty3, ti3, ty22, ti22, ty24, ti24, ty28, ti28, ty42, ti42, e3, e4, e5, e6, e7, e8, e9, e10, e11, e12, e13, e14, uv, l1, l2, l3, l4, r1, r2, r3, r4, v9, zz1, zz2]; rfl) ?_ ?_ <;> intro hb <;> first | (exfalso; exact Bool.noConfusion hb) | skip)
    | refine wc_block ?_
    | refine wc_skip ?_
    | refine wc_scope (by decide) ?_
    | refine wc_label ?_
    | refine wc_exit ?_
    | refine wc_ret ?_
    | refine wv_ret (by simp only [resA, resOne]; simp only [oUn_not, beq_self_eq_true, eq_self, pv_mul, List.toList_toArray, opsA_cons, opsA_nil, wantedA, guardA, yieldA, stepA_t, stepA_f, callA, calleeA, targetA, runOp_c, runOp_n, opA, ev, evs, evo, consO, consOO, withH, pickA, afterA_s, putA, T.get_put, Nat.reduceEqDiff, reduceIte, List.getElem?_toArray, List.getElem?_cons_zero, List.getElem?_cons_succ, oBuiltin, oBin, binA, binG, binL, aggO, litA, intA, ltF_eq, eqF_eq, oIndexAddr, cond_true, cond_false, Bool.not_true, Bool.not_false, decide_true, decide_false, blt_eq, tt_beq, tf_beq, ft_beq, ff_beq, Bool.and_true, Bool.true_and, Option.some.injEq, I, Bo, addI, subI, oExtract, Bool.not_eq_true', fieldAddrA, oFieldAddr, oLoad, oStore, isAggD, aggH, oneH, skipH, Nat.add_eq_left, Nat.left_eq_add, Nat.succ_ne_self, fieldA, partA, cellsOf, List.length_cons, List.length_nil, Nat.reduceAdd, Nat.zero_add, Nat.add_zero, Nat.mul_one, Nat.reduceMul, nbeq_self, onesA_cons', onesA_nil, oneA, Value.oneCell', Nat.reduceLT, ty3, ti3, ty22, ti22, ty24, ti24, ty28, ti28, ty42, ti42, e3, e4, e5, e6, e7, e8, e9, e10, e11, e12, e13, e14, uv, l1, l2, l3, l4, r1, r2, r3, r4, v9, zz1, zz2]; rfl) ?_)
  all_goals exact rfl
set_option maxHeartbeats 4000000 in
theorem law_n (h : Hp) (N : Nat) (z1 z2 z3 k2 k3 k4 : Int) (xs2 xs3 xs4 : List Int) (e : Env) (p1 p2 p3 p4 : Nat) (s1 s2 s3 s4 : AV) (hN : N ≤ 4096) (b2 : xs2.length ≤ 4096) (b3 : xs3.length ≤ 4096) (b4 : xs4.length ≤ 4096) (q26 : ∀ h v, GL h v (upto N) → Wv (all8 26 [v, I z1, I z2] h) (fun r h' => ResL h h' r xs2 k2)) (q27 : ∀ h v, GL h v (upto N) → Wv (all8 27 [v, I z1, I z2] h) (fun r h' => ResL h h' r xs3 k3)) (q28 : ∀ h v, GL h v (upto N) → Wv (all8 28 [v, I z1, I z2, I z3] h) (fun r h' => ResL h h' r xs4 k4)) (m1 : MapAt h p1 (Int.ofNat N) s1 (upto N)) (m2 : MapAt h p2 (oldI (Int.ofNat N) k2) s2 xs2) (m3 : MapAt h p3 (oldI (Int.ofNat N) k3) s3 xs3) (m4 : MapAt h p4 (oldI (Int.ofNat N) k4) s4 xs4) (e3 : e.get 3 = some (I (Int.ofNat N))) (e4 : e.get 4 = some (I z1)) (e5 : e.get 5 = some (I z2)) (e6 : e.get 6 = some (I z3)) (e7 : e.get 7 = some (.ptr p1 0)) (e8 : e.get 8 = some (I 0)) (e9 : e.get 9 = some (.ptr p2 0)) (e10 : e.get 10 = some (I k2)) (e11 : e.get 11 = some (.ptr p3 0)) (e12 : e.get 12 = some (I k3)) (e13 : e.get 13 = some (.ptr p4 0)) (e14 : e.get 14 = some (I k4)) : Wc (codeA ctx (all8) 5000 4994 (subC [true, true, true, true, true, true] (bodyC Try.f4)) e h) (fun x e h => Wv (returnA ctx Try.f4.results.toList (some (x, e, h))) (fun v _ => v = Bo true)) := by
  have zz1 : decide (Int.ofNat N < 0) = false := by simp
  have zz2 : decide (4096 < Int.ofNat N) = false := by simp; omega
  have ul := upto_len N
  obtain ⟨w, h1, r25, x1, gw, _⟩ := q25 h N hN
  have l1 := (m1.ext x1).load
  obtain ⟨_, h2, r18, rfl, x2⟩ := q18 h1 s1 w (Int.ofNat N) 0 (upto N) (m1.ext x1).own (gr_isL gw) (by omega)
  obtain ⟨_, h3, r26, ⟨x3, t2, rfl, g2, _⟩⟩ := q26 h2 w (Gr.ext gw x2)
  obtain ⟨_, h4, r27, ⟨x4, t3, rfl, g3, _⟩⟩ := q27 h3 w (Gr.ext gw (x2.trans x3))
  obtain ⟨_, h5, r28, ⟨x5, t4, rfl, g4, _⟩⟩ := q28 h4 w (Gr.ext gw ((x2.trans x3).trans x4))
  have x05 : Ext h h5 := (((x1.trans x2).trans x3).trans x4).trans x5
  have l2 := (m2.ext x05).load
  obtain ⟨_, h6, c2, rfl, x6⟩ := q18 h5 s2 t2 (oldI (Int.ofNat N) k2) k2 xs2 (m2.ext x05).own (gr_isL (Gr.ext g2 (x4.trans x5))) (by omega)
  have l3 := (m3.ext (x05.trans x6)).load
  obtain ⟨_, h7, c3, rfl, x7⟩ := q18 h6 s3 t3 (oldI (Int.ofNat N) k3) k3 xs3 (m3.ext (x05.trans x6)).own (gr_isL (Gr.ext g3 (x5.trans x6))) (by omega)
  have l4 := (m4.ext ((x05.trans x6).trans x7)).load
  obtain ⟨_, h8, c4, rfl, x8⟩ := q18 h7 s4 t4 (oldI (Int.ofNat N) k4) k4 xs4 (m4.ext ((x05.trans x6).trans x7)).own (gr_isL (Gr.ext g4 (x6.trans x7))) (by omega)
  have v9 := q9 h8
  have f2 := fun h => q29 h (Int.ofNat N) k2
  have f3 := fun h => q29 h (Int.ofNat N) k3
  have f4 := fun h => q29 h (Int.ofNat N) k4
  have av2 := m2.av
  have av3 := m3.av
  have av4 := m4.av
  unfold bodyC Try.f4
  dsimp only [subC, Option.getD, cond]
  repeat' (first
    | refine wc_seq ?_
    | (refine wc_region rfl ?_; simp only [oUn_not, beq_self_eq_true, eq_self, pv_mul, List.toList_toArray, opsA_cons, opsA_nil, wantedA, guardA, yieldA, stepA_t, stepA_f, callA, calleeA, targetA, runOp_c, runOp_n, opA, ev, evs, evo, consO, consOO, withH, pickA, afterA_s, putA, T.get_put, Nat.reduceEqDiff, reduceIte, List.getElem?_toArray, List.getElem?_cons_zero, List.getElem?_cons_succ, oBuiltin, oBin, binA, binG, binL, aggO, litA, intA, ltF_eq, eqF_eq, oIndexAddr, cond_true, cond_false, Bool.not_true, Bool.not_false, decide_true, decide_false, blt_eq, tt_beq, tf_beq, ft_beq, ff_beq, Bool.and_true, Bool.true_and, Option.some.injEq, I, Bo, addI, subI, oExtract, Bool.not_eq_true', fieldAddrA, oFieldAddr, oLoad, oStore, isAggD, aggH, oneH, skipH, Nat.add_eq_left, Nat.left_eq_add, Nat.succ_ne_self, fieldA, partA, cellsOf, List.length_cons, List.length_nil, Nat.reduceAdd, Nat.zero_add, Nat.add_zero, Nat.mul_one, Nat.reduceMul, nbeq_self, onesA_cons', onesA_nil, oneA, Value.oneCell', Nat.reduceLT, ty3, ti3, ty22, ti22, ty24, ti24, ty28, ti28, ty42, ti42, e3, e4, e5, e6, e7, e8, e9, e10, e11, e12, e13, e14, zz1, zz2, r25, l1, r18, r26, r27, r28, l2, l3, l4, c2, c3, c4, v9, f2, f3, f4, av2, av3, av4]; refine ⟨_, _, rfl, ?_⟩)
    | (refine wc_cond (by simp only [oUn_not, beq_self_eq_true, eq_self, pv_mul, List.toList_toArray, opsA_cons, opsA_nil, wantedA, guardA, yieldA, stepA_t, stepA_f, callA, calleeA, targetA, runOp_c, runOp_n, opA, ev, evs, evo, consO, consOO, withH, pickA, afterA_s, putA, T.get_put, Nat.reduceEqDiff, reduceIte, List.getElem?_toArray, List.getElem?_cons_zero, List.getElem?_cons_succ, oBuiltin, oBin, binA, binG, binL, aggO, litA, intA, ltF_eq, eqF_eq, oIndexAddr, cond_true, cond_false, Bool.not_true, Bool.not_false, decide_true, decide_false, blt_eq, tt_beq, tf_beq, ft_beq, ff_beq, Bool.and_true, Bool.true_and, Option.some.injEq, I, Bo, addI, subI, oExtract, Bool.not_eq_true', fieldAddrA, oFieldAddr, oLoad, oStore, isAggD, aggH, oneH, skipH, Nat.add_eq_left, Nat.left_eq_add, Nat.succ_ne_self, fieldA, partA, cellsOf, List.length_cons, List.length_nil, Nat.reduceAdd, Nat.zero_add, Nat.add_zero, Nat.mul_one, Nat.reduceMul, nbeq_self, onesA_cons', onesA_nil, oneA, Value.oneCell', Nat.reduceLT, ty3, ti3, ty22, ti22, ty24, ti24, ty28, ti28, ty42, ti42, e3, e4, e5, e6, e7, e8, e9, e10, e11, e12, e13, e14, zz1, zz2, r25, l1, r18, r26, r27, r28, l2, l3, l4, c2, c3, c4, v9, f2, f3, f4, av2, av3, av4]; rfl) ?_ ?_ <;> intro hb <;> first | (exfalso; exact Bool.noConfusion hb) | skip)
    | refine wc_block ?_
    | refine wc_skip ?_
    | refine wc_scope (by decide) ?_
    | refine wc_label ?_
    | refine wc_exit ?_
    | refine wc_ret ?_
    | refine wv_ret (by simp only [resA, resOne]; simp only [oUn_not, beq_self_eq_true, eq_self, pv_mul, List.toList_toArray, opsA_cons, opsA_nil, wantedA, guardA, yieldA, stepA_t, stepA_f, callA, calleeA, targetA, runOp_c, runOp_n, opA, ev, evs, evo, consO, consOO, withH, pickA, afterA_s, putA, T.get_put, Nat.reduceEqDiff, reduceIte, List.getElem?_toArray, List.getElem?_cons_zero, List.getElem?_cons_succ, oBuiltin, oBin, binA, binG, binL, aggO, litA, intA, ltF_eq, eqF_eq, oIndexAddr, cond_true, cond_false, Bool.not_true, Bool.not_false, decide_true, decide_false, blt_eq, tt_beq, tf_beq, ft_beq, ff_beq, Bool.and_true, Bool.true_and, Option.some.injEq, I, Bo, addI, subI, oExtract, Bool.not_eq_true', fieldAddrA, oFieldAddr, oLoad, oStore, isAggD, aggH, oneH, skipH, Nat.add_eq_left, Nat.left_eq_add, Nat.succ_ne_self, fieldA, partA, cellsOf, List.length_cons, List.length_nil, Nat.reduceAdd, Nat.zero_add, Nat.add_zero, Nat.mul_one, Nat.reduceMul, nbeq_self, onesA_cons', onesA_nil, oneA, Value.oneCell', Nat.reduceLT, ty3, ti3, ty22, ti22, ty24, ti24, ty28, ti28, ty42, ti42, e3, e4, e5, e6, e7, e8, e9, e10, e11, e12, e13, e14, zz1, zz2, r25, l1, r18, r26, r27, r28, l2, l3, l4, c2, c3, c4, v9, f2, f3, f4, av2, av3, av4]; rfl) ?_)
  refine wc_dyn (p := (0, 5)) (ps := [(9, 14), (19, 24)]) (by kernel_rfl) (by simp only [oUn_not, beq_self_eq_true, eq_self, pv_mul, List.toList_toArray, opsA_cons, opsA_nil, wantedA, guardA, yieldA, stepA_t, stepA_f, callA, calleeA, targetA, runOp_c, runOp_n, opA, ev, evs, evo, consO, consOO, withH, pickA, afterA_s, putA, T.get_put, Nat.reduceEqDiff, reduceIte, List.getElem?_toArray, List.getElem?_cons_zero, List.getElem?_cons_succ, oBuiltin, oBin, binA, binG, binL, aggO, litA, intA, ltF_eq, eqF_eq, oIndexAddr, cond_true, cond_false, Bool.not_true, Bool.not_false, decide_true, decide_false, blt_eq, tt_beq, tf_beq, ft_beq, ff_beq, Bool.and_true, Bool.true_and, Option.some.injEq, I, Bo, addI, subI, oExtract, Bool.not_eq_true', fieldAddrA, oFieldAddr, oLoad, oStore, isAggD, aggH, oneH, skipH, Nat.add_eq_left, Nat.left_eq_add, Nat.succ_ne_self, fieldA, partA, cellsOf, List.length_cons, List.length_nil, Nat.reduceAdd, Nat.zero_add, Nat.add_zero, Nat.mul_one, Nat.reduceMul, nbeq_self, onesA_cons', onesA_nil, oneA, Value.oneCell', Nat.reduceLT, ty3, ti3, ty22, ti22, ty24, ti24, ty28, ti28, ty42, ti42, e3, e4, e5, e6, e7, e8, e9, e10, e11, e12, e13, e14, zz1, zz2, r25, l1, r18, r26, r27, r28, l2, l3, l4, c2, c3, c4, v9, f2, f3, f4, av2, av3, av4, trA_nil, trA_cons, nextT, preA]; rfl) (by simp only [oUn_not, beq_self_eq_true, eq_self, pv_mul, List.toList_toArray, opsA_cons, opsA_nil, wantedA, guardA, yieldA, stepA_t, stepA_f, callA, calleeA, targetA, runOp_c, runOp_n, opA, ev, evs, evo, consO, consOO, withH, pickA, afterA_s, putA, T.get_put, Nat.reduceEqDiff, reduceIte, List.getElem?_toArray, List.getElem?_cons_zero, List.getElem?_cons_succ, oBuiltin, oBin, binA, binG, binL, aggO, litA, intA, ltF_eq, eqF_eq, oIndexAddr, cond_true, cond_false, Bool.not_true, Bool.not_false, decide_true, decide_false, blt_eq, tt_beq, tf_beq, ft_beq, ff_beq, Bool.and_true, Bool.true_and, Option.some.injEq, I, Bo, addI, subI, oExtract, Bool.not_eq_true', fieldAddrA, oFieldAddr, oLoad, oStore, isAggD, aggH, oneH, skipH, Nat.add_eq_left, Nat.left_eq_add, Nat.succ_ne_self, fieldA, partA, cellsOf, List.length_cons, List.length_nil, Nat.reduceAdd, Nat.zero_add, Nat.add_zero, Nat.mul_one, Nat.reduceMul, nbeq_self, onesA_cons', onesA_nil, oneA, Value.oneCell', Nat.reduceLT, ty3, ti3, ty22, ti22, ty24, ti24, ty28, ti28, ty42, ti42, e3, e4, e5, e6, e7, e8, e9, e10, e11, e12, e13, e14, zz1, zz2, r25, l1, r18, r26, r27, r28, l2, l3, l4, c2, c3, c4, v9, f2, f3, f4, av2, av3, av4, checksD_nil, checksD_cons, checkD, checkG, sameR, avB_int]) rfl ?_
  repeat' (first
    | refine wc_seq ?_
    | (refine wc_region rfl ?_; simp only [oUn_not, beq_self_eq_true, eq_self, pv_mul, List.toList_toArray, opsA_cons, opsA_nil, wantedA, guardA, yieldA, stepA_t, stepA_f, callA, calleeA, targetA, runOp_c, runOp_n, opA, ev, evs, evo, consO, consOO, withH, pickA, afterA_s, putA, T.get_put, Nat.reduceEqDiff, reduceIte, List.getElem?_toArray, List.getElem?_cons_zero, List.getElem?_cons_succ, oBuiltin, oBin, binA, binG, binL, aggO, litA, intA, ltF_eq, eqF_eq, oIndexAddr, cond_true, cond_false, Bool.not_true, Bool.not_false, decide_true, decide_false, blt_eq, tt_beq, tf_beq, ft_beq, ff_beq, Bool.and_true, Bool.true_and, Option.some.injEq, I, Bo, addI, subI, oExtract, Bool.not_eq_true', fieldAddrA, oFieldAddr, oLoad, oStore, isAggD, aggH, oneH, skipH, Nat.add_eq_left, Nat.left_eq_add, Nat.succ_ne_self, fieldA, partA, cellsOf, List.length_cons, List.length_nil, Nat.reduceAdd, Nat.zero_add, Nat.add_zero, Nat.mul_one, Nat.reduceMul, nbeq_self, onesA_cons', onesA_nil, oneA, Value.oneCell', Nat.reduceLT, ty3, ti3, ty22, ti22, ty24, ti24, ty28, ti28, ty42, ti42, e3, e4, e5, e6, e7, e8, e9, e10, e11, e12, e13, e14, zz1, zz2, r25, l1, r18, r26, r27, r28, l2, l3, l4, c2, c3, c4, v9, f2, f3, f4, av2, av3, av4]; refine ⟨_, _, rfl, ?_⟩)
    | (refine wc_cond (by simp only [oUn_not, beq_self_eq_true, eq_self, pv_mul, List.toList_toArray, opsA_cons, opsA_nil, wantedA, guardA, yieldA, stepA_t, stepA_f, callA, calleeA, targetA, runOp_c, runOp_n, opA, ev, evs, evo, consO, consOO, withH, pickA, afterA_s, putA, T.get_put, Nat.reduceEqDiff, reduceIte, List.getElem?_toArray, List.getElem?_cons_zero, List.getElem?_cons_succ, oBuiltin, oBin, binA, binG, binL, aggO, litA, intA, ltF_eq, eqF_eq, oIndexAddr, cond_true, cond_false, Bool.not_true, Bool.not_false, decide_true, decide_false, blt_eq, tt_beq, tf_beq, ft_beq, ff_beq, Bool.and_true, Bool.true_and, Option.some.injEq, I, Bo, addI, subI, oExtract, Bool.not_eq_true', fieldAddrA, oFieldAddr, oLoad, oStore, isAggD, aggH, oneH, skipH, Nat.add_eq_left, Nat.left_eq_add, Nat.succ_ne_self, fieldA, partA, cellsOf, List.length_cons, List.length_nil, Nat.reduceAdd, Nat.zero_add, Nat.add_zero, Nat.mul_one, Nat.reduceMul, nbeq_self, onesA_cons', onesA_nil, oneA, Value.oneCell', Nat.reduceLT, ty3, ti3, ty22, ti22, ty24, ti24, ty28, ti28, ty42, ti42, e3, e4, e5, e6, e7, e8, e9, e10, e11, e12, e13, e14, zz1, zz2, r25, l1, r18, r26, r27, r28, l2, l3, l4, c2, c3, c4, v9, f2, f3, f4, av2, av3, av4]; rfl) ?_ ?_ <;> intro hb <;> first | (exfalso; exact Bool.noConfusion hb) | skip)
    | refine wc_block ?_
    | refine wc_skip ?_
    | refine wc_scope (by decide) ?_
    | refine wc_label ?_
    | refine wc_exit ?_
    | refine wc_ret ?_
    | refine wv_ret (by simp only [resA, resOne]; simp only [oUn_not, beq_self_eq_true, eq_self, pv_mul, List.toList_toArray, opsA_cons, opsA_nil, wantedA, guardA, yieldA, stepA_t, stepA_f, callA, calleeA, targetA, runOp_c, runOp_n, opA, ev, evs, evo, consO, consOO, withH, pickA, afterA_s, putA, T.get_put, Nat.reduceEqDiff, reduceIte, List.getElem?_toArray, List.getElem?_cons_zero, List.getElem?_cons_succ, oBuiltin, oBin, binA, binG, binL, aggO, litA, intA, ltF_eq, eqF_eq, oIndexAddr, cond_true, cond_false, Bool.not_true, Bool.not_false, decide_true, decide_false, blt_eq, tt_beq, tf_beq, ft_beq, ff_beq, Bool.and_true, Bool.true_and, Option.some.injEq, I, Bo, addI, subI, oExtract, Bool.not_eq_true', fieldAddrA, oFieldAddr, oLoad, oStore, isAggD, aggH, oneH, skipH, Nat.add_eq_left, Nat.left_eq_add, Nat.succ_ne_self, fieldA, partA, cellsOf, List.length_cons, List.length_nil, Nat.reduceAdd, Nat.zero_add, Nat.add_zero, Nat.mul_one, Nat.reduceMul, nbeq_self, onesA_cons', onesA_nil, oneA, Value.oneCell', Nat.reduceLT, ty3, ti3, ty22, ti22, ty24, ti24, ty28, ti28, ty42, ti42, e3, e4, e5, e6, e7, e8, e9, e10, e11, e12, e13, e14, zz1, zz2, r25, l1, r18, r26, r27, r28, l2, l3, l4, c2, c3, c4, v9, f2, f3, f4, av2, av3, av4]; rfl) ?_)
  all_goals exact rfl
def In' (a : Int) : Prop := In a
theorem made_law (h : Hp) (z0 z1 z2 z3 : Int) (r0 : In z0) (r1 : In z1) (r2 : In z2) (r3 : In z3) : Wv (funA ctx all8 5000 [.agg [I z0, I z1, I z2, I z3]] h (ctx.funs.get 4)) (fun v _ => v = Bo true) := by
  by_cases hb : z0 < 0 ∨ 4096 < z0
  · obtain ⟨q1, q2, q3, q4⟩ := n_bad z0 z1 z2 z3 hb
    refine law_a h z0 z1 z2 z3 0 0 0 0 4 4 4 4 [] [] [] [] ?_ ?_ ?_ ?_ ?_
    · intro h; unfold all8; rw [plus_not rfl]; exact q1 5 h
    · intro h; unfold all8; rw [plus_not rfl]; exact q2 5 h
    · intro h; unfold all8; rw [plus_not rfl]; exact q3 5 h
    · intro h; unfold all8; rw [plus_not rfl]; exact q4 5 h
    · intro h e p1 p2 p3 p4 s1 s2 s3 s4 m1 m2 m3 m4 e3 e4 e5 e6 e7 e8 e9 e10 e11 e12 e13 e14
      by_cases h0 : z0 < 0
      · exact law_l h z0 z1 z2 z3 e p1 p2 p3 p4 s1 s2 s3 s4 h0 m1 m2 m3 m4 e3 e4 e5 e6 e7 e8 e9 e10 e11 e12 e13 e14
      · exact law_g h z0 z1 z2 z3 e p1 p2 p3 p4 s1 s2 s3 s4 h0 (by omega) m1 m2 m3 m4 e3 e4 e5 e6 e7 e8 e9 e10 e11 e12 e13 e14
  · obtain ⟨N, rfl⟩ := nat_of (a := z0) (by omega)
    have hN : N ≤ 4096 := by simp only [Int.ofNat_eq_natCast] at hb; omega
    obtain ⟨xs2, k2, i1, i2, i3⟩ := ins_both N z1 z2 hN
    obtain ⟨xs3, k3, j1, j2, j3⟩ := rem_both N z1 z2 hN
    obtain ⟨xs4, k4, n1, n2, n3⟩ := mov_both N z1 z2 z3 hN
    refine law_a h (Int.ofNat N) z1 z2 z3 (Int.ofNat N) (oldI (Int.ofNat N) k2) (oldI (Int.ofNat N) k3) (oldI (Int.ofNat N) k4) 0 k2 k3 k4 (upto N) xs2 xs3 xs4 ?_ ?_ ?_ ?_ ?_
    · intro h; unfold all8; rw [plus_not rfl]; exact c21 5 h N hN
    · intro h; unfold all8; rw [plus_not rfl]; exact i1 5 h
    · intro h; unfold all8; rw [plus_not rfl]; exact j1 5 h
    · intro h; unfold all8; rw [plus_not rfl]; exact n1 5 h
    · intro h e p1 p2 p3 p4 s1 s2 s3 s4 m1 m2 m3 m4 e3 e4 e5 e6 e7 e8 e9 e10 e11 e12 e13 e14
      refine law_n h N z1 z2 z3 k2 k3 k4 xs2 xs3 xs4 e p1 p2 p3 p4 s1 s2 s3 s4 hN i3 j3 n3 ?_ ?_ ?_ m1 m2 m3 m4 e3 e4 e5 e6 e7 e8 e9 e10 e11 e12 e13 e14
      · intro h v hv; unfold all8; rw [plus_not rfl]; exact i2 7 h v hv
      · intro h v hv; unfold all8; rw [plus_not rfl]; exact j2 7 h v hv
      · intro h v hv; unfold all8; rw [plus_not rfl]; exact n2 6 h v hv
end Go.Proofs.Ytdbajhklnaekjaa
