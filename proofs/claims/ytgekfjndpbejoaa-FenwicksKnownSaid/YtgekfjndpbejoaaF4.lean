import Derived.Test.YtgekfjndpbejoaaF3
import Derived.KernelRfl
namespace Go.Proofs.Ytgekfjndpbejoaa
open Go Go.Proofs Go.RowKit
set_option linter.unusedSimpArgs false
set_option linter.unusedVariables false
open Go.Proofs.Abs
structure Tr (h : Hp) (nm na nb : Nat) (xs : List Int) : Prop where
  lm : nm < h.c
  la : na < h.c
  lb : nb < h.c
  d1 : nm ≠ na
  d2 : nm ≠ nb
  d3 : na ≠ nb
  c0 : Cell h nm 0 (Bo true)
  c1 : Cell h nm 1 (.slice na 0 xs.length false xs.length 0)
  c2 : Cell h nm 2 (.slice nb 0 xs.length false xs.length 0)
  c3 : Cell h nm 3 (I (sm xs))
  rows : ∀ k x, xs[k]? = some x → Cell h na k (I x)
  sums : ∀ k, k < xs.length → Cell h nb k (I (fs xs (k + 1)))
theorem Tr.fr {h h' : Hp} {nm na nb : Nat} {xs : List Int} (t : Tr h nm na nb xs) {P : Nat → Prop} (a : Fr P h h') (p1 : ¬ P nm) (p2 : ¬ P na) (p3 : ¬ P nb) : Tr h' nm na nb xs :=
  ⟨Nat.lt_of_lt_of_le t.lm a.c, Nat.lt_of_lt_of_le t.la a.c, Nat.lt_of_lt_of_le t.lb a.c, t.d1, t.d2, t.d3, a.cell t.lm p1 t.c0, a.cell t.lm p1 t.c1, a.cell t.lm p1 t.c2, a.cell t.lm p1 t.c3,
    fun k x hx => a.cell t.la p2 (t.rows k x hx), fun k hk => a.cell t.lb p3 (t.sums k hk)⟩
theorem Tr.ext {h h' : Hp} {nm na nb : Nat} {xs : List Int} (t : Tr h nm na nb xs) (a : Ext h h') : Tr h' nm na nb xs := t.fr (a.fr (fun _ => False)) id id id
theorem Tr.put {h h' : Hp} {nm na nb n o : Nat} {w : AV} {xs : List Int} (t : Tr h nm na nb xs) (s : St h h' n o w) (h1 : nm ≠ n) (h2 : na ≠ n) (h3 : nb ≠ n) : Tr h' nm na nb xs := t.fr (s.fr (P := fun k => k = n) rfl) h1 h2 h3
theorem fr_put {P : Nat → Prop} {h h' h'' : Hp} {n o : Nat} {w : AV} (a : Fr P h h') (s : St h' h'' n o w) (hn : P n ∨ h.c ≤ n) : Fr P h h'' :=
  ⟨by rw [s.c]; exact a.c, s.ro.trans a.ro, fun k hk hp => (s.m k (fun e => by subst e; rcases hn with h1 | h1; exact hp h1; omega)).trans (a.m k hk hp)⟩
theorem fr_only {P : Nat → Prop} {h h' h'' : Hp} {n : Nat} (a : Fr P h h') (s : Only n h' h'') (hn : P n ∨ h.c ≤ n) : Fr P h h'' :=
  ⟨by rw [s.c]; exact a.c, s.ro.trans a.ro, fun k hk hp => (s.m k (fun e => by subst e; rcases hn with h1 | h1; exact hp h1; omega)).trans (a.m k hk hp)⟩
/-- the blocks of a tree -/
def Of (nm na nb : Nat) (n : Nat) : Prop := n = nm ∨ n = na ∨ n = nb
set_option maxHeartbeats 4000000 in
theorem c24 (d : Nat) (h : Hp) (i nm na nb : Nat) (xs : List Int) (x y : Int) (t : Tr h nm na nb xs) (hx : xs[i]? = some x) (hn : xs.length ≤ 4096) (v : V xs) (v' : V (xs.set i y)) :
    Wv (runA ctx 5000 (d + 3) 24 [.ptr nm 0, I (Int.ofNat i), I y] h) (fun r h' => Tr h' nm na nb (xs.set i y) ∧ Fr (Of nm na nb) h h') := by
  have hi := (List.getElem?_eq_some_iff.1 hx).1
  have hi' : (xs.set i y)[i]? = some y := by rw [List.getElem?_set_self hi]
  have hy := v'.nn i y hi'
  have hx0 := v.nn i x hx
  have hs := sm_set (y := y) hx
  have h1 := v.le
  have h2 := v'.le
  have pb := pre_bound v (i + 1)
  have pb' := pre_bound v' (i + 1)
  have ps := pre_succ hx
  have ps' := pre_succ hi'
  have p0 := pre_bound v i
  have p0' := pre_bound v' i
  have w1 : IntKind.wrap .i64 (y - x) = y - x := by rw [IntKind.wrap_i64]; omega
  have w2 : IntKind.wrap .i64 (sm xs + (y - x)) = sm (xs.set i y) := by rw [hs, IntKind.wrap_i64]; omega
  obtain ⟨h1, hb1, x1, k1, b1⟩ := box_new h 25 (.ptr nm 0)
  have ct := b1 0 (.ptr nm 0) rfl
  obtain ⟨h2, hb2, x2, k2, b2⟩ := box_new h1 3 (I (Int.ofNat i))
  have ci2 := b2 0 (I (Int.ofNat i)) rfl
  have ct2 := x2.cell (by omega) ct
  have t2 := t.ext (x1.trans x2)
  have l1 := ct2.load
  have l2 := t2.c1.load
  have l3 := ci2.load
  have l4 := (t2.rows i x hx).load
  have ix := ia22 (nm := na) (off := 0) (cap := xs.length) (z := 0) (r := false) hi
  rw [Nat.zero_add] at ix
  obtain ⟨h3, hb3, x3, k3, b3⟩ := alloc_new h2 2 (ti := ti2) rfl
  simp only [ti2] at hb3
  obtain ⟨h4, hst4, s4⟩ := (b3 0 (I 0) rfl).store (w := I (y - x)) rfl
  have bt := t.lb
  have bm := t.lm
  have ba := t.la
  have k4 := s4.c
  have t4 := (t2.ext x3).put s4 (by omega) (by omega) (by omega)
  have ct4 := s4.others _ _ _ (.inl (by omega)) (x3.cell (by omega) ct2)
  have ci4 := s4.others _ _ _ (.inl (by omega)) (x3.cell (by omega) ci2)
  have q28 := c28 d h4 i xs.length nm nb h1.c h.c h2.c (fun j => fs xs (j + 1)) (fun j => fs (xs.set i y) (j + 1)) (y - x) hn hi ci4 ct4 t4.c2 s4.own (by omega) t4.d2 (by omega) t4.sums (fun j _ => fs_set hx) (fun j _ => by have := fs_bound v' (j + 1); unfold In; omega)

  refine wv_run fn24 rfl ?_
  have a0 : (enterEnv [.ptr nm 0, I (Int.ofNat i), I y] Try.f24.ntmps).get 0 = some (.ptr nm 0) := enter_get1 _ _ _
  have a1 : (enterEnv [.ptr nm 0, I (Int.ofNat i), I y] Try.f24.ntmps).get 1 = some (I (Int.ofNat i)) := enter_get2 _ _ _ _
  have a2 : (enterEnv [.ptr nm 0, I (Int.ofNat i), I y] Try.f24.ntmps).get 2 = some (I y) := enter_get3 _ _ _ _ _
  generalize enterEnv [.ptr nm 0, I (Int.ofNat i), I y] Try.f24.ntmps = e at a0 a1 a2 ⊢
  unfold Try.f24
  dsimp only

  refine wc_seq ?_
  (refine wc_region rfl ?_; simp only [oUn_not, beq_self_eq_true, eq_self, pv_mul, List.toList_toArray, opsA_cons, opsA_nil, wantedA, guardA, yieldA, stepA_t, stepA_f, callA, calleeA, targetA, runOp_c, runOp_n, opA, ev, evs, evo, consO, consOO, withH, pickA, afterA_s, putA, T.get_put, Nat.reduceEqDiff, reduceIte, List.getElem?_toArray, List.getElem?_cons_zero, List.getElem?_cons_succ, oBuiltin, oBin, binA, binG, binL, aggO, litA, intA, ltF_eq, eqF_eq, oIndexAddr, cond_true, cond_false, Bool.not_true, Bool.not_false, decide_true, decide_false, blt_eq, tt_beq, tf_beq, ft_beq, ff_beq, Bool.and_true, Bool.true_and, Option.some.injEq, I, Bo, addI, subI, oExtract, Bool.not_eq_true', fieldAddrA, oFieldAddr, oLoad, oStore, isAggD, aggH, oneH, skipH, Nat.add_eq_left, Nat.left_eq_add, Nat.succ_ne_self, fieldA, partA, cellsOf, List.length_cons, List.length_nil, Nat.reduceAdd, Nat.zero_add, Nat.add_zero, Nat.mul_one, Nat.reduceMul, nbeq_self, onesA_cons', onesA_nil, oneA, Value.oneCell', Nat.reduceLT, ty2, ti2, ty3, ti3, ty22, ti22, ty25, ti25, ty52, ti52, ty62, ti62, a0, a1, a2, hb1, hb2, hb3, hst4, l1, l2, l3, l4, ix, w1, oFn, eqA, eqD, eqOp, nilCheckA]; refine ⟨_, _, rfl, ?_⟩)
  refine wc_seq ?_
  (refine wc_region rfl ?_; simp only [oUn_not, beq_self_eq_true, eq_self, pv_mul, List.toList_toArray, opsA_cons, opsA_nil, wantedA, guardA, yieldA, stepA_t, stepA_f, callA, calleeA, targetA, runOp_c, runOp_n, opA, ev, evs, evo, consO, consOO, withH, pickA, afterA_s, putA, T.get_put, Nat.reduceEqDiff, reduceIte, List.getElem?_toArray, List.getElem?_cons_zero, List.getElem?_cons_succ, oBuiltin, oBin, binA, binG, binL, aggO, litA, intA, ltF_eq, eqF_eq, oIndexAddr, cond_true, cond_false, Bool.not_true, Bool.not_false, decide_true, decide_false, blt_eq, tt_beq, tf_beq, ft_beq, ff_beq, Bool.and_true, Bool.true_and, Option.some.injEq, I, Bo, addI, subI, oExtract, Bool.not_eq_true', fieldAddrA, oFieldAddr, oLoad, oStore, isAggD, aggH, oneH, skipH, Nat.add_eq_left, Nat.left_eq_add, Nat.succ_ne_self, fieldA, partA, cellsOf, List.length_cons, List.length_nil, Nat.reduceAdd, Nat.zero_add, Nat.add_zero, Nat.mul_one, Nat.reduceMul, nbeq_self, onesA_cons', onesA_nil, oneA, Value.oneCell', Nat.reduceLT, ty2, ti2, ty3, ti3, ty22, ti22, ty25, ti25, ty52, ti52, ty62, ti62, a0, a1, a2, hb1, hb2, hb3, hst4, l1, l2, l3, l4, ix, w1, oFn, eqA, eqD, eqOp, nilCheckA]; refine ⟨_, _, rfl, ?_⟩)
  refine wc_seq ?_
  (refine wc_region rfl ?_; simp only [oUn_not, beq_self_eq_true, eq_self, pv_mul, List.toList_toArray, opsA_cons, opsA_nil, wantedA, guardA, yieldA, stepA_t, stepA_f, callA, calleeA, targetA, runOp_c, runOp_n, opA, ev, evs, evo, consO, consOO, withH, pickA, afterA_s, putA, T.get_put, Nat.reduceEqDiff, reduceIte, List.getElem?_toArray, List.getElem?_cons_zero, List.getElem?_cons_succ, oBuiltin, oBin, binA, binG, binL, aggO, litA, intA, ltF_eq, eqF_eq, oIndexAddr, cond_true, cond_false, Bool.not_true, Bool.not_false, decide_true, decide_false, blt_eq, tt_beq, tf_beq, ft_beq, ff_beq, Bool.and_true, Bool.true_and, Option.some.injEq, I, Bo, addI, subI, oExtract, Bool.not_eq_true', fieldAddrA, oFieldAddr, oLoad, oStore, isAggD, aggH, oneH, skipH, Nat.add_eq_left, Nat.left_eq_add, Nat.succ_ne_self, fieldA, partA, cellsOf, List.length_cons, List.length_nil, Nat.reduceAdd, Nat.zero_add, Nat.add_zero, Nat.mul_one, Nat.reduceMul, nbeq_self, onesA_cons', onesA_nil, oneA, Value.oneCell', Nat.reduceLT, ty2, ti2, ty3, ti3, ty22, ti22, ty25, ti25, ty52, ti52, ty62, ti62, a0, a1, a2, hb1, hb2, hb3, hst4, l1, l2, l3, l4, ix, w1, oFn, eqA, eqD, eqOp, nilCheckA]; refine ⟨_, _, rfl, ?_⟩)
  refine wc_seq ?_
  (refine wc_region rfl ?_; simp only [oUn_not, beq_self_eq_true, eq_self, pv_mul, List.toList_toArray, opsA_cons, opsA_nil, wantedA, guardA, yieldA, stepA_t, stepA_f, callA, calleeA, targetA, runOp_c, runOp_n, opA, ev, evs, evo, consO, consOO, withH, pickA, afterA_s, putA, T.get_put, Nat.reduceEqDiff, reduceIte, List.getElem?_toArray, List.getElem?_cons_zero, List.getElem?_cons_succ, oBuiltin, oBin, binA, binG, binL, aggO, litA, intA, ltF_eq, eqF_eq, oIndexAddr, cond_true, cond_false, Bool.not_true, Bool.not_false, decide_true, decide_false, blt_eq, tt_beq, tf_beq, ft_beq, ff_beq, Bool.and_true, Bool.true_and, Option.some.injEq, I, Bo, addI, subI, oExtract, Bool.not_eq_true', fieldAddrA, oFieldAddr, oLoad, oStore, isAggD, aggH, oneH, skipH, Nat.add_eq_left, Nat.left_eq_add, Nat.succ_ne_self, fieldA, partA, cellsOf, List.length_cons, List.length_nil, Nat.reduceAdd, Nat.zero_add, Nat.add_zero, Nat.mul_one, Nat.reduceMul, nbeq_self, onesA_cons', onesA_nil, oneA, Value.oneCell', Nat.reduceLT, ty2, ti2, ty3, ti3, ty22, ti22, ty25, ti25, ty52, ti52, ty62, ti62, a0, a1, a2, hb1, hb2, hb3, hst4, l1, l2, l3, l4, ix, w1, oFn, eqA, eqD, eqOp, nilCheckA]; refine wo_call (q28) ?_; rintro _ h5 ⟨hs5, o5⟩; simp only [oUn_not, beq_self_eq_true, eq_self, pv_mul, List.toList_toArray, opsA_cons, opsA_nil, wantedA, guardA, yieldA, stepA_t, stepA_f, callA, calleeA, targetA, runOp_c, runOp_n, opA, ev, evs, evo, consO, consOO, withH, pickA, afterA_s, putA, T.get_put, Nat.reduceEqDiff, reduceIte, List.getElem?_toArray, List.getElem?_cons_zero, List.getElem?_cons_succ, oBuiltin, oBin, binA, binG, binL, aggO, litA, intA, ltF_eq, eqF_eq, oIndexAddr, cond_true, cond_false, Bool.not_true, Bool.not_false, decide_true, decide_false, blt_eq, tt_beq, tf_beq, ft_beq, ff_beq, Bool.and_true, Bool.true_and, Option.some.injEq, I, Bo, addI, subI, oExtract, Bool.not_eq_true', fieldAddrA, oFieldAddr, oLoad, oStore, isAggD, aggH, oneH, skipH, Nat.add_eq_left, Nat.left_eq_add, Nat.succ_ne_self, fieldA, partA, cellsOf, List.length_cons, List.length_nil, Nat.reduceAdd, Nat.zero_add, Nat.add_zero, Nat.mul_one, Nat.reduceMul, nbeq_self, onesA_cons', onesA_nil, oneA, Value.oneCell', Nat.reduceLT, ty2, ti2, ty3, ti3, ty22, ti22, ty25, ti25, ty52, ti52, ty62, ti62, a0, a1, a2, hb1, hb2, hb3, hst4, l1, l2, l3, l4, ix, w1, oFn, eqA, eqD, eqOp, nilCheckA]; refine ⟨_, _, rfl, ?_⟩)
  have ct5 := o5.cell (by omega) ct4
  have ci5 := o5.cell (by omega) ci4
  have cm5 := o5.cell (by omega) s4.own
  have m1 := ct5.load
  have m2 := (o5.cell t4.d2 t4.c1).load
  have m3 := ci5.load
  obtain ⟨h6, hst6, s6⟩ := (o5.cell t4.d3 (t4.rows i x hx)).store (w := I y) rfl
  have n1 := (s6.others _ _ _ (.inl (by omega)) ct5).load
  have n2 := (s6.others _ _ _ (.inl t4.d1) (o5.cell t4.d2 t4.c3)).load
  have n3 := (s6.others _ _ _ (.inl (by omega)) cm5).load
  obtain ⟨h7, hst7, s7⟩ := (s6.others _ _ _ (.inl t4.d1) (o5.cell t4.d2 t4.c3)).store (w := I (sm (xs.set i y))) rfl
  repeat' (first
    | refine wc_seq ?_
    | (refine wc_region rfl ?_; simp only [oUn_not, beq_self_eq_true, eq_self, pv_mul, List.toList_toArray, opsA_cons, opsA_nil, wantedA, guardA, yieldA, stepA_t, stepA_f, callA, calleeA, targetA, runOp_c, runOp_n, opA, ev, evs, evo, consO, consOO, withH, pickA, afterA_s, putA, T.get_put, Nat.reduceEqDiff, reduceIte, List.getElem?_toArray, List.getElem?_cons_zero, List.getElem?_cons_succ, oBuiltin, oBin, binA, binG, binL, aggO, litA, intA, ltF_eq, eqF_eq, oIndexAddr, cond_true, cond_false, Bool.not_true, Bool.not_false, decide_true, decide_false, blt_eq, tt_beq, tf_beq, ft_beq, ff_beq, Bool.and_true, Bool.true_and, Option.some.injEq, I, Bo, addI, subI, oExtract, Bool.not_eq_true', fieldAddrA, oFieldAddr, oLoad, oStore, isAggD, aggH, oneH, skipH, Nat.add_eq_left, Nat.left_eq_add, Nat.succ_ne_self, fieldA, partA, cellsOf, List.length_cons, List.length_nil, Nat.reduceAdd, Nat.zero_add, Nat.add_zero, Nat.mul_one, Nat.reduceMul, nbeq_self, onesA_cons', onesA_nil, oneA, Value.oneCell', Nat.reduceLT, ty2, ti2, ty3, ti3, ty22, ti22, ty25, ti25, ty52, ti52, ty62, ti62, a0, a1, a2, m1, m2, m3, n1, n2, n3, ix, hst6, hst7, w2, eqA, eqD, eqOp, nilCheckA]; refine ⟨_, _, rfl, ?_⟩)
    | (refine wc_cond (by simp only [oUn_not, beq_self_eq_true, eq_self, pv_mul, List.toList_toArray, opsA_cons, opsA_nil, wantedA, guardA, yieldA, stepA_t, stepA_f, callA, calleeA, targetA, runOp_c, runOp_n, opA, ev, evs, evo, consO, consOO, withH, pickA, afterA_s, putA, T.get_put, Nat.reduceEqDiff, reduceIte, List.getElem?_toArray, List.getElem?_cons_zero, List.getElem?_cons_succ, oBuiltin, oBin, binA, binG, binL, aggO, litA, intA, ltF_eq, eqF_eq, oIndexAddr, cond_true, cond_false, Bool.not_true, Bool.not_false, decide_true, decide_false, blt_eq, tt_beq, tf_beq, ft_beq, ff_beq, Bool.and_true, Bool.true_and, Option.some.injEq, I, Bo, addI, subI, oExtract, Bool.not_eq_true', fieldAddrA, oFieldAddr, oLoad, oStore, isAggD, aggH, oneH, skipH, Nat.add_eq_left, Nat.left_eq_add, Nat.succ_ne_self, fieldA, partA, cellsOf, List.length_cons, List.length_nil, Nat.reduceAdd, Nat.zero_add, Nat.add_zero, Nat.mul_one, Nat.reduceMul, nbeq_self, onesA_cons', onesA_nil, oneA, Value.oneCell', Nat.reduceLT, ty2, ti2, ty3, ti3, ty22, ti22, ty25, ti25, ty52, ti52, ty62, ti62, a0, a1, a2, m1, m2, m3, n1, n2, n3, ix, hst6, hst7, w2, eqA, eqD, eqOp, nilCheckA]; rfl) ?_ ?_ <;> intro hb <;> first | (exfalso; exact Bool.noConfusion hb) | skip)
    | refine wc_block ?_
    | refine wc_skip ?_
    | refine wc_scope (by decide) ?_
    | refine wc_label ?_
    | refine wc_exit ?_
    | refine wc_ret ?_
    | refine wv_ret (by simp only [resA, resOne]; simp only [oUn_not, beq_self_eq_true, eq_self, pv_mul, List.toList_toArray, opsA_cons, opsA_nil, wantedA, guardA, yieldA, stepA_t, stepA_f, callA, calleeA, targetA, runOp_c, runOp_n, opA, ev, evs, evo, consO, consOO, withH, pickA, afterA_s, putA, T.get_put, Nat.reduceEqDiff, reduceIte, List.getElem?_toArray, List.getElem?_cons_zero, List.getElem?_cons_succ, oBuiltin, oBin, binA, binG, binL, aggO, litA, intA, ltF_eq, eqF_eq, oIndexAddr, cond_true, cond_false, Bool.not_true, Bool.not_false, decide_true, decide_false, blt_eq, tt_beq, tf_beq, ft_beq, ff_beq, Bool.and_true, Bool.true_and, Option.some.injEq, I, Bo, addI, subI, oExtract, Bool.not_eq_true', fieldAddrA, oFieldAddr, oLoad, oStore, isAggD, aggH, oneH, skipH, Nat.add_eq_left, Nat.left_eq_add, Nat.succ_ne_self, fieldA, partA, cellsOf, List.length_cons, List.length_nil, Nat.reduceAdd, Nat.zero_add, Nat.add_zero, Nat.mul_one, Nat.reduceMul, nbeq_self, onesA_cons', onesA_nil, oneA, Value.oneCell', Nat.reduceLT, ty2, ti2, ty3, ti3, ty22, ti22, ty25, ti25, ty52, ti52, ty62, ti62, a0, a1, a2, m1, m2, m3, n1, n2, n3, ix, hst6, hst7, w2, eqA, eqD, eqOp, nilCheckA]; rfl) ?_)
  have k5 := o5.c
  have k6 := s6.c
  have k7 := s7.c
  have far : ∀ {a o : Nat} {w : AV}, a ≠ nm → a ≠ na → a ≠ nb → Cell h4 a o w → Cell h7 a o w := fun a1 a2 a3 c => s7.others _ _ _ (.inl a1) (s6.others _ _ _ (.inl a2) (o5.cell a3 c))
  refine ⟨⟨by omega, by omega, by omega, t4.d1, t4.d2, t4.d3, ?_, ?_, ?_, s7.own, ?_, ?_⟩, ?_⟩
  · exact s7.others _ _ _ (.inr (by omega)) (s6.others _ _ _ (.inl t4.d1) (o5.cell t4.d2 t4.c0))
  · rw [List.length_set]
    exact s7.others _ _ _ (.inr (by omega)) (s6.others _ _ _ (.inl t4.d1) (o5.cell t4.d2 t4.c1))
  · rw [List.length_set]
    exact s7.others _ _ _ (.inr (by omega)) (s6.others _ _ _ (.inl t4.d1) (o5.cell t4.d2 t4.c2))
  · intro k z hz
    refine s7.others _ _ _ (.inl t4.d1.symm) ?_
    by_cases hk : k = i
    · subst hk
      rw [hi'] at hz
      cases hz
      exact s6.own
    · rw [List.getElem?_set_ne (fun e => hk e.symm)] at hz
      exact s6.others _ _ _ (.inr hk) (o5.cell t4.d3 (t4.rows k z hz))
  · intro k hk
    rw [List.length_set] at hk
    exact s7.others _ _ _ (.inl t4.d2.symm) (s6.others _ _ _ (.inl t4.d3.symm) (hs5 k hk))
  · have f3 : Fr (Of nm na nb) h h3 := ((x1.trans x2).trans x3).fr _
    have f4 := fr_put f3 s4 (.inr (by omega))
    have f5 := fr_only f4 o5 (.inl (.inr (.inr rfl)))
    have f6 := fr_put f5 s6 (.inl (.inr (.inl rfl)))
    exact fr_put f6 s7 (.inl (.inl rfl))
end Go.Proofs.Ytgekfjndpbejoaa
