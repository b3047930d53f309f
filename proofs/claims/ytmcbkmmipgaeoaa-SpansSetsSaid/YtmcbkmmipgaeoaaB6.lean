import Derived.Test.YtmcbkmmipgaeoaaB5
import Derived.KernelRfl
namespace Go.Proofs.Ytmcbkmmipgaeoaa
open Go Go.Proofs Go.RowKit
set_option linter.unusedSimpArgs false
set_option linter.unusedVariables false
open Go.Proofs.Abs
/-- a part of a text -/
def subC : List Bool → Code → Code
  | [], c => c
  | b :: l, .seq x y => subC l (cond b y x)
  | b :: l, .cond _ x y => subC l (cond b y x)
  | _ :: l, .block _ x => subC l x
  | _ :: l, .loop x => subC l x
  | _ :: l, .scope x => subC l x
  | _, c => c
def bodyC (fn : Func) : Code := fn.body.getD .skip
def isLives (f : Nat) : Bool := Nat.beq f 9
noncomputable def all8 : CallF := plus isLives (runA ctx 5000 8)
theorem q9 (h : Hp) : all8 9 [] h = some (Bo true, h) := plus_lit rfl
theorem q18 (h : Hp) (v : AV) (ms : List Bool) (hv : InB h v ms) : Wv (all8 18 [.agg [v]] h) (fun r h' => Ext h h' ∧ Gr 28 2 h' r (flat (spS ms)) (spS ms).length ∧ (∀ n, nmO r = some n → h.c ≤ n) ∧ (spS ms = [] → r = nilS)) := by
  unfold all8; rw [plus_not rfl]; exact c18 6 h v ms hv
theorem q11 (h : Hp) (v : AV) (xs : List (Int × Int)) (hv : IsRows h v xs) (hl : xs.length ≤ 4096) : Wv (all8 11 [v] h) (fun r h' => IsRows h' r xs ∧ Ext h h') := by
  unfold all8; rw [plus_not rfl]; exact pairs_any 7 h v xs hv hl
theorem q24 (h : Hp) (v : AV) (ps : List (Int × Int)) (n : Nat) (hv : IsRows h v ps) (hp : ps.length ≤ 4096) (hn : n ≤ 1000) : Wv (all8 24 [v, I (Int.ofNat n)] h) (fun r h' => Ext h h' ∧ Gr 4 1 h' r ((bsL ps n).map Bo) (bsL ps n).length) := by
  unfold all8; rw [plus_not rfl]; exact c24 6 h v ps n hv hp hn
theorem q25 (h : Hp) (v : AV) (xs r : List (Int × Int)) (p n : Int) (hv : IsRows h v xs) (hl : xs.length ≤ 4096) (hr : insR xs p n = (r, 0)) : Wv (all8 25 [v, I p, I n] h) (fun x h' => ∃ w, x = .tup [w, I 0] ∧ Ext h h' ∧ Fin' h' w r) := by
  unfold all8; rw [plus_not rfl]
  refine (insert_any 5 h v xs p n hv hl).mono fun x h' hq => ?_
  obtain ⟨⟨w, hw, hf⟩, hx⟩ := hq
  rw [hr] at hw hf
  exact ⟨w, hw, hx, hf⟩
theorem q26 (h : Hp) (v : AV) (xs r : List (Int × Int)) (p n : Int) (hv : IsRows h v xs) (hl : xs.length ≤ 4096) (hr : remR xs p n = (r, 0)) : Wv (all8 26 [v, I p, I n] h) (fun x h' => ∃ w, x = .tup [w, I 0] ∧ Ext h h' ∧ Fin' h' w r) := by
  unfold all8; rw [plus_not rfl]
  refine (remove_any 5 h v xs p n hv hl).mono fun x h' hq => ?_
  obtain ⟨⟨w, hw, hf⟩, hx⟩ := hq
  rw [hr] at hw hf
  exact ⟨w, hw, hx, hf⟩
theorem q27 (h : Hp) (nm : Nat) (ms : List Bool) (at_ n : Nat) (hg : Gr 4 1 h (.slice nm 0 ms.length true 0 0) (ms.map Bo) ms.length) (h0 : 0 < ms.length) (hat : at_ ≤ ms.length) (hn : n ≤ 1000) (hl : ms.length ≤ 4000) : Wv (all8 27 [.slice nm 0 ms.length true 0 0, I (Int.ofNat at_), I (Int.ofNat n)] h) (fun r h' => Ext h h' ∧ IsB h' r (insB ms at_ n)) := by
  unfold all8; rw [plus_not rfl]; exact c27 7 h nm ms at_ n hg h0 hat hn hl
theorem q28 (h : Hp) (nm : Nat) (ms : List Bool) (at_ n : Nat) (hg : Gr 4 1 h (.slice nm 0 ms.length true 0 0) (ms.map Bo) ms.length) (h0 : 0 < ms.length) (hat : at_ ≤ ms.length) (hn : n ≤ 1000) (hl : ms.length ≤ 4000) : Wv (all8 28 [.slice nm 0 ms.length true 0 0, I (Int.ofNat at_), I (Int.ofNat n)] h) (fun r h' => Ext h h' ∧ IsB h' r (remB ms at_ n)) := by
  unfold all8; rw [plus_not rfl]; exact c28 7 h nm ms at_ n hg h0 hat hn hl
theorem q23 (h : Hp) (v : AV) (ms : List Bool) (hv : IsB h v ms) (hn : ms.length ≤ 1000) : Wv (all8 23 [v] h) (fun r h' => Ext h h' ∧ IsRows h' r (sp ms)) := by
  unfold all8; rw [plus_not rfl]
  exact (c23 7 h v ms hv hn).mono fun x h' hq => ⟨hq.1, gr_rows hq.2.1⟩
theorem q17 (h : Hp) (v w : AV) (xs : List (Int × Int)) (hv : Fin' h v xs) (hw : IsRows h w xs) (hl : xs.length ≤ 4096) : all8 17 [v, I 0, w, I 0] h = some (Bo true, h) := by
  unfold all8; rw [plus_not rfl]
  obtain ⟨r, h', hr, h1, rfl⟩ := same_any 7 h v w xs xs 0 0 hv hw hl
  rw [hr, h1, decide_eq_true ⟨rfl, rfl⟩]
theorem q15 (h : Hp) (v : AV) (xs : List (Int × Int)) (hv : IsRows h v xs) (hl : xs.length ≤ 4096) (hc : chk (-1) xs = 0) : Wv (all8 15 [v] h) (fun r h' => r = I (cnt 0 xs) ∧ Ext h h') := by
  unfold all8; rw [plus_not rfl]
  refine (count_any 6 h v xs hv hl).mono fun x h' hq => ?_
  rw [if_pos hc] at hq
  exact hq
theorem q14 (h : Hp) (v : AV) (xs : List (Int × Int)) (i : Int) (hv : IsRows h v xs) (hl : xs.length ≤ 4096) : all8 14 [v, I i] h = some (Bo (hr i xs), h) := by
  unfold all8; rw [plus_not rfl]
  obtain ⟨r, h', hr1, rfl, rfl⟩ := rhas_any 7 h v xs i hv hl
  exact hr1
theorem Fin_ext {h h' : Hp} {v : AV} {xs : List (Int × Int)} (f : Fin' h v xs) (a : Ext h h') : Fin' h' v xs := by
  rcases f with h1 | ⟨nm, h0, h1, h2, h3⟩
  · exact .inl h1
  · exact .inr ⟨nm, h0, h1, Nat.lt_of_lt_of_le h2 a.c, h3.ext a h2⟩
theorem cv_u8 {n : Nat} (hn : n < 256) : convA ctx 3 (.lit (.int .u8 (Int.ofNat n))) = some (I (Int.ofNat n)) := by
  have : IntKind.wrap .i64 (Int.ofNat n) = Int.ofNat n := by rw [IntKind.wrap_i64]; simp; omega
  show some (AV.lit (.int .i64 (IntKind.wrap .i64 (Int.ofNat n)))) = _
  rw [this]
theorem rowslen {h : Hp} {v : AV} {xs : List (Int × Int)} (r : IsRows h v xs) (h' : Hp) : builtinA ctx h' .len [22] [v] = some (I (xs.length : Int), h') := by
  rcases r with ⟨rfl, rfl⟩ | ⟨nm, off, rest, cap, z, rfl, _⟩
  · simp only [builtinA, ty22, ti22]; rfl
  · simp only [builtinA, ty22, ti22]
/-- all of a set that was put together, without room -/
theorem clipped {h : Hp} {v : AV} {L : List (Int × Int)} (g : Gr 28 2 h v (flat L) L.length) (h0 : L = [] → v = nilS) : ∃ w, (∀ h', sliceA ctx h' 22 v none (some (I (L.length : Int))) (some (I (L.length : Int))) = some (w, h')) ∧ Fin' h w L := by
  by_cases hL : L = []
  · have := h0 hL
    subst hL this
    exact ⟨nilS, fun h' => by kernel_rfl, .inl ⟨rfl, rfl⟩⟩
  · have hp : 0 < L.length := List.length_pos_iff.2 hL
    rcases g.is with ⟨_, h1⟩ | ⟨nm, r, rfl, h1, ⟨h2, _⟩ | ⟨_, rfl⟩⟩
    · omega
    · omega
    · refine ⟨.slice nm 0 L.length false L.length 0, fun h' => clip_lem h' nm L.length hp, .inr ⟨nm, hp, rfl, h1, fun i a b hi => ?_⟩⟩
      obtain ⟨c1, c2⟩ := flat_at hi
      rw [Nat.zero_add]
      exact ⟨(g.cell c1).load, (g.cell c2).load⟩
set_option maxHeartbeats 4000000 in
theorem moves_tail (h : Hp) (v : AV) (ms : List Bool) (tb : Nat) (l a b k : AV) (A B' : List (Int × Int)) (g : Int) (e : Env) (hv : InB h v ms) (hcell : Cell h tb 0 v) (htb : tb < h.c)
    (hl : IsRows h l (spS ms)) (ha : Fin' h a A) (hbb : Fin' h b B') (hk : Fin' h k (spS ms)) (hA : chk (-1) A = 0) (hB : chk (-1) B' = 0) (lA : A.length ≤ 4096) (lB : B'.length ≤ 4096) (cA : cnt 0 A = cnt 0 (spS ms)) (cB : cnt 0 B' = cnt 0 (spS ms) - g)
    (e3 : e.get 3 = some (.ptr tb 0)) (e7 : e.get 7 = some l) (e10 : e.get 10 = some a) (e12 : e.get 12 = some b) (e14 : e.get 14 = some k) (e15 : e.get 15 = some (I 0)) (e16 : e.get 16 = some (I g)) : Wc (codeA ctx (all8) 5000 4990 (subC [true, true, true, true, true, true, true, true, true, true] (bodyC Try.f6)) e h) (fun x e h => Wv (returnA ctx Try.f6.results.toList (some (x, e, h))) (fun v _ => v = Bo true)) := by
  have hL := spS_chk ms
  have lL := spS_len ms
  have hll := rowslen hl
  have ctb := cnt_val hB
  have bB := tot_bound B' (-1) (by omega) hB
  have wg : IntKind.wrap .i64 (cnt 0 (spS ms) - g) = cnt 0 (spS ms) - g := by rw [← cB, ctb, IntKind.wrap_i64]; omega
  have qp := q11 h l _ hl (by omega)
  unfold bodyC Try.f6
  dsimp only [subC, Option.getD, cond]
  refine wc_seq ?_
  refine wc_region rfl ?_
  simp only [oUn_not, beq_self_eq_true, eq_self, pv_mul, List.toList_toArray, opsA_cons, opsA_nil, wantedA, guardA, yieldA, stepA_t, stepA_f, callA, calleeA, targetA, runOp_c, runOp_n, opA, ev, evs, evo, consO, consOO, withH, pickA, afterA_s, putA, T.get_put, Nat.reduceEqDiff, reduceIte, List.getElem?_toArray, List.getElem?_cons_zero, List.getElem?_cons_succ, oBuiltin, oBin, binA, binG, binL, aggO, litA, intA, ltF_eq, eqF_eq, oIndexAddr, cond_true, cond_false, Bool.not_true, Bool.not_false, decide_true, decide_false, blt_eq, tt_beq, tf_beq, ft_beq, ff_beq, Bool.and_true, Bool.true_and, Option.some.injEq, I, Bo, addI, subI, oExtract, Bool.not_eq_true', fieldAddrA, oFieldAddr, oLoad, oStore, isAggD, aggH, oneH, skipH, Nat.add_eq_left, Nat.left_eq_add, Nat.succ_ne_self, fieldA, partA, cellsOf, List.length_cons, List.length_nil, Nat.reduceAdd, Nat.zero_add, Nat.add_zero, Nat.mul_one, Nat.reduceMul, nbeq_self, onesA_cons', onesA_nil, oneA, Value.oneCell', Nat.reduceLT, ty3, ti3, ty5, ti5, ty22, ti22, ty25, ti25, ty29, ti29, ty39, ti39, ty41, ti41, e3, e7, e10, e12, e14, e15, e16, hll, q9, oSlice]
  refine wo_call qp ?_
  rintro p1 h1 ⟨r1, x1⟩
  have s1 := q17 h1 k p1 _ (Fin_ext hk x1) r1 (by omega)
  simp only [oUn_not, beq_self_eq_true, eq_self, pv_mul, List.toList_toArray, opsA_cons, opsA_nil, wantedA, guardA, yieldA, stepA_t, stepA_f, callA, calleeA, targetA, runOp_c, runOp_n, opA, ev, evs, evo, consO, consOO, withH, pickA, afterA_s, putA, T.get_put, Nat.reduceEqDiff, reduceIte, List.getElem?_toArray, List.getElem?_cons_zero, List.getElem?_cons_succ, oBuiltin, oBin, binA, binG, binL, aggO, litA, intA, ltF_eq, eqF_eq, oIndexAddr, cond_true, cond_false, Bool.not_true, Bool.not_false, decide_true, decide_false, blt_eq, tt_beq, tf_beq, ft_beq, ff_beq, Bool.and_true, Bool.true_and, Option.some.injEq, I, Bo, addI, subI, oExtract, Bool.not_eq_true', fieldAddrA, oFieldAddr, oLoad, oStore, isAggD, aggH, oneH, skipH, Nat.add_eq_left, Nat.left_eq_add, Nat.succ_ne_self, fieldA, partA, cellsOf, List.length_cons, List.length_nil, Nat.reduceAdd, Nat.zero_add, Nat.add_zero, Nat.mul_one, Nat.reduceMul, nbeq_self, onesA_cons', onesA_nil, oneA, Value.oneCell', Nat.reduceLT, ty3, ti3, ty5, ti5, ty22, ti22, ty25, ti25, ty29, ti29, ty39, ti39, ty41, ti41, e3, e7, e10, e12, e14, e15, e16, hll, q9, oSlice, s1]
  refine wo_call (q15 h1 b B' ((Fin_ext hbb x1).rows) lB hB) ?_
  rintro _ h2 ⟨rfl, x2⟩
  simp only [oUn_not, beq_self_eq_true, eq_self, pv_mul, List.toList_toArray, opsA_cons, opsA_nil, wantedA, guardA, yieldA, stepA_t, stepA_f, callA, calleeA, targetA, runOp_c, runOp_n, opA, ev, evs, evo, consO, consOO, withH, pickA, afterA_s, putA, T.get_put, Nat.reduceEqDiff, reduceIte, List.getElem?_toArray, List.getElem?_cons_zero, List.getElem?_cons_succ, oBuiltin, oBin, binA, binG, binL, aggO, litA, intA, ltF_eq, eqF_eq, oIndexAddr, cond_true, cond_false, Bool.not_true, Bool.not_false, decide_true, decide_false, blt_eq, tt_beq, tf_beq, ft_beq, ff_beq, Bool.and_true, Bool.true_and, Option.some.injEq, I, Bo, addI, subI, oExtract, Bool.not_eq_true', fieldAddrA, oFieldAddr, oLoad, oStore, isAggD, aggH, oneH, skipH, Nat.add_eq_left, Nat.left_eq_add, Nat.succ_ne_self, fieldA, partA, cellsOf, List.length_cons, List.length_nil, Nat.reduceAdd, Nat.zero_add, Nat.add_zero, Nat.mul_one, Nat.reduceMul, nbeq_self, onesA_cons', onesA_nil, oneA, Value.oneCell', Nat.reduceLT, ty3, ti3, ty5, ti5, ty22, ti22, ty25, ti25, ty29, ti29, ty39, ti39, ty41, ti41, e3, e7, e10, e12, e14, e15, e16, hll, q9, oSlice]
  refine wo_call (q15 h2 l _ ((hl.ext x1).ext x2) (by omega) hL) ?_
  rintro _ h3 ⟨rfl, x3⟩
  simp only [oUn_not, beq_self_eq_true, eq_self, pv_mul, List.toList_toArray, opsA_cons, opsA_nil, wantedA, guardA, yieldA, stepA_t, stepA_f, callA, calleeA, targetA, runOp_c, runOp_n, opA, ev, evs, evo, consO, consOO, withH, pickA, afterA_s, putA, T.get_put, Nat.reduceEqDiff, reduceIte, List.getElem?_toArray, List.getElem?_cons_zero, List.getElem?_cons_succ, oBuiltin, oBin, binA, binG, binL, aggO, litA, intA, ltF_eq, eqF_eq, oIndexAddr, cond_true, cond_false, Bool.not_true, Bool.not_false, decide_true, decide_false, blt_eq, tt_beq, tf_beq, ft_beq, ff_beq, Bool.and_true, Bool.true_and, Option.some.injEq, I, Bo, addI, subI, oExtract, Bool.not_eq_true', fieldAddrA, oFieldAddr, oLoad, oStore, isAggD, aggH, oneH, skipH, Nat.add_eq_left, Nat.left_eq_add, Nat.succ_ne_self, fieldA, partA, cellsOf, List.length_cons, List.length_nil, Nat.reduceAdd, Nat.zero_add, Nat.add_zero, Nat.mul_one, Nat.reduceMul, nbeq_self, onesA_cons', onesA_nil, oneA, Value.oneCell', Nat.reduceLT, ty3, ti3, ty5, ti5, ty22, ti22, ty25, ti25, ty29, ti29, ty39, ti39, ty41, ti41, e3, e7, e10, e12, e14, e15, e16, hll, q9, oSlice, wg, cB]
  have x03 := (x1.trans x2).trans x3
  refine wo_call (q15 h3 a A ((Fin_ext ha x03).rows) lA hA) ?_
  rintro _ h4 ⟨rfl, x4⟩
  simp only [oUn_not, beq_self_eq_true, eq_self, pv_mul, List.toList_toArray, opsA_cons, opsA_nil, wantedA, guardA, yieldA, stepA_t, stepA_f, callA, calleeA, targetA, runOp_c, runOp_n, opA, ev, evs, evo, consO, consOO, withH, pickA, afterA_s, putA, T.get_put, Nat.reduceEqDiff, reduceIte, List.getElem?_toArray, List.getElem?_cons_zero, List.getElem?_cons_succ, oBuiltin, oBin, binA, binG, binL, aggO, litA, intA, ltF_eq, eqF_eq, oIndexAddr, cond_true, cond_false, Bool.not_true, Bool.not_false, decide_true, decide_false, blt_eq, tt_beq, tf_beq, ft_beq, ff_beq, Bool.and_true, Bool.true_and, Option.some.injEq, I, Bo, addI, subI, oExtract, Bool.not_eq_true', fieldAddrA, oFieldAddr, oLoad, oStore, isAggD, aggH, oneH, skipH, Nat.add_eq_left, Nat.left_eq_add, Nat.succ_ne_self, fieldA, partA, cellsOf, List.length_cons, List.length_nil, Nat.reduceAdd, Nat.zero_add, Nat.add_zero, Nat.mul_one, Nat.reduceMul, nbeq_self, onesA_cons', onesA_nil, oneA, Value.oneCell', Nat.reduceLT, ty3, ti3, ty5, ti5, ty22, ti22, ty25, ti25, ty29, ti29, ty39, ti39, ty41, ti41, e3, e7, e10, e12, e14, e15, e16, hll, q9, oSlice]
  have x04 := x03.trans x4
  refine wo_call (q15 h4 l _ (hl.ext x04) (by omega) hL) ?_
  rintro _ h5 ⟨rfl, x5⟩
  simp only [oUn_not, beq_self_eq_true, eq_self, pv_mul, List.toList_toArray, opsA_cons, opsA_nil, wantedA, guardA, yieldA, stepA_t, stepA_f, callA, calleeA, targetA, runOp_c, runOp_n, opA, ev, evs, evo, consO, consOO, withH, pickA, afterA_s, putA, T.get_put, Nat.reduceEqDiff, reduceIte, List.getElem?_toArray, List.getElem?_cons_zero, List.getElem?_cons_succ, oBuiltin, oBin, binA, binG, binL, aggO, litA, intA, ltF_eq, eqF_eq, oIndexAddr, cond_true, cond_false, Bool.not_true, Bool.not_false, decide_true, decide_false, blt_eq, tt_beq, tf_beq, ft_beq, ff_beq, Bool.and_true, Bool.true_and, Option.some.injEq, I, Bo, addI, subI, oExtract, Bool.not_eq_true', fieldAddrA, oFieldAddr, oLoad, oStore, isAggD, aggH, oneH, skipH, Nat.add_eq_left, Nat.left_eq_add, Nat.succ_ne_self, fieldA, partA, cellsOf, List.length_cons, List.length_nil, Nat.reduceAdd, Nat.zero_add, Nat.add_zero, Nat.mul_one, Nat.reduceMul, nbeq_self, onesA_cons', onesA_nil, oneA, Value.oneCell', Nat.reduceLT, ty3, ti3, ty5, ti5, ty22, ti22, ty25, ti25, ty29, ti29, ty39, ti39, ty41, ti41, e3, e7, e10, e12, e14, e15, e16, hll, q9, oSlice, cA]
  have x05 := x04.trans x5
  have lv := (x05.cell htb hcell).load
  try simp only [oUn_not, beq_self_eq_true, eq_self, pv_mul, List.toList_toArray, opsA_cons, opsA_nil, wantedA, guardA, yieldA, stepA_t, stepA_f, callA, calleeA, targetA, runOp_c, runOp_n, opA, ev, evs, evo, consO, consOO, withH, pickA, afterA_s, putA, T.get_put, Nat.reduceEqDiff, reduceIte, List.getElem?_toArray, List.getElem?_cons_zero, List.getElem?_cons_succ, oBuiltin, oBin, binA, binG, binL, aggO, litA, intA, ltF_eq, eqF_eq, oIndexAddr, cond_true, cond_false, Bool.not_true, Bool.not_false, decide_true, decide_false, blt_eq, tt_beq, tf_beq, ft_beq, ff_beq, Bool.and_true, Bool.true_and, Option.some.injEq, I, Bo, addI, subI, oExtract, Bool.not_eq_true', fieldAddrA, oFieldAddr, oLoad, oStore, isAggD, aggH, oneH, skipH, Nat.add_eq_left, Nat.left_eq_add, Nat.succ_ne_self, fieldA, partA, cellsOf, List.length_cons, List.length_nil, Nat.reduceAdd, Nat.zero_add, Nat.add_zero, Nat.mul_one, Nat.reduceMul, nbeq_self, onesA_cons', onesA_nil, oneA, Value.oneCell', Nat.reduceLT, ty3, ti3, ty5, ti5, ty22, ti22, ty25, ti25, ty29, ti29, ty39, ti39, ty41, ti41, e3, e7, e10, e12, e14, e15, e16, hll, q9, oSlice, lv]
  refine wo_call (q18 h5 v ms (hv.ext x05)) ?_
  rintro l2 h6 ⟨x6, g6, _, z6⟩
  obtain ⟨w, hw, fw⟩ := clipped g6 z6
  simp only [oUn_not, beq_self_eq_true, eq_self, pv_mul, List.toList_toArray, opsA_cons, opsA_nil, wantedA, guardA, yieldA, stepA_t, stepA_f, callA, calleeA, targetA, runOp_c, runOp_n, opA, ev, evs, evo, consO, consOO, withH, pickA, afterA_s, putA, T.get_put, Nat.reduceEqDiff, reduceIte, List.getElem?_toArray, List.getElem?_cons_zero, List.getElem?_cons_succ, oBuiltin, oBin, binA, binG, binL, aggO, litA, intA, ltF_eq, eqF_eq, oIndexAddr, cond_true, cond_false, Bool.not_true, Bool.not_false, decide_true, decide_false, blt_eq, tt_beq, tf_beq, ft_beq, ff_beq, Bool.and_true, Bool.true_and, Option.some.injEq, I, Bo, addI, subI, oExtract, Bool.not_eq_true', fieldAddrA, oFieldAddr, oLoad, oStore, isAggD, aggH, oneH, skipH, Nat.add_eq_left, Nat.left_eq_add, Nat.succ_ne_self, fieldA, partA, cellsOf, List.length_cons, List.length_nil, Nat.reduceAdd, Nat.zero_add, Nat.add_zero, Nat.mul_one, Nat.reduceMul, nbeq_self, onesA_cons', onesA_nil, oneA, Value.oneCell', Nat.reduceLT, ty3, ti3, ty5, ti5, ty22, ti22, ty25, ti25, ty29, ti29, ty39, ti39, ty41, ti41, e3, e7, e10, e12, e14, e15, e16, hll, q9, oSlice, hw]
  have x06 := x05.trans x6
  refine wo_call (q11 h6 l _ (hl.ext x06) (by omega)) ?_
  rintro p2 h7 ⟨r7, x7⟩
  have s2 := q17 h7 w p2 _ (Fin_ext fw x7) r7 (by omega)
  simp only [oUn_not, beq_self_eq_true, eq_self, pv_mul, List.toList_toArray, opsA_cons, opsA_nil, wantedA, guardA, yieldA, stepA_t, stepA_f, callA, calleeA, targetA, runOp_c, runOp_n, opA, ev, evs, evo, consO, consOO, withH, pickA, afterA_s, putA, T.get_put, Nat.reduceEqDiff, reduceIte, List.getElem?_toArray, List.getElem?_cons_zero, List.getElem?_cons_succ, oBuiltin, oBin, binA, binG, binL, aggO, litA, intA, ltF_eq, eqF_eq, oIndexAddr, cond_true, cond_false, Bool.not_true, Bool.not_false, decide_true, decide_false, blt_eq, tt_beq, tf_beq, ft_beq, ff_beq, Bool.and_true, Bool.true_and, Option.some.injEq, I, Bo, addI, subI, oExtract, Bool.not_eq_true', fieldAddrA, oFieldAddr, oLoad, oStore, isAggD, aggH, oneH, skipH, Nat.add_eq_left, Nat.left_eq_add, Nat.succ_ne_self, fieldA, partA, cellsOf, List.length_cons, List.length_nil, Nat.reduceAdd, Nat.zero_add, Nat.add_zero, Nat.mul_one, Nat.reduceMul, nbeq_self, onesA_cons', onesA_nil, oneA, Value.oneCell', Nat.reduceLT, ty3, ti3, ty5, ti5, ty22, ti22, ty25, ti25, ty29, ti29, ty39, ti39, ty41, ti41, e3, e7, e10, e12, e14, e15, e16, hll, q9, oSlice, s2]
  refine ⟨_, _, rfl, ?_⟩
  repeat' (first
    | refine wc_seq ?_
    | (refine wc_region rfl ?_; simp only [oUn_not, beq_self_eq_true, eq_self, pv_mul, List.toList_toArray, opsA_cons, opsA_nil, wantedA, guardA, yieldA, stepA_t, stepA_f, callA, calleeA, targetA, runOp_c, runOp_n, opA, ev, evs, evo, consO, consOO, withH, pickA, afterA_s, putA, T.get_put, Nat.reduceEqDiff, reduceIte, List.getElem?_toArray, List.getElem?_cons_zero, List.getElem?_cons_succ, oBuiltin, oBin, binA, binG, binL, aggO, litA, intA, ltF_eq, eqF_eq, oIndexAddr, cond_true, cond_false, Bool.not_true, Bool.not_false, decide_true, decide_false, blt_eq, tt_beq, tf_beq, ft_beq, ff_beq, Bool.and_true, Bool.true_and, Option.some.injEq, I, Bo, addI, subI, oExtract, Bool.not_eq_true', fieldAddrA, oFieldAddr, oLoad, oStore, isAggD, aggH, oneH, skipH, Nat.add_eq_left, Nat.left_eq_add, Nat.succ_ne_self, fieldA, partA, cellsOf, List.length_cons, List.length_nil, Nat.reduceAdd, Nat.zero_add, Nat.add_zero, Nat.mul_one, Nat.reduceMul, nbeq_self, onesA_cons', onesA_nil, oneA, Value.oneCell', Nat.reduceLT, ty3, ti3, ty5, ti5, ty22, ti22, ty25, ti25, ty29, ti29, ty39, ti39, ty41, ti41, e3, e7, e10, e12, e14, e15, e16, hll, q9, oSlice]; refine ⟨_, _, rfl, ?_⟩)
    | (refine wc_cond (by simp only [oUn_not, beq_self_eq_true, eq_self, pv_mul, List.toList_toArray, opsA_cons, opsA_nil, wantedA, guardA, yieldA, stepA_t, stepA_f, callA, calleeA, targetA, runOp_c, runOp_n, opA, ev, evs, evo, consO, consOO, withH, pickA, afterA_s, putA, T.get_put, Nat.reduceEqDiff, reduceIte, List.getElem?_toArray, List.getElem?_cons_zero, List.getElem?_cons_succ, oBuiltin, oBin, binA, binG, binL, aggO, litA, intA, ltF_eq, eqF_eq, oIndexAddr, cond_true, cond_false, Bool.not_true, Bool.not_false, decide_true, decide_false, blt_eq, tt_beq, tf_beq, ft_beq, ff_beq, Bool.and_true, Bool.true_and, Option.some.injEq, I, Bo, addI, subI, oExtract, Bool.not_eq_true', fieldAddrA, oFieldAddr, oLoad, oStore, isAggD, aggH, oneH, skipH, Nat.add_eq_left, Nat.left_eq_add, Nat.succ_ne_self, fieldA, partA, cellsOf, List.length_cons, List.length_nil, Nat.reduceAdd, Nat.zero_add, Nat.add_zero, Nat.mul_one, Nat.reduceMul, nbeq_self, onesA_cons', onesA_nil, oneA, Value.oneCell', Nat.reduceLT, ty3, ti3, ty5, ti5, ty22, ti22, ty25, ti25, ty29, ti29, ty39, ti39, ty41, ti41, e3, e7, e10, e12, e14, e15, e16, hll, q9, oSlice]; rfl) ?_ ?_ <;> intro hb <;> first | (exfalso; exact Bool.noConfusion hb) | skip)
    | refine wc_block ?_
    | refine wc_skip ?_
    | refine wc_scope (by decide) ?_
    | refine wc_label ?_
    | refine wc_exit ?_
    | refine wc_ret ?_
    | refine wv_ret (by simp only [resA, resOne]; simp only [oUn_not, beq_self_eq_true, eq_self, pv_mul, List.toList_toArray, opsA_cons, opsA_nil, wantedA, guardA, yieldA, stepA_t, stepA_f, callA, calleeA, targetA, runOp_c, runOp_n, opA, ev, evs, evo, consO, consOO, withH, pickA, afterA_s, putA, T.get_put, Nat.reduceEqDiff, reduceIte, List.getElem?_toArray, List.getElem?_cons_zero, List.getElem?_cons_succ, oBuiltin, oBin, binA, binG, binL, aggO, litA, intA, ltF_eq, eqF_eq, oIndexAddr, cond_true, cond_false, Bool.not_true, Bool.not_false, decide_true, decide_false, blt_eq, tt_beq, tf_beq, ft_beq, ff_beq, Bool.and_true, Bool.true_and, Option.some.injEq, I, Bo, addI, subI, oExtract, Bool.not_eq_true', fieldAddrA, oFieldAddr, oLoad, oStore, isAggD, aggH, oneH, skipH, Nat.add_eq_left, Nat.left_eq_add, Nat.succ_ne_self, fieldA, partA, cellsOf, List.length_cons, List.length_nil, Nat.reduceAdd, Nat.zero_add, Nat.add_zero, Nat.mul_one, Nat.reduceMul, nbeq_self, onesA_cons', onesA_nil, oneA, Value.oneCell', Nat.reduceLT, ty3, ti3, ty5, ti5, ty22, ti22, ty25, ti25, ty29, ti29, ty39, ti39, ty41, ti41, e3, e7, e10, e12, e14, e15, e16, hll, q9, oSlice]; rfl) ?_)
  all_goals rfl
end Go.Proofs.Ytmcbkmmipgaeoaa
