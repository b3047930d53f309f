import Derived.Test.YtmcbkmmipgaeoaaB3
import Derived.KernelRfl
namespace Go.Proofs.Ytmcbkmmipgaeoaa
open Go Go.Proofs Go.RowKit
set_option linter.unusedSimpArgs false
set_option linter.unusedVariables false
open Go.Proofs.Abs
theorem gr_elems {h h' : Hp} {nm len : Nat} {cs : List AV} (g : Gr 4 1 h (.slice nm 0 len true 0 0) cs len) (h0 : 0 < len) (hx : Ext h h') {i k o z : Nat} (hk : i + k ≤ len) : elemsA h' 1 k (.slice nm i k true o z) = some ((cs.drop i).take k) := by
  obtain ⟨hl, ⟨h9, _⟩ | ⟨nm', b, _, h9, h1, h2, _, _, _, h6⟩⟩ := g
  · omega
  · cases h9
    by_cases hk0 : k = 0
    · subst hk0
      rw [List.take_zero]
      rfl
    · have e1 : Nat.beq k 0 = false := by cases hb : Nat.beq k 0 with
        | false => rfl
        | true => exact absurd (Nat.eq_of_beq_eq_true hb) hk0
      show cond (Nat.beq k 0) (some []) (Abs.load h' nm i (k * 1)) = _
      rw [e1]
      show Abs.load h' nm i (k * 1) = _
      unfold Abs.load
      rw [hx.m nm h1, h2, Nat.mul_one]
      show getCells b.cells i k = _
      have hlen : ((cs.drop i).take k).length = k := by rw [List.length_take, List.length_drop, hl]; omega
      have := gets_of (b := b.cells) (cs := (cs.drop i).take k) (off := i) (fun j x hj => by
        rw [List.getElem?_take] at hj
        split at hj
        · rw [List.getElem?_drop] at hj
          exact h6 (i + j) x hj
        · cases hj)
      rwa [hlen] at this
theorem sl_to {nm len at_ : Nat} (h : Hp) (ha : at_ ≤ len) : sliceA ctx h 39 (.slice nm 0 len true 0 0) none (some (I (Int.ofNat at_))) none = some (.slice nm 0 at_ true 0 0, h) := by
  have e1 : natOf? (I (Int.ofNat at_)) len = some at_ := natOf_I (n := at_) ha
  unfold sliceA
  rw [ty39]
  simp only [ti39, ty4, boundsA, e1]
  rfl
theorem sl_from {nm len at_ : Nat} (h : Hp) (ha : at_ ≤ len) : sliceA ctx h 39 (.slice nm 0 len true 0 0) (some (I (Int.ofNat at_))) none none = some (.slice nm at_ (len - at_) true at_ 0, h) := by
  have e1 : natOf? (I (Int.ofNat at_)) len = some at_ := natOf_I (n := at_) ha
  have hs : ti4.size = 1 := rfl
  unfold sliceA
  rw [ty39]
  simp only [ti39, ty4, boundsA, e1, hs, Nat.mul_one, Nat.zero_add]
  cases Nat.beq at_ 0 <;> rfl
/-- append of a part of a list that has grown -/
theorem app39s {h h1 : Hp} {u : AV} {cs ds : List AV} {n1 nm len : Nat} (gu : Gr 4 1 h1 u cs n1) (g : Gr 4 1 h (.slice nm 0 len true 0 0) ds len) (hds : ∃ ms : List Bool, ds = ms.map Bo) (h0 : 0 < len) (hx : Ext h h1) {i k o z : Nat} (hk : i + k ≤ len) (hl : n1 + len ≤ 100000) :
    ∃ v' h', builtinA ctx h1 .append [39, 39] [u, .slice nm i k true o z] = some (v', h') ∧ Gr 4 1 h' v' (cs ++ (ds.drop i).take k) (n1 + k) ∧ Fr (fun n => nmO u = some n) h1 h' ∧ (nmO v' = nmO u ∨ nmO v' = some h1.c) := by
  have hlen : ((ds.drop i).take k).length = k * 1 := by rw [List.length_take, List.length_drop, g.1]; omega
  obtain ⟨ms, rfl⟩ := hds
  refine app_gr (C := ctx) ty39 rfl ty4 (show ti4.size = 1 from rfl) (by omega) rfl gu rfl (gr_elems g h0 hx hk) hlen ?_ (by omega)
  rw [← List.map_drop, ← List.map_take]
  generalize (ms.drop i).take k = xs
  induction xs with
  | nil => rfl
  | cons x xs ih => rw [List.map_cons, onesA_cons', ih]; rfl
def insB (ms : List Bool) (at_ n : Nat) : List Bool := ms.take at_ ++ List.replicate n false ++ ms.drop at_
def remB (ms : List Bool) (at_ n : Nat) : List Bool := ms.take at_ ++ ms.drop (at_ + n)
set_option maxHeartbeats 4000000 in
theorem c24 (d : Nat) (h : Hp) (v : AV) (ps : List (Int × Int)) (n : Nat) (hv : IsRows h v ps) (hp : ps.length ≤ 4096) (hn : n ≤ 1000) : Wv (runA ctx 5000 (d + 2) 24 [v, I (Int.ofNat n)] h) (fun r h' => Ext h h' ∧ Gr 4 1 h' r (((List.range n).map fun (i : Nat) => hr (i : Int) ps).map Bo) ((List.range n).map fun (i : Nat) => hr (i : Int) ps).length) := by
  refine wv_run fn24 rfl ?_
  have a0 : (enterEnv [v, I (Int.ofNat n)] Try.f24.ntmps).get 0 = some (v) := enter_get1 _ _ _
  have a1 : (enterEnv [v, I (Int.ofNat n)] Try.f24.ntmps).get 1 = some (I (Int.ofNat n)) := enter_get2 _ _ _ _
  generalize enterEnv [v, I (Int.ofNat n)] Try.f24.ntmps = e at a0 a1 ⊢
  unfold Try.f24
  dsimp only
  repeat' (first
    | refine wc_seq ?_
    | (refine wc_region rfl ?_; simp only [oUn_not, beq_self_eq_true, eq_self, pv_mul, List.toList_toArray, opsA_cons, opsA_nil, wantedA, guardA, yieldA, stepA_t, stepA_f, callA, calleeA, targetA, runOp_c, runOp_n, opA, ev, evs, evo, consO, consOO, withH, pickA, afterA_s, putA, T.get_put, Nat.reduceEqDiff, reduceIte, List.getElem?_toArray, List.getElem?_cons_zero, List.getElem?_cons_succ, oBuiltin, oBin, binA, binG, binL, aggO, litA, intA, ltF_eq, eqF_eq, oIndexAddr, cond_true, cond_false, Bool.not_true, Bool.not_false, decide_true, decide_false, blt_eq, tt_beq, tf_beq, ft_beq, ff_beq, Bool.and_true, Bool.true_and, Option.some.injEq, I, Bo, addI, subI, oExtract, Bool.not_eq_true', fieldAddrA, oFieldAddr, oLoad, oStore, isAggD, aggH, oneH, skipH, Nat.add_eq_left, Nat.left_eq_add, Nat.succ_ne_self, fieldA, partA, cellsOf, List.length_cons, List.length_nil, Nat.reduceAdd, Nat.zero_add, Nat.add_zero, Nat.mul_one, Nat.reduceMul, nbeq_self, onesA_cons', onesA_nil, oneA, Value.oneCell', Nat.reduceLT, ty3, ti3, ty25, ti25, ty39, ti39, a0, a1]; refine ⟨_, _, rfl, ?_⟩)
    | (refine wc_cond (by simp only [oUn_not, beq_self_eq_true, eq_self, pv_mul, List.toList_toArray, opsA_cons, opsA_nil, wantedA, guardA, yieldA, stepA_t, stepA_f, callA, calleeA, targetA, runOp_c, runOp_n, opA, ev, evs, evo, consO, consOO, withH, pickA, afterA_s, putA, T.get_put, Nat.reduceEqDiff, reduceIte, List.getElem?_toArray, List.getElem?_cons_zero, List.getElem?_cons_succ, oBuiltin, oBin, binA, binG, binL, aggO, litA, intA, ltF_eq, eqF_eq, oIndexAddr, cond_true, cond_false, Bool.not_true, Bool.not_false, decide_true, decide_false, blt_eq, tt_beq, tf_beq, ft_beq, ff_beq, Bool.and_true, Bool.true_and, Option.some.injEq, I, Bo, addI, subI, oExtract, Bool.not_eq_true', fieldAddrA, oFieldAddr, oLoad, oStore, isAggD, aggH, oneH, skipH, Nat.add_eq_left, Nat.left_eq_add, Nat.succ_ne_self, fieldA, partA, cellsOf, List.length_cons, List.length_nil, Nat.reduceAdd, Nat.zero_add, Nat.add_zero, Nat.mul_one, Nat.reduceMul, nbeq_self, onesA_cons', onesA_nil, oneA, Value.oneCell', Nat.reduceLT, ty3, ti3, ty25, ti25, ty39, ti39, a0, a1]; rfl) ?_ ?_ <;> intro hb <;> first | (exfalso; exact Bool.noConfusion hb) | skip)
    | refine wc_block ?_
    | refine wc_skip ?_
    | refine wc_scope (by decide) ?_
    | refine wc_label ?_
    | refine wc_exit ?_
    | refine wc_ret ?_
    | refine wv_ret (by simp only [resA, resOne]; simp only [oUn_not, beq_self_eq_true, eq_self, pv_mul, List.toList_toArray, opsA_cons, opsA_nil, wantedA, guardA, yieldA, stepA_t, stepA_f, callA, calleeA, targetA, runOp_c, runOp_n, opA, ev, evs, evo, consO, consOO, withH, pickA, afterA_s, putA, T.get_put, Nat.reduceEqDiff, reduceIte, List.getElem?_toArray, List.getElem?_cons_zero, List.getElem?_cons_succ, oBuiltin, oBin, binA, binG, binL, aggO, litA, intA, ltF_eq, eqF_eq, oIndexAddr, cond_true, cond_false, Bool.not_true, Bool.not_false, decide_true, decide_false, blt_eq, tt_beq, tf_beq, ft_beq, ff_beq, Bool.and_true, Bool.true_and, Option.some.injEq, I, Bo, addI, subI, oExtract, Bool.not_eq_true', fieldAddrA, oFieldAddr, oLoad, oStore, isAggD, aggH, oneH, skipH, Nat.add_eq_left, Nat.left_eq_add, Nat.succ_ne_self, fieldA, partA, cellsOf, List.length_cons, List.length_nil, Nat.reduceAdd, Nat.zero_add, Nat.add_zero, Nat.mul_one, Nat.reduceMul, nbeq_self, onesA_cons', onesA_nil, oneA, Value.oneCell', Nat.reduceLT, ty3, ti3, ty25, ti25, ty39, ti39, a0, a1]; rfl) ?_)
  refine wc_loop (fun m e h' => ∃ k u, m = n - k ∧ k ≤ n ∧ e.get 0 = some v ∧ e.get 1 = some (I (Int.ofNat n)) ∧ e.get 5 = some u ∧ e.get 6 = some (I (Int.ofNat k)) ∧ Ext h h' ∧ Gr 4 1 h' u (((List.range k).map fun (i : Nat) => hr (i : Int) ps).map Bo) ((List.range k).map fun (i : Nat) => hr (i : Int) ps).length ∧ ∀ n, nmO u = some n → h.c ≤ n) n ?_ ⟨0, nilS, ?_⟩ ?_
  · omega
  · refine ⟨rfl, Nat.zero_le _, ?_, ?_, ?_, ?_, Ext.refl _, Gr.nil 4 1 h, fun n hn => (by cases hn)⟩
    all_goals simp only [oUn_not, beq_self_eq_true, eq_self, pv_mul, List.toList_toArray, opsA_cons, opsA_nil, wantedA, guardA, yieldA, stepA_t, stepA_f, callA, calleeA, targetA, runOp_c, runOp_n, opA, ev, evs, evo, consO, consOO, withH, pickA, afterA_s, putA, T.get_put, Nat.reduceEqDiff, reduceIte, List.getElem?_toArray, List.getElem?_cons_zero, List.getElem?_cons_succ, oBuiltin, oBin, binA, binG, binL, aggO, litA, intA, ltF_eq, eqF_eq, oIndexAddr, cond_true, cond_false, Bool.not_true, Bool.not_false, decide_true, decide_false, blt_eq, tt_beq, tf_beq, ft_beq, ff_beq, Bool.and_true, Bool.true_and, Option.some.injEq, I, Bo, addI, subI, oExtract, Bool.not_eq_true', fieldAddrA, oFieldAddr, oLoad, oStore, isAggD, aggH, oneH, skipH, Nat.add_eq_left, Nat.left_eq_add, Nat.succ_ne_self, fieldA, partA, cellsOf, List.length_cons, List.length_nil, Nat.reduceAdd, Nat.zero_add, Nat.add_zero, Nat.mul_one, Nat.reduceMul, nbeq_self, onesA_cons', onesA_nil, oneA, Value.oneCell', Nat.reduceLT, ty3, ti3, ty25, ti25, ty39, ti39, a0, a1]; try rfl
  · rintro m e h' ⟨k, u, rfl, hk, e0, e1, e5, e6, hx, hg, hu⟩
    by_cases hlt : k < n
    · have c0 : decide (Int.ofNat k < Int.ofNat n) = true := by simp; omega
      have hk1 : IntKind.wrap .i64 (Int.ofNat k + 1) = Int.ofNat (k + 1) := inc (by omega)
      have q14 : runA ctx 5000 (d + 1) 14 [v, I (Int.ofNat k)] h' = some (Bo (hr (Int.ofNat k) ps), h') := by
        obtain ⟨r, h2, hr1, rfl, rfl⟩ := rhas_any d h' v ps (Int.ofNat k) (hv.ext hx) hp
        exact hr1
      have hb2 := bs39 h' (hr (Int.ofNat k) ps)
      obtain ⟨u2, h2, hap, hg2, hf2, hn2⟩ := app39 hg (hr (Int.ofNat k) ps) (by simp; omega)
      have hrs : (List.range (k + 1)).map (fun (i : Nat) => hr (i : Int) ps) = (List.range k).map (fun (i : Nat) => hr (i : Int) ps) ++ [hr (Int.ofNat k) ps] := by
        rw [List.range_succ, List.map_append]
        rfl
      have hx2 : Ext h h2 := Fr.from hx hf2 (fun n hn => hu n hn)
      have hu2 : ∀ n, nmO u2 = some n → h.c ≤ n := fun n hn => by
        rcases hn2 with h5 | ⟨n', h5, h6⟩
        · exact hu n (by rw [← h5]; exact hn)
        · rw [h5] at hn; cases hn; have := hx.c; omega
      repeat' (first
        | refine wc_seq ?_
        | (refine wc_region rfl ?_; simp only [oUn_not, beq_self_eq_true, eq_self, pv_mul, List.toList_toArray, opsA_cons, opsA_nil, wantedA, guardA, yieldA, stepA_t, stepA_f, callA, calleeA, targetA, runOp_c, runOp_n, opA, ev, evs, evo, consO, consOO, withH, pickA, afterA_s, putA, T.get_put, Nat.reduceEqDiff, reduceIte, List.getElem?_toArray, List.getElem?_cons_zero, List.getElem?_cons_succ, oBuiltin, oBin, binA, binG, binL, aggO, litA, intA, ltF_eq, eqF_eq, oIndexAddr, cond_true, cond_false, Bool.not_true, Bool.not_false, decide_true, decide_false, blt_eq, tt_beq, tf_beq, ft_beq, ff_beq, Bool.and_true, Bool.true_and, Option.some.injEq, I, Bo, addI, subI, oExtract, Bool.not_eq_true', fieldAddrA, oFieldAddr, oLoad, oStore, isAggD, aggH, oneH, skipH, Nat.add_eq_left, Nat.left_eq_add, Nat.succ_ne_self, fieldA, partA, cellsOf, List.length_cons, List.length_nil, Nat.reduceAdd, Nat.zero_add, Nat.add_zero, Nat.mul_one, Nat.reduceMul, nbeq_self, onesA_cons', onesA_nil, oneA, Value.oneCell', Nat.reduceLT, ty3, ti3, ty25, ti25, ty39, ti39, e0, e1, e5, e6, c0, hk1, q14, hb2, hap, oBuild, oBuildSlice, evParts, consP]; refine ⟨_, _, rfl, ?_⟩)
        | (refine wc_cond (by simp only [oUn_not, beq_self_eq_true, eq_self, pv_mul, List.toList_toArray, opsA_cons, opsA_nil, wantedA, guardA, yieldA, stepA_t, stepA_f, callA, calleeA, targetA, runOp_c, runOp_n, opA, ev, evs, evo, consO, consOO, withH, pickA, afterA_s, putA, T.get_put, Nat.reduceEqDiff, reduceIte, List.getElem?_toArray, List.getElem?_cons_zero, List.getElem?_cons_succ, oBuiltin, oBin, binA, binG, binL, aggO, litA, intA, ltF_eq, eqF_eq, oIndexAddr, cond_true, cond_false, Bool.not_true, Bool.not_false, decide_true, decide_false, blt_eq, tt_beq, tf_beq, ft_beq, ff_beq, Bool.and_true, Bool.true_and, Option.some.injEq, I, Bo, addI, subI, oExtract, Bool.not_eq_true', fieldAddrA, oFieldAddr, oLoad, oStore, isAggD, aggH, oneH, skipH, Nat.add_eq_left, Nat.left_eq_add, Nat.succ_ne_self, fieldA, partA, cellsOf, List.length_cons, List.length_nil, Nat.reduceAdd, Nat.zero_add, Nat.add_zero, Nat.mul_one, Nat.reduceMul, nbeq_self, onesA_cons', onesA_nil, oneA, Value.oneCell', Nat.reduceLT, ty3, ti3, ty25, ti25, ty39, ti39, e0, e1, e5, e6, c0, hk1, q14, hb2, hap, oBuild, oBuildSlice, evParts, consP]; rfl) ?_ ?_ <;> intro hb <;> first | (exfalso; exact Bool.noConfusion hb) | skip)
        | refine wc_block ?_
        | refine wc_skip ?_
        | refine wc_scope (by decide) ?_
        | refine wc_label ?_
        | refine wc_exit ?_
        | refine wc_ret ?_
        | refine wv_ret (by simp only [resA, resOne]; simp only [oUn_not, beq_self_eq_true, eq_self, pv_mul, List.toList_toArray, opsA_cons, opsA_nil, wantedA, guardA, yieldA, stepA_t, stepA_f, callA, calleeA, targetA, runOp_c, runOp_n, opA, ev, evs, evo, consO, consOO, withH, pickA, afterA_s, putA, T.get_put, Nat.reduceEqDiff, reduceIte, List.getElem?_toArray, List.getElem?_cons_zero, List.getElem?_cons_succ, oBuiltin, oBin, binA, binG, binL, aggO, litA, intA, ltF_eq, eqF_eq, oIndexAddr, cond_true, cond_false, Bool.not_true, Bool.not_false, decide_true, decide_false, blt_eq, tt_beq, tf_beq, ft_beq, ff_beq, Bool.and_true, Bool.true_and, Option.some.injEq, I, Bo, addI, subI, oExtract, Bool.not_eq_true', fieldAddrA, oFieldAddr, oLoad, oStore, isAggD, aggH, oneH, skipH, Nat.add_eq_left, Nat.left_eq_add, Nat.succ_ne_self, fieldA, partA, cellsOf, List.length_cons, List.length_nil, Nat.reduceAdd, Nat.zero_add, Nat.add_zero, Nat.mul_one, Nat.reduceMul, nbeq_self, onesA_cons', onesA_nil, oneA, Value.oneCell', Nat.reduceLT, ty3, ti3, ty25, ti25, ty39, ti39, e0, e1, e5, e6, c0, hk1, q14, hb2, hap, oBuild, oBuildSlice, evParts, consP]; rfl) ?_)
      refine nx_next (n - (k + 1)) (by omega) ⟨k + 1, u2, rfl, hlt, ?_, ?_, ?_, ?_, hx2, by rw [hrs]; exact hg2, hu2⟩ <;> simp only [oUn_not, beq_self_eq_true, eq_self, pv_mul, List.toList_toArray, opsA_cons, opsA_nil, wantedA, guardA, yieldA, stepA_t, stepA_f, callA, calleeA, targetA, runOp_c, runOp_n, opA, ev, evs, evo, consO, consOO, withH, pickA, afterA_s, putA, T.get_put, Nat.reduceEqDiff, reduceIte, List.getElem?_toArray, List.getElem?_cons_zero, List.getElem?_cons_succ, oBuiltin, oBin, binA, binG, binL, aggO, litA, intA, ltF_eq, eqF_eq, oIndexAddr, cond_true, cond_false, Bool.not_true, Bool.not_false, decide_true, decide_false, blt_eq, tt_beq, tf_beq, ft_beq, ff_beq, Bool.and_true, Bool.true_and, Option.some.injEq, I, Bo, addI, subI, oExtract, Bool.not_eq_true', fieldAddrA, oFieldAddr, oLoad, oStore, isAggD, aggH, oneH, skipH, Nat.add_eq_left, Nat.left_eq_add, Nat.succ_ne_self, fieldA, partA, cellsOf, List.length_cons, List.length_nil, Nat.reduceAdd, Nat.zero_add, Nat.add_zero, Nat.mul_one, Nat.reduceMul, nbeq_self, onesA_cons', onesA_nil, oneA, Value.oneCell', Nat.reduceLT, ty3, ti3, ty25, ti25, ty39, ti39, e0, e1, e5, e6, c0, hk1, q14, hb2, hap, oBuild, oBuildSlice, evParts, consP]
    · have c0 : decide (Int.ofNat k < Int.ofNat n) = false := by simp; omega
      obtain rfl : k = n := by omega
      repeat' (first
        | refine wc_seq ?_
        | (refine wc_region rfl ?_; simp only [oUn_not, beq_self_eq_true, eq_self, pv_mul, List.toList_toArray, opsA_cons, opsA_nil, wantedA, guardA, yieldA, stepA_t, stepA_f, callA, calleeA, targetA, runOp_c, runOp_n, opA, ev, evs, evo, consO, consOO, withH, pickA, afterA_s, putA, T.get_put, Nat.reduceEqDiff, reduceIte, List.getElem?_toArray, List.getElem?_cons_zero, List.getElem?_cons_succ, oBuiltin, oBin, binA, binG, binL, aggO, litA, intA, ltF_eq, eqF_eq, oIndexAddr, cond_true, cond_false, Bool.not_true, Bool.not_false, decide_true, decide_false, blt_eq, tt_beq, tf_beq, ft_beq, ff_beq, Bool.and_true, Bool.true_and, Option.some.injEq, I, Bo, addI, subI, oExtract, Bool.not_eq_true', fieldAddrA, oFieldAddr, oLoad, oStore, isAggD, aggH, oneH, skipH, Nat.add_eq_left, Nat.left_eq_add, Nat.succ_ne_self, fieldA, partA, cellsOf, List.length_cons, List.length_nil, Nat.reduceAdd, Nat.zero_add, Nat.add_zero, Nat.mul_one, Nat.reduceMul, nbeq_self, onesA_cons', onesA_nil, oneA, Value.oneCell', Nat.reduceLT, ty3, ti3, ty25, ti25, ty39, ti39, e0, e1, e5, e6, c0]; refine ⟨_, _, rfl, ?_⟩)
        | (refine wc_cond (by simp only [oUn_not, beq_self_eq_true, eq_self, pv_mul, List.toList_toArray, opsA_cons, opsA_nil, wantedA, guardA, yieldA, stepA_t, stepA_f, callA, calleeA, targetA, runOp_c, runOp_n, opA, ev, evs, evo, consO, consOO, withH, pickA, afterA_s, putA, T.get_put, Nat.reduceEqDiff, reduceIte, List.getElem?_toArray, List.getElem?_cons_zero, List.getElem?_cons_succ, oBuiltin, oBin, binA, binG, binL, aggO, litA, intA, ltF_eq, eqF_eq, oIndexAddr, cond_true, cond_false, Bool.not_true, Bool.not_false, decide_true, decide_false, blt_eq, tt_beq, tf_beq, ft_beq, ff_beq, Bool.and_true, Bool.true_and, Option.some.injEq, I, Bo, addI, subI, oExtract, Bool.not_eq_true', fieldAddrA, oFieldAddr, oLoad, oStore, isAggD, aggH, oneH, skipH, Nat.add_eq_left, Nat.left_eq_add, Nat.succ_ne_self, fieldA, partA, cellsOf, List.length_cons, List.length_nil, Nat.reduceAdd, Nat.zero_add, Nat.add_zero, Nat.mul_one, Nat.reduceMul, nbeq_self, onesA_cons', onesA_nil, oneA, Value.oneCell', Nat.reduceLT, ty3, ti3, ty25, ti25, ty39, ti39, e0, e1, e5, e6, c0]; rfl) ?_ ?_ <;> intro hb <;> first | (exfalso; exact Bool.noConfusion hb) | skip)
        | refine wc_block ?_
        | refine wc_skip ?_
        | refine wc_scope (by decide) ?_
        | refine wc_label ?_
        | refine wc_exit ?_
        | refine wc_ret ?_
        | refine wv_ret (by simp only [resA, resOne]; simp only [oUn_not, beq_self_eq_true, eq_self, pv_mul, List.toList_toArray, opsA_cons, opsA_nil, wantedA, guardA, yieldA, stepA_t, stepA_f, callA, calleeA, targetA, runOp_c, runOp_n, opA, ev, evs, evo, consO, consOO, withH, pickA, afterA_s, putA, T.get_put, Nat.reduceEqDiff, reduceIte, List.getElem?_toArray, List.getElem?_cons_zero, List.getElem?_cons_succ, oBuiltin, oBin, binA, binG, binL, aggO, litA, intA, ltF_eq, eqF_eq, oIndexAddr, cond_true, cond_false, Bool.not_true, Bool.not_false, decide_true, decide_false, blt_eq, tt_beq, tf_beq, ft_beq, ff_beq, Bool.and_true, Bool.true_and, Option.some.injEq, I, Bo, addI, subI, oExtract, Bool.not_eq_true', fieldAddrA, oFieldAddr, oLoad, oStore, isAggD, aggH, oneH, skipH, Nat.add_eq_left, Nat.left_eq_add, Nat.succ_ne_self, fieldA, partA, cellsOf, List.length_cons, List.length_nil, Nat.reduceAdd, Nat.zero_add, Nat.add_zero, Nat.mul_one, Nat.reduceMul, nbeq_self, onesA_cons', onesA_nil, oneA, Value.oneCell', Nat.reduceLT, ty3, ti3, ty25, ti25, ty39, ti39, e0, e1, e5, e6, c0]; rfl) ?_)
      all_goals exact ⟨hx, hg⟩
set_option maxHeartbeats 4000000 in
theorem c27 (d : Nat) (h : Hp) (nm : Nat) (ms : List Bool) (at_ n : Nat) (hg : Gr 4 1 h (.slice nm 0 ms.length true 0 0) (ms.map Bo) ms.length) (h0 : 0 < ms.length) (hat : at_ ≤ ms.length) (hn : n ≤ 1000) (hl : ms.length ≤ 4000) : Wv (runA ctx 5000 (d + 1) 27 [.slice nm 0 ms.length true 0 0, I (Int.ofNat at_), I (Int.ofNat n)] h) (fun r h' => Ext h h' ∧ IsB h' r (insB ms at_ n)) := by
  have hs1 := fun h => sl_to (nm := nm) (len := ms.length) h hat
  have hs2 := fun h => sl_from (nm := nm) (len := ms.length) h hat
  have hb0 := bs390 h
  have nb := new_cells h [] 4 0
  obtain ⟨v1, h1, hap1, g1, f1, n1⟩ := app39s (Gr.empty (e := 4) 1 h 4 0) hg ⟨ms, rfl⟩ h0 nb.1 (i := 0) (k := at_) (o := 0) (z := 0) (by omega) (by omega)
  have hx1 : Ext h h1 := Fr.from nb.1 f1 (fun n hn => by cases hn; exact Nat.le_refl _)
  have hv1 : ∀ n, nmO v1 = some n → h.c ≤ n := fun n hn => by
    rcases n1 with h5 | h5
    · rw [h5] at hn; cases hn; exact Nat.le_refl _
    · rw [h5] at hn; cases hn; rw [nb.2.1]; omega
  rw [List.nil_append, List.drop_zero, Nat.zero_add, ← List.map_take] at g1
  refine wv_run fn27 rfl ?_
  have a0 : (enterEnv [.slice nm 0 ms.length true 0 0, I (Int.ofNat at_), I (Int.ofNat n)] Try.f27.ntmps).get 0 = some (.slice nm 0 ms.length true 0 0) := enter_get1 _ _ _
  have a1 : (enterEnv [.slice nm 0 ms.length true 0 0, I (Int.ofNat at_), I (Int.ofNat n)] Try.f27.ntmps).get 1 = some (I (Int.ofNat at_)) := enter_get2 _ _ _ _
  have a2 : (enterEnv [.slice nm 0 ms.length true 0 0, I (Int.ofNat at_), I (Int.ofNat n)] Try.f27.ntmps).get 2 = some (I (Int.ofNat n)) := enter_get3 _ _ _ _ _
  generalize enterEnv [.slice nm 0 ms.length true 0 0, I (Int.ofNat at_), I (Int.ofNat n)] Try.f27.ntmps = e at a0 a1 a2 ⊢
  unfold Try.f27
  dsimp only
  repeat' (first
    | refine wc_seq ?_
    | (refine wc_region rfl ?_; simp only [oUn_not, beq_self_eq_true, eq_self, pv_mul, List.toList_toArray, opsA_cons, opsA_nil, wantedA, guardA, yieldA, stepA_t, stepA_f, callA, calleeA, targetA, runOp_c, runOp_n, opA, ev, evs, evo, consO, consOO, withH, pickA, afterA_s, putA, T.get_put, Nat.reduceEqDiff, reduceIte, List.getElem?_toArray, List.getElem?_cons_zero, List.getElem?_cons_succ, oBuiltin, oBin, binA, binG, binL, aggO, litA, intA, ltF_eq, eqF_eq, oIndexAddr, cond_true, cond_false, Bool.not_true, Bool.not_false, decide_true, decide_false, blt_eq, tt_beq, tf_beq, ft_beq, ff_beq, Bool.and_true, Bool.true_and, Option.some.injEq, I, Bo, addI, subI, oExtract, Bool.not_eq_true', fieldAddrA, oFieldAddr, oLoad, oStore, isAggD, aggH, oneH, skipH, Nat.add_eq_left, Nat.left_eq_add, Nat.succ_ne_self, fieldA, partA, cellsOf, List.length_cons, List.length_nil, Nat.reduceAdd, Nat.zero_add, Nat.add_zero, Nat.mul_one, Nat.reduceMul, nbeq_self, onesA_cons', onesA_nil, oneA, Value.oneCell', Nat.reduceLT, ty3, ti3, ty39, ti39, a0, a1, a2, hs1, hb0, hap1, oSlice, oBuild, oBuildSlice, evParts, consP]; refine ⟨_, _, rfl, ?_⟩)
    | (refine wc_cond (by simp only [oUn_not, beq_self_eq_true, eq_self, pv_mul, List.toList_toArray, opsA_cons, opsA_nil, wantedA, guardA, yieldA, stepA_t, stepA_f, callA, calleeA, targetA, runOp_c, runOp_n, opA, ev, evs, evo, consO, consOO, withH, pickA, afterA_s, putA, T.get_put, Nat.reduceEqDiff, reduceIte, List.getElem?_toArray, List.getElem?_cons_zero, List.getElem?_cons_succ, oBuiltin, oBin, binA, binG, binL, aggO, litA, intA, ltF_eq, eqF_eq, oIndexAddr, cond_true, cond_false, Bool.not_true, Bool.not_false, decide_true, decide_false, blt_eq, tt_beq, tf_beq, ft_beq, ff_beq, Bool.and_true, Bool.true_and, Option.some.injEq, I, Bo, addI, subI, oExtract, Bool.not_eq_true', fieldAddrA, oFieldAddr, oLoad, oStore, isAggD, aggH, oneH, skipH, Nat.add_eq_left, Nat.left_eq_add, Nat.succ_ne_self, fieldA, partA, cellsOf, List.length_cons, List.length_nil, Nat.reduceAdd, Nat.zero_add, Nat.add_zero, Nat.mul_one, Nat.reduceMul, nbeq_self, onesA_cons', onesA_nil, oneA, Value.oneCell', Nat.reduceLT, ty3, ti3, ty39, ti39, a0, a1, a2, hs1, hb0, hap1, oSlice, oBuild, oBuildSlice, evParts, consP]; rfl) ?_ ?_ <;> intro hb <;> first | (exfalso; exact Bool.noConfusion hb) | skip)
    | refine wc_block ?_
    | refine wc_skip ?_
    | refine wc_scope (by decide) ?_
    | refine wc_label ?_
    | refine wc_exit ?_
    | refine wc_ret ?_
    | refine wv_ret (by simp only [resA, resOne]; simp only [oUn_not, beq_self_eq_true, eq_self, pv_mul, List.toList_toArray, opsA_cons, opsA_nil, wantedA, guardA, yieldA, stepA_t, stepA_f, callA, calleeA, targetA, runOp_c, runOp_n, opA, ev, evs, evo, consO, consOO, withH, pickA, afterA_s, putA, T.get_put, Nat.reduceEqDiff, reduceIte, List.getElem?_toArray, List.getElem?_cons_zero, List.getElem?_cons_succ, oBuiltin, oBin, binA, binG, binL, aggO, litA, intA, ltF_eq, eqF_eq, oIndexAddr, cond_true, cond_false, Bool.not_true, Bool.not_false, decide_true, decide_false, blt_eq, tt_beq, tf_beq, ft_beq, ff_beq, Bool.and_true, Bool.true_and, Option.some.injEq, I, Bo, addI, subI, oExtract, Bool.not_eq_true', fieldAddrA, oFieldAddr, oLoad, oStore, isAggD, aggH, oneH, skipH, Nat.add_eq_left, Nat.left_eq_add, Nat.succ_ne_self, fieldA, partA, cellsOf, List.length_cons, List.length_nil, Nat.reduceAdd, Nat.zero_add, Nat.add_zero, Nat.mul_one, Nat.reduceMul, nbeq_self, onesA_cons', onesA_nil, oneA, Value.oneCell', Nat.reduceLT, ty3, ti3, ty39, ti39, a0, a1, a2, hs1, hb0, hap1, oSlice, oBuild, oBuildSlice, evParts, consP]; rfl) ?_)
  refine wc_loop (fun m e h' => ∃ k u, m = n - k ∧ k ≤ n ∧ e.get 0 = some (.slice nm 0 ms.length true 0 0) ∧ e.get 1 = some (I (Int.ofNat at_)) ∧ e.get 2 = some (I (Int.ofNat n)) ∧ e.get 7 = some u ∧ e.get 8 = some (I (Int.ofNat k)) ∧ Ext h h' ∧ Gr 4 1 h' u ((ms.take at_ ++ List.replicate k false).map Bo) (ms.take at_ ++ List.replicate k false).length ∧ ∀ n, nmO u = some n → h.c ≤ n) n ?_ ⟨0, v1, ?_⟩ ?_
  · omega
  · refine ⟨rfl, Nat.zero_le _, ?_, ?_, ?_, ?_, ?_, hx1, ?_, hv1⟩
    rotate_left 5
    · rw [List.replicate_zero, List.append_nil, List.length_take, Nat.min_eq_left hat]
      exact g1
    all_goals simp only [oUn_not, beq_self_eq_true, eq_self, pv_mul, List.toList_toArray, opsA_cons, opsA_nil, wantedA, guardA, yieldA, stepA_t, stepA_f, callA, calleeA, targetA, runOp_c, runOp_n, opA, ev, evs, evo, consO, consOO, withH, pickA, afterA_s, putA, T.get_put, Nat.reduceEqDiff, reduceIte, List.getElem?_toArray, List.getElem?_cons_zero, List.getElem?_cons_succ, oBuiltin, oBin, binA, binG, binL, aggO, litA, intA, ltF_eq, eqF_eq, oIndexAddr, cond_true, cond_false, Bool.not_true, Bool.not_false, decide_true, decide_false, blt_eq, tt_beq, tf_beq, ft_beq, ff_beq, Bool.and_true, Bool.true_and, Option.some.injEq, I, Bo, addI, subI, oExtract, Bool.not_eq_true', fieldAddrA, oFieldAddr, oLoad, oStore, isAggD, aggH, oneH, skipH, Nat.add_eq_left, Nat.left_eq_add, Nat.succ_ne_self, fieldA, partA, cellsOf, List.length_cons, List.length_nil, Nat.reduceAdd, Nat.zero_add, Nat.add_zero, Nat.mul_one, Nat.reduceMul, nbeq_self, onesA_cons', onesA_nil, oneA, Value.oneCell', Nat.reduceLT, ty3, ti3, ty39, ti39, a0, a1, a2, hs1, hb0, hap1, oSlice, oBuild, oBuildSlice, evParts, consP]; try rfl
  · rintro m e h' ⟨k, u, rfl, hk, e0, e1, e2, e7, e8, hx, hgu, hu⟩
    by_cases hlt : k < n
    · have c0 : decide (Int.ofNat k < Int.ofNat n) = true := by simp; omega
      have hk1 : IntKind.wrap .i64 (Int.ofNat k + 1) = Int.ofNat (k + 1) := inc (by omega)
      have hb2 := bs39 h' false
      obtain ⟨u2, h2, hap, hg2, hf2, hn2⟩ := app39 hgu false (by rw [List.length_append, List.length_take, List.length_replicate]; omega)
      have hrs : ms.take at_ ++ List.replicate (k + 1) false = (ms.take at_ ++ List.replicate k false) ++ [false] := by
        rw [List.replicate_succ', List.append_assoc]
      have hx2 : Ext h h2 := Fr.from hx hf2 (fun n hn => hu n hn)
      have hu2 : ∀ n, nmO u2 = some n → h.c ≤ n := fun n hn => by
        rcases hn2 with h5 | ⟨n', h5, h6⟩
        · exact hu n (by rw [← h5]; exact hn)
        · rw [h5] at hn; cases hn; have := hx.c; omega
      repeat' (first
        | refine wc_seq ?_
        | (refine wc_region rfl ?_; simp only [oUn_not, beq_self_eq_true, eq_self, pv_mul, List.toList_toArray, opsA_cons, opsA_nil, wantedA, guardA, yieldA, stepA_t, stepA_f, callA, calleeA, targetA, runOp_c, runOp_n, opA, ev, evs, evo, consO, consOO, withH, pickA, afterA_s, putA, T.get_put, Nat.reduceEqDiff, reduceIte, List.getElem?_toArray, List.getElem?_cons_zero, List.getElem?_cons_succ, oBuiltin, oBin, binA, binG, binL, aggO, litA, intA, ltF_eq, eqF_eq, oIndexAddr, cond_true, cond_false, Bool.not_true, Bool.not_false, decide_true, decide_false, blt_eq, tt_beq, tf_beq, ft_beq, ff_beq, Bool.and_true, Bool.true_and, Option.some.injEq, I, Bo, addI, subI, oExtract, Bool.not_eq_true', fieldAddrA, oFieldAddr, oLoad, oStore, isAggD, aggH, oneH, skipH, Nat.add_eq_left, Nat.left_eq_add, Nat.succ_ne_self, fieldA, partA, cellsOf, List.length_cons, List.length_nil, Nat.reduceAdd, Nat.zero_add, Nat.add_zero, Nat.mul_one, Nat.reduceMul, nbeq_self, onesA_cons', onesA_nil, oneA, Value.oneCell', Nat.reduceLT, ty3, ti3, ty39, ti39, e0, e1, e2, e7, e8, c0, hk1, hb2, hap, oBuild, oBuildSlice, evParts, consP]; refine ⟨_, _, rfl, ?_⟩)
        | (refine wc_cond (by simp only [oUn_not, beq_self_eq_true, eq_self, pv_mul, List.toList_toArray, opsA_cons, opsA_nil, wantedA, guardA, yieldA, stepA_t, stepA_f, callA, calleeA, targetA, runOp_c, runOp_n, opA, ev, evs, evo, consO, consOO, withH, pickA, afterA_s, putA, T.get_put, Nat.reduceEqDiff, reduceIte, List.getElem?_toArray, List.getElem?_cons_zero, List.getElem?_cons_succ, oBuiltin, oBin, binA, binG, binL, aggO, litA, intA, ltF_eq, eqF_eq, oIndexAddr, cond_true, cond_false, Bool.not_true, Bool.not_false, decide_true, decide_false, blt_eq, tt_beq, tf_beq, ft_beq, ff_beq, Bool.and_true, Bool.true_and, Option.some.injEq, I, Bo, addI, subI, oExtract, Bool.not_eq_true', fieldAddrA, oFieldAddr, oLoad, oStore, isAggD, aggH, oneH, skipH, Nat.add_eq_left, Nat.left_eq_add, Nat.succ_ne_self, fieldA, partA, cellsOf, List.length_cons, List.length_nil, Nat.reduceAdd, Nat.zero_add, Nat.add_zero, Nat.mul_one, Nat.reduceMul, nbeq_self, onesA_cons', onesA_nil, oneA, Value.oneCell', Nat.reduceLT, ty3, ti3, ty39, ti39, e0, e1, e2, e7, e8, c0, hk1, hb2, hap, oBuild, oBuildSlice, evParts, consP]; rfl) ?_ ?_ <;> intro hb <;> first | (exfalso; exact Bool.noConfusion hb) | skip)
        | refine wc_block ?_
        | refine wc_skip ?_
        | refine wc_scope (by decide) ?_
        | refine wc_label ?_
        | refine wc_exit ?_
        | refine wc_ret ?_
        | refine wv_ret (by simp only [resA, resOne]; simp only [oUn_not, beq_self_eq_true, eq_self, pv_mul, List.toList_toArray, opsA_cons, opsA_nil, wantedA, guardA, yieldA, stepA_t, stepA_f, callA, calleeA, targetA, runOp_c, runOp_n, opA, ev, evs, evo, consO, consOO, withH, pickA, afterA_s, putA, T.get_put, Nat.reduceEqDiff, reduceIte, List.getElem?_toArray, List.getElem?_cons_zero, List.getElem?_cons_succ, oBuiltin, oBin, binA, binG, binL, aggO, litA, intA, ltF_eq, eqF_eq, oIndexAddr, cond_true, cond_false, Bool.not_true, Bool.not_false, decide_true, decide_false, blt_eq, tt_beq, tf_beq, ft_beq, ff_beq, Bool.and_true, Bool.true_and, Option.some.injEq, I, Bo, addI, subI, oExtract, Bool.not_eq_true', fieldAddrA, oFieldAddr, oLoad, oStore, isAggD, aggH, oneH, skipH, Nat.add_eq_left, Nat.left_eq_add, Nat.succ_ne_self, fieldA, partA, cellsOf, List.length_cons, List.length_nil, Nat.reduceAdd, Nat.zero_add, Nat.add_zero, Nat.mul_one, Nat.reduceMul, nbeq_self, onesA_cons', onesA_nil, oneA, Value.oneCell', Nat.reduceLT, ty3, ti3, ty39, ti39, e0, e1, e2, e7, e8, c0, hk1, hb2, hap, oBuild, oBuildSlice, evParts, consP]; rfl) ?_)
      refine nx_next (n - (k + 1)) (by omega) ⟨k + 1, u2, rfl, hlt, ?_, ?_, ?_, ?_, ?_, hx2, by rw [hrs]; exact hg2, hu2⟩ <;> simp only [oUn_not, beq_self_eq_true, eq_self, pv_mul, List.toList_toArray, opsA_cons, opsA_nil, wantedA, guardA, yieldA, stepA_t, stepA_f, callA, calleeA, targetA, runOp_c, runOp_n, opA, ev, evs, evo, consO, consOO, withH, pickA, afterA_s, putA, T.get_put, Nat.reduceEqDiff, reduceIte, List.getElem?_toArray, List.getElem?_cons_zero, List.getElem?_cons_succ, oBuiltin, oBin, binA, binG, binL, aggO, litA, intA, ltF_eq, eqF_eq, oIndexAddr, cond_true, cond_false, Bool.not_true, Bool.not_false, decide_true, decide_false, blt_eq, tt_beq, tf_beq, ft_beq, ff_beq, Bool.and_true, Bool.true_and, Option.some.injEq, I, Bo, addI, subI, oExtract, Bool.not_eq_true', fieldAddrA, oFieldAddr, oLoad, oStore, isAggD, aggH, oneH, skipH, Nat.add_eq_left, Nat.left_eq_add, Nat.succ_ne_self, fieldA, partA, cellsOf, List.length_cons, List.length_nil, Nat.reduceAdd, Nat.zero_add, Nat.add_zero, Nat.mul_one, Nat.reduceMul, nbeq_self, onesA_cons', onesA_nil, oneA, Value.oneCell', Nat.reduceLT, ty3, ti3, ty39, ti39, e0, e1, e2, e7, e8, c0, hk1, hb2, hap, oBuild, oBuildSlice, evParts, consP]
    · have c0 : decide (Int.ofNat k < Int.ofNat n) = false := by simp; omega
      obtain rfl : k = n := by omega
      obtain ⟨u2, h2, hap, hg2, hf2, hn2⟩ := app39s hgu hg ⟨ms, rfl⟩ h0 hx (i := at_) (k := ms.length - at_) (o := at_) (z := 0) (by omega) (by rw [List.length_append, List.length_take, List.length_replicate]; omega)
      have hx2 : Ext h h2 := Fr.from hx hf2 (fun n hn => hu n hn)
      have hres : IsB h2 u2 (insB ms at_ k) := by
        have e9 : insB ms at_ k = (ms.take at_ ++ List.replicate k false) ++ (ms.drop at_).take (ms.length - at_) := by
          have e8 : (ms.drop at_).take (ms.length - at_) = ms.drop at_ := List.take_of_length_le (by rw [List.length_drop]; omega)
          rw [e8]
          rfl
        rw [e9]
        refine gr_isB ?_
        rw [List.map_append, List.map_take, List.map_drop, List.length_append, List.length_take (i := ms.length - at_), List.length_drop, Nat.min_self]
        exact hg2
      repeat' (first
        | refine wc_seq ?_
        | (refine wc_region rfl ?_; simp only [oUn_not, beq_self_eq_true, eq_self, pv_mul, List.toList_toArray, opsA_cons, opsA_nil, wantedA, guardA, yieldA, stepA_t, stepA_f, callA, calleeA, targetA, runOp_c, runOp_n, opA, ev, evs, evo, consO, consOO, withH, pickA, afterA_s, putA, T.get_put, Nat.reduceEqDiff, reduceIte, List.getElem?_toArray, List.getElem?_cons_zero, List.getElem?_cons_succ, oBuiltin, oBin, binA, binG, binL, aggO, litA, intA, ltF_eq, eqF_eq, oIndexAddr, cond_true, cond_false, Bool.not_true, Bool.not_false, decide_true, decide_false, blt_eq, tt_beq, tf_beq, ft_beq, ff_beq, Bool.and_true, Bool.true_and, Option.some.injEq, I, Bo, addI, subI, oExtract, Bool.not_eq_true', fieldAddrA, oFieldAddr, oLoad, oStore, isAggD, aggH, oneH, skipH, Nat.add_eq_left, Nat.left_eq_add, Nat.succ_ne_self, fieldA, partA, cellsOf, List.length_cons, List.length_nil, Nat.reduceAdd, Nat.zero_add, Nat.add_zero, Nat.mul_one, Nat.reduceMul, nbeq_self, onesA_cons', onesA_nil, oneA, Value.oneCell', Nat.reduceLT, ty3, ti3, ty39, ti39, e0, e1, e2, e7, e8, c0, hs2, hap, oSlice]; refine ⟨_, _, rfl, ?_⟩)
        | (refine wc_cond (by simp only [oUn_not, beq_self_eq_true, eq_self, pv_mul, List.toList_toArray, opsA_cons, opsA_nil, wantedA, guardA, yieldA, stepA_t, stepA_f, callA, calleeA, targetA, runOp_c, runOp_n, opA, ev, evs, evo, consO, consOO, withH, pickA, afterA_s, putA, T.get_put, Nat.reduceEqDiff, reduceIte, List.getElem?_toArray, List.getElem?_cons_zero, List.getElem?_cons_succ, oBuiltin, oBin, binA, binG, binL, aggO, litA, intA, ltF_eq, eqF_eq, oIndexAddr, cond_true, cond_false, Bool.not_true, Bool.not_false, decide_true, decide_false, blt_eq, tt_beq, tf_beq, ft_beq, ff_beq, Bool.and_true, Bool.true_and, Option.some.injEq, I, Bo, addI, subI, oExtract, Bool.not_eq_true', fieldAddrA, oFieldAddr, oLoad, oStore, isAggD, aggH, oneH, skipH, Nat.add_eq_left, Nat.left_eq_add, Nat.succ_ne_self, fieldA, partA, cellsOf, List.length_cons, List.length_nil, Nat.reduceAdd, Nat.zero_add, Nat.add_zero, Nat.mul_one, Nat.reduceMul, nbeq_self, onesA_cons', onesA_nil, oneA, Value.oneCell', Nat.reduceLT, ty3, ti3, ty39, ti39, e0, e1, e2, e7, e8, c0, hs2, hap, oSlice]; rfl) ?_ ?_ <;> intro hb <;> first | (exfalso; exact Bool.noConfusion hb) | skip)
        | refine wc_block ?_
        | refine wc_skip ?_
        | refine wc_scope (by decide) ?_
        | refine wc_label ?_
        | refine wc_exit ?_
        | refine wc_ret ?_
        | refine wv_ret (by simp only [resA, resOne]; simp only [oUn_not, beq_self_eq_true, eq_self, pv_mul, List.toList_toArray, opsA_cons, opsA_nil, wantedA, guardA, yieldA, stepA_t, stepA_f, callA, calleeA, targetA, runOp_c, runOp_n, opA, ev, evs, evo, consO, consOO, withH, pickA, afterA_s, putA, T.get_put, Nat.reduceEqDiff, reduceIte, List.getElem?_toArray, List.getElem?_cons_zero, List.getElem?_cons_succ, oBuiltin, oBin, binA, binG, binL, aggO, litA, intA, ltF_eq, eqF_eq, oIndexAddr, cond_true, cond_false, Bool.not_true, Bool.not_false, decide_true, decide_false, blt_eq, tt_beq, tf_beq, ft_beq, ff_beq, Bool.and_true, Bool.true_and, Option.some.injEq, I, Bo, addI, subI, oExtract, Bool.not_eq_true', fieldAddrA, oFieldAddr, oLoad, oStore, isAggD, aggH, oneH, skipH, Nat.add_eq_left, Nat.left_eq_add, Nat.succ_ne_self, fieldA, partA, cellsOf, List.length_cons, List.length_nil, Nat.reduceAdd, Nat.zero_add, Nat.add_zero, Nat.mul_one, Nat.reduceMul, nbeq_self, onesA_cons', onesA_nil, oneA, Value.oneCell', Nat.reduceLT, ty3, ti3, ty39, ti39, e0, e1, e2, e7, e8, c0, hs2, hap, oSlice]; rfl) ?_)
      all_goals exact ⟨hx2, hres⟩
set_option maxHeartbeats 4000000 in
theorem c28 (d : Nat) (h : Hp) (nm : Nat) (ms : List Bool) (at_ n : Nat) (hg : Gr 4 1 h (.slice nm 0 ms.length true 0 0) (ms.map Bo) ms.length) (h0 : 0 < ms.length) (hat : at_ ≤ ms.length) (hn : n ≤ 1000) (hl : ms.length ≤ 4000) : Wv (runA ctx 5000 (d + 1) 28 [.slice nm 0 ms.length true 0 0, I (Int.ofNat at_), I (Int.ofNat n)] h) (fun r h' => Ext h h' ∧ IsB h' r (remB ms at_ n)) := by
  have hs1 := fun h => sl_to (nm := nm) (len := ms.length) h hat
  have hb0 := bs390 h
  have nb := new_cells h [] 4 0
  have hll : ∀ h', builtinA ctx h' .len [39] [.slice nm 0 ms.length true 0 0] = some (I (ms.length : Int), h') := fun h' => by simp only [builtinA, ty39, ti39]
  obtain ⟨v1, h1, hap1, g1, f1, n1⟩ := app39s (Gr.empty (e := 4) 1 h 4 0) hg ⟨ms, rfl⟩ h0 nb.1 (i := 0) (k := at_) (o := 0) (z := 0) (by omega) (by omega)
  have hx1 : Ext h h1 := Fr.from nb.1 f1 (fun n hn => by cases hn; exact Nat.le_refl _)
  have hv1 : ∀ n, nmO v1 = some n → h.c ≤ n := fun n hn => by
    rcases n1 with h5 | h5
    · rw [h5] at hn; cases hn; exact Nat.le_refl _
    · rw [h5] at hn; cases hn; rw [nb.2.1]; omega
  rw [List.nil_append, List.drop_zero, Nat.zero_add, ← List.map_take] at g1
  have wa : IntKind.wrap .i64 (Int.ofNat at_ + Int.ofNat n) = Int.ofNat (at_ + n) := by rw [IntKind.wrap_i64]; simp; omega
  have g1' : Gr 4 1 h1 v1 ((ms.take at_).map Bo) (ms.take at_).length := by rw [List.length_take, Nat.min_eq_left hat]; exact g1
  refine wv_run fn28 rfl ?_
  have a0 : (enterEnv [.slice nm 0 ms.length true 0 0, I (Int.ofNat at_), I (Int.ofNat n)] Try.f28.ntmps).get 0 = some (.slice nm 0 ms.length true 0 0) := enter_get1 _ _ _
  have a1 : (enterEnv [.slice nm 0 ms.length true 0 0, I (Int.ofNat at_), I (Int.ofNat n)] Try.f28.ntmps).get 1 = some (I (Int.ofNat at_)) := enter_get2 _ _ _ _
  have a2 : (enterEnv [.slice nm 0 ms.length true 0 0, I (Int.ofNat at_), I (Int.ofNat n)] Try.f28.ntmps).get 2 = some (I (Int.ofNat n)) := enter_get3 _ _ _ _ _
  generalize enterEnv [.slice nm 0 ms.length true 0 0, I (Int.ofNat at_), I (Int.ofNat n)] Try.f28.ntmps = e at a0 a1 a2 ⊢
  unfold Try.f28
  dsimp only
  by_cases hc : at_ + n < ms.length
  · have c0 : decide (Int.ofNat (at_ + n) < (ms.length : Int)) = true := by simp; omega
    have hs2 := fun h => sl_from (nm := nm) (len := ms.length) (at_ := at_ + n) h (by omega)
    obtain ⟨u2, h2, hap, hg2, hf2, hn2⟩ := app39s g1 hg ⟨ms, rfl⟩ h0 hx1 (i := at_ + n) (k := ms.length - (at_ + n)) (o := at_ + n) (z := 0) (by omega) (by omega)
    have hx2 : Ext h h2 := Fr.from hx1 hf2 (fun n hn => hv1 n hn)
    have hres : IsB h2 u2 (remB ms at_ n) := by
      have e9 : remB ms at_ n = ms.take at_ ++ (ms.drop (at_ + n)).take (ms.length - (at_ + n)) := by
        have e8 : (ms.drop (at_ + n)).take (ms.length - (at_ + n)) = ms.drop (at_ + n) := List.take_of_length_le (by rw [List.length_drop]; omega)
        rw [e8]
        rfl
      rw [e9]
      refine gr_isB ?_
      rw [List.map_append, List.map_take (l := ms.drop (at_ + n)), List.map_drop, List.length_append, List.length_take (i := at_), List.length_take (i := ms.length - (at_ + n)), List.length_drop, Nat.min_self, Nat.min_eq_left hat]
      exact hg2
    repeat' (first
      | refine wc_seq ?_
      | (refine wc_region rfl ?_; simp only [oUn_not, beq_self_eq_true, eq_self, pv_mul, List.toList_toArray, opsA_cons, opsA_nil, wantedA, guardA, yieldA, stepA_t, stepA_f, callA, calleeA, targetA, runOp_c, runOp_n, opA, ev, evs, evo, consO, consOO, withH, pickA, afterA_s, putA, T.get_put, Nat.reduceEqDiff, reduceIte, List.getElem?_toArray, List.getElem?_cons_zero, List.getElem?_cons_succ, oBuiltin, oBin, binA, binG, binL, aggO, litA, intA, ltF_eq, eqF_eq, oIndexAddr, cond_true, cond_false, Bool.not_true, Bool.not_false, decide_true, decide_false, blt_eq, tt_beq, tf_beq, ft_beq, ff_beq, Bool.and_true, Bool.true_and, Option.some.injEq, I, Bo, addI, subI, oExtract, Bool.not_eq_true', fieldAddrA, oFieldAddr, oLoad, oStore, isAggD, aggH, oneH, skipH, Nat.add_eq_left, Nat.left_eq_add, Nat.succ_ne_self, fieldA, partA, cellsOf, List.length_cons, List.length_nil, Nat.reduceAdd, Nat.zero_add, Nat.add_zero, Nat.mul_one, Nat.reduceMul, nbeq_self, onesA_cons', onesA_nil, oneA, Value.oneCell', Nat.reduceLT, ty3, ti3, ty39, ti39, a0, a1, a2, hs1, hs2, hb0, hap1, hap, hll, wa, c0, oSlice, oBuild, oBuildSlice, evParts, consP]; refine ⟨_, _, rfl, ?_⟩)
      | (refine wc_cond (by simp only [oUn_not, beq_self_eq_true, eq_self, pv_mul, List.toList_toArray, opsA_cons, opsA_nil, wantedA, guardA, yieldA, stepA_t, stepA_f, callA, calleeA, targetA, runOp_c, runOp_n, opA, ev, evs, evo, consO, consOO, withH, pickA, afterA_s, putA, T.get_put, Nat.reduceEqDiff, reduceIte, List.getElem?_toArray, List.getElem?_cons_zero, List.getElem?_cons_succ, oBuiltin, oBin, binA, binG, binL, aggO, litA, intA, ltF_eq, eqF_eq, oIndexAddr, cond_true, cond_false, Bool.not_true, Bool.not_false, decide_true, decide_false, blt_eq, tt_beq, tf_beq, ft_beq, ff_beq, Bool.and_true, Bool.true_and, Option.some.injEq, I, Bo, addI, subI, oExtract, Bool.not_eq_true', fieldAddrA, oFieldAddr, oLoad, oStore, isAggD, aggH, oneH, skipH, Nat.add_eq_left, Nat.left_eq_add, Nat.succ_ne_self, fieldA, partA, cellsOf, List.length_cons, List.length_nil, Nat.reduceAdd, Nat.zero_add, Nat.add_zero, Nat.mul_one, Nat.reduceMul, nbeq_self, onesA_cons', onesA_nil, oneA, Value.oneCell', Nat.reduceLT, ty3, ti3, ty39, ti39, a0, a1, a2, hs1, hs2, hb0, hap1, hap, hll, wa, c0, oSlice, oBuild, oBuildSlice, evParts, consP]; rfl) ?_ ?_ <;> intro hb <;> first | (exfalso; exact Bool.noConfusion hb) | skip)
      | refine wc_block ?_
      | refine wc_skip ?_
      | refine wc_scope (by decide) ?_
      | refine wc_label ?_
      | refine wc_exit ?_
      | refine wc_ret ?_
      | refine wv_ret (by simp only [resA, resOne]; simp only [oUn_not, beq_self_eq_true, eq_self, pv_mul, List.toList_toArray, opsA_cons, opsA_nil, wantedA, guardA, yieldA, stepA_t, stepA_f, callA, calleeA, targetA, runOp_c, runOp_n, opA, ev, evs, evo, consO, consOO, withH, pickA, afterA_s, putA, T.get_put, Nat.reduceEqDiff, reduceIte, List.getElem?_toArray, List.getElem?_cons_zero, List.getElem?_cons_succ, oBuiltin, oBin, binA, binG, binL, aggO, litA, intA, ltF_eq, eqF_eq, oIndexAddr, cond_true, cond_false, Bool.not_true, Bool.not_false, decide_true, decide_false, blt_eq, tt_beq, tf_beq, ft_beq, ff_beq, Bool.and_true, Bool.true_and, Option.some.injEq, I, Bo, addI, subI, oExtract, Bool.not_eq_true', fieldAddrA, oFieldAddr, oLoad, oStore, isAggD, aggH, oneH, skipH, Nat.add_eq_left, Nat.left_eq_add, Nat.succ_ne_self, fieldA, partA, cellsOf, List.length_cons, List.length_nil, Nat.reduceAdd, Nat.zero_add, Nat.add_zero, Nat.mul_one, Nat.reduceMul, nbeq_self, onesA_cons', onesA_nil, oneA, Value.oneCell', Nat.reduceLT, ty3, ti3, ty39, ti39, a0, a1, a2, hs1, hs2, hb0, hap1, hap, hll, wa, c0, oSlice, oBuild, oBuildSlice, evParts, consP]; rfl) ?_)
    all_goals exact ⟨hx2, hres⟩
  · have c0 : decide (Int.ofNat (at_ + n) < (ms.length : Int)) = false := by simp; omega
    have hres : IsB h1 v1 (remB ms at_ n) := by
      unfold remB
      rw [List.drop_eq_nil_of_le (by omega), List.append_nil]
      exact gr_isB g1'
    repeat' (first
      | refine wc_seq ?_
      | (refine wc_region rfl ?_; simp only [oUn_not, beq_self_eq_true, eq_self, pv_mul, List.toList_toArray, opsA_cons, opsA_nil, wantedA, guardA, yieldA, stepA_t, stepA_f, callA, calleeA, targetA, runOp_c, runOp_n, opA, ev, evs, evo, consO, consOO, withH, pickA, afterA_s, putA, T.get_put, Nat.reduceEqDiff, reduceIte, List.getElem?_toArray, List.getElem?_cons_zero, List.getElem?_cons_succ, oBuiltin, oBin, binA, binG, binL, aggO, litA, intA, ltF_eq, eqF_eq, oIndexAddr, cond_true, cond_false, Bool.not_true, Bool.not_false, decide_true, decide_false, blt_eq, tt_beq, tf_beq, ft_beq, ff_beq, Bool.and_true, Bool.true_and, Option.some.injEq, I, Bo, addI, subI, oExtract, Bool.not_eq_true', fieldAddrA, oFieldAddr, oLoad, oStore, isAggD, aggH, oneH, skipH, Nat.add_eq_left, Nat.left_eq_add, Nat.succ_ne_self, fieldA, partA, cellsOf, List.length_cons, List.length_nil, Nat.reduceAdd, Nat.zero_add, Nat.add_zero, Nat.mul_one, Nat.reduceMul, nbeq_self, onesA_cons', onesA_nil, oneA, Value.oneCell', Nat.reduceLT, ty3, ti3, ty39, ti39, a0, a1, a2, hs1, hb0, hap1, hll, wa, c0, oSlice, oBuild, oBuildSlice, evParts, consP]; refine ⟨_, _, rfl, ?_⟩)
      | (refine wc_cond (by simp only [oUn_not, beq_self_eq_true, eq_self, pv_mul, List.toList_toArray, opsA_cons, opsA_nil, wantedA, guardA, yieldA, stepA_t, stepA_f, callA, calleeA, targetA, runOp_c, runOp_n, opA, ev, evs, evo, consO, consOO, withH, pickA, afterA_s, putA, T.get_put, Nat.reduceEqDiff, reduceIte, List.getElem?_toArray, List.getElem?_cons_zero, List.getElem?_cons_succ, oBuiltin, oBin, binA, binG, binL, aggO, litA, intA, ltF_eq, eqF_eq, oIndexAddr, cond_true, cond_false, Bool.not_true, Bool.not_false, decide_true, decide_false, blt_eq, tt_beq, tf_beq, ft_beq, ff_beq, Bool.and_true, Bool.true_and, Option.some.injEq, I, Bo, addI, subI, oExtract, Bool.not_eq_true', fieldAddrA, oFieldAddr, oLoad, oStore, isAggD, aggH, oneH, skipH, Nat.add_eq_left, Nat.left_eq_add, Nat.succ_ne_self, fieldA, partA, cellsOf, List.length_cons, List.length_nil, Nat.reduceAdd, Nat.zero_add, Nat.add_zero, Nat.mul_one, Nat.reduceMul, nbeq_self, onesA_cons', onesA_nil, oneA, Value.oneCell', Nat.reduceLT, ty3, ti3, ty39, ti39, a0, a1, a2, hs1, hb0, hap1, hll, wa, c0, oSlice, oBuild, oBuildSlice, evParts, consP]; rfl) ?_ ?_ <;> intro hb <;> first | (exfalso; exact Bool.noConfusion hb) | skip)
      | refine wc_block ?_
      | refine wc_skip ?_
      | refine wc_scope (by decide) ?_
      | refine wc_label ?_
      | refine wc_exit ?_
      | refine wc_ret ?_
      | refine wv_ret (by simp only [resA, resOne]; simp only [oUn_not, beq_self_eq_true, eq_self, pv_mul, List.toList_toArray, opsA_cons, opsA_nil, wantedA, guardA, yieldA, stepA_t, stepA_f, callA, calleeA, targetA, runOp_c, runOp_n, opA, ev, evs, evo, consO, consOO, withH, pickA, afterA_s, putA, T.get_put, Nat.reduceEqDiff, reduceIte, List.getElem?_toArray, List.getElem?_cons_zero, List.getElem?_cons_succ, oBuiltin, oBin, binA, binG, binL, aggO, litA, intA, ltF_eq, eqF_eq, oIndexAddr, cond_true, cond_false, Bool.not_true, Bool.not_false, decide_true, decide_false, blt_eq, tt_beq, tf_beq, ft_beq, ff_beq, Bool.and_true, Bool.true_and, Option.some.injEq, I, Bo, addI, subI, oExtract, Bool.not_eq_true', fieldAddrA, oFieldAddr, oLoad, oStore, isAggD, aggH, oneH, skipH, Nat.add_eq_left, Nat.left_eq_add, Nat.succ_ne_self, fieldA, partA, cellsOf, List.length_cons, List.length_nil, Nat.reduceAdd, Nat.zero_add, Nat.add_zero, Nat.mul_one, Nat.reduceMul, nbeq_self, onesA_cons', onesA_nil, oneA, Value.oneCell', Nat.reduceLT, ty3, ti3, ty39, ti39, a0, a1, a2, hs1, hb0, hap1, hll, wa, c0, oSlice, oBuild, oBuildSlice, evParts, consP]; rfl) ?_)
    all_goals exact ⟨hx1, hres⟩
end Go.Proofs.Ytmcbkmmipgaeoaa
