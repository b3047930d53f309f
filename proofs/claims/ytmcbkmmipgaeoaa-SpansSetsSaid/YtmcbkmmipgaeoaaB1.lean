import Derived.Test.YtmcbkmmipgaeoaaNC27
import Derived.KernelRfl
namespace Go.Proofs.Ytmcbkmmipgaeoaa
open Go Go.Proofs Go.RowKit
set_option linter.unusedSimpArgs false
set_option linter.unusedVariables false
open Go.Proofs.Abs
theorem fn5 : ctx.funs.get 5 = some Try.f5 := by kernel_rfl
theorem fn6 : ctx.funs.get 6 = some Try.f6 := by kernel_rfl
theorem fn18 : ctx.funs.get 18 = some Try.f18 := by kernel_rfl
theorem fn19 : ctx.funs.get 19 = some Try.f19 := by kernel_rfl
theorem fn23 : ctx.funs.get 23 = some Try.f23 := by kernel_rfl
theorem fn24 : ctx.funs.get 24 = some Try.f24 := by kernel_rfl
theorem fn27 : ctx.funs.get 27 = some Try.f27 := by kernel_rfl
theorem fn28 : ctx.funs.get 28 = some Try.f28 := by kernel_rfl
theorem fn29 : ctx.funs.get 29 = some Try.f29 := by kernel_rfl
theorem ty5 : ctx.tys.get 5 = some ti5 := by kernel_rfl
theorem ty39 : ctx.tys.get 39 = some ti39 := by kernel_rfl
theorem ty41 : ctx.tys.get 41 = some ti41 := by kernel_rfl
theorem inc {k : Nat} (hk : k < 9223372036854775807) : IntKind.wrap .i64 (Int.ofNat k + 1) = Int.ofNat (k + 1) := by rw [IntKind.wrap_i64]; simp; omega
theorem dec {k : Nat} (hk : k < 9223372036854775807) : IntKind.wrap .i64 (Int.ofNat (k + 1) - 1) = Int.ofNat k := by rw [IntKind.wrap_i64]; simp; omega
abbrev IsB (h : Hp) (v : AV) (ms : List Bool) : Prop := IsL h v (ms.map Bo)
theorem len39 {h : Hp} {v : AV} {ms : List Bool} (r : IsB h v ms) (h' : Hp) : builtinA ctx h' .len [39] [v] = some (I (ms.length : Int), h') := by
  have := r.len (h' := h') ty39 rfl
  rwa [List.length_map] at this
theorem at39 {h : Hp} {v : AV} {ms : List Bool} (r : IsB h v ms) {k : Nat} {b : Bool} (hx : ms[k]? = some b) :
    ∃ p, indexAddrA ctx 39 v (I (Int.ofNat k)) = some p ∧ ∀ h', Ext h h' → oLoad h' (some ti4) (some p) = some (Bo b, h') :=
  r.at ty39 rfl ty4 rfl rfl (by rw [List.getElem?_map, hx]; rfl)
/-- the cells of pairs -/
def flat (ps : List (Int × Int)) : List AV := ps.flatMap fun p => [I p.1, I p.2]
theorem flat_nil : flat [] = [] := rfl
theorem flat_app (xs ys : List (Int × Int)) : flat (xs ++ ys) = flat xs ++ flat ys := by simp [flat]
theorem flat_one (a b : Int) : flat [(a, b)] = [I a, I b] := rfl
theorem flat_len (ps : List (Int × Int)) : (flat ps).length = ps.length * 2 := by
  induction ps with
  | nil => rfl
  | cons p ps ih => rw [show flat (p :: ps) = [I p.1, I p.2] ++ flat ps from rfl, List.length_append, ih, List.length_cons (a := p), Nat.add_mul, Nat.one_mul, Nat.add_comm]; rfl
theorem flat_at : ∀ {ps : List (Int × Int)} {k : Nat} {a b : Int}, ps[k]? = some (a, b) → (flat ps)[k * 2]? = some (I a) ∧ (flat ps)[k * 2 + 1]? = some (I b)
  | p :: ps, 0, a, b, h => by
    cases h
    exact ⟨rfl, rfl⟩
  | p :: ps, k + 1, a, b, h => by
    have := flat_at (ps := ps) (k := k) (a := a) (b := b) (by simpa using h)
    rw [show flat (p :: ps) = I p.1 :: I p.2 :: flat ps from rfl, show (k + 1) * 2 = k * 2 + 1 + 1 by omega]
    simpa using this
theorem flat_set (ys : List (Int × Int)) (a b t : Int) : (flat (ys ++ [(a, b)])).set (ys.length * 2 + 1) (I t) = flat (ys ++ [(a, t)]) := by
  rw [flat_app, flat_app, List.set_append_right _ _ (by rw [flat_len]; omega), flat_len, Nat.add_sub_cancel_left]
  rfl
theorem gr_rows {e : Nat} {h : Hp} {v : AV} {ps : List (Int × Int)} (g : Gr e 2 h v (flat ps) ps.length) : IsRows h v ps := by
  rcases g.is with ⟨rfl, h0⟩ | ⟨nm, r, rfl, h1, _⟩
  · exact .inl ⟨rfl, List.eq_nil_of_length_eq_zero h0⟩
  · refine .inr ⟨nm, 0, r, 0, 0, rfl, h1, fun i a b hi => ?_⟩
    obtain ⟨c1, c2⟩ := flat_at hi
    rw [Nat.zero_add]
    exact ⟨(g.cell c1).load, (g.cell c2).load⟩
theorem gr_isB {h : Hp} {v : AV} {ms : List Bool} (g : Gr 4 1 h v (ms.map Bo) ms.length) : IsB h v ms := by
  rcases g.is with ⟨rfl, h0⟩ | ⟨nm, r, rfl, h1, _⟩
  · exact .inl ⟨rfl, by rw [List.eq_nil_of_length_eq_zero h0]; rfl⟩
  · refine .inr ⟨nm, 0, r, 0, 0, by rw [List.length_map], h1, fun k x hx => ?_⟩
    rw [Nat.zero_add]
    exact (g.cell hx).load
/-- marks that came in -/
def InB (h : Hp) (v : AV) (ms : List Bool) : Prop := (v = nilS ∧ ms = []) ∨ ∃ nm off cap z, v = .slice nm off ms.length false cap z ∧ ms.length ≤ cap ∧ nm < h.c ∧ Row1 h nm off (ms.map Bo)
theorem InB.ext {h h' : Hp} {v : AV} {ms : List Bool} (r : InB h v ms) (a : Ext h h') : InB h' v ms := by
  rcases r with h1 | ⟨nm, off, cap, z, h1, h0, h2, h3⟩
  · exact .inl h1
  · exact .inr ⟨nm, off, cap, z, h1, h0, Nat.lt_of_lt_of_le h2 a.c, h3.ext a h2⟩
theorem InB.isB {h : Hp} {v : AV} {ms : List Bool} (r : InB h v ms) : IsB h v ms := by
  rcases r with ⟨rfl, rfl⟩ | ⟨nm, off, cap, z, rfl, h0, h2, h3⟩
  · exact .inl ⟨rfl, rfl⟩
  · exact .inr ⟨nm, off, false, cap, z, by rw [List.length_map], h2, h3⟩
theorem minN (a b : Nat) : min (a : Int) (b : Int) = ((min a b : Nat) : Int) := by omega
theorem take_rows {h : Hp} {nm off n : Nat} {xs : List AV} (r : Row1 h nm off xs) : Row1 h nm off (xs.take n) := fun k x hx => by
  rw [List.getElem?_take] at hx
  split at hx
  · exact r k x hx
  · cases hx
/-- the first marks -/
theorem first {h : Hp} {v : AV} {ms : List Bool} (r : InB h v ms) : ∃ w, (∀ h', sliceA ctx h' 39 v none (some (I (min (ms.length : Int) 300))) none = some (w, h')) ∧ IsB h w (ms.take 300) := by
  rcases r with ⟨rfl, rfl⟩ | ⟨nm, off, cap, z, rfl, h0, h2, h3⟩
  · exact ⟨nilS, fun h' => by kernel_rfl, .inl ⟨rfl, rfl⟩⟩
  · have e1 : natOf? (I ((min ms.length 300 : Nat) : Int)) cap = some (min ms.length 300) := natOf_I (by omega)
    refine ⟨.slice nm (cond (Nat.beq cap 0) off (off + 0 * 1)) (min ms.length 300 - 0) false (cap - 0) 0, fun h' => ?_, .inr ⟨nm, off, false, cap - 0, 0, ?_, h2, ?_⟩⟩
    · rw [show (300 : Int) = ((300 : Nat) : Int) from rfl, minN]
      unfold sliceA
      rw [ty39]
      simp only [ti39, ty4, boundsA, e1]
      rfl
    · rw [List.length_map, List.length_take, Nat.sub_zero, Nat.min_comm 300]
      cases Nat.beq cap 0 <;> simp
    · rw [List.map_take]
      exact take_rows h3
set_option maxHeartbeats 4000000 in
theorem c19 (d : Nat) (h : Hp) (v : AV) (ms : List Bool) (hv : InB h v ms) : Wv (runA ctx 5000 (d + 1) 19 [.agg [v]] h) (fun r h' => Ext h h' ∧ IsB h' r (ms.take 300)) := by
  obtain ⟨h1, hb1, x1, k1, b1⟩ := box_new h 41 (.agg [v])
  have l1 := (b1 0 v rfl).load
  have hl := len39 hv.isB
  obtain ⟨w, hw, hwb⟩ := first (hv.ext x1)
  have mn := fun h => minB ctx h [3, 3] (ms.length : Int) 300
  refine wv_run fn19 rfl ?_
  have a0 : (enterEnv [.agg [v]] Try.f19.ntmps).get 0 = some (.agg [v]) := enter_get1 _ _ _
  generalize enterEnv [.agg [v]] Try.f19.ntmps = e at a0 ⊢
  unfold Try.f19
  dsimp only
  repeat' (first
    | refine wc_seq ?_
    | (refine wc_region rfl ?_; simp only [oUn_not, beq_self_eq_true, eq_self, pv_mul, List.toList_toArray, opsA_cons, opsA_nil, wantedA, guardA, yieldA, stepA_t, stepA_f, callA, calleeA, targetA, runOp_c, runOp_n, opA, ev, evs, evo, consO, consOO, withH, pickA, afterA_s, putA, T.get_put, Nat.reduceEqDiff, reduceIte, List.getElem?_toArray, List.getElem?_cons_zero, List.getElem?_cons_succ, oBuiltin, oBin, binA, binG, binL, aggO, litA, intA, ltF_eq, eqF_eq, oIndexAddr, cond_true, cond_false, Bool.not_true, Bool.not_false, decide_true, decide_false, blt_eq, tt_beq, tf_beq, ft_beq, ff_beq, Bool.and_true, Bool.true_and, Option.some.injEq, I, Bo, addI, subI, oExtract, Bool.not_eq_true', fieldAddrA, oFieldAddr, oLoad, oStore, isAggD, aggH, oneH, skipH, Nat.add_eq_left, Nat.left_eq_add, Nat.succ_ne_self, fieldA, partA, cellsOf, List.length_cons, List.length_nil, Nat.reduceAdd, Nat.zero_add, Nat.add_zero, Nat.mul_one, Nat.reduceMul, nbeq_self, onesA_cons', onesA_nil, oneA, Value.oneCell', Nat.reduceLT, ty3, ti3, ty39, ti39, ty41, ti41, a0, hb1, l1, hl, mn, hw, oSlice]; refine ⟨_, _, rfl, ?_⟩)
    | (refine wc_cond (by simp only [oUn_not, beq_self_eq_true, eq_self, pv_mul, List.toList_toArray, opsA_cons, opsA_nil, wantedA, guardA, yieldA, stepA_t, stepA_f, callA, calleeA, targetA, runOp_c, runOp_n, opA, ev, evs, evo, consO, consOO, withH, pickA, afterA_s, putA, T.get_put, Nat.reduceEqDiff, reduceIte, List.getElem?_toArray, List.getElem?_cons_zero, List.getElem?_cons_succ, oBuiltin, oBin, binA, binG, binL, aggO, litA, intA, ltF_eq, eqF_eq, oIndexAddr, cond_true, cond_false, Bool.not_true, Bool.not_false, decide_true, decide_false, blt_eq, tt_beq, tf_beq, ft_beq, ff_beq, Bool.and_true, Bool.true_and, Option.some.injEq, I, Bo, addI, subI, oExtract, Bool.not_eq_true', fieldAddrA, oFieldAddr, oLoad, oStore, isAggD, aggH, oneH, skipH, Nat.add_eq_left, Nat.left_eq_add, Nat.succ_ne_self, fieldA, partA, cellsOf, List.length_cons, List.length_nil, Nat.reduceAdd, Nat.zero_add, Nat.add_zero, Nat.mul_one, Nat.reduceMul, nbeq_self, onesA_cons', onesA_nil, oneA, Value.oneCell', Nat.reduceLT, ty3, ti3, ty39, ti39, ty41, ti41, a0, hb1, l1, hl, mn, hw, oSlice]; rfl) ?_ ?_ <;> intro hb <;> first | (exfalso; exact Bool.noConfusion hb) | skip)
    | refine wc_block ?_
    | refine wc_skip ?_
    | refine wc_scope (by decide) ?_
    | refine wc_label ?_
    | refine wc_exit ?_
    | refine wc_ret ?_
    | refine wv_ret (by simp only [resA, resOne]; simp only [oUn_not, beq_self_eq_true, eq_self, pv_mul, List.toList_toArray, opsA_cons, opsA_nil, wantedA, guardA, yieldA, stepA_t, stepA_f, callA, calleeA, targetA, runOp_c, runOp_n, opA, ev, evs, evo, consO, consOO, withH, pickA, afterA_s, putA, T.get_put, Nat.reduceEqDiff, reduceIte, List.getElem?_toArray, List.getElem?_cons_zero, List.getElem?_cons_succ, oBuiltin, oBin, binA, binG, binL, aggO, litA, intA, ltF_eq, eqF_eq, oIndexAddr, cond_true, cond_false, Bool.not_true, Bool.not_false, decide_true, decide_false, blt_eq, tt_beq, tf_beq, ft_beq, ff_beq, Bool.and_true, Bool.true_and, Option.some.injEq, I, Bo, addI, subI, oExtract, Bool.not_eq_true', fieldAddrA, oFieldAddr, oLoad, oStore, isAggD, aggH, oneH, skipH, Nat.add_eq_left, Nat.left_eq_add, Nat.succ_ne_self, fieldA, partA, cellsOf, List.length_cons, List.length_nil, Nat.reduceAdd, Nat.zero_add, Nat.add_zero, Nat.mul_one, Nat.reduceMul, nbeq_self, onesA_cons', onesA_nil, oneA, Value.oneCell', Nat.reduceLT, ty3, ti3, ty39, ti39, ty41, ti41, a0, hb1, l1, hl, mn, hw, oSlice]; rfl) ?_)
  exact ⟨x1, hwb⟩
end Go.Proofs.Ytmcbkmmipgaeoaa
