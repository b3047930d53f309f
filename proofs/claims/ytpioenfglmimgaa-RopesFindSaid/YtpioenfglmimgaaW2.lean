import Derived.Test.YtpioenfglmimgaaW1
namespace Go.Proofs.Abs
open Go Go.RowKit
set_option linter.unusedSimpArgs false
set_option linter.unusedVariables false
/-! Functions that are known already; calls with memory that came in. -/
section
variable {P : Program}
/-- some functions without arguments are known to return true -/
noncomputable def plus (L : Nat → Bool) (call : CallF) : CallF := fun f args h => cond (L f && args.isEmpty) (some (.lit (.bool true), h)) (call f args h)
theorem plus_lit {L : Nat → Bool} {call : CallF} {f : Nat} {h : Hp} (hf : L f = true) : plus L call f [] h = some (.lit (.bool true), h) := by
  unfold plus
  rw [hf]
  rfl
theorem plus_not {L : Nat → Bool} {call : CallF} {f : Nat} {args : List AV} {h : Hp} (hf : L f = false) : plus L call f args h = call f args h := by
  unfold plus
  rw [hf]
  rfl
theorem plus_ok {L : Nat → Bool} {call : CallF} (hL : ∀ f, L f = true → (∃ fn, P.funcs[f]? = some fn ∧ fn.body.isNone = false ∧ (fn.name == "runtime.NumGoroutine") = false) ∧
    ∀ w, Calls P f #[] w fun en w' => en = .returned (.bool true) ∧ Below w.heap.size w w') (hc : CallOk P call) : CallOk P (plus L call) := by
  refine ⟨fun f vs h r hr => ?_, fun f vs h r hr hbody σ B w g hvs => ?_⟩
  · cases hl : L f with
    | true =>
      obtain ⟨fn, h1, h2, h3⟩ := (hL f hl).1
      exact ⟨fn, h1, h3, fun hb => by rw [h2] at hb; cases hb⟩
    | false => rw [plus_not hl] at hr; exact hc.fn f vs h r hr
  · cases hl : L f with
    | false => rw [plus_not hl] at hr; exact hc.run f vs h r hr hbody σ B w g hvs
    | true =>
      unfold plus at hr
      rw [hl] at hr
      cases vs with
      | cons v vs => exact hc.run f _ h r hr hbody σ B w g hvs
      | nil =>
        cases hr
        refine ((hL f hl).2 w).mono fun en w' hen => ?_
        obtain ⟨rfl, hb⟩ := hen
        refine ⟨σ, fun _ _ => rfl, Nat.le_refl _, rfl, ⟨fun k hk => Nat.lt_of_lt_of_le (g.base k hk) hb.size, ?_, g.sep, ?_⟩, Bel.of hb g.base, trivial⟩
        · intro n b hn
          obtain ⟨h1, h2, h9, cs, h3, h4⟩ := g.blk n b hn
          refine ⟨h1, h2, h9, cs, ?_, h4⟩
          rw [hb.block _ (Array.getElem?_eq_some_iff.1 h3).1]
          exact h3
        · intro n off v hv
          obtain ⟨h1, h2, h3, h9, h4, h5⟩ := g.ro n off v hv
          exact ⟨h1, h2, h3, h9, h4, by rw [hb.cell (p := ⟨(σ n).b, (σ n).o + off, none⟩) (g.base _ (B.sub _ h4))]; exact h5⟩

/-- memory that came in as abstract memory: block 0 is the row from a on -/
theorem gam_in {w : World} {b o : Nat} {ro : Nat → Option AV} (hb : b < w.heap.size) (hr : ∀ off v, ro off = some v → ∃ u, v = .lit u ∧ w.cell? ⟨b, o + off, none⟩ = some u) :
    Gam (fun _ => ⟨b, o, 0, none⟩) (below w.heap.size) ⟨.leaf, 1, fun n off => if n = 0 then ro off else none⟩ w := by
  refine ⟨fun _ h => h, fun n b hn => (by cases hn), fun n m bn bm hn => (by cases hn), fun n off v hv => ?_⟩
  simp only at hv
  split at hv
  · rename_i h0
    subst h0
    obtain ⟨u, rfl, hu⟩ := hr off v hv
    exact ⟨Nat.zero_lt_one, rfl, trivial, rfl, hb, by simpa [conc] using hu⟩
  · cases hv
theorem gam_none (w : World) : Gam (fun _ => ⟨0, 0, 0, none⟩) (below w.heap.size) ⟨.leaf, 0, fun _ _ => none⟩ w :=
  ⟨fun _ h => h, fun n b hn => (by cases hn), fun n m bn bm hn => (by cases hn), fun n off v hv => (by cases hv)⟩

/-- A CALL THAT COMES OUT TRUE -/
theorem true_calls {call : CallF} (hc : CallOk P call) {f : FuncId} {args : List AV} {h : Hp} {σ : Nat → Loc} {B : Nat} {w : World} (g : Gam σ (below B) h w) (ha : oks σ h.c args) (hbody : ∀ fn, P.funcs[f]? = some fn → fn.body.isNone = false)
    (hr : Wv (call f args h) fun v _ => v = .lit (.bool true)) : Calls P f (concs σ args).toArray w fun en w' => en = .returned (.bool true) ∧ Below B w w' := by
  obtain ⟨v, h', hr, rfl⟩ := hr
  refine (hc.run f args h _ hr hbody σ (below B) w g ha).mono fun en w' hen => ?_
  obtain ⟨σ', k1, k2, k3, k4, k5, k6⟩ := hen
  exact ⟨by rw [k3]; simp [conc], k5.to (Nat.le_of_not_lt fun h => Nat.lt_irrefl _ (g.base _ h))⟩
/-- one more function in front of the others -/
theorem wv_fun {C : Ctx} {call : CallF} {N : Nat} {f : FuncId} {fn : Func} {c : Code} {args : List AV} {h : Hp} {Q : AV → Hp → Prop} (hf : C.funs.get f = some fn) (hb : fn.body = some c)
    (h1 : Wc (codeA C call N N c (enterEnv args fn.ntmps) h) fun x e h => Wv (returnA C fn.results.toList (some (x, e, h))) Q) : Wv (funA C call N args h (C.funs.get f)) Q := by
  obtain ⟨x, e', h', hr, v, h2, hv, hq⟩ := h1
  refine ⟨v, h2, ?_, hq⟩
  rw [hf]
  show bodyA C call N args h fn fn.body = _
  rw [hb]
  show returnA C fn.results.toList (codeA C call N N c (enterEnv args fn.ntmps) h) = _
  rw [hr]
  exact hv
end
end Go.Proofs.Abs
