import Derived.Test.YtpioenfglmimgaaS7
import Derived.WalkKit
import Derived.Orders
import Derived.LoopN
import Derived.Laws.CopyRow
import Derived.Laws.Tables
import Derived.Laws.Rows
import Derived.Great.BuildSlice
import Derived.Laws.MakeOwn
import Derived.Laws.Append
import Derived.Laws.AppendOwn
import Derived.Lib.Strings
import Derived.WalkSpells
import Derived.Lib.SliceRun
namespace Go.Proofs.Abs
open Go Go.RowKit
set_option linter.unusedSimpArgs false
set_option linter.unusedVariables false
/-! The evaluator is sound, part 8: one operation in its place; regions in the order of the text. -/
section
variable {P : Program} {C : Ctx} {σ : Nat → Loc} {B : Keep} {h : Hp} {w : World} {e : Env} {a : Act}

/-- what is asked of the calls -/
structure CallOk (P : Program) (call : CallF) : Prop where
  fn : ∀ f vs h r, call f vs h = some r → ∃ fn, P.funcs[f]? = some fn ∧ (fn.name == "runtime.NumGoroutine") = false ∧
    (fn.body.isNone = true → r.2 = h ∧ ∀ σ, oks σ h.c vs → r.1.ok σ h.c ∧ ∀ w, (callFunc f (concs σ vs).toArray).run P w = .ok (.value (conc σ r.1)) w)
  run : ∀ f vs h r, call f vs h = some r → (∀ fn, P.funcs[f]? = some fn → fn.body.isNone = false) → ∀ (σ : Nat → Loc) (B : Keep) (w : World), Gam σ B h w → oks σ h.c vs →
    Calls P f (concs σ vs).toArray w fun en w' => ∃ σ', (∀ n, n < h.c → σ' n = σ n) ∧ h.c ≤ r.2.c ∧ en = .returned (conc σ' r.1) ∧ Gam σ' B r.2 w' ∧ Bel B w w' ∧ r.1.ok σ' r.2.c

noncomputable def resOp (C : Ctx) (call : CallF) (e : Env) (h : Hp) (o : Oper) : Option (AV × Hp) :=
  match callA e o.op with
  | some (f, vs) => call f vs h
  | none => opA C e h o.op

/-- what an operation comes to -/
def StepTo (C : Ctx) (call : CallF) (all : List Oper) (e : Env) (h : Hp) (o : Oper) (v : AV) (h' : Hp) : Prop :=
  (wantedA all e o.guard = some false ∧ v = uv ∧ h' = h) ∨ (wantedA all e o.guard = some true ∧ resOp C call e h o = some (v, h'))

theorem opsA_cons (call : CallF) (all l : List Oper) (o : Oper) (e : Env) (h : Hp) : opsA C call all (o :: l) e h = stepA C call (opsA C call all l) o e h (wantedA all e o.guard) := rfl
theorem opsA_step {call : CallF} {all l : List Oper} {o : Oper} {r : Env × Hp} (hr : opsA C call all (o :: l) e h = some r) :
    ∃ v h', StepTo C call all e h o v h' ∧ opsA C call all l (putA e v o.dst) h' = some r := by
  rw [opsA_cons] at hr
  cases hw : wantedA all e o.guard with
  | none => rw [hw] at hr; cases hr
  | some b =>
    rw [hw] at hr
    cases b with
    | false => exact ⟨uv, h, .inl ⟨hw, rfl, rfl⟩, hr⟩
    | true =>
      change runOp C call (opsA C call all l) o e h (callA e o.op) = some r at hr
      cases hc : callA e o.op with
      | none =>
        rw [hc] at hr
        change afterA (opsA C call all l) e o.dst (opA C e h o.op) = some r at hr
        cases ho : opA C e h o.op with
        | none => rw [ho] at hr; cases hr
        | some q =>
          obtain ⟨v, h'⟩ := q
          rw [ho] at hr
          exact ⟨v, h', .inr ⟨hw, by unfold resOp; rw [hc]; exact ho⟩, hr⟩
      | some q =>
        obtain ⟨f, vs⟩ := q
        rw [hc] at hr
        change afterA (opsA C call all l) e o.dst (call f vs h) = some r at hr
        cases ho : call f vs h with
        | none => rw [ho] at hr; cases hr
        | some q =>
          obtain ⟨v, h'⟩ := q
          rw [ho] at hr
          exact ⟨v, h', .inr ⟨hw, by unfold resOp; rw [hc]; exact ho⟩, hr⟩

theorem yielded_eq {ops : Array Oper} {j d : Nat} {oj : Oper} {v : AV} (he : EnvOk σ h.c e a) (hj : ops.toList[j]? = some oj) (hd : oj.dst = some d) (hv : e.get d = some v) :
    yielded ops a.tmps j = match conc σ v with | .bool b => some b | _ => none := by
  unfold yielded
  have h1 : ops[j]? = some oj := by simpa using hj
  rw [h1]
  simp only [Option.bind_some, hd, (he d v hv).2]
  cases conc σ v <;> rfl

theorem wanted_sound {ops : Array Oper} {o : Oper} {b : Bool} (he : EnvOk σ h.c e a) (hw : wantedA ops.toList e o.guard = some b) : Region.wanted o (yielded ops a.tmps) = b := by
  unfold Region.wanted
  cases hg : o.guard with
  | none => rw [hg] at hw; cases hw; rfl
  | some q =>
    obtain ⟨j, want⟩ := q
    rw [hg] at hw
    change guardA e want ops.toList[j]? = some b at hw
    cases hj : ops.toList[j]? with
    | none => rw [hj] at hw; cases hw
    | some oj =>
      rw [hj] at hw
      unfold guardA at hw
      dsimp only at hw
      cases hd : oj.dst with
      | none => rw [hd] at hw; cases hw
      | some d =>
        rw [hd] at hw
        dsimp only at hw
        cases hv : e.get d with
        | none => rw [hv] at hw; cases hw
        | some v =>
          rw [hv] at hw
          have hy := yielded_eq he hj hd hv
          dsimp only
          rw [hy]
          unfold yieldA at hw
          split at hw
          · rename_i q heq
            cases heq
            cases hw
            simp only [conc]
            cases q <;> cases want <;> rfl
          · rename_i q heq
            cases heq
            cases hw
            simp only [conc]
            rfl
          · cases hw

theorem call_sound (he : EnvOk σ h.c e a) {op : Op} {f : FuncId} {vs : List AV} (hc : callA e op = some (f, vs)) {o : Oper} (ho : o.op = op) : (execOp a.eval o).run P w = (callFunc f (concs σ vs).toArray).run P w ∧ oks σ h.c vs := by
  unfold callA at hc
  split at hc
  · rename_i c
    obtain ⟨callee, args, ts⟩ := c
    unfold calleeA at hc
    split at hc
    · rename_i x hx
      dsimp only at hx
      subst hx
      unfold targetA at hc
      split at hc
      · rename_i g us h1 h2
        cases hc
        obtain ⟨k1, k2⟩ := evs_sound he h2
        have hargs : args.map a.eval = (concs σ vs).toArray := by apply Array.ext'; simpa using k2
        refine ⟨?_, k1⟩
        unfold execOp
        rw [ho]
        have hx := (ev_sound he h1).2
        simp only [conc] at hx
        simp [resolve, hx, Deferred.ofValue, invoke, hargs]
      · rename_i g cs us h1 h2
        cases hc
        obtain ⟨k1, k2⟩ := evs_sound he h2
        have hargs : args.map a.eval = (concs σ us).toArray := by apply Array.ext'; simpa using k2
        obtain ⟨l1, hx⟩ := ev_sound he h1
        simp only [AV.ok] at l1
        refine ⟨?_, (oks_iff _ _ _).2 fun v hv => ?_⟩
        · unfold execOp
          rw [ho]
          simp only [conc] at hx
          simp [resolve, hx, Deferred.ofValue, invoke, hargs, concs_append]
        · rcases List.mem_append.1 hv with hv | hv
          · exact (oks_iff _ _ _).1 k1 v hv
          · exact (oks_iff _ _ _).1 l1 v hv
      · cases hc
    · cases hc
  · cases hc

theorem step_sound (g : Gam σ B h w) (hT : TysOk P C) {call : CallF} (hcall : CallOk P call) (he : EnvOk σ h.c e a) {ops : Array Oper} {i : Nat} {o : Oper} (hi : ops[i]? = some o) {v : AV} {h' : Hp}
    (hs : StepTo C call ops.toList e h o v h') {Q : Exit → Act → World → Prop} {K : Act → World → Prop}
    (hK : ∀ σ' w', (∀ n, n < h.c → σ' n = σ n) → h.c ≤ h'.c → Gam σ' B h' w' → Bel B w w' → v.ok σ' h'.c → K (a.put o.dst (conc σ' v)) w') : wpOp P ops Q i K a w := by
  unfold wpOp
  rw [hi]
  dsimp only
  rcases hs with ⟨hw, rfl, rfl⟩ | ⟨hw, hr⟩
  · rw [wanted_sound he hw]
    simp only [Bool.false_eq_true, if_false]
    have := hK σ w (fun _ _ => rfl) (Nat.le_refl _) g (Bel.refl _ _) (lit_ok _ _ _)
    simpa [uv, conc, undef] using this
  · rw [wanted_sound he hw, if_pos rfl]
    refine .inl ?_
    unfold resOp at hr
    cases hc : callA e o.op with
    | some q =>
      obtain ⟨f, vs⟩ := q
      rw [hc] at hr
      dsimp only at hr
      obtain ⟨fn, hf, hn, hx⟩ := hcall.fn f vs h _ hr
      obtain ⟨hrun, hvs⟩ := call_sound (P := P) (w := w) he hc rfl
      unfold Oper.wp
      rw [hrun]
      cases hb : fn.body.isNone with
      | true =>
        obtain ⟨h1, h2⟩ := hx hb
        obtain ⟨h3, h4⟩ := h2 σ hvs
        rw [h4 w]
        dsimp only at h1
        subst h1
        exact hK σ w (fun _ _ => rfl) (Nat.le_refl _) g (Bel.refl _ _) h3
      | false =>
      have hn' : ¬ fn.name = "runtime.NumGoroutine" := by simpa using hn
      have hb' : ¬ fn.body = none := fun h => by rw [h] at hb; cases hb
      have henter : (callFunc f (concs σ vs).toArray).run P w = .ok (.enter f (concs σ vs).toArray) w := by simp [callFunc, hf, hb', hn']
      rw [henter]
      refine (hcall.run f vs h _ hr (fun fn2 h2 => by rw [hf] at h2; cases h2; exact hb) σ B w g hvs).mono fun en w' hen => ?_
      obtain ⟨σ', h1, h2, rfl, h4, h5, h6⟩ := hen
      exact hK σ' w' h1 h2 h4 h5 h6
    | none =>
      rw [hc] at hr
      dsimp only at hr
      obtain ⟨σ', w', h1, h2, h3, h4, h5, h6⟩ := op_sound (P := P) g hT he hr
      unfold Oper.wp
      rcases h3 with h3 | ⟨h3, h7⟩
      · rw [h3]; exact hK σ' w' h1 h2 h4 h5 h6
      · rw [h3]
        have := hK σ' w' h1 h2 h4 h5 h6
        dsimp only at h7
        rw [h7] at this
        simpa [uv, conc, undef, Oper.upon] using this

theorem put_env {σ' : Nat → Loc} {c' : Nat} {v : AV} (he : EnvOk σ h.c e a) (hext : ∀ n, n < h.c → σ' n = σ n) (hc : h.c ≤ c') (hv : v.ok σ' c') {dst : Option Tmp} (hd : ∀ d, dst = some d → d < a.tmps.size) :
    EnvOk σ' c' (putA e v dst) (a.put dst (conc σ' v)) := by
  intro t u hu
  cases dst with
  | none =>
    obtain ⟨h1, h2⟩ := he t u hu
    exact ⟨ok_mono hc hext u h1, by rw [conc_agree hext u h1]; exact h2⟩
  | some d =>
    change (e.put d (some v)).get t = some u at hu
    rw [T.get_put] at hu
    by_cases e1 : t = d
    · rw [if_pos e1] at hu
      cases hu
      subst e1
      exact ⟨hv, by simp [Act.put, hd t rfl]⟩
    · rw [if_neg e1] at hu
      obtain ⟨h1, h2⟩ := he t u hu
      refine ⟨ok_mono hc hext u h1, ?_⟩
      rw [conc_agree hext u h1]
      simp only [Act.put]
      rw [Array.getElem?_setIfInBounds_ne (fun h => e1 h.symm)]
      exact h2
theorem put_size (a : Act) (dst : Option Tmp) (v : Value) : (a.put dst v).tmps.size = a.tmps.size := by cases dst <;> simp [Act.put]
theorem put_defers (a : Act) (dst : Option Tmp) (v : Value) : (a.put dst v).defers = a.defers := by cases dst <;> rfl

theorem dstsOk_spec {n : Nat} : ∀ {l : List Oper}, dstsOk n l = true → ∀ o ∈ l, ∀ d, o.dst = some d → d < n := by
  intro l
  induction l with
  | nil => intro _ o ho; cases ho
  | cons x l ih =>
    intro hl o ho d hd
    simp only [dstsOk, Bool.and_eq_true] at hl
    rcases List.mem_cons.1 ho with rfl | ho
    · have h1 := hl.1
      rw [hd] at h1
      exact Nat.le_of_ble_eq_true h1
    · exact ih hl.2 o ho d hd

/-- what a stretch of text that has run leaves -/
def After (P : Program) (σ : Nat → Loc) (B : Keep) (h : Hp) (a : Act) (w : World) (e' : Env) (h' : Hp) (a' : Act) (w' : World) : Prop :=
  ∃ σ', (∀ n, n < h.c → σ' n = σ n) ∧ h.c ≤ h'.c ∧ Gam σ' B h' w' ∧ EnvOk σ' h'.c e' a' ∧ a'.tmps.size = a.tmps.size ∧ a'.defers = a.defers ∧ Bel B w w' ∧ P.funcs.size = P.funcs.size

theorem After.trans {a1 : Act} {w1 : World} {h1 : Hp} {e2 : Env} {h2 : Hp} {a2 : Act} {w2 : World} {σ1 : Nat → Loc}
    (hx : ∀ n, n < h.c → σ1 n = σ n) (hc : h.c ≤ h1.c) (hs : a1.tmps.size = a.tmps.size) (hd : a1.defers = a.defers) (hb : Bel B w w1) (k : After P σ1 B h1 a1 w1 e2 h2 a2 w2) : After P σ B h a w e2 h2 a2 w2 := by
  obtain ⟨σ', k1, k2, k3, k4, k5, k6, k7, k8⟩ := k
  exact ⟨σ', fun n hn => (k1 n (by omega)).trans (hx n hn), by omega, k3, k4, k5.trans hs, k6.trans hd, hb.trans k7, k8⟩

theorem ops_sound (hT : TysOk P C) {call : CallF} (hcall : CallOk P call) {ops : Array Oper} {n : Nat} (hd : dstsOk n ops.toList = true) : ∀ (l : List Oper) (k : Nat), ops.toList.drop k = l →
    ∀ (e : Env) (h : Hp) (a : Act) (w : World) (σ : Nat → Loc) (e' : Env) (h' : Hp) (Q : Exit → Act → World → Prop), opsA C call ops.toList l e h = some (e', h') → Gam σ B h w → EnvOk σ h.c e a → n ≤ a.tmps.size →
      (∀ a' w', After P σ B h a w e' h' a' w' → Q .normal a' w') → wpOps P ops Q (List.range' k l.length) a w := by
  intro l
  induction l with
  | nil =>
    intro k _ e h a w σ e' h' Q hr g he _ hQ
    cases hr
    exact hQ a w ⟨σ, fun _ _ => rfl, Nat.le_refl _, g, he, rfl, rfl, Bel.refl _ _, rfl⟩
  | cons o l ih =>
    intro k hk e h a w σ e' h' Q hr g he hn hQ
    obtain ⟨v, h1, hs, hr⟩ := opsA_step hr
    have hk' : ops.toList.drop (k + 1) = l := by rw [← List.drop_drop, hk]; rfl
    have hi : ops[k]? = some o := by
      have : (ops.toList.drop k)[0]? = some o := by rw [hk]; rfl
      rw [List.getElem?_drop] at this
      simpa using this
    have hmem : o ∈ ops.toList := List.mem_of_getElem? (by simpa using hi : ops.toList[k]? = some o)
    have hdst := dstsOk_spec hd o hmem
    rw [List.length_cons, List.range'_succ, wpOps_cons]
    refine step_sound g hT hcall he hi hs fun σ' w' x1 x2 x3 x4 x5 => ?_
    refine ih (k + 1) hk' _ _ _ _ σ' e' h' Q hr x3 (put_env he x1 x2 x5 (fun d hd => Nat.lt_of_lt_of_le (hdst d hd) hn)) (by rw [put_size]; exact hn) fun a2 w2 hA => hQ a2 w2 ?_
    exact After.trans x1 x2 (put_size _ _ _) (put_defers _ _ _) x4 hA
end
end Go.Proofs.Abs
