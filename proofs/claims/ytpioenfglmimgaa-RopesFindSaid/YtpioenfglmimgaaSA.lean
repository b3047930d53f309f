import Derived.Test.YtpioenfglmimgaaS10
import Derived.WalkKit
import Derived.Orders
import Derived.LoopN
import Derived.Laws.CopyRow
import Derived.Laws.Tables
import Derived.Laws.Rows
import Derived.Great.BuildSlice
import Derived.Laws.MakeOwn
import Derived.Laws.Append
import Derived.Laws.AppendOwn
import Derived.Lib.Strings
import Derived.WalkSpells
import Derived.Lib.SliceRun
namespace Go.Proofs.Abs
open Go Go.RowKit
set_option linter.unusedSimpArgs false
set_option linter.unusedVariables false
/-! The evaluator is sound, part 10a: memory that is made in whatever order. -/
section
variable {P : Program} {C : Ctx} {B : Keep}

theorem Gam.agree {σ τ : Nat → Loc} {h : Hp} {w : World} (g : Gam σ B h w) (ha : ∀ n, n < h.c → τ n = σ n) : Gam τ B h w := by
  refine ⟨g.base, ?_, ?_, ?_⟩
  · intro n b hn
    obtain ⟨h1, h2, h9, cs, h3, h4, h5⟩ := g.blk n b hn
    rw [ha n h1]
    refine ⟨h1, h2, h9, cs, h3, fun i v hv => ?_, h5⟩
    obtain ⟨k1, k2, k3⟩ := h4 i v hv
    exact ⟨ok_mono (Nat.le_refl _) ha v k1, by rw [conc_agree ha v k1]; exact k2, k3⟩
  · intro n m bn bm hn hm hne
    rw [ha n (g.blk n bn hn).1, ha m (g.blk m bm hm).1]
    exact g.sep n m bn bm hn hm hne
  · intro n off v hv
    obtain ⟨h1, h2, h3, h4, h5⟩ := g.ro n off v hv
    rw [ha n h1]
    exact ⟨h1, h2, ok_mono (Nat.le_refl _) ha v h3, h4, by rw [conc_agree ha v h3]; exact h5⟩
theorem Gam.congr {σ : Nat → Loc} {h h' : Hp} {w : World} (g : Gam σ B h w) (hm : ∀ n, h'.m.get n = h.m.get n) (hc : h.c ≤ h'.c) (hr : h'.ro = h.ro) : Gam σ B h' w := by
  refine ⟨g.base, ?_, ?_, ?_⟩
  · intro n b hn
    rw [hm] at hn
    obtain ⟨h1, h2, h9, cs, h3, h4, h5⟩ := g.blk n b hn
    refine ⟨Nat.lt_of_lt_of_le h1 hc, h2, h9, cs, h3, fun i v hv => ?_, h5⟩
    obtain ⟨k1, k2, k3⟩ := h4 i v hv
    exact ⟨ok_mono hc (fun _ _ => rfl) v k1, k2, k3⟩
  · intro n m bn bm hn hm' hne
    rw [hm] at hn hm'
    exact g.sep n m bn bm hn hm' hne
  · intro n off v hv
    rw [hr] at hv
    obtain ⟨h1, h2, h3, h4, h5⟩ := g.ro n off v hv
    exact ⟨Nat.lt_of_lt_of_le h1 hc, by rw [hm]; exact h2, ok_mono hc (fun _ _ => rfl) v h3, h4, h5⟩
theorem EnvOk.agree {σ τ : Nat → Loc} {c c' : Nat} {e : Env} {a : Act} (he : EnvOk σ c e a) (hc : c ≤ c') (ha : ∀ n, n < c → τ n = σ n) : EnvOk τ c' e a := fun t v hv => by
  obtain ⟨h1, h2⟩ := he t v hv
  exact ⟨ok_mono hc ha v h1, by rw [conc_agree ha v h1]; exact h2⟩

/-- an operation that calls nothing and changes nothing, for all ways of reading the names at once -/
theorem step_all (hT : TysOk P C) {call : CallF} {ops : Array Oper} {i : Nat} {o : Oper} (hi : ops[i]? = some o) {e : Env} {a : Act} {h : Hp} {w : World} {v : AV} (hk : callA e o.op = none) (hs : StepTo C call ops.toList e h o v h)
    {G : (Nat → Loc) → Prop} (hG : ∀ τ, G τ → Gam τ B h w ∧ EnvOk τ h.c e a) {τ0 : Nat → Loc} (h0 : G τ0) :
    ∃ x w2, Bel B w w2 ∧ (∀ τ, G τ → conc τ v = x ∧ v.ok τ h.c ∧ Gam τ B h w2) ∧ ∀ {Q : Exit → Act → World → Prop} {K : Act → World → Prop}, K (a.put o.dst x) w2 → wpOp P ops Q i K a w := by
  rcases hs with ⟨hw, rfl, _⟩ | ⟨hw, hr⟩
  · refine ⟨conc τ0 uv, w, Bel.refl _ _, fun τ hτ => ⟨by simp [uv, conc], lit_ok _ _ _, (hG τ hτ).1⟩, fun {Q K} hK => ?_⟩
    unfold wpOp
    rw [hi]
    dsimp only
    rw [wanted_sound (hG τ0 h0).2 hw]
    simp only [Bool.false_eq_true, if_false]
    simpa [uv, conc, undef] using hK
  · unfold resOp at hr
    rw [hk] at hr
    dsimp only at hr
    obtain ⟨σ', w', a1, a2, a3, a4, a5, a6⟩ := op_sound (P := P) (hG τ0 h0).1 hT (hG τ0 h0).2 hr
    refine ⟨conc σ' v, w', a5, fun τ hτ => ?_, fun {Q K} hK => ?_⟩
    · obtain ⟨σ2, w2, b1, b2, b3, b4, b5, b6⟩ := op_sound (P := P) (hG τ hτ).1 hT (hG τ hτ).2 hr
      have hok : v.ok τ h.c := ok_mono (Nat.le_refl _) (fun n hn => (b1 n hn).symm) v b6
      have hcv : conc σ2 v = conc τ v := conc_agree b1 v hok
      have hgm : Gam τ B h w2 := b4.agree fun n hn => (b1 n hn).symm
      rcases a3 with a3 | ⟨a3, a7⟩ <;> rcases b3 with b3 | ⟨b3, b7⟩ <;> rw [a3] at b3
      · simp only [Result.ok.injEq, Next.value.injEq] at b3
        obtain ⟨e1, e2⟩ := b3
        subst e2
        exact ⟨by rw [← hcv]; exact e1.symm, hok, hgm⟩
      · cases b3
      · cases b3
      · cases b3
        refine ⟨?_, hok, hgm⟩
        dsimp only at a7
        subst a7
        simp [uv, conc]
    · unfold wpOp
      rw [hi]
      dsimp only
      rw [wanted_sound (hG τ0 h0).2 hw, if_pos rfl]
      refine .inl ?_
      unfold Oper.wp
      rcases a3 with a3 | ⟨a3, a7⟩
      · rw [a3]; exact hK
      · rw [a3]
        dsimp only at a7
        rw [a7] at hK
        simpa [uv, conc, undef, Oper.upon] using hK

/-- what stands for memory that is made -/
def isShape (F : Nat → AV) : Prop := (∀ n, F n = .ptr n 0) ∨ ∃ l c, ∀ n, F n = .slice n 0 l false c 0
theorem isShape.ok {F : Nat → AV} (hF : isShape F) {τ : Nat → Loc} {n c : Nat} (h : n < c) : (F n).ok τ c := by
  rcases hF with hF | ⟨l, k, hF⟩
  · rw [hF]; exact h
  · rw [hF]; exact ⟨h, fun h => by cases h⟩
theorem isShape.conc {F : Nat → AV} (hF : isShape F) {τ σ : Nat → Loc} {n m : Nat} (hb : (τ n).b = (σ m).b) (ho : (τ n).o = (σ m).o) (hs : (τ n).s = (σ m).s) : conc τ (F n) = conc σ (F m) := by
  rcases hF with hF | ⟨l, k, hF⟩
  · rw [hF, hF]; simp [Abs.conc, hb, ho, spt_zero, hs]
  · rw [hF, hF]; simp [Abs.conc, hb, ho, spt_zero, hs]
theorem isShape.inj {F : Nat → AV} (hF : isShape F) {τ σ : Nat → Loc} {n m : Nat} (h : Abs.conc τ (F n) = Abs.conc σ (F m)) : (τ n).b = (σ m).b ∧ (τ n).o = (σ m).o ∧ (τ n).s = (σ m).s := by
  rcases hF with hF | ⟨l, k, hF⟩
  · rw [hF, hF] at h; simpa [Abs.conc, spt_zero, and_assoc] using h
  · rw [hF, hF] at h; simpa [Abs.conc, spt_zero, and_assoc] using h
theorem alloc_spec (hT : TysOk P C) {op : Op} (hk : kindA op = 3) {e : Env} {h : Hp} {r : AV × Hp} (hr : opA C e h op = some r) : callA e op = none ∧ ∃ cs t F, isShape F ∧ r = (F h.c, newBlk h cs t 0) ∧ (∀ h2, opA C e h2 op = some (F h2.c, newBlk h2 cs t 0)) ∧
    ∀ (τ : Nat → Loc) (c : Nat) (a : Act), EnvOk τ c e a → oks τ c cs := by
  cases op <;> try (cases hk; done)
  case alloc t =>
    refine ⟨rfl, ?_⟩
    change allocA h t (C.tys.get t) = some r at hr
    cases ht : C.tys.get t with
    | none => rw [ht] at hr; cases hr
    | some ti =>
      rw [ht] at hr
      obtain ⟨h1, h2⟩ := cond_none hr
      cases h2
      refine ⟨cellsOf (.lit ti.zero), t, fun n => .ptr n 0, .inl fun _ => rfl, rfl, fun h2 => ?_, fun τ c a he => cellsOf_ok (lit_ok _ _ _)⟩
      show allocA h2 t (C.tys.get t) = _
      rw [ht]
      show cond (Nat.blt 0 ti.size) _ none = _
      rw [h1]
      rfl
  case box t x =>
    refine ⟨rfl, ?_⟩
    change boxA h t (ev e x) = some r at hr
    cases hx : ev e x with
    | none => rw [hx] at hr; cases hr
    | some v =>
      rw [hx] at hr
      cases hr
      refine ⟨cellsOf v, t, fun n => .ptr n 0, .inl fun _ => rfl, rfl, fun h2 => ?_, fun τ c a he => cellsOf_ok (ev_sound (h := ⟨.leaf, c, fun _ _ => none⟩) he hx).1⟩
      show boxA h2 t (ev e x) = _
      rw [hx]
      rfl
  case buildSlice t n ps =>
    refine ⟨rfl, ?_⟩
    change oBuildSlice C h t n (evParts e ps.toList) = some r at hr
    cases hx : evParts e ps.toList with
    | none => rw [hx] at hr; cases hr
    | some vs =>
      rw [hx] at hr
      change buildSliceA C h t n vs = some r at hr
      unfold buildSliceA at hr
      cases ht : C.tys.get t with
      | none => rw [ht] at hr; cases hr
      | some ti =>
        rw [ht] at hr
        dsimp only at hr
        split at hr
        · rename_i el hd
          cases he : C.tys.get el with
          | none => rw [he] at hr; cases hr
          | some te =>
            rw [he] at hr
            dsimp only at hr
            obtain ⟨h1, hr⟩ := cond_none hr
            cases hf : fillA (fun i => some (i * te.size, te.size)) (n * te.size) (repl (cellsOf (.lit te.zero)) n) vs with
            | none => rw [hf] at hr; cases hr
            | some cs =>
              rw [hf] at hr
              cases hr
              refine ⟨cs, el, fun m => .slice m 0 n false n 0, .inr ⟨n, n, fun _ => rfl⟩, rfl, fun h2 => ?_, fun τ c a hea => ?_⟩
              · show oBuildSlice C h2 t n (evParts e ps.toList) = _
                rw [hx]
                show buildSliceA C h2 t n vs = _
                unfold buildSliceA
                rw [ht]
                dsimp only
                rw [hd]
                dsimp only
                rw [he]
                dsimp only
                rw [h1, hf]
                rfl
              · have hv := (evParts_sound (h := ⟨.leaf, c, fun _ _ => none⟩) hea hx).1
                have hzl : (cellsOf (.lit te.zero)).length = te.size := by rw [← concs_length τ, cellsOf_conc]; simp [conc, (hT _ _ he).zsz]
                exact (fillA_ok hv (by rw [repl_length, hzl]) (repl_ok (cellsOf_ok (lit_ok _ _ _)) n) hf).1
        · cases hr
  case makeSlice t l k =>
    refine ⟨rfl, ?_⟩
    change oMakeSlice C h t (ev e l) (ev e k) = some r at hr
    cases hl : ev e l with
    | none => rw [hl] at hr; cases hr
    | some vl =>
      cases hkk : ev e k with
      | none => rw [hl, hkk] at hr; cases hr
      | some vk =>
        rw [hl, hkk] at hr
        change makeSliceA C h t vl vk = some r at hr
        unfold makeSliceA at hr
        cases ht : C.tys.get t with
        | none => rw [ht] at hr; cases hr
        | some ti =>
          rw [ht] at hr
          dsimp only at hr
          split at hr
          · rename_i el hd
            cases he : C.tys.get el with
            | none => rw [he] at hr; cases hr
            | some te =>
              rw [he] at hr
              dsimp only at hr
              cases h1 : natOf? vk 1048576 with
              | none => rw [h1] at hr; cases hr
              | some c1 =>
                rw [h1] at hr
                dsimp only at hr
                cases h2 : natOf? vl c1 with
                | none => rw [h2] at hr; cases hr
                | some l1 =>
                  rw [h2] at hr
                  dsimp only at hr
                  obtain ⟨h3, hr⟩ := cond_none hr
                  cases hr
                  refine ⟨repl (cellsOf (.lit te.zero)) c1, el, fun m => .slice m 0 l1 false c1 0, .inr ⟨l1, c1, fun _ => rfl⟩, rfl, fun h4 => ?_, fun τ c a hea => repl_ok (cellsOf_ok (lit_ok _ _ _)) c1⟩
                  show oMakeSlice C h4 t (ev e l) (ev e k) = _
                  rw [hl, hkk]
                  show makeSliceA C h4 t vl vk = _
                  unfold makeSliceA
                  rw [ht]
                  dsimp only
                  rw [hd]
                  dsimp only
                  rw [he]
                  dsimp only
                  rw [h1]
                  dsimp only
                  rw [h2]
                  dsimp only
                  rw [h3]
                  rfl
          · cases hr
  case call c =>
    obtain ⟨callee, args, ts⟩ := c
    cases callee with
    | value f => cases hk
    | invoke r m => cases hk
    | builtin b => cases b <;> cases hk
end
end Go.Proofs.Abs
