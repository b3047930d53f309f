import Derived.Test.YtpioenfglmimgaaS6
import Derived.WalkKit
import Derived.Orders
import Derived.LoopN
import Derived.Laws.CopyRow
import Derived.Laws.Tables
import Derived.Laws.Rows
import Derived.Great.BuildSlice
import Derived.Laws.MakeOwn
import Derived.Laws.Append
import Derived.Laws.AppendOwn
import Derived.Lib.Strings
import Derived.WalkSpells
import Derived.Lib.SliceRun
namespace Go.Proofs.Abs
open Go Go.RowKit
set_option linter.unusedSimpArgs false
set_option linter.unusedVariables false
/-! The evaluator is sound, part 7: every operation. -/
section
variable {P : Program} {C : Ctx} {σ : Nat → Loc} {B : Keep} {h : Hp} {w : World} {t : TypeId} {ti : TI} {r : AV × Hp}

theorem copy_sound (g : Gam σ B h w) (hT : TysOk P C) {xt : TypeId} {d x : AV} (hd : d.ok σ h.c) (hx : x.ok σ h.c) (ty : TypeId) (hv : copyA C h t d x = some r) :
    Gives P σ B h w (Builtin.copy_ #[t, xt] ty #[conc σ d, conc σ x]) r := by
  unfold copyA at hv
  cases ht : C.tys.get t with
  | none => rw [ht] at hv; cases hv
  | some ti =>
    rw [ht] at hv
    have hu := (hT _ _ ht).desc
    dsimp only at hv
    split at hv
    · rename_i e hdd
      rw [hdd] at hu
      split at hv
      · rename_i te k b off len rest cap z he hk
        have hte := hT e te he
        obtain ⟨ie, hie, hsz, hb, hz⟩ := hte.info
        have hlen := lenA_sound (P := P) (σ := σ) (w := w) hk
        cases hel : elemsA h te.size (Nat.min k len) x with
        | none => rw [hel] at hv; cases hv
        | some cs =>
          rw [hel] at hv
          dsimp only at hv
          obtain ⟨hf, hlt, hl⟩ := elems_sound (P := P) g hx hel (fun k' hk' => by rw [hk] at hk'; cases hk'; exact Nat.min_le_left _ _)
          rw [beq_cond] at hv
          by_cases h0 : Nat.min k len = 0
          · rw [if_pos h0] at hv
            cases hv
            have hcs : cs = [] := List.eq_nil_of_length_eq_zero (by rw [hl, h0]; simp)
            subst hcs
            refine gives_same g ?_ (lit_ok _ _ _)
            simp only [conc]
            simp [Builtin.copy_, run_underlying hu, hlen, sizeOf, typeInfo, hie, hsz, hf, concs, storeCells, goInt]
          · rw [if_neg h0] at hv
            cases hst : store h b off cs with
            | none => rw [hst] at hv; cases hv
            | some h' =>
              rw [hst] at hv
              cases hv
              obtain ⟨hc, w', hrun, hg, hb⟩ := store_sound (P := P) g hst hlt
              refine ⟨σ, w', fun _ _ => rfl, by rw [hc]; exact Nat.le_refl _, ?_, hg, hb, lit_ok _ _ _⟩
              have hso := slice_off (h := h) hd (Nat.lt_of_lt_of_le (Nat.pos_of_ne_zero h0) (Nat.min_le_right k len))
              simp only [conc, hso, spt_none (store_spot g hst)]
              simp [Builtin.copy_, run_underlying hu, hlen, sizeOf, typeInfo, hie, hsz, hf, hrun, goInt]
      · rename_i te k he hk
        cases hv
        have hte := hT e te he
        obtain ⟨ie, hie, hsz, hb, hz⟩ := hte.info
        have hlen := lenA_sound (P := P) (σ := σ) (w := w) hk
        have hf : (Builtin.firstCells te.size 0 (conc σ x)).run P w = .ok #[] w := by
          unfold lenA at hk
          split at hk <;> first | (cases hk; done) | (simp [Builtin.firstCells, conc, loadCells, loadCellsFrom])
        refine gives_same g ?_ (lit_ok _ _ _)
        simp only [conc]
        simp [Builtin.copy_, run_underlying hu, hlen, sizeOf, typeInfo, hie, hsz, hf, goInt]
      · cases hv
    · cases hv

theorem zero_made (z : Array Value) (n : Nat) : Builtin.zeroCells z n = madeCells z (n * z.size) := rfl
theorem clear_sound (g : Gam σ B h w) (hT : TysOk P C) {x : AV} (hx : x.ok σ h.c) (ty : TypeId) (hv : clearA C h t x = some r) :
    Gives P σ B h w (Builtin.clear_ #[t] ty #[conc σ x]) r := by
  unfold clearA at hv
  cases ht : C.tys.get t with
  | none => rw [ht] at hv; cases hv
  | some ti =>
    rw [ht] at hv
    have hu := (hT _ _ ht).desc
    dsimp only at hv
    split at hv
    · rename_i e hdd
      rw [hdd] at hu
      split at hv
      · cases hv
        refine gives_same g ?_ (lit_ok _ _ _)
        simp [Builtin.clear_, run_underlying hu, conc, uv]
      · rename_i te b off len rest cap z he
        have hte := hT e te he
        have hz0 := run_zero (P := P) (w := w) hte
        rw [beq_cond] at hv
        by_cases h0 : len = 0
        · rw [if_pos h0] at hv
          cases hv
          subst h0
          refine gives_same g ?_ (lit_ok _ _ _)
          simp only [conc]
          simp [Builtin.clear_, run_underlying hu, uv, conc]
        · rw [if_neg h0] at hv
          cases hst : store h b off (repl (cellsOf (.lit te.zero)) len) with
          | none => rw [hst] at hv; cases hv
          | some h' =>
            rw [hst] at hv
            cases hv
            have hzt : oks σ h.c (repl (cellsOf (.lit te.zero)) len) := repl_ok (cellsOf_ok (by simp [AV.ok])) len
            obtain ⟨hc, w', hrun, hg, hb⟩ := store_sound (P := P) g hst hzt
            refine ⟨σ, w', fun _ _ => rfl, by rw [hc]; exact Nat.le_refl _, ?_, hg, hb, lit_ok _ _ _⟩
            have hso := slice_off (h := h) hx (Nat.pos_of_ne_zero h0)
            have hm : (Builtin.zeroCells te.zero.cells len).toList = concs σ (repl (cellsOf (.lit te.zero)) len) := by
              rw [zero_made, ← repl_made σ]
            simp only [conc, hso, spt_none (store_spot g hst)]
            obtain ⟨n, rfl⟩ := Nat.exists_eq_succ_of_ne_zero h0
            simp [Builtin.clear_, run_underlying hu, hz0, hm, hrun, uv, conc]
      · cases hv
    · cases hv

def GivesN (P : Program) (σ : Nat → Loc) (B : Keep) (h : Hp) (w : World) (s : Sem Next) (r : AV × Hp) : Prop :=
  ∃ σ' w', (∀ n, n < h.c → σ' n = σ n) ∧ h.c ≤ r.2.c ∧ (s.run P w = .ok (.value (conc σ' r.1)) w' ∨ (s.run P w = .ok .skip w' ∧ r.1 = uv)) ∧ Gam σ' B r.2 w' ∧ Bel B w w' ∧ r.1.ok σ' r.2.c

theorem gives_value {s : Sem Value} (hg : Gives P σ B h w s r) : GivesN P σ B h w (do pure (.value (← s))) r := by
  obtain ⟨σ', w', h1, h2, h3, h4⟩ := hg
  exact ⟨σ', w', h1, h2, .inl (by simp [h3]), h4⟩

theorem builtin_sound (g : Gam σ B h w) (hT : TysOk P C) {b : Builtin} {ts : List TypeId} {vs : List AV} (hvs : oks σ h.c vs) (ty : TypeId) (consts : Array Bool) (hv : builtinA C h b ts vs = some r) :
    GivesN P σ B h w (builtin b ts.toArray ty consts (concs σ vs).toArray) r := by
  unfold builtinA at hv
  split at hv
  · simp only [oks] at hvs
    exact gives_value (append_sound g hT hvs.1 hvs.2.1 ty hv)
  · simp only [oks] at hvs
    exact gives_value (copy_sound g hT hvs.1 hvs.2.1 ty hv)
  · simp only [oks] at hvs
    exact gives_value (clear_sound g hT hvs.1 ty hv)
  · rename_i t x
    cases ht : C.tys.get t with
    | none => rw [ht] at hv; cases hv
    | some ti =>
      rw [ht] at hv
      have hu := (hT _ _ ht).desc
      dsimp only at hv
      split at hv <;> first
        | (cases hv; done)
        | (rename_i hd; rw [hd] at hu; cases hv; refine gives_value (s := Builtin.len_ _ ty _) (gives_same g ?_ (lit_ok _ _ _)); simp [Builtin.len_, run_underlying hu, conc, concs, goInt])
  · rename_i t x
    cases ht : C.tys.get t with
    | none => rw [ht] at hv; cases hv
    | some ti =>
      rw [ht] at hv
      have hu := (hT _ _ ht).desc
      dsimp only at hv
      split at hv <;> first
        | (cases hv; done)
        | (rename_i hd; rw [hd] at hu; cases hv; refine gives_value (s := Builtin.cap_ _ ty _) (gives_same g ?_ (lit_ok _ _ _)); simp [Builtin.cap_, run_underlying hu, conc, concs, goInt])
  · rename_i a b
    cases hp : pureV (Builtin.min_ #[] 0 #[a, b]) with
    | none => rw [hp] at hv; cases hv
    | some v =>
      rw [hp] at hv
      cases hv
      obtain ⟨x, rfl, hx⟩ := pureV_some hp
      exact gives_value (s := Builtin.min_ _ ty _) (gives_same g (hx w) (lit_ok _ _ _))
  · rename_i a b
    cases hp : pureV (Builtin.max_ #[] 0 #[a, b]) with
    | none => rw [hp] at hv; cases hv
    | some v =>
      rw [hp] at hv
      cases hv
      obtain ⟨x, rfl, hx⟩ := pureV_some hp
      exact gives_value (s := Builtin.max_ _ ty _) (gives_same g (hx w) (lit_ok _ _ _))
  · rename_i a
    cases hp : pureV (Builtin.real_ #[] 0 #[a]) with
    | none => rw [hp] at hv; cases hv
    | some v =>
      rw [hp] at hv
      cases hv
      obtain ⟨x, rfl, hx⟩ := pureV_some hp
      exact gives_value (s := Builtin.real_ _ ty _) (gives_same g (hx w) (lit_ok _ _ _))
  · rename_i a
    cases hp : pureV (Builtin.imag_ #[] 0 #[a]) with
    | none => rw [hp] at hv; cases hv
    | some v =>
      rw [hp] at hv
      cases hv
      obtain ⟨x, rfl, hx⟩ := pureV_some hp
      exact gives_value (s := Builtin.imag_ _ ty _) (gives_same g (hx w) (lit_ok _ _ _))
  · rename_i a b
    cases hp : pureV (Builtin.complex_ #[] 0 #[a, b]) with
    | none => rw [hp] at hv; cases hv
    | some v =>
      rw [hp] at hv
      cases hv
      obtain ⟨x, rfl, hx⟩ := pureV_some hp
      exact gives_value (s := Builtin.complex_ _ ty _) (gives_same g (hx w) (lit_ok _ _ _))
  · cases hv

def EnvOk (σ : Nat → Loc) (c : Nat) (e : Env) (a : Act) : Prop := ∀ t v, e.get t = some v → v.ok σ c ∧ a.tmps[t]? = some (conc σ v)

variable {e : Env} {a : Act}
theorem ev_sound (he : EnvOk σ h.c e a) {x : Operand} {v : AV} (hv : ev e x = some v) : v.ok σ h.c ∧ a.eval x = conc σ v := by
  cases x with
  | tmp t =>
    obtain ⟨h1, h2⟩ := he t v hv
    exact ⟨h1, by simp [Act.eval, h2]⟩
  | const u => cases hv; exact ⟨lit_ok _ _ _, by simp [Act.eval, conc]⟩
  | global u => cases hv
  | func f => cases hv; exact ⟨lit_ok _ _ _, by simp [Act.eval, conc]⟩
theorem evs_cons (e : Env) (x : Operand) (l : List Operand) : evs e (x :: l) = consOO (evs e l) (ev e x) := rfl
theorem evs_sound (he : EnvOk σ h.c e a) : ∀ {l : List Operand} {vs : List AV}, evs e l = some vs → oks σ h.c vs ∧ l.map a.eval = concs σ vs := by
  intro l
  induction l with
  | nil => intro vs hv; cases hv; exact ⟨by simp [oks], rfl⟩
  | cons x l ih =>
    intro vs hv
    rw [evs_cons] at hv
    obtain ⟨v, us, h1, h2, rfl⟩ := consOO_some hv
    obtain ⟨k1, k2⟩ := ev_sound he h1
    obtain ⟨l1, l2⟩ := ih h2
    exact ⟨⟨k1, l1⟩, by simp [concs, k2, l2]⟩
theorem evParts_cons (e : Env) (x : Nat × Operand) (l : List (Nat × Operand)) : evParts e (x :: l) = consP x.1 (evParts e l) (ev e x.2) := rfl
theorem evParts_sound (he : EnvOk σ h.c e a) : ∀ {l : List (Nat × Operand)} {ps : List (Nat × AV)}, evParts e l = some ps → (∀ x ∈ ps, x.2.ok σ h.c) ∧ l.map (fun x => (x.1, a.eval x.2)) = ps.map fun x => (x.1, conc σ x.2) := by
  intro l
  induction l with
  | nil => intro vs hv; cases hv; exact ⟨by simp, rfl⟩
  | cons x l ih =>
    intro ps hv
    rw [evParts_cons] at hv
    cases hx : ev e x.2 with
    | none => rw [hx] at hv; cases hv
    | some v =>
      cases hl : evParts e l with
      | none => rw [hx, hl] at hv; cases hv
      | some us =>
        rw [hx, hl] at hv
        cases hv
        obtain ⟨k1, k2⟩ := ev_sound he hx
        obtain ⟨l1, l2⟩ := ih hl
        refine ⟨fun y hy => ?_, by simp [k2, l2]⟩
        rcases List.mem_cons.1 hy with rfl | hy
        · exact k1
        · exact l1 y hy
theorem evo_sound (he : EnvOk σ h.c e a) {x : Option Operand} {v : Option AV} (hv : evo e x = some v) : x.map a.eval = v.map (conc σ) := by
  cases x with
  | none => cases hv; rfl
  | some x =>
    unfold evo at hv
    dsimp only at hv
    cases hx : ev e x with
    | none => rw [hx] at hv; cases hv
    | some u => rw [hx] at hv; cases hv; simp [(ev_sound he hx).2]

theorem op_sound (g : Gam σ B h w) (hT : TysOk P C) (he : EnvOk σ h.c e a) {o : Oper} (hv : opA C e h o.op = some r) : GivesN P σ B h w (execOp a.eval o) r := by
  unfold execOp
  cases ho : o.op <;> rw [ho] at hv <;> try (cases hv; done)
  case move x =>
    obtain ⟨v, hx, rfl⟩ := withH_some hv
    obtain ⟨h1, h2⟩ := ev_sound he hx
    exact ⟨σ, w, fun _ _ => rfl, Nat.le_refl _, .inl (by simp [h2]), g, Bel.refl _ _, h1⟩
  case assign x =>
    obtain ⟨v, hx, rfl⟩ := withH_some hv
    obtain ⟨h1, h2⟩ := ev_sound he hx
    exact ⟨σ, w, fun _ _ => rfl, Nat.le_refl _, .inl (by simp [h2]), g, Bel.refl _ _, h1⟩
  case pick c x y =>
    change pickA h (ev e x) (ev e y) (ev e c) = some r at hv
    unfold pickA at hv
    split at hv
    · rename_i hc
      obtain ⟨v, hx, rfl⟩ := withH_some hv
      obtain ⟨h1, h2⟩ := ev_sound he hx
      exact ⟨σ, w, fun _ _ => rfl, Nat.le_refl _, .inl (by simp [h2, (ev_sound he hc).2, conc, asBool]), g, Bel.refl _ _, h1⟩
    · rename_i hc
      obtain ⟨v, hx, rfl⟩ := withH_some hv
      obtain ⟨h1, h2⟩ := ev_sound he hx
      exact ⟨σ, w, fun _ _ => rfl, Nat.le_refl _, .inl (by simp [h2, (ev_sound he hc).2, conc, asBool]), g, Bel.refl _ _, h1⟩
    · cases hv
  case alloc t =>
    change allocA h t (C.tys.get t) = some r at hv
    cases ht : C.tys.get t with
    | none => rw [ht] at hv; cases hv
    | some ti => rw [ht] at hv; exact gives_value (alloc_sound g (hT t ti ht) hv)
  case box t x =>
    change boxA h t (ev e x) = some r at hv
    cases hx : ev e x with
    | none => rw [hx] at hv; cases hv
    | some v =>
      rw [hx] at hv
      obtain ⟨h1, h2⟩ := ev_sound he hx
      dsimp only
      rw [h2]
      exact gives_value (box_sound g h1 hv)
  case build t ps =>
    change oBuild C h t (evParts e ps.toList) = some r at hv
    cases hx : evParts e ps.toList with
    | none => rw [hx] at hv; cases hv
    | some qs =>
      rw [hx] at hv
      obtain ⟨v, hb, rfl⟩ := withH_some hv
      obtain ⟨h1, h2⟩ := evParts_sound he hx
      exact gives_value (build_sound g hT h1 hb _ (by simpa using h2))
  case buildSlice t n ps =>
    change oBuildSlice C h t n (evParts e ps.toList) = some r at hv
    cases hx : evParts e ps.toList with
    | none => rw [hx] at hv; cases hv
    | some qs =>
      rw [hx] at hv
      obtain ⟨h1, h2⟩ := evParts_sound he hx
      exact gives_value (buildSlice_sound g hT h1 hv _ (by simpa using h2))
  case load t x =>
    change oLoad h (C.tys.get t) (ev e x) = some r at hv
    cases ht : C.tys.get t with
    | none => rw [ht] at hv; cases hv
    | some ti =>
      cases hx : ev e x with
      | none => rw [ht, hx] at hv; cases hv
      | some v =>
        rw [ht, hx] at hv
        obtain ⟨h1, h2⟩ := ev_sound he hx
        dsimp only
        rw [h2]
        exact gives_value (loadOp_sound g (hT t ti ht) hv)
  case store t x y =>
    change oStore h (C.tys.get t) (ev e x) (ev e y) = some r at hv
    cases ht : C.tys.get t with
    | none => rw [ht] at hv; cases hv
    | some ti =>
      cases hx : ev e x with
      | none => rw [ht, hx] at hv; cases hv
      | some u =>
        cases hy : ev e y with
        | none => rw [ht, hx, hy] at hv; cases u <;> cases hv
        | some v =>
          rw [ht, hx, hy] at hv
          obtain ⟨_, h2⟩ := ev_sound he hx
          obtain ⟨k1, k2⟩ := ev_sound he hy
          obtain ⟨e1, w', hrun, hg, hb, hc⟩ := storeOp_sound (P := P) g (hT t ti ht) k1 hv
          refine ⟨σ, w', fun _ _ => rfl, by rw [hc]; exact Nat.le_refl _, .inr ⟨by simp [h2, k2, hrun], e1⟩, hg, hb, by rw [e1]; exact lit_ok _ _ _⟩
  case nilCheck x =>
    change nilCheckA h (ev e x) = some r at hv
    unfold nilCheckA at hv
    split at hv
    · rename_i n off hx
      cases hv
      obtain ⟨h1, h2⟩ := ev_sound he hx
      exact ⟨σ, w, fun _ _ => rfl, Nat.le_refl _, .inl (by simp [h2, conc]), g, Bel.refl _ _, h1⟩
    · cases hv
  case binOp op t x y yt =>
    change oBin C h op t (ev e x) (ev e y) = some r at hv
    cases hx : ev e x with
    | none => rw [hx] at hv; cases hv
    | some u =>
      cases hy : ev e y with
      | none => rw [hx, hy] at hv; cases hv
      | some v =>
        rw [hx, hy] at hv
        obtain ⟨z, hz, rfl⟩ := withH_some hv
        dsimp only
        rw [(ev_sound he hx).2, (ev_sound he hy).2]
        exact gives_value (bin_sound g hT (ev_sound he hx).1 (ev_sound he hy).1 x y hz)
  case unOp op t x =>
    change oUn h op (ev e x) = some r at hv
    unfold oUn at hv
    split at hv
    · rename_i u hx
      obtain ⟨z, hz, rfl⟩ := withH_some hv
      obtain ⟨q, rfl, hq⟩ := pureV_some hz
      dsimp only
      rw [(ev_sound he hx).2]
      exact gives_value (gives_same g (by simp only [conc]; exact hq w) (lit_ok _ _ _))
    · cases hv
  case convert src dst x =>
    change oConv C h dst (C.tys.get src) (ev e x) = some r at hv
    cases hs : C.tys.get src with
    | none => rw [hs] at hv; cases hv
    | some ts =>
      cases hx : ev e x with
      | none => rw [hs, hx] at hv; cases hv
      | some u =>
        rw [hs, hx] at hv
        obtain ⟨z, hz, rfl⟩ := withH_some hv
        dsimp only
        rw [(ev_sound he hx).2]
        exact gives_value (conv_sound g hT ⟨_, (hT _ _ hs).desc⟩ hz)
  case makeFunc f first captured =>
    change oFn h f first.toList (evs e captured.toList) = some r at hv
    cases hf : first.toList with
    | cons => rw [hf] at hv; cases hv
    | nil =>
      cases hc : evs e captured.toList with
      | none => rw [hf, hc] at hv; cases hv
      | some cs =>
        rw [hf, hc] at hv
        cases hv
        obtain ⟨h1, h2⟩ := evs_sound he hc
        have hfe : first = #[] := by apply Array.ext'; simpa using hf
        subst hfe
        have hce : captured.map a.eval = (concs σ cs).toArray := by apply Array.ext'; simpa using h2
        exact ⟨σ, w, fun _ _ => rfl, Nat.le_refl _, .inl (by simp [Instr.makeFunc, hce, conc]), g, Bel.refl _ _, by simpa [AV.ok] using h1⟩
  case makeSlice t x y =>
    change oMakeSlice C h t (ev e x) (ev e y) = some r at hv
    cases hx : ev e x with
    | none => rw [hx] at hv; cases hv
    | some u =>
      cases hy : ev e y with
      | none => rw [hx, hy] at hv; cases hv
      | some v =>
        rw [hx, hy] at hv
        dsimp only
        rw [(ev_sound he hx).2, (ev_sound he hy).2]
        exact gives_value (makeSlice_sound g hT hv)
  case slice t x lo hi mx =>
    change oSlice C h t (ev e x) (evo e lo) (evo e hi) (evo e mx) = some r at hv
    unfold oSlice at hv
    split at hv
    · rename_i h1 h2 h3 h4
      dsimp only
      rw [(ev_sound he h1).2, evo_sound he h2, evo_sound he h3, evo_sound he h4]
      exact gives_value (slice_sound g hT (ev_sound he h1).1 hv)
    · cases hv
  case fieldAddr t x f =>
    change oFieldAddr C h t f (ev e x) = some r at hv
    cases hx : ev e x with
    | none => rw [hx] at hv; cases hv
    | some u =>
      rw [hx] at hv
      obtain ⟨z, hz, rfl⟩ := withH_some hv
      dsimp only
      rw [(ev_sound he hx).2]
      exact gives_value (fieldAddr_sound g hT (ev_sound he hx).1 hz)
  case field t x f =>
    change oField C h t f (ev e x) = some r at hv
    cases hx : ev e x with
    | none => rw [hx] at hv; cases hv
    | some u =>
      rw [hx] at hv
      obtain ⟨z, hz, rfl⟩ := withH_some hv
      dsimp only
      rw [(ev_sound he hx).2]
      exact gives_value (field_sound g hT (ev_sound he hx).1 hz)
  case indexAddr t x i =>
    change oIndexAddr C h t (ev e x) (ev e i) = some r at hv
    cases hx : ev e x with
    | none => rw [hx] at hv; cases hv
    | some u =>
      cases hy : ev e i with
      | none => rw [hx, hy] at hv; cases hv
      | some v =>
        rw [hx, hy] at hv
        obtain ⟨z, hz, rfl⟩ := withH_some hv
        dsimp only
        rw [(ev_sound he hx).2, (ev_sound he hy).2]
        exact gives_value (indexAddr_sound g hT (ev_sound he hx).1 hz)
  case index t x i =>
    change oIndex C h t (ev e x) (ev e i) = some r at hv
    cases hx : ev e x with
    | none => rw [hx] at hv; cases hv
    | some u =>
      cases hy : ev e i with
      | none => rw [hx, hy] at hv; cases hv
      | some v =>
        rw [hx, hy] at hv
        obtain ⟨z, hz, rfl⟩ := withH_some hv
        dsimp only
        rw [(ev_sound he hx).2, (ev_sound he hy).2]
        exact gives_value (index_sound g hT (ev_sound he hx).1 hz)
  case extract x i =>
    change oExtract h i (ev e x) = some r at hv
    unfold oExtract at hv
    split at hv
    · rename_i vs hx
      obtain ⟨z, hz, rfl⟩ := withH_some hv
      obtain ⟨h1, h2⟩ := ev_sound he hx
      simp only [AV.ok] at h1
      dsimp only
      rw [h2]
      refine gives_value (gives_same g ?_ ((oks_iff _ _ _).1 h1 z (List.mem_of_getElem? hz)))
      have : (concs σ vs).toArray[i]? = some (conc σ z) := by rw [List.getElem?_toArray, concs_get, hz]; rfl
      simp [Instr.extract, conc, this]
    · cases hv
  case call c =>
    change oBuiltin C h c.argTypes.toList (evs e c.args.toList) c.callee = some r at hv
    obtain ⟨callee, args, ts⟩ := c
    cases callee <;> try (cases hv; done)
    case builtin b =>
      cases hx : evs e args.toList with
      | none => rw [hx] at hv; cases hv
      | some vs =>
        rw [hx] at hv
        obtain ⟨h1, h2⟩ := evs_sound he hx
        have hargs : args.map a.eval = (concs σ vs).toArray := by apply Array.ext'; simpa using h2
        have e1 : ts.toList.toArray = ts := by simp
        have hsuf : ∃ consts, (do let d ← resolve a.eval ⟨.builtin b, args, ts⟩ o.type; invoke d.target d.args : Sem Next) = builtin b ts o.type consts (args.map a.eval) := ⟨_, rfl⟩
        obtain ⟨consts, hc⟩ := hsuf
        dsimp only
        rw [hc, hargs]
        have := builtin_sound g hT h1 o.type consts hv
        rwa [e1] at this
end
end Go.Proofs.Abs
