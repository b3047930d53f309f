import Derived.Test.YtpioenfglmimgaaS11
import Derived.WalkKit
import Derived.Orders
import Derived.LoopN
import Derived.Laws.CopyRow
import Derived.Laws.Tables
import Derived.Laws.Rows
import Derived.Great.BuildSlice
import Derived.Laws.MakeOwn
import Derived.Laws.Append
import Derived.Laws.AppendOwn
import Derived.Lib.Strings
import Derived.WalkSpells
import Derived.Lib.SliceRun
namespace Go.Proofs.Abs
open Go Go.RowKit
set_option linter.unusedSimpArgs false
set_option linter.unusedVariables false
/-! The evaluator is sound, part 12: text, calls. -/
section
variable {P : Program} {C : Ctx} {B : Keep}

def exitOf : AEx → Exit
  | .normal => .normal
  | .exit id => .exit id
  | .goto l => .goto l
  | .ret => .ret

def ScopeWp (P : Program) (body : Code) (Q : Exit → Act → World → Prop) (c : Code) (a : Act) (w : World) : Prop :=
  ∀ (b : Frame) (k : List Item) (cs : List Frame), ∃ e a' w', Q e a' w' ∧ Arrives P (lone (b.at a (.code c :: .inScope body :: k)) cs w) b k cs e a' w'

theorem wp_scope_of {body : Code} {Q : Exit → Act → World → Prop} {a : Act} {w : World} (h : ScopeWp P body Q body a w) : (Code.scope body).wp P Q a w := by
  intro b k cs
  obtain ⟨e, a', w', hq, harr⟩ := h b k cs
  exact ⟨e, a', w', hq, .of_steps (.one step_scope) harr⟩

def Exit.inScope (P : Program) (body : Code) (Q : Exit → Act → World → Prop) : Exit → Act → World → Prop
  | .goto l, a, w => match findLabel body l with
    | some rest => ScopeWp P body Q rest a w
    | none => Q (.goto l) a w
  | e, a, w => Q e a w

theorem scope_wp {body c : Code} {Q : Exit → Act → World → Prop} {a : Act} {w : World} (h : c.wp P (Exit.inScope P body Q) a w) : ScopeWp P body Q c a w := by
  intro b k cs
  obtain ⟨e, a₁, w₁, hq, harr⟩ := h b (.inScope body :: k) cs
  cases e with
  | normal => exact ⟨.normal, a₁, w₁, hq, Steps.trans harr (.one step_inScope)⟩
  | exit id => exact ⟨.exit id, a₁, w₁, hq, fun k' hk => harr k' (by simp [exitTo, hk])⟩
  | goto l =>
    change (match findLabel body l with
      | some rest => ScopeWp P body Q rest a₁ w₁
      | none => Q (.goto l) a₁ w₁) at hq
    cases hf : findLabel body l with
    | some rest =>
      rw [hf] at hq
      obtain ⟨e₂, a₂, w₂, hq₂, harr₂⟩ := hq b k cs
      exact ⟨e₂, a₂, w₂, hq₂, .of_steps (harr _ (by simp [gotoIn, hf])) harr₂⟩
    | none =>
      rw [hf] at hq
      exact ⟨.goto l, a₁, w₁, hq, fun k' hk => harr k' (by simp [gotoIn, hf, hk])⟩
  | ret => exact ⟨_, a₁, w₁, hq, harr⟩
  | panic ch => exact ⟨_, a₁, w₁, hq, harr⟩
  | outgrown => exact ⟨_, a₁, w₁, hq, harr⟩

theorem find_ok {m : Nat} {l : Nat} : ∀ (c rest : Code), codeOk m c = true → findLabel c l = some rest → codeOk m rest = true := by
  intro c
  induction c with
  | seq a b iha ihb =>
    intro rest h hf
    simp only [codeOk, Bool.and_eq_true] at h
    simp only [findLabel] at hf
    cases ha : findLabel a l with
    | some r =>
      rw [ha] at hf
      cases hf
      simp only [codeOk, Bool.and_eq_true]
      exact ⟨iha r h.1 ha, h.2⟩
    | none => rw [ha] at hf; exact ihb rest h.2 hf
  | label l' =>
    intro rest _ hf
    simp only [findLabel] at hf
    split at hf
    · cases hf; rfl
    · cases hf
  | _ => intro rest _ hf; simp [findLabel] at hf

theorem codeA_zero (call : CallF) (N : Nat) (c : Code) (e : Env) (h : Hp) : codeA C call N 0 c e h = none := rfl
theorem codeA_succ (call : CallF) (N n : Nat) (c : Code) (e : Env) (h : Hp) : codeA C call N (n + 1) c e h = codeStep C call N (codeA C call N n) e h c := rfl
theorem loopA_succ (ev : CodeK) (n : Nat) (e : Env) (h : Hp) : loopA ev (n + 1) e h = thenA (loopA ev n) (ev e h) := rfl
theorem scopeA_succ (ev : CodeF) (body : Code) (n : Nat) (c : Code) (e : Env) (h : Hp) : scopeA ev body (n + 1) c e h = jumpA (scopeA ev body n) body (ev c e h) := rfl
theorem thenA_some {k : CodeK} {r : Option (AEx × Env × Hp)} {q : AEx × Env × Hp} (h : thenA k r = some q) :
    (∃ e h', r = some (.normal, e, h') ∧ k e h' = some q) ∨ (r = some q ∧ q.1 ≠ .normal) := by
  cases r with
  | none => cases h
  | some x =>
    obtain ⟨x, e, h'⟩ := x
    cases x with
    | normal => exact .inl ⟨e, h', rfl, h⟩
    | exit id => cases h; exact .inr ⟨rfl, by simp⟩
    | goto l => cases h; exact .inr ⟨rfl, by simp⟩
    | ret => cases h; exact .inr ⟨rfl, by simp⟩
theorem then_other {x : AEx} (hx : x ≠ .normal) (next : Act → World → Prop) (Q : Exit → Act → World → Prop) (a : Act) (w : World) : Exit.then next Q (exitOf x) a w = Q (exitOf x) a w := by
  cases x <;> first | rfl | exact absurd rfl hx

def CodeSound (P : Program) (B : Keep) (m : Nat) (k : CodeF) : Prop :=
  ∀ c e h x e' h', k c e h = some (x, e', h') → codeOk m c = true → ∀ (σ : Nat → Loc) (a : Act) (w : World) (Q : Exit → Act → World → Prop), Gam σ B h w → EnvOk σ h.c e a → m ≤ a.tmps.size →
    (∀ a' w', After P σ B h a w e' h' a' w' → Q (exitOf x) a' w') → c.wp P Q a w

theorem code_sound (hT : TysOk P C) (hm : P.follows .mixedOrders = true) {call : CallF} (hcall : CallOk P call) (m N : Nat) : ∀ n, CodeSound P B m (codeA C call N n) := by
  intro n
  induction n with
  | zero => intro c e h x e' h' hr; rw [codeA_zero] at hr; cases hr
  | succ n ih =>
    intro c e h x e' h' hr hok σ a w Q g he hs hQ
    rw [codeA_succ] at hr
    have hself : ∀ (x : AEx), (x, e', h') = (x, e, h) → After P σ B h a w e' h' a w := fun x hx => by
      cases hx
      exact ⟨σ, fun _ _ => rfl, Nat.le_refl _, g, he, rfl, rfl, Bel.refl _ _, rfl⟩
    cases c <;> try (cases hr; done)
    case skip => cases hr; exact wp_skip (hQ a w (hself .normal rfl))
    case exit id => cases hr; exact wp_exit (hQ a w (hself .normal rfl))
    case goto l => cases hr; exact wp_goto (hQ a w (hself .normal rfl))
    case label l => cases hr; exact wp_label (hQ a w (hself .normal rfl))
    case ret => cases hr; exact wp_ret (hQ a w (hself .normal rfl))
    case region id ops draw =>
      change normalA (regA C call ops draw e h) = some (x, e', h') at hr
      cases hx : regA C call ops draw e h with
      | none => rw [hx] at hr; cases hr
      | some q =>
        obtain ⟨e1, h1⟩ := q
        rw [hx] at hr
        cases hr
        simp only [codeOk, regOk, Bool.and_eq_true, Bool.or_eq_true] at hok
        obtain ⟨hd, hdr⟩ := hok
        cases draw with
        | false =>
          change opsA C call ops.toList ops.toList e h = some (e', h') at hx
          refine wp_region ?_
          have := ops_sound hT hcall hd ops.toList 0 rfl e h a w σ e' h' Q hx g he hs (fun a' w' hA => hQ a' w' hA)
          rwa [Array.length_toList, ← List.range_eq_range'] at this
        | true =>
          rcases hdr with hdr | ⟨⟨h1, h2⟩, h3⟩
          · cases hdr
          · refine wp_region_any hm ?_
            obtain ⟨E, H, V, t1, t2, t3, t4, t5, t6⟩ := reg_trace hx
            refine region_any (w := w.drew) hT hcall hd h1 h3 t1 t2 t3 t4 t5 t6 g.drew he hs fun a' w' hA => hQ a' w' ?_
            obtain ⟨σ', k1, k2, k3, k4, k5, k6, k7, k8⟩ := hA
            exact ⟨σ', k1, k2, k3, k4, k5, k6, (Bel.refl _ _).drew.trans k7, k8⟩
    case seq c1 c2 =>
      change thenA (codeA C call N n c2) (codeA C call N n c1 e h) = some (x, e', h') at hr
      simp only [codeOk, Bool.and_eq_true] at hok
      refine wp_seq ?_
      rcases thenA_some hr with ⟨e1, h1, hr1, hr2⟩ | ⟨hr1, hne⟩
      · refine ih c1 e h _ e1 h1 hr1 hok.1 σ a w _ g he hs fun a1 w1 hA => ?_
        obtain ⟨σ1, k1, k2, k3, k4, k5, k6, k7, k8⟩ := hA
        exact ih c2 e1 h1 _ e' h' hr2 hok.2 σ1 a1 w1 _ k3 k4 (by omega) fun a2 w2 hA2 => hQ a2 w2 (After.trans k1 k2 k5 k6 k7 hA2)
      · refine ih c1 e h _ e' h' hr1 hok.1 σ a w _ g he hs fun a1 w1 hA => ?_
        rw [then_other hne]
        exact hQ a1 w1 hA
    case cond c c1 c2 =>
      change condA (codeA C call N n c1) (codeA C call N n c2) e h (ev e c) = some (x, e', h') at hr
      simp only [codeOk, Bool.and_eq_true] at hok
      unfold condA at hr
      split at hr
      · rename_i hc
        refine wp_cond_true (by rw [(ev_sound he hc).2]; rfl) ?_
        exact ih c1 e h _ e' h' hr hok.1 σ a w Q g he hs hQ
      · rename_i hc
        refine wp_cond_false (by rw [(ev_sound he hc).2]; rfl) ?_
        exact ih c2 e h _ e' h' hr hok.2 σ a w Q g he hs hQ
      · cases hr
    case block id body =>
      change blockA id (codeA C call N n body e h) = some (x, e', h') at hr
      simp only [codeOk] at hok
      refine wp_block ?_
      cases hx : codeA C call N n body e h with
      | none => rw [hx] at hr; cases hr
      | some q =>
        obtain ⟨y, e1, h1⟩ := q
        rw [hx] at hr
        cases y with
        | exit j =>
          change cond (Nat.beq j id) (some (AEx.normal, e1, h1)) (some (.exit j, e1, h1)) = _ at hr
          rw [beq_cond] at hr
          by_cases e2 : j = id
          · rw [if_pos e2] at hr
            cases hr
            refine ih body e h _ e' h' hx hok σ a w _ g he hs fun a1 w1 hA => ?_
            show (if j = id then Q .normal a1 w1 else Q (.exit j) a1 w1)
            rw [if_pos e2]
            exact hQ a1 w1 hA
          · rw [if_neg e2] at hr
            cases hr
            refine ih body e h _ e' h' hx hok σ a w _ g he hs fun a1 w1 hA => ?_
            show (if j = id then Q .normal a1 w1 else Q (.exit j) a1 w1)
            rw [if_neg e2]
            exact hQ a1 w1 hA
        | normal => cases hr; exact ih body e h _ e' h' hx hok σ a w _ g he hs fun a1 w1 hA => hQ a1 w1 hA
        | goto l => cases hr; exact ih body e h _ e' h' hx hok σ a w _ g he hs fun a1 w1 hA => hQ a1 w1 hA
        | ret => cases hr; exact ih body e h _ e' h' hx hok σ a w _ g he hs fun a1 w1 hA => hQ a1 w1 hA
    case loop body =>
      change loopA (codeA C call N n body) N e h = some (x, e', h') at hr
      simp only [codeOk] at hok
      refine wp_loop_rounds N ?_
      have key : ∀ k e h σ a w, loopA (codeA C call N n body) k e h = some (x, e', h') → Gam σ B h w → EnvOk σ h.c e a → m ≤ a.tmps.size → (∀ a' w', After P σ B h a w e' h' a' w' → Q (exitOf x) a' w') → Code.rounds P body Q k a w := by
        intro k
        induction k with
        | zero => intro e h σ a w hr; cases hr
        | succ k ihk =>
          intro e h σ a w hr g he hs hQ
          rw [loopA_succ] at hr
          rw [rounds_succ]
          rcases thenA_some hr with ⟨e1, h1, hr1, hr2⟩ | ⟨hr1, hne⟩
          · refine ih body e h _ e1 h1 hr1 hok σ a w _ g he hs fun a1 w1 hA => ?_
            obtain ⟨σ1, k1, k2, k3, k4, k5, k6, k7, k8⟩ := hA
            exact ihk e1 h1 σ1 a1 w1 hr2 k3 k4 (by omega) fun a2 w2 hA2 => hQ a2 w2 (After.trans k1 k2 k5 k6 k7 hA2)
          · refine ih body e h _ e' h' hr1 hok σ a w _ g he hs fun a1 w1 hA => ?_
            rw [then_other hne]
            exact hQ a1 w1 hA
      exact key N e h σ a w hr g he hs hQ
    case scope body =>
      change scopeA (codeA C call N n) body N body e h = some (x, e', h') at hr
      simp only [codeOk] at hok
      refine wp_scope_of ?_
      have key : ∀ k c e h σ a w, codeOk m c = true → scopeA (codeA C call N n) body k c e h = some (x, e', h') → Gam σ B h w → EnvOk σ h.c e a → m ≤ a.tmps.size → (∀ a' w', After P σ B h a w e' h' a' w' → Q (exitOf x) a' w') → ScopeWp P body Q c a w := by
        intro k
        induction k with
        | zero => intro c e h σ a w _ hr; cases hr
        | succ k ihk =>
          intro c e h σ a w hok' hr g he hs hQ
          rw [scopeA_succ] at hr
          refine scope_wp ?_
          cases hx : codeA C call N n c e h with
          | none => rw [hx] at hr; cases hr
          | some q =>
            obtain ⟨y, e1, h1⟩ := q
            rw [hx] at hr
            cases y with
            | goto l =>
              change (match findLabel body l with
                | some rest => scopeA (codeA C call N n) body k rest e1 h1
                | none => some (.goto l, e1, h1)) = some (x, e', h') at hr
              refine ih c e h _ e1 h1 hx hok' σ a w _ g he hs fun a1 w1 hA => ?_
              show (match findLabel body l with
                | some rest => ScopeWp P body Q rest a1 w1
                | none => Q (.goto l) a1 w1)
              cases hf : findLabel body l with
              | some rest =>
                rw [hf] at hr
                obtain ⟨σ1, k1, k2, k3, k4, k5, k6, k7, k8⟩ := hA
                exact ihk rest e1 h1 σ1 a1 w1 (find_ok body rest hok hf) hr k3 k4 (by omega) fun a2 w2 hA2 => hQ a2 w2 (After.trans k1 k2 k5 k6 k7 hA2)
              | none =>
                rw [hf] at hr
                cases hr
                exact hQ a1 w1 hA
            | normal => cases hr; exact ih c e h _ e' h' hx hok' σ a w _ g he hs fun a1 w1 hA => hQ a1 w1 hA
            | exit j => cases hr; exact ih c e h _ e' h' hx hok' σ a w _ g he hs fun a1 w1 hA => hQ a1 w1 hA
            | ret => cases hr; exact ih c e h _ e' h' hx hok' σ a w _ g he hs fun a1 w1 hA => hQ a1 w1 hA
      exact key N body e h σ a w hok hr g he hs hQ

/-- what is asked of a function -/
structure FunOk (P : Program) (f : FuncId) (fn : Func) : Prop where
  at_ : P.funcs[f]? = some fn
  name : (fn.name == "runtime.NumGoroutine") = false
  text : ∀ c, fn.body = some c → codeOk fn.ntmps c = true
  ext : fn.body = none → ∀ k, extK fn.name = some k → Extern.findNext fn = none ∧ Extern.find fn = some (extF k)

theorem resA_cons (e : Env) (h : Hp) (x : ResultVar) (l : List ResultVar) : resA C e h (x :: l) = resOne C e h (resA C e h l) x := rfl
theorem res_sound (hT : TysOk P C) {σ : Nat → Loc} {h : Hp} {w : World} {e : Env} {a : Act} (g : Gam σ B h w) (he : EnvOk σ h.c e a) (F : ResultVar → Sem Value) (hF1 : ∀ t, F (.tmp t) = pure (a.tmps.getD t undef))
    (hF2 : ∀ b t, F (.cell b t) = do loadVar t (← asAddr (a.tmps.getD b undef))) : ∀ (l : List ResultVar) (vs : List AV), resA C e h l = some vs → (l.mapM F : Sem (List Value)).run P w = .ok (concs σ vs) w ∧ oks σ h.c vs := by
  intro l
  induction l with
  | nil => intro vs hr; cases hr; exact ⟨by simp [concs], by simp [oks]⟩
  | cons x l ih =>
    intro vs hr
    rw [resA_cons] at hr
    cases x with
    | tmp t =>
      obtain ⟨v, us, h1, h2, rfl⟩ := consOO_some hr
      obtain ⟨k1, k2⟩ := ih us h2
      obtain ⟨l1, l2⟩ := he t v h1
      refine ⟨?_, ⟨l1, k2⟩⟩
      have : a.tmps.getD t undef = conc σ v := by simp [l2]
      rw [List.mapM_cons, hF1]
      simp only [Sem.run_bind, Sem.run_pure, Result.andThen_ok, this, k1, concs]
    | cell b t =>
      change resCell h (resA C e h l) (C.tys.get t) (e.get b) = some vs at hr
      unfold resCell at hr
      split at hr
      · rename_i ti n off ht hb
        obtain ⟨l1, l2⟩ := he b _ hb
        have hb' : a.tmps.getD b undef = conc σ (.ptr n off) := by simp [l2]
        have hk := hT t ti ht
        have hlv : ∀ v, oLoad h (some ti) (some (.ptr n off)) = some (v, h) → (loadVar t ⟨(σ n).b, (σ n).o + off, spt (σ n) off⟩).run P w = .ok (conc σ v) w ∧ v.ok σ h.c := by
          intro v hv
          obtain ⟨σ', w', m1, m2, m3, m4, m5, m6⟩ := loadOp_sound (P := P) g hk hv
          simp only [oLoad] at hv
          cases hd : isAggD ti.desc with
          | true =>
            rw [hd, cond_true] at hv
            cases hl : load h n off ti.size with
            | none => rw [hl] at hv; cases hv
            | some cs =>
              rw [hl] at hv
              cases hv
              exact ⟨by simp [loadVar, run_isAgg hk, hd, run_size hk, loadCells_sound g hl, conc], (load_sound g hl).2.1⟩
          | false =>
            rw [hd, cond_false] at hv
            cases hl : load h n off 1 with
            | none => rw [hl] at hv; cases hv
            | some cs =>
              rw [hl] at hv
              obtain ⟨hlen, hlt, hc⟩ := load_sound g hl
              match cs, hlen with
              | [u], _ =>
                cases hv
                have h0 := hc 0 (conc σ v) (by simp [concs])
                rw [Nat.add_zero] at h0
                exact ⟨by simp [loadVar, run_isAgg hk, hd, run_load, h0, spt_none (load_spot g hl (by omega))], hlt.1⟩
        have hone : ∃ v us, oLoad h (some ti) (some (.ptr n off)) = some (v, h) ∧ resA C e h l = some us ∧ vs = v :: us := by
          cases hd : isAggD ti.desc with
          | true =>
            rw [hd, cond_true] at hr
            cases hl : load h n off ti.size with
            | none => rw [hl] at hr; cases hr
            | some cs =>
              rw [hl] at hr
              cases hus : resA C e h l with
              | none => rw [hus] at hr; cases hr
              | some us => rw [hus] at hr; cases hr; exact ⟨_, us, by simp only [oLoad, hd, cond_true, hl]; rfl, rfl, rfl⟩
          | false =>
            rw [hd, cond_false] at hr
            cases hl : load h n off 1 with
            | none => rw [hl] at hr; cases hr
            | some cs =>
              rw [hl] at hr
              match cs, (load_sound g hl).1 with
              | [u], _ =>
                cases hus : resA C e h l with
                | none => rw [hus] at hr; cases hr
                | some us => rw [hus] at hr; cases hr; exact ⟨_, us, by simp only [oLoad, hd, cond_false, hl]; rfl, rfl, rfl⟩
        obtain ⟨v, us, h1, h2, rfl⟩ := hone
        obtain ⟨k1, k2⟩ := ih us h2
        obtain ⟨m1, m2⟩ := hlv v h1
        refine ⟨?_, ⟨m2, k2⟩⟩
        have hb2 : a.tmps.getD b undef = .pointer (some ⟨(σ n).b, (σ n).o + off, spt (σ n) off⟩) := by rw [hb']; simp only [conc]
        rw [List.mapM_cons, hF2]
        have hb3 : (asAddr (a.tmps.getD b undef)).run P w = .ok ⟨(σ n).b, (σ n).o + off, spt (σ n) off⟩ w := by rw [hb2]; rfl
        simp only [Sem.run_bind, hb3, Sem.run_pure, Result.andThen_ok, m1, k1, concs]
      · cases hr

theorem enter_env (σ : Nat → Loc) (c : Nat) {args : List AV} (ha : oks σ c args) (m : Nat) :
    EnvOk σ c (enterEnv args m) { tmps := (concs σ args).toArray ++ Array.replicate (m - (concs σ args).toArray.size) undef, defers := [] } := by
  intro t v hv
  unfold enterEnv at hv
  rw [setCells_get] at hv
  by_cases hr : 0 ≤ t ∧ t < 0 + (args ++ List.replicate (m - args.length) uv).length
  · rw [if_pos hr, Nat.sub_zero] at hv
    have hl : (concs σ args).toArray.size = args.length := by simp [concs_length]
    by_cases h1 : t < args.length
    · rw [List.getElem?_append_left h1] at hv
      refine ⟨(oks_iff _ _ _).1 ha v (List.mem_of_getElem? hv), ?_⟩
      rw [Array.getElem?_append_left (by omega), List.getElem?_toArray, concs_get, hv]
      rfl
    · rw [List.getElem?_append_right (by omega)] at hv
      rw [List.getElem?_replicate] at hv
      split at hv
      · rename_i h2
        cases hv
        refine ⟨lit_ok _ _ _, ?_⟩
        rw [Array.getElem?_append_right (by omega), hl, Array.getElem?_replicate, if_pos h2]
        rfl
      · cases hv
  · rw [if_neg hr] at hv; cases hv

theorem runA_zero (N : Nat) (f : FuncId) (args : List AV) (h : Hp) : runA C N 0 f args h = none := rfl
theorem runA_succ (N n : Nat) (f : FuncId) (args : List AV) (h : Hp) : runA C N (n + 1) f args h = funA C (runA C N n) N args h (C.funs.get f) := rfl

theorem litsA_conc (σ : Nat → Loc) : ∀ {vs : List AV} {us : List Value}, litsA vs = some us → concs σ vs = us := by
  intro vs
  induction vs with
  | nil => intro us h; cases h; rfl
  | cons v vs ih =>
    intro us h
    cases v <;> try (cases h; done)
    rename_i v
    unfold litsA at h
    cases hl : litsA vs with
    | none => rw [hl] at h; cases h
    | some ws =>
      rw [hl] at h
      cases h
      show conc σ (.lit v) :: concs σ vs = _
      rw [ih hl]
      simp [conc]
theorem run_step (hT : TysOk P C) (hF : ∀ f fn, C.funs.get f = some fn → FunOk P f fn) (hm : P.follows .mixedOrders = true) (N : Nat) {call : CallF} (ih : CallOk P call) : CallOk P (fun f vs h => funA C call N vs h (C.funs.get f)) := by
  have split : ∀ f vs h r, funA C call N vs h (C.funs.get f) = some r → (∃ fn k, C.funs.get f = some fn ∧ fn.body = none ∧ extK fn.name = some k ∧ extA h (some k) vs = some r) ∨ ∃ fn c x e' h', C.funs.get f = some fn ∧ fn.body = some c ∧ codeA C (call) N N c (enterEnv vs fn.ntmps) h = some (x, e', h') ∧ (x = .normal ∨ x = .ret) ∧
      ∃ us, resA C e' h' fn.results.toList = some us ∧ r = (tupA us, h') := by
    intro f vs h r hr
    cases hf : C.funs.get f with
    | none => rw [hf] at hr; cases hr
    | some fn =>
      rw [hf] at hr
      change bodyA C (call) N vs h fn fn.body = some r at hr
      cases hb : fn.body with
      | none =>
        rw [hb] at hr
        change extA h (extK fn.name) vs = some r at hr
        cases hk : extK fn.name with
        | none => rw [hk] at hr; cases hr
        | some k => rw [hk] at hr; exact .inl ⟨fn, k, rfl, hb, hk, hr⟩
      | some c =>
        refine .inr ?_
        rw [hb] at hr
        change returnA C fn.results.toList (codeA C (call) N N c (enterEnv vs fn.ntmps) h) = some r at hr
        cases hc : codeA C (call) N N c (enterEnv vs fn.ntmps) h with
        | none => rw [hc] at hr; cases hr
        | some q =>
          obtain ⟨x, e', h'⟩ := q
          rw [hc] at hr
          have hx : (x = .normal ∨ x = .ret) ∧ tupH h' (resA C e' h' fn.results.toList) = some r := by
            cases x <;> first | (cases hr; done) | exact ⟨.inl rfl, hr⟩ | exact ⟨.inr rfl, hr⟩
          obtain ⟨hx, hr⟩ := hx
          cases hus : resA C e' h' fn.results.toList with
          | none => rw [hus] at hr; cases hr
          | some us => rw [hus] at hr; cases hr; exact ⟨fn, c, x, e', h', rfl, hb, hc, hx, us, hus, rfl⟩
  refine ⟨fun f vs h r hr => ?_, fun f vs h r hr hbody σ B w g hvs => ?_⟩
  · rcases split f vs h r hr with ⟨fn, k, h1, h2, h3, h4⟩ | ⟨fn, c, x, e', h', h1, h2, _⟩
    · have hfo := hF f fn h1
      obtain ⟨hn, hx⟩ := hfo.ext h2 k h3
      refine ⟨fn, hfo.at_, hfo.name, fun _ => ?_⟩
      have hn' : ¬ fn.name = "runtime.NumGoroutine" := by simpa using hfo.name
      have key : ∀ {u : Value} {us : List Value}, (∀ w, (extF k us.toArray).run P w = .ok u w) → ∀ w, (callFunc f us.toArray).run P w = .ok (.value u) w := by
        intro u us hu w
        have hmark : ∀ (m : Mark) (w : World), Sem.run P (Sem.mark m (Sem.pure ())) w = Result.ok () w := fun _ _ => rfl
        simp [callFunc, hfo.at_, hn', h2, hn, hx, hu w, mark, hmark]
      dsimp only [extA] at h4
      cases hl : litsA vs with
      | none => rw [hl] at h4; cases h4
      | some us =>
        rw [hl] at h4
        dsimp only at h4
        cases hp : pureV (extF k us.toArray) with
        | none => rw [hp] at h4; cases h4
        | some v =>
          rw [hp] at h4
          cases h4
          obtain ⟨u, rfl, hu⟩ := pureV_some (P := P) hp
          refine ⟨rfl, fun σ _ => ⟨lit_ok _ _ _, ?_⟩⟩
          rw [litsA_conc σ hl]
          exact key hu
    · exact ⟨fn, (hF f fn h1).at_, (hF f fn h1).name, fun hb => by rw [h2] at hb; cases hb⟩
  · rcases split f vs h r hr with ⟨fn, k, h1, h2, h3, h4⟩ | ⟨fn, c, x, e', h', h1, h2, h3, h4, us, h5, rfl⟩
    · have := hbody fn (hF f fn h1).at_
      rw [h2] at this
      cases this
    have hfo := hF f fn h1
    refine calls_of_wp hfo.at_ h2 ?_
    refine code_sound hT hm ih fn.ntmps N N c _ h x e' h' h3 (hfo.text c h2) σ _ w _ g (enter_env σ h.c hvs fn.ntmps) (by simp; omega) fun a' w' hA => ?_
    obtain ⟨σ', k1, k2, k3, k4, k5, k6, k7, k8⟩ := hA
    have key : ∀ F : ResultVar → Sem Value, (∀ t, F (.tmp t) = pure (a'.tmps.getD t undef)) → (∀ b t, F (.cell b t) = do loadVar t (← asAddr (a'.tmps.getD b undef))) → (fn.results.toList.mapM F : Sem (List Value)).run P w' = .ok (concs σ' us) w' :=
      fun F h1 h2 => (res_sound (P := P) hT k3 k4 F h1 h2 fn.results.toList us h5).1
    have m2 : oks σ' h'.c us := (res_sound (P := P) hT k3 k4 (fun | .tmp t => pure (a'.tmps.getD t undef) | .cell b t => do loadVar t (← asAddr (a'.tmps.getD b undef))) (fun _ => rfl) (fun _ _ => rfl) fn.results.toList us h5).2
    have hres : (results fn a'.tmps).run P w' = .ok (conc σ' (tupA us)) w' := by
      unfold results
      rw [Array.mapM_eq_mapM_toList]
      simp only [Sem.run_bind, Sem.run_map]
      rw [key]
      · simp only [Result.andThen_ok]
        cases us with
        | nil => simp [concs, tupA, conc]
        | cons v us =>
          cases us with
          | nil => simp [concs, tupA]
          | cons u us => simp [concs, tupA, conc]
      · intro t; rfl
      · intro b t; rfl
    have hok : (tupA us).ok σ' h'.c := by
      cases us with
      | nil => simp [tupA, AV.ok, oks]
      | cons v us =>
        cases us with
        | nil => exact m2.1
        | cons u us => simpa [tupA, AV.ok] using m2
    rcases h4 with rfl | rfl
    all_goals exact ⟨k6, _, hres, σ', k1, k2, rfl, k3, k7, hok⟩

theorem run_ok (hT : TysOk P C) (hF : ∀ f fn, C.funs.get f = some fn → FunOk P f fn) (hm : P.follows .mixedOrders = true) (N : Nat) : ∀ n, CallOk P (runA C N n) := by
  intro n
  induction n with
  | zero => exact ⟨fun f vs h r hr => (by rw [runA_zero] at hr; cases hr), fun f vs h r hr => (by rw [runA_zero] at hr; cases hr)⟩
  | succ n ih => exact run_step hT hF hm N ih

/-- A CALL WITHOUT MEMORY OF ITS OWN IN THE ARGUMENTS: what the evaluator says. -/
theorem run_calls (hT : TysOk P C) (hF : ∀ f fn, C.funs.get f = some fn → FunOk P f fn) (hm : P.follows .mixedOrders = true) {N n : Nat} {f : FuncId} {vs : List Value} {v : Value} {h' : Hp}
    (hbody : ∀ fn, P.funcs[f]? = some fn → fn.body.isNone = false) (hr : runA C N n f (litCells vs) ⟨.leaf, 0, fun _ _ => none⟩ = some (.lit v, h')) (w : World) : Calls P f vs.toArray w fun en w' => en = .returned v ∧ Below w.heap.size w w' := by
  have g : Gam (fun _ => ⟨0, 0, 0, none⟩) (below w.heap.size) ⟨.leaf, 0, fun _ _ => none⟩ w := ⟨fun _ h => h, fun n b hn => (by cases hn), fun n m bn bm hn => (by cases hn), fun n off v hv => (by cases hv)⟩
  have := (run_ok hT hF hm N n).run f _ _ _ hr hbody _ _ w g (oks_litCells _ _ _)
  rw [concs_litCells] at this
  refine this.mono fun en w' hen => ?_
  obtain ⟨σ', k1, k2, k3, k4, k5, k6⟩ := hen
  exact ⟨by rw [k3]; simp [conc], k5.to (Nat.le_refl _)⟩
end
end Go.Proofs.Abs
