import Derived.Test.YtpioenfglmimgaaS9
import Derived.WalkKit
import Derived.Orders
import Derived.LoopN
import Derived.Laws.CopyRow
import Derived.Laws.Tables
import Derived.Laws.Rows
import Derived.Great.BuildSlice
import Derived.Laws.MakeOwn
import Derived.Laws.Append
import Derived.Laws.AppendOwn
import Derived.Lib.Strings
import Derived.WalkSpells
import Derived.Lib.SliceRun
namespace Go.Proofs.Abs
open Go Go.RowKit
set_option linter.unusedSimpArgs false
set_option linter.unusedVariables false
/-! The evaluator is sound, part 10: in whatever order. -/
section
variable {P : Program} {C : Ctx} {B : Keep} {ops : Array Oper}

def SameOn (ops : Array Oper) (o : Oper) (e e2 : Env) : Prop := ∀ t, t ∈ o.looksAt ops → e.get t = e2.get t

theorem same_ev {o : Oper} {e e2 : Env} (hs : SameOn ops o e e2) {x : Operand} (hx : x ∈ o.op.operands) : ev e x = ev e2 x := by
  cases x with
  | tmp t => exact hs t (List.mem_append_left _ (List.mem_filterMap.2 ⟨.tmp t, by simpa using hx, rfl⟩))
  | _ => rfl
theorem same_evs {e e2 : Env} : ∀ {l : List Operand}, (∀ x ∈ l, ev e x = ev e2 x) → evs e l = evs e2 l := by
  intro l
  induction l with
  | nil => intro _; rfl
  | cons x l ih => intro h; rw [evs_cons, evs_cons, h x List.mem_cons_self, ih fun y hy => h y (List.mem_cons_of_mem _ hy)]
theorem same_parts {e e2 : Env} : ∀ {l : List (Nat × Operand)}, (∀ x ∈ l, ev e x.2 = ev e2 x.2) → evParts e l = evParts e2 l := by
  intro l
  induction l with
  | nil => intro _; rfl
  | cons x l ih => intro h; rw [evParts_cons, evParts_cons, h x List.mem_cons_self, ih fun y hy => h y (List.mem_cons_of_mem _ hy)]
theorem same_evo {e e2 : Env} {x : Option Operand} (h : ∀ y, x = some y → ev e y = ev e2 y) : evo e x = evo e2 x := by
  cases x with
  | none => rfl
  | some y => unfold evo; dsimp only; rw [h y rfl]

theorem same_op {e e2 : Env} (h : Hp) {op : Op} (hs : ∀ x ∈ op.operands, ev e x = ev e2 x) : opA C e h op = opA C e2 h op := by
  cases op <;> (try rfl) <;> simp only [Op.operands] at hs
  case move x => show withH h (ev e x) = withH h (ev e2 x); rw [hs x (by simp)]
  case assign x => show withH h (ev e x) = withH h (ev e2 x); rw [hs x (by simp)]
  case pick c x y => show pickA h (ev e x) (ev e y) (ev e c) = pickA h (ev e2 x) (ev e2 y) (ev e2 c); rw [hs x (by simp), hs y (by simp), hs c (by simp)]
  case box t x => show boxA h t (ev e x) = boxA h t (ev e2 x); rw [hs x (by simp)]
  case build t ps =>
    show oBuild C h t (evParts e ps.toList) = oBuild C h t (evParts e2 ps.toList)
    rw [same_parts fun x hx => hs x.2 (by simp; exact ⟨x.1, by simpa using hx⟩)]
  case buildSlice t n ps =>
    show oBuildSlice C h t n (evParts e ps.toList) = oBuildSlice C h t n (evParts e2 ps.toList)
    rw [same_parts fun x hx => hs x.2 (by simp; exact ⟨x.1, by simpa using hx⟩)]
  case load t x => show oLoad h (C.tys.get t) (ev e x) = oLoad h (C.tys.get t) (ev e2 x); rw [hs x (by simp)]
  case store t x y => show oStore h (C.tys.get t) (ev e x) (ev e y) = oStore h (C.tys.get t) (ev e2 x) (ev e2 y); rw [hs x (by simp), hs y (by simp)]
  case nilCheck x => show nilCheckA h (ev e x) = nilCheckA h (ev e2 x); rw [hs x (by simp)]
  case binOp op t x y yt => show oBin C h op t (ev e x) (ev e y) = oBin C h op t (ev e2 x) (ev e2 y); rw [hs x (by simp), hs y (by simp)]
  case unOp op t x => show oUn h op (ev e x) = oUn h op (ev e2 x); rw [hs x (by simp)]
  case convert s d x => show oConv C h d (C.tys.get s) (ev e x) = oConv C h d (C.tys.get s) (ev e2 x); rw [hs x (by simp)]
  case makeFunc f first captured =>
    show oFn h f first.toList (evs e captured.toList) = oFn h f first.toList (evs e2 captured.toList)
    rw [same_evs fun x hx => hs x (by simp; exact .inr (by simpa using hx))]
  case makeSlice t x y => show oMakeSlice C h t (ev e x) (ev e y) = oMakeSlice C h t (ev e2 x) (ev e2 y); rw [hs x (by simp), hs y (by simp)]
  case slice t x lo hi mx =>
    show oSlice C h t (ev e x) (evo e lo) (evo e hi) (evo e mx) = oSlice C h t (ev e2 x) (evo e2 lo) (evo e2 hi) (evo e2 mx)
    rw [hs x (by simp), same_evo fun y hy => hs y (by subst hy; simp), same_evo fun y hy => hs y (by subst hy; simp), same_evo fun y hy => hs y (by subst hy; simp)]
  case fieldAddr t x f => show oFieldAddr C h t f (ev e x) = oFieldAddr C h t f (ev e2 x); rw [hs x (by simp)]
  case field t x f => show oField C h t f (ev e x) = oField C h t f (ev e2 x); rw [hs x (by simp)]
  case indexAddr t x i => show oIndexAddr C h t (ev e x) (ev e i) = oIndexAddr C h t (ev e2 x) (ev e2 i); rw [hs x (by simp), hs i (by simp)]
  case index t x i => show oIndex C h t (ev e x) (ev e i) = oIndex C h t (ev e2 x) (ev e2 i); rw [hs x (by simp), hs i (by simp)]
  case extract x i => show oExtract h i (ev e x) = oExtract h i (ev e2 x); rw [hs x (by simp)]
  case call c =>
    show oBuiltin C h c.argTypes.toList (evs e c.args.toList) c.callee = oBuiltin C h c.argTypes.toList (evs e2 c.args.toList) c.callee
    rw [same_evs fun x hx => hs x (by simp [Call.operands]; exact .inr (by simpa using hx))]
theorem same_call {e e2 : Env} {op : Op} (hs : ∀ x ∈ op.operands, ev e x = ev e2 x) : callA e op = callA e2 op := by
  cases op <;> try rfl
  case call c =>
    simp only [Op.operands] at hs
    obtain ⟨callee, args, ts⟩ := c
    show calleeA e args.toList callee = calleeA e2 args.toList callee
    cases callee with
    | value f =>
      show targetA (ev e f) (evs e args.toList) = targetA (ev e2 f) (evs e2 args.toList)
      rw [hs f (by simp [Call.operands]), same_evs fun x hx => hs x (by simp [Call.operands]; exact .inr (by simpa using hx))]
    | invoke r m => rfl
    | builtin b => rfl

theorem same_step {call : CallF} {e e2 : Env} {h h' : Hp} {o : Oper} {v : AV} (hs : SameOn ops o e e2) (hst : StepTo C call ops.toList e h o v h') : StepTo C call ops.toList e2 h o v h' := by
  have hop : ∀ x ∈ o.op.operands, ev e x = ev e2 x := fun x hx => same_ev hs hx
  have hw : wantedA ops.toList e o.guard = wantedA ops.toList e2 o.guard := by
    cases hg : o.guard with
    | none => rfl
    | some q =>
      obtain ⟨j, want⟩ := q
      show guardA e want ops.toList[j]? = guardA e2 want ops.toList[j]?
      cases hj : ops.toList[j]? with
      | none => rfl
      | some oj =>
        unfold guardA
        dsimp only
        cases hd : oj.dst with
        | none => rfl
        | some d =>
          dsimp only
          rw [hs d (List.mem_append_right _ (by
            have : ops[j]? = some oj := by simpa using hj
            simp [hg, this, hd]))]
  unfold StepTo at *
  unfold resOp at *
  rw [← hw, ← same_call hop, ← same_op h hop]
  exact hst

theorem withH_ext {v : Option AV} {h h2 : Hp} {r : AV × Hp} (hr : withH h v = some r) : r.2 = h ∧ withH h2 v = some (r.1, h2) := by
  obtain ⟨x, rfl, rfl⟩ := withH_some hr
  exact ⟨rfl, rfl⟩

theorem slice_ext {t : TypeId} {x : AV} {lo hi mx : Option AV} {h h2 : Hp} {r : AV × Hp} (hr : sliceA C h t x lo hi mx = some r) : r.2 = h ∧ sliceA C h2 t x lo hi mx = some (r.1, h2) := by
  unfold sliceA at *
  cases ht : C.tys.get t with
  | none => rw [ht] at hr; cases hr
  | some ti =>
    rw [ht] at hr
    dsimp only at hr ⊢
    cases hd : ti.desc <;> rw [hd] at hr <;> try (cases hr; done)
    case array n e =>
      dsimp only at hr ⊢
      split at hr
      · rename_i te b off he
        cases hb : boundsA n n lo hi mx with
        | none => rw [hb] at hr; cases hr
        | some q => obtain ⟨l, rr, m⟩ := q; rw [hb] at hr; cases hr; exact ⟨rfl, rfl⟩
      · cases hr
    case string =>
      dsimp only at hr ⊢
      split at hr
      · rename_i s
        cases hb : boundsA s.size s.size lo hi none with
        | none => rw [hb] at hr; cases hr
        | some q => obtain ⟨l, rr, m⟩ := q; rw [hb] at hr; cases hr; exact ⟨rfl, by simp⟩
      · cases hr
    case slice e =>
      dsimp only at hr ⊢
      cases he : C.tys.get e with
      | none => rw [he] at hr; cases hr
      | some te =>
        rw [he] at hr
        dsimp only at hr ⊢
        split at hr
        · cases hb : boundsA 0 0 lo hi mx with
          | none => rw [hb] at hr; cases hr
          | some q => rw [hb] at hr; cases hr; exact ⟨rfl, rfl⟩
        · rename_i b off len cap z
          cases hb : boundsA len cap lo hi mx with
          | none => rw [hb] at hr; cases hr
          | some q => obtain ⟨l, rr, m⟩ := q; rw [hb] at hr; cases hr; exact ⟨rfl, by simp⟩
        · rename_i b off len o z
          cases hb : boundsA len len lo hi mx with
          | none => rw [hb] at hr; cases hr
          | some q =>
            obtain ⟨l, rr, m⟩ := q
            rw [hb] at hr
            dsimp only at hr ⊢
            cases mx with
            | none => cases hr; exact ⟨rfl, by simp⟩
            | some _ =>
              dsimp only at hr
              cases hc : (Nat.beq m 0 && !(Nat.beq z off)) with
              | true => rw [hc] at hr; cases hr
              | false => rw [hc] at hr; cases hr; exact ⟨rfl, rfl⟩
        · cases hr

theorem builtin_ext {b : Builtin} (hb : kindB b = 0) {ts : List TypeId} {vs : List AV} {h h2 : Hp} {r : AV × Hp} (hr : builtinA C h b ts vs = some r) : r.2 = h ∧ builtinA C h2 b ts vs = some (r.1, h2) := by
  unfold builtinA at *
  split at hr <;> try (cases hb; done)
  · rename_i t x
    cases ht : C.tys.get t with
    | none => rw [ht] at hr; cases hr
    | some ti =>
      rw [ht] at hr
      dsimp only at hr ⊢
      split at hr <;> first | (cases hr; done) | (cases hr; exact ⟨rfl, rfl⟩)
  · rename_i t x
    cases ht : C.tys.get t with
    | none => rw [ht] at hr; cases hr
    | some ti =>
      rw [ht] at hr
      dsimp only at hr ⊢
      split at hr <;> first | (cases hr; done) | (cases hr; exact ⟨rfl, rfl⟩)
  · rename_i a b
    cases hp : pureV (Builtin.min_ #[] 0 #[a, b]) with
    | none => rw [hp] at hr; cases hr
    | some v => rw [hp] at hr; cases hr; exact ⟨rfl, rfl⟩
  · rename_i a b
    cases hp : pureV (Builtin.max_ #[] 0 #[a, b]) with
    | none => rw [hp] at hr; cases hr
    | some v => rw [hp] at hr; cases hr; exact ⟨rfl, rfl⟩
  · rename_i a
    cases hp : pureV (Builtin.real_ #[] 0 #[a]) with
    | none => rw [hp] at hr; cases hr
    | some v => rw [hp] at hr; cases hr; exact ⟨rfl, rfl⟩
  · rename_i a
    cases hp : pureV (Builtin.imag_ #[] 0 #[a]) with
    | none => rw [hp] at hr; cases hr
    | some v => rw [hp] at hr; cases hr; exact ⟨rfl, rfl⟩
  · rename_i a b
    cases hp : pureV (Builtin.complex_ #[] 0 #[a, b]) with
    | none => rw [hp] at hr; cases hr
    | some v => rw [hp] at hr; cases hr; exact ⟨rfl, rfl⟩
  · cases hr

theorem kind0_op {op : Op} (hk : kindA op = 0) {e : Env} {h : Hp} : callA e op = none ∧ ∀ r, opA C e h op = some r → r.2 = h ∧ ∀ h2, opA C e h2 op = some (r.1, h2) := by
  cases op <;> (try (cases hk; done)) <;> refine ⟨?_, fun r hr => ?_⟩ <;> try rfl
  case move x => exact ⟨(withH_ext (h2 := h) hr).1, fun h2 => (withH_ext hr).2⟩
  case assign x => exact ⟨(withH_ext (h2 := h) hr).1, fun h2 => (withH_ext hr).2⟩
  case pick c x y =>
    change pickA h (ev e x) (ev e y) (ev e c) = some r at hr
    have : r.2 = h ∧ ∀ h2, pickA h2 (ev e x) (ev e y) (ev e c) = some (r.1, h2) := by
      unfold pickA at *
      split at hr
      · exact ⟨(withH_ext (h2 := h) hr).1, fun h2 => (withH_ext hr).2⟩
      · exact ⟨(withH_ext (h2 := h) hr).1, fun h2 => (withH_ext hr).2⟩
      · cases hr
    exact this
  case build t ps =>
    change oBuild C h t (evParts e ps.toList) = some r at hr
    show r.2 = h ∧ ∀ h2, oBuild C h2 t (evParts e ps.toList) = some (r.1, h2)
    cases hx : evParts e ps.toList with
    | none => rw [hx] at hr; cases hr
    | some qs => rw [hx] at hr; exact ⟨(withH_ext (h2 := h) hr).1, fun h2 => (withH_ext hr).2⟩
  case nilCheck x =>
    change nilCheckA h (ev e x) = some r at hr
    show r.2 = h ∧ ∀ h2, nilCheckA h2 (ev e x) = some (r.1, h2)
    unfold nilCheckA at *
    split at hr
    · cases hr; exact ⟨rfl, fun _ => rfl⟩
    · cases hr
  case binOp op t x y yt =>
    change oBin C h op t (ev e x) (ev e y) = some r at hr
    show r.2 = h ∧ ∀ h2, oBin C h2 op t (ev e x) (ev e y) = some (r.1, h2)
    unfold oBin at *
    split at hr
    · exact ⟨(withH_ext (h2 := h) hr).1, fun h2 => (withH_ext hr).2⟩
    · cases hr
  case unOp op t x =>
    change oUn h op (ev e x) = some r at hr
    show r.2 = h ∧ ∀ h2, oUn h2 op (ev e x) = some (r.1, h2)
    unfold oUn at *
    split at hr
    · exact ⟨(withH_ext (h2 := h) hr).1, fun h2 => (withH_ext hr).2⟩
    · cases hr
  case convert s d x =>
    change oConv C h d (C.tys.get s) (ev e x) = some r at hr
    show r.2 = h ∧ ∀ h2, oConv C h2 d (C.tys.get s) (ev e x) = some (r.1, h2)
    unfold oConv at *
    split at hr
    · exact ⟨(withH_ext (h2 := h) hr).1, fun h2 => (withH_ext hr).2⟩
    · cases hr
  case makeFunc f first captured =>
    change oFn h f first.toList (evs e captured.toList) = some r at hr
    show r.2 = h ∧ ∀ h2, oFn h2 f first.toList (evs e captured.toList) = some (r.1, h2)
    unfold oFn at *
    split at hr
    · cases hr; exact ⟨rfl, fun _ => rfl⟩
    · cases hr
  case slice t x lo hi mx =>
    change oSlice C h t (ev e x) (evo e lo) (evo e hi) (evo e mx) = some r at hr
    show r.2 = h ∧ ∀ h2, oSlice C h2 t (ev e x) (evo e lo) (evo e hi) (evo e mx) = some (r.1, h2)
    unfold oSlice at *
    split at hr
    · exact ⟨(slice_ext (h2 := h) hr).1, fun h2 => (slice_ext hr).2⟩
    · cases hr
  case fieldAddr t x f =>
    change oFieldAddr C h t f (ev e x) = some r at hr
    show r.2 = h ∧ ∀ h2, oFieldAddr C h2 t f (ev e x) = some (r.1, h2)
    unfold oFieldAddr at *
    split at hr
    · exact ⟨(withH_ext (h2 := h) hr).1, fun h2 => (withH_ext hr).2⟩
    · cases hr
  case field t x f =>
    change oField C h t f (ev e x) = some r at hr
    show r.2 = h ∧ ∀ h2, oField C h2 t f (ev e x) = some (r.1, h2)
    unfold oField at *
    split at hr
    · exact ⟨(withH_ext (h2 := h) hr).1, fun h2 => (withH_ext hr).2⟩
    · cases hr
  case indexAddr t x i =>
    change oIndexAddr C h t (ev e x) (ev e i) = some r at hr
    show r.2 = h ∧ ∀ h2, oIndexAddr C h2 t (ev e x) (ev e i) = some (r.1, h2)
    unfold oIndexAddr at *
    split at hr
    · exact ⟨(withH_ext (h2 := h) hr).1, fun h2 => (withH_ext hr).2⟩
    · cases hr
  case index t x i =>
    change oIndex C h t (ev e x) (ev e i) = some r at hr
    show r.2 = h ∧ ∀ h2, oIndex C h2 t (ev e x) (ev e i) = some (r.1, h2)
    unfold oIndex at *
    split at hr
    · exact ⟨(withH_ext (h2 := h) hr).1, fun h2 => (withH_ext hr).2⟩
    · cases hr
  case extract x i =>
    change oExtract h i (ev e x) = some r at hr
    show r.2 = h ∧ ∀ h2, oExtract h2 i (ev e x) = some (r.1, h2)
    unfold oExtract at *
    split at hr
    · exact ⟨(withH_ext (h2 := h) hr).1, fun h2 => (withH_ext hr).2⟩
    · cases hr
  case call.refine_1 c =>
    obtain ⟨callee, args, ts⟩ := c
    cases callee <;> first | (cases hk; done) | rfl
  case call.refine_2 c =>
    change oBuiltin C h c.argTypes.toList (evs e c.args.toList) c.callee = some r at hr
    show r.2 = h ∧ ∀ h2, oBuiltin C h2 c.argTypes.toList (evs e c.args.toList) c.callee = some (r.1, h2)
    obtain ⟨callee, args, ts⟩ := c
    cases callee <;> try (cases hk; done)
    case builtin b =>
      change kindB b = 0 at hk
      cases hx : evs e args.toList with
      | none => rw [hx] at hr; cases hr
      | some vs => rw [hx] at hr; exact ⟨(builtin_ext (h2 := h) hk hr).1, fun h2 => (builtin_ext hk hr).2⟩

theorem kind1_op {op : Op} (hk : kindA op = 1) {e : Env} {h : Hp} : callA e op = none ∧ ∀ r, opA C e h op = some r → r.2 = h := by
  cases op <;> try (cases hk; done)
  case load t x =>
    refine ⟨rfl, fun r hr => ?_⟩
    change oLoad h (C.tys.get t) (ev e x) = some r at hr
    unfold oLoad at hr
    split at hr
    · rename_i ti n off _ _
      cases hd : isAggD ti.desc with
      | true =>
        rw [hd, cond_true] at hr
        cases hl : load h n off ti.size with
        | none => rw [hl] at hr; cases hr
        | some cs => rw [hl] at hr; cases hr; rfl
      | false =>
        rw [hd, cond_false] at hr
        cases hl : load h n off 1 with
        | none => rw [hl] at hr; cases hr
        | some cs =>
          rw [hl] at hr
          unfold oneH at hr
          split at hr
          · cases hr; rfl
          · cases hr
    · cases hr
  case call c =>
    obtain ⟨callee, args, ts⟩ := c
    cases callee with
    | value f => cases hk
    | invoke r m => cases hk
    | builtin b => cases b <;> cases hk

theorem step_kind0 {call : CallF} {all : List Oper} {e : Env} {h h' : Hp} {o : Oper} {v : AV} (hk : kindA o.op = 0) (hs : StepTo C call all e h o v h') : h' = h ∧ ∀ h2, StepTo C call all e h2 o v h2 := by
  rcases hs with ⟨h1, h2, h3⟩ | ⟨h1, h2⟩
  · exact ⟨h3, fun h2' => .inl ⟨h1, h2, rfl⟩⟩
  · obtain ⟨k1, k2⟩ := kind0_op (C := C) hk (e := e) (h := h)
    unfold resOp at h2
    rw [k1] at h2
    dsimp only at h2
    obtain ⟨l1, l2⟩ := k2 _ h2
    exact ⟨l1, fun h2' => .inr ⟨h1, by unfold resOp; rw [k1]; exact l2 h2'⟩⟩
theorem step_kind1 {call : CallF} {all : List Oper} {e : Env} {h h' : Hp} {o : Oper} {v : AV} (hk : kindA o.op = 1) (hs : StepTo C call all e h o v h') : h' = h := by
  rcases hs with ⟨h1, h2, h3⟩ | ⟨h1, h2⟩
  · exact h3
  · obtain ⟨k1, k2⟩ := kind1_op (C := C) hk (e := e) (h := h)
    unfold resOp at h2
    rw [k1] at h2
    exact k2 _ h2
end
end Go.Proofs.Abs
