import Derived.Test.YtpioenfglmimgaaS12
import Derived.WalkKit
import Derived.Orders
import Derived.LoopN
import Derived.Laws.CopyRow
import Derived.Laws.Tables
import Derived.Laws.Rows
import Derived.Great.BuildSlice
import Derived.Laws.MakeOwn
import Derived.Laws.Append
import Derived.Laws.AppendOwn
import Derived.Lib.Strings
import Derived.WalkSpells
import Derived.Lib.SliceRun
namespace Go.Proofs.Abs
open Go Go.RowKit
set_option linter.unusedSimpArgs false
set_option linter.unusedVariables false
/-! The evaluator at a program: what its tables owe. -/
section
variable {P : Program} {C : Ctx}

/-- every entry of a tree, at its number -/
def T.AllP {α : Type} (p : Nat → α → Prop) : (Nat → Nat) → T α → Prop
  | _, .leaf => True
  | g, .node l v r => T.AllP p (fun j => g (2 * j + 1)) l ∧ (∀ x, v = some x → p (g 0) x) ∧ T.AllP p (fun j => g (2 * j + 2)) r
theorem T.allP {α : Type} {p : Nat → α → Prop} : ∀ (t : T α) (g : Nat → Nat), T.AllP p g t → ∀ k x, t.get k = some x → p (g k) x := by
  intro t
  induction t with
  | leaf => intro g _ k x h; rw [T.get_leaf] at h; cases h
  | node l v r ihl ihr =>
    intro g h k x hx
    obtain ⟨h1, h2, h3⟩ := h
    cases k with
    | zero => exact h2 x hx
    | succ j =>
      rw [T.get_succ] at hx
      by_cases hj : j % 2 = 1
      · rw [if_pos hj] at hx
        have := ihr _ h3 (j / 2) x hx
        rwa [show 2 * (j / 2) + 2 = j + 1 from by omega] at this
      · rw [if_neg hj] at hx
        have := ihl _ h1 (j / 2) x hx
        rwa [show 2 * (j / 2) + 1 = j + 1 from by omega] at this
theorem some_p {α : Type} {q : α → Prop} {x : α} (h : q x) : ∀ y, some x = some y → q y := fun y e => by cases e; exact h
theorem none_p {α : Type} {q : α → Prop} : ∀ y, (none : Option α) = some y → q y := fun y e => by cases e

theorem TyOk.mk' {t : TypeId} {ti : TI} (hd : P.underlying t = some ti.desc) (hi : (P.info? t).map (fun i => (i.size, i.bytes, i.zero)) = some (ti.size, ti.bytes, some ti.zero)) (hz : ti.zero.cells.size = ti.size)
    (hf : ∀ fs, ti.desc = .struct fs → ∃ places, fs.toList.mapM (fun f => (P.info? f.type).map fun i => (f.offset, i.size)) = some places) (he : ti.cmp = true → P.stoodInHeld t = false ∧ P.eqGuardType P.depth t = false) : TyOk P t ti := by
  refine ⟨hd, ?_, hz, hf, he⟩
  cases h : P.info? t with
  | none => rw [h] at hi; cases hi
  | some i =>
    rw [h] at hi
    simp only [Option.map_some, Option.some.injEq, Prod.mk.injEq] at hi
    exact ⟨i, rfl, hi.1, hi.2.1, hi.2.2⟩

def textOk (fn : Func) : Bool :=
  match fn.body with
  | some c => codeOk fn.ntmps c
  | none => match extK fn.name with
    | none => true
    | some _ => false
theorem FunOk.mk' {f : FuncId} {fn : Func} (h1 : P.funcs[f]? = some fn) (h2 : (fn.name == "runtime.NumGoroutine") = false) (h3 : textOk fn = true) : FunOk P f fn :=
  ⟨h1, h2, fun c hc => (by unfold textOk at h3; rw [hc] at h3; exact h3), fun hb k hk => (by unfold textOk at h3; rw [hb] at h3; dsimp only at h3; rw [hk] at h3; cases h3)⟩

theorem FunOk.mkX {f : FuncId} {fn : Func} (k : ExtK) (h1 : P.funcs[f]? = some fn) (h2 : (fn.name == "runtime.NumGoroutine") = false) (h3 : fn.body.isNone = true) (hk : extK fn.name = some k) (h4 : Extern.findNext fn = none) (h5 : Extern.find fn = some (extF k)) : FunOk P f fn :=
  ⟨h1, h2, fun c hc => (by rw [hc] at h3; cases h3), fun _ k' hk' => (by rw [hk] at hk'; cases hk'; exact ⟨h4, h5⟩)⟩

def isTrue : Option (AV × Hp) → Bool
  | some (.lit (.bool b), _) => b
  | _ => false
theorem isTrue_some {r : Option (AV × Hp)} (h : isTrue r = true) : ∃ h', r = some (.lit (.bool true), h') := by
  unfold isTrue at h
  split at h
  · rename_i b h'
    subst h
    exact ⟨h', rfl⟩
  · cases h

/-- A CALL THAT THE EVALUATOR FINDS TRUE -/
theorem run_true (hT : TysOk P C) (hF : ∀ f fn, C.funs.get f = some fn → FunOk P f fn) (hm : P.follows .mixedOrders = true) {N n : Nat} {f : FuncId} {vs : List Value}
    (hbody : ∀ fn, P.funcs[f]? = some fn → fn.body.isNone = false) (hr : isTrue (runA C N n f (litCells vs) ⟨.leaf, 0, fun _ _ => none⟩) = true) (w : World) : Calls P f vs.toArray w fun en w' => en = .returned (.bool true) ∧ Below w.heap.size w w' := by
  obtain ⟨h', h⟩ := isTrue_some hr
  exact run_calls hT hF hm hbody h w
end
end Go.Proofs.Abs
