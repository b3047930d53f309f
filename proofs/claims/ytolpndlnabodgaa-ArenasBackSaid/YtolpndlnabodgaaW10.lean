import Derived.Test.YtolpndlnabodgaaW9
namespace Go.Proofs.Abs
open Go Go.RowKit
set_option linter.unusedSimpArgs false
set_option linter.unusedVariables false
/-! Parts of lists that were put together by append. -/
section
variable {C : Ctx} {t e : TypeId} {ti te : TI}
/-- w stands for a part of a list: k elements from i on -/
structure Src (h : Hp) (v : AV) (cs : List AV) (i k : Nat) (w : AV) : Prop where
  len : lenA w = some k
  el : ∀ h', (∀ n, nmO v = some n → h'.m.get n = h.m.get n) → elemsA h' 1 k w = some ((cs.drop i).take k)
theorem ones_map {α : Type} (f : α → AV) (hf : ∀ x, oneA (f x) = true) : ∀ l : List α, onesA (l.map f) = true
  | [] => rfl
  | x :: l => by rw [List.map_cons, onesA_cons', hf, ones_map f hf l]; rfl
end
end Go.Proofs.Abs
