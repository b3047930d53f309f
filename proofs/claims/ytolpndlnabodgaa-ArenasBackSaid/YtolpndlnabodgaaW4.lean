import Derived.Test.YtolpndlnabodgaaW3
namespace Go.Proofs.Abs
open Go Go.RowKit
set_option linter.unusedSimpArgs false
set_option linter.unusedVariables false
/-! The first parts of a text by evaluation, the rest by a walk. -/
section
variable {C : Ctx} {call : CallF} {N : Nat}
def cutC : Nat → Code → Code
  | 0, _ => .skip
  | n + 1, .seq a b => .seq a (cutC n b)
  | _, _ => .ret
def restC : Nat → Code → Code
  | 0, c => c
  | n + 1, .seq _ b => restC n b
  | _, c => c
def envOf : Option (AEx × Env × Hp) → Env
  | some (_, e, _) => e
  | none => .leaf
def hpOf : Option (AEx × Env × Hp) → Hp
  | some (_, _, h) => h
  | none => ⟨.leaf, 0, fun _ _ => none⟩
def avOf : Option AV → AV
  | some v => v
  | none => uv
/-- memory without anything -/
abbrev h0 : Hp := ⟨.leaf, 0, fun _ _ => none⟩
end
end Go.Proofs.Abs
