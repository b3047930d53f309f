import Derived.Test.YtpioenfglmimgaaW3
namespace Go.Proofs.Abs
open Go Go.RowKit
set_option linter.unusedSimpArgs false
set_option linter.unusedVariables false
/-! The first parts of a text by evaluation, the rest by a walk. -/
section
variable {C : Ctx} {call : CallF} {N : Nat}
def cutC : Nat → Code → Code
  | 0, _ => .skip
  | n + 1, .seq a b => .seq a (cutC n b)
  | _, _ => .ret
def restC : Nat → Code → Code
  | 0, c => c
  | n + 1, .seq _ b => restC n b
  | _, c => c
theorem wc_cutk {Q : AEx → Env → Hp → Prop} : ∀ (k n : Nat) (c : Code) (e : Env) (h : Hp) (e' : Env) (h' : Hp), codeA C call N (n + k) (cutC k c) e h = some (.normal, e', h') → Wc (codeA C call N n (restC k c) e' h') Q → Wc (codeA C call N (n + k) c e h) Q := by
  intro k
  induction k with
  | zero =>
    intro n c e h e' h' hr hq
    cases n with
    | zero => cases hr
    | succ n =>
      cases hr
      exact hq
  | succ k ih =>
    intro n c e h e' h' hr hq
    cases c with
    | seq a b =>
      change thenA (codeA C call N (n + k) (cutC k b)) (codeA C call N (n + k) a e h) = some (.normal, e', h') at hr
      show Wc (thenA (codeA C call N (n + k) b) (codeA C call N (n + k) a e h)) Q
      cases hx : codeA C call N (n + k) a e h with
      | none => rw [hx] at hr; cases hr
      | some q =>
        obtain ⟨x, e1, h1⟩ := q
        rw [hx] at hr
        cases x with
        | normal => exact ih n b e1 h1 e' h' hr hq
        | exit j => cases hr
        | goto l => cases hr
        | ret => cases hr
    | _ => exact absurd hr (by intro hr; change some (AEx.ret, e, h) = some (.normal, e', h') at hr; cases hr)
def envOf : Option (AEx × Env × Hp) → Env
  | some (_, e, _) => e
  | none => .leaf
def hpOf : Option (AEx × Env × Hp) → Hp
  | some (_, _, h) => h
  | none => ⟨.leaf, 0, fun _ _ => none⟩
def avOf : Option AV → AV
  | some v => v
  | none => uv
/-- memory without anything -/
abbrev h0 : Hp := ⟨.leaf, 0, fun _ _ => none⟩
end
end Go.Proofs.Abs
