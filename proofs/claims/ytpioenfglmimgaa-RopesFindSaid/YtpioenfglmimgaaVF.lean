import Derived.Test.YtpioenfglmimgaaVE
import Derived.KernelRfl
namespace Go.Proofs.Ytpioenfglmimgaa
open Go Go.Proofs Go.RowKit Go.Proofs.Abs
set_option linter.unusedSimpArgs false
set_option linter.unusedVariables false
theorem sum_sub : ∀ {X Y : List Int}, X.Sublist Y → (∀ y, y ∈ Y → 0 ≤ y) → X.sum ≤ Y.sum := by
  intro X Y h
  induction h with
  | slnil => intro _; exact Int.le_refl _
  | cons a h ih =>
    intro hy
    rw [List.sum_cons]
    have := ih (fun y h2 => hy y (.tail _ h2))
    have := hy a (.head _)
    omega
  | cons_cons a h ih =>
    intro hy
    rw [List.sum_cons, List.sum_cons]
    have := ih (fun y h2 => hy y (.tail _ h2))
    omega
def remL (l : List Int) (j q : Nat) : List Int := l.take j ++ l.drop (j + q)
def movL (l : List Int) (j q z : Nat) : List Int := (remL l j q).take z ++ (l.drop j).take q ++ (remL l j q).drop z
def insL (l : List Int) (j : Nat) (xs : List Int) : List Int := l.take j ++ xs ++ l.drop j
def insE (l xs : List Int) : Int := if chk xs = 0 then joinE l xs else chk xs
end Go.Proofs.Ytpioenfglmimgaa
