import Derived.Test.YtdbajhklnaekjaaR1
import Derived.KernelRfl
namespace Go.Proofs.Ytdbajhklnaekjaa
open Go Go.Proofs Go.RowKit Go.Proofs.Abs
set_option linter.unusedSimpArgs false
set_option linter.unusedVariables false
/-! calls of the law -/
theorem w9 (h : Hp) : Wv (all8 9 [] h) (fun r h' => r = Bo true ∧ h' = h) := ⟨_, _, plus_lit rfl, rfl, rfl⟩
theorem all_run {f : Nat} (hf : isLives f = false) (args : List AV) (h : Hp) : all8 f args h = runA ctx 5000 8 f args h := plus_not hf
end Go.Proofs.Ytdbajhklnaekjaa
