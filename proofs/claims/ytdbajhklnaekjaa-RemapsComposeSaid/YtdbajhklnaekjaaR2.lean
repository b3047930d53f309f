import Derived.Test.YtdbajhklnaekjaaR1
import Derived.KernelRfl
namespace Go.Proofs.Ytdbajhklnaekjaa
open Go Go.Proofs Go.RowKit Go.Proofs.Abs
set_option linter.unusedSimpArgs false
set_option linter.unusedVariables false
/-! calls of the law -/
theorem w9 (h : Hp) : Wv (all8 9 [] h) (fun r h' => r = Bo true ∧ h' = h) := ⟨_, _, plus_lit rfl, rfl, rfl⟩
theorem all_run {f : Nat} (hf : isLives f = false) (args : List AV) (h : Hp) : all8 f args h = runA ctx 5000 8 f args h := plus_not hf
theorem k18 (h : Hp) (g v : AV) (o e0 : Int) (xs : List Int) (hg : OwnS h g xs) (hv : IsL h v (xs.map I)) (hn : xs.length ≤ 4500) : Wv (all8 18 [.agg [I o, g], I e0, I o, v, I e0] h) (fun r h' => r = Bo true ∧ Ext h h') := by
  rw [all_run rfl]; exact c18 6 h g v o e0 xs hg hv hn

end Go.Proofs.Ytdbajhklnaekjaa
