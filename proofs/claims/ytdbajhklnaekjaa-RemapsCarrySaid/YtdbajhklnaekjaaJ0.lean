import Derived.Test.YtdbajhklnaekjaaY5
import Derived.Test.YtdbajhklnaekjaaH1
import Derived.KernelRfl
namespace Go.Proofs.Ytdbajhklnaekjaa
open Go Go.Proofs Go.RowKit Go.Proofs.Abs
set_option linter.unusedSimpArgs false
set_option linter.unusedVariables false
theorem nat_of {a : Int} (h : 0 ≤ a) : ∃ k : Nat, a = Int.ofNat k := ⟨a.toNat, by simp; omega⟩

end Go.Proofs.Ytdbajhklnaekjaa
