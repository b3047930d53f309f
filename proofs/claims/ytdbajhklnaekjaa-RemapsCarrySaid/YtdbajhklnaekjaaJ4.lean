import Derived.Test.YtdbajhklnaekjaaJ3
import Derived.KernelRfl
namespace Go.Proofs.Ytdbajhklnaekjaa
open Go Go.Proofs Go.RowKit Go.Proofs.Abs
set_option linter.unusedSimpArgs false
set_option linter.unusedVariables false
open Go.Proofs.Abs
def plc (N : Nat) (xs : List Int) : List Int := (List.range N).map fun (j : Nat) => atF (j : Int) xs 0
end Go.Proofs.Ytdbajhklnaekjaa
