import Derived.Test.YtolpndlnabodgaaW5
namespace Go.Proofs.Abs
open Go Go.RowKit
set_option linter.unusedSimpArgs false
set_option linter.unusedVariables false
/-! Regions in which reads and changes are not ordered, walked. -/
section
variable {C : Ctx} {call : CallF}
end
end Go.Proofs.Abs
