import Derived.Test.YtpioenfglmimgaaCtx
import Derived.KernelRfl
namespace Go.Proofs.Ytpioenfglmimgaa
open Go Go.Proofs Go.RowKit
set_option maxRecDepth 100000 in
theorem lives_eval : Abs.isTrue (Abs.runA ctx 5000 60 9 (Abs.litCells []) ⟨.leaf, 0, fun _ _ => none⟩) = true := by kernel_rfl
/-- the examples of the chapter hold -/
theorem lives_true (w : World) : Calls Try.prog 9 #[] w fun en w' => en = .returned (.bool true) ∧ Below w.heap.size w w' :=
  Abs.run_true tysOk funsOk mixed (fun fn h => by rw [Try.func9] at h; cases h; rfl) lives_eval w
#print axioms lives_true
end Go.Proofs.Ytpioenfglmimgaa
