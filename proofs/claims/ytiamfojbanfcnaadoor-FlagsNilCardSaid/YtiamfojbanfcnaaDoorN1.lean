import Derived.Test.YtiamfojbanfcnaaDoorCtx
import Derived.Test.YtiamfojbanfcnaaDoorW4
import Derived.KernelRfl
namespace Go.Proofs.YtiamfojbanfcnaaDoor
open Go Go.Proofs Go.RowKit
set_option linter.unusedSimpArgs false
set_option linter.unusedVariables false
open Go.Proofs.Abs
def In (a : Int) : Prop := -9223372036854775808 ≤ a ∧ a ≤ 9223372036854775807
/-- the function that is known already -/
def isLives (f : Nat) : Bool := Nat.beq f 9
noncomputable def all8 : CallF := plus isLives (runA ctx 5000 8)
set_option maxRecDepth 100000 in
theorem nil_eval (z0 z1 : Int) : isTrue (funA ctx all8 5000 [I z0, I z1] h0 (ctx.funs.get 7)) = true := by kernel_rfl
theorem nil_law (z0 z1 : Int) (r0 : In z0) (r1 : In z1) : Wv (funA ctx all8 5000 [I z0, I z1] h0 (ctx.funs.get 7)) (fun v _ => v = Bo true) := by
  obtain ⟨h', h⟩ := isTrue_some (nil_eval z0 z1)
  exact ⟨_, h', h, rfl⟩
end Go.Proofs.YtiamfojbanfcnaaDoor
