import Derived.Test.YtpioenfglmimgaaW5
namespace Go.Proofs.Abs
open Go Go.RowKit
set_option linter.unusedSimpArgs false
set_option linter.unusedVariables false
/-! Regions in which reads and changes are not ordered, walked. -/
section
variable {C : Ctx} {call : CallF}
theorem trA_nil (all : List Oper) (e : Env) (h : Hp) : trA C call all [] e h = some [(e, h)] := rfl
theorem trA_cons (all : List Oper) (o : Oper) (l : List Oper) (e : Env) (h : Hp) : trA C call all (o :: l) e h = nextT (trA C call all l) e h (opsA C call all [o] e h) := rfl
theorem checksD_nil (all : List Oper) (tr : List (Env × Hp)) : checksD C all tr [] = true := rfl
theorem checksD_cons (all : List Oper) (tr : List (Env × Hp)) (p : Nat × Nat) (ps : List (Nat × Nat)) : checksD C all tr (p :: ps) = (checkD C all all[p.1]? tr[p.1]? tr[p.2]? && checksD C all tr ps) := rfl
theorem avB_int (x : Int) : avB 4 (.lit (.int .i64 x)) (.lit (.int .i64 x)) = true := by
  show litB (.int .i64 x) (.int .i64 x) = true
  simp [litB]
end
end Go.Proofs.Abs
