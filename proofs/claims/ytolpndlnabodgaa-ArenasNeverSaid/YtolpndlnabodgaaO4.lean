import Derived.Test.YtolpndlnabodgaaO3
namespace Go.Proofs.Abs
open Go Go.RowKit
set_option linter.unusedSimpArgs false
set_option linter.unusedVariables false
section
variable {C : Ctx} {t : TypeId} {e : TypeId} {ti te : TI} {M : List Nat} {h0 h h' : Hp} {L L' Z : List As} {k : OpsK} {dst : Option Tmp} {env : Env} {Q : Env → Hp → Prop}
end
section
variable {C : Ctx} {t : TypeId} {e : TypeId} {ti te : TI} {M : List Nat} {h0 h h' : Hp} {L L' Z : List As} {k : OpsK} {dst : Option Tmp} {env : Env} {Q : Env → Hp → Prop}
end
section
variable {M : List Nat} {h0 h h' : Hp} {L Z : List As}
end
end Go.Proofs.Abs
