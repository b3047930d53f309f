import Derived.Test.YtolpndlnabodgaaO3
namespace Go.Proofs.Abs
open Go Go.RowKit
set_option linter.unusedSimpArgs false
set_option linter.unusedVariables false
section
variable {C : Ctx} {t : TypeId} {e : TypeId} {ti te : TI} {M : List Nat} {h0 h h' : Hp} {L L' Z : List As} {k : OpsK} {dst : Option Tmp} {env : Env} {Q : Env → Hp → Prop}
theorem ble_f {a b : Nat} (h : b < a) : Nat.ble a b = false := by
  cases hb : Nat.ble a b with
  | false => rfl
  | true => have := Nat.le_of_ble_eq_true hb; omega
end
section
variable {C : Ctx} {t : TypeId} {e : TypeId} {ti te : TI} {M : List Nat} {h0 h h' : Hp} {L L' Z : List As} {k : OpsK} {dst : Option Tmp} {env : Env} {Q : Env → Hp → Prop}
theorem wo_sl1 {c : Bool} {w : AV} {ys : List AV} (H : Hs M h0 h L Z) (hm : lc c w ys ∈ Z) (ht : C.tys.get t = some ti) (hd : ti.desc = .slice e) (he : C.tys.get e = some te) (hs : te.size = 1) (hl : 1 ≤ ys.length)
    (h1 : ∀ w', Lc false h w' (ys.drop 1) → nmO w' = nmO w → Hs M h0 h L (isl w' (ys.drop 1) :: lc false w' (ys.drop 1) :: Z) → Wo (k (putA env w' dst) h) Q) :
    Wo (afterA k env dst (sliceA C h t w (some (I 1)) none none)) Q := wo_sla H hm ht hd he hs (i := 1) (a := 1) rfl hl h1
end
section
variable {M : List Nat} {h0 h h' : Hp} {L Z : List As}
end
end Go.Proofs.Abs
