import Derived.Test.YtmcbkmmipgaeoaaB7
import Derived.KernelRfl
namespace Go.Proofs.Ytmcbkmmipgaeoaa
open Go Go.Proofs Go.RowKit
set_option linter.unusedSimpArgs false
set_option linter.unusedVariables false
open Go.Proofs.Abs
def In (a : Int) : Prop := -9223372036854775808 ≤ a ∧ a ≤ 9223372036854775807
def Inu8 (a : Int) : Prop := 0 ≤ a ∧ a ≤ 255
theorem moves_law2 (h : Hp) (v : AV) (ms : List Bool) (p n : Int) (hv : InB h v ms) (hb : True) (hp : Inu8 p) (hn : Inu8 n) : Wv (funA ctx all8 5000 [.agg [v], .lit (.int .u8 p), .lit (.int .u8 n)] h (ctx.funs.get 6)) (fun v _ => v = Bo true) := by
  obtain ⟨p, rfl⟩ := Int.eq_ofNat_of_zero_le hp.1
  obtain ⟨n, rfl⟩ := Int.eq_ofNat_of_zero_le hn.1
  exact moves_law h v ms p n hv (by have := hp.2; omega) (by have := hn.2; omega)
end Go.Proofs.Ytmcbkmmipgaeoaa
