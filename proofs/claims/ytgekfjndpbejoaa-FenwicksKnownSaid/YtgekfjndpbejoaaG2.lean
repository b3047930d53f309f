import Derived.Test.YtgekfjndpbejoaaG1
import Derived.Test.YtgekfjndpbejoaaF14
import Derived.KernelRfl
namespace Go.Proofs.Ytgekfjndpbejoaa
open Go Go.Proofs Go.RowKit
set_option linter.unusedSimpArgs false
set_option linter.unusedVariables false
open Go.Proofs.Abs
theorem p23 (h : Hp) (nm na nb : Nat) (xs : List Int) (i y : Int) (t : Tr h nm na nb xs) (v : V xs) (hn : xs.length ≤ 4096) : Wv (all8 23 [.ptr nm 0, I i, I y] h) (fun r h' => r = I (setE xs i y) ∧ Tr h' nm na nb (setL xs i y) ∧ Fr (Of nm na nb) h h') := by
  unfold all8
  rw [plus_not rfl]
  exact c23 4 h nm na nb xs i y t v hn
/-- Find in the tree of the list -/
theorem p20x (h : Hp) (nm na nb : Nat) (t : Tr h nm na nb (xs3 4096)) (x : Nat) (hx : x < 4095) :
    all8 20 [.ptr nm 0, I (Int.ofNat x)] h = some (.tup [I (Int.ofNat (at3 x)), I (Int.ofNat (if 0 < x % 3 then x % 3 - 1 else 0)), I 0], h) := by
  unfold all8
  rw [plus_not rfl]
  exact f20 5 h nm na nb t x hx
/-! The small list -/
def ys0 : List Int := [2305843009213693952, 0, 2305843009213693952]
def ys1 : List Int := [2305843009213693951, 0, 2305843009213693952]
def ys2 : List Int := [2305843009213693951, 1, 2305843009213693952]
theorem ychk : chkL ys0 = 0 := by kernel_rfl
theorem yv0 : V ys0 := (chk_v ychk).1
theorem yv1 : V ys1 := (chk_v (show chkL ys1 = 0 by kernel_rfl)).1
theorem yv2 : V ys2 := (chk_v (show chkL ys2 = 0 by kernel_rfl)).1
theorem set1 : setE ys0 1 1 = 13 ∧ setL ys0 1 1 = ys0 := ⟨by decide +kernel, by decide +kernel⟩
theorem set2 : setE ys0 0 2305843009213693951 = 0 ∧ setL ys0 0 2305843009213693951 = ys1 := ⟨by decide +kernel, by decide +kernel⟩
theorem set3 : setE ys1 1 1 = 0 ∧ setL ys1 1 1 = ys2 := ⟨by decide +kernel, by decide +kernel⟩
theorem set4 : setE ys2 2 2305843009213693953 = 12 ∧ setL ys2 2 2305843009213693953 = ys2 := ⟨by decide +kernel, by decide +kernel⟩
end Go.Proofs.Ytgekfjndpbejoaa
