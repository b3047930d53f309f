import Derived.Test.YtdbajhklnaekjaaJ1
import Derived.KernelRfl
namespace Go.Proofs.Ytdbajhklnaekjaa
open Go Go.Proofs Go.RowKit Go.Proofs.Abs
set_option linter.unusedSimpArgs false
set_option linter.unusedVariables false
open Go.Proofs.Abs
theorem c16 (d : Nat) (h : Hp) (o : Int) (s : AV) (xs : List Int) (hs : IsL h s (xs.map I)) : Wv (runA ctx 5000 (d + 1) 16 [.agg [I o, s]] h) (fun r h' => r = I (chkM o xs) ∧ Ext h h') := by
  unfold chkM
  by_cases h0 : o < 0
  · rw [if_pos h0]; exact c16l d h o s xs hs h0
  rw [if_neg h0]
  by_cases h1 : 4096 < o
  · rw [if_pos (.inl h1)]; exact c16g d h o s xs hs h0 h1
  by_cases h2 : 4096 < xs.length
  · rw [if_pos (.inr h2)]; exact c16n d h o s xs hs h0 h1 h2
  rw [if_neg (by omega)]
  exact c16m d h o s xs hs h0 h1 h2
/-- where an index is now: the first place, or -1 -/
def atF (j : Int) : List Int → Nat → Int
  | [], _ => -1
  | x :: xs, i => if x = j then Int.ofNat i else atF j xs (i + 1)
end Go.Proofs.Ytdbajhklnaekjaa
