import Derived.Test.YtgekfjndpbejoaaF11
import Derived.KernelRfl
namespace Go.Proofs.Ytgekfjndpbejoaa
open Go Go.Proofs Go.RowKit
set_option linter.unusedSimpArgs false
set_option linter.unusedVariables false
open Go.Proofs.Abs
/-! The list of FenwicksKnown: 0 1 2 0 1 2 .. -/
def xs3 (n : Nat) : List Int := (List.range n).map fun i => Int.ofNat (i % 3)
theorem xs3_len (n : Nat) : (xs3 n).length = n := by simp [xs3]
theorem xs3_at {n k : Nat} (h : k < n) : (xs3 n)[k]? = some (Int.ofNat (k % 3)) := by
  unfold xs3
  rw [List.getElem?_map, List.getElem?_range h]
  rfl
theorem xs3_take {m n : Nat} (h : m ≤ n) : (xs3 n).take m = xs3 m := by
  unfold xs3
  rw [← List.map_take, List.take_range, Nat.min_eq_left h]
theorem pre3 (n : Nat) : ∀ k, k ≤ n → pre (xs3 n) k = Int.ofNat (k / 3 * 3 + (if k % 3 = 2 then 1 else 0)) := by
  intro k
  induction k with
  | zero => intro _; rw [pre_zero]; rfl
  | succ k ih =>
    intro hk
    rw [pre_succ (xs3_at (by omega : k < n)), ih (by omega)]
    split <;> split <;> simp only [Int.ofNat_eq_natCast] <;> omega
theorem sm3 : sm (xs3 4096) = 4095 := by
  rw [← pre_all (xs := xs3 4096) (k := 4096) (by rw [xs3_len]; omega), pre3 4096 4096 (by omega)]
  rfl
theorem V3 : V (xs3 4096) where
  nn := fun k x hx => by
    by_cases h : k < 4096
    · rw [xs3_at h] at hx
      cases hx
      exact Int.natCast_nonneg _
    · rw [List.getElem?_eq_none (by rw [xs3_len]; omega)] at hx
      cases hx
  le := by rw [sm3]; decide
set_option maxRecDepth 1000000 in
theorem chk3 : chkL (xs3 4096) = 0 := by kernel_rfl
/-- where the number x falls, and what is left of it -/
def at3 (x : Nat) : Nat := if 0 < x % 3 then x / 3 * 3 + 2 else x / 3 * 3 + 1
theorem find3 (x : Nat) (hx : x < 4095) : at3 x < 4096 ∧ pre (xs3 4096) (at3 x) ≤ Int.ofNat x ∧ Int.ofNat x < pre (xs3 4096) (at3 x + 1) ∧
    Int.ofNat x - pre (xs3 4096) (at3 x) = Int.ofNat (if 0 < x % 3 then x % 3 - 1 else 0) := by
  have hb : at3 x < 4096 := by unfold at3; split <;> omega
  rw [pre3 4096 (at3 x) (by omega), pre3 4096 (at3 x + 1) (by omega)]
  refine ⟨hb, ?_⟩
  unfold at3
  by_cases h : 0 < x % 3
  · rw [if_pos h, if_pos h, if_pos (by omega), if_neg (by omega)]
    simp only [Int.ofNat_eq_natCast]
    omega
  · rw [if_neg h, if_neg h, if_neg (by omega), if_pos (by omega)]
    simp only [Int.ofNat_eq_natCast]
    omega
/-- Find in the tree of the list -/
theorem f20 (d : Nat) (h : Hp) (nm na nb : Nat) (t : Tr h nm na nb (xs3 4096)) (x : Nat) (hx : x < 4095) :
    runA ctx 5000 (d + 3) 20 [.ptr nm 0, I (Int.ofNat x)] h = some (.tup [I (Int.ofNat (at3 x)), I (Int.ofNat (if 0 < x % 3 then x % 3 - 1 else 0)), I 0], h) := by
  obtain ⟨h1, h2, h3, h4⟩ := find3 x hx
  rw [← h4]
  exact c20 d h nm na nb (xs3 4096) (Int.ofNat x) t (at3 x) (by rw [xs3_len]; exact h1) h2 h3 V3 (.inr (xs3_len 4096))
end Go.Proofs.Ytgekfjndpbejoaa
