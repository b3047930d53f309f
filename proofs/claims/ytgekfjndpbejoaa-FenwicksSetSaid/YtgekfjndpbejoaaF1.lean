import Derived.Test.YtgekfjndpbejoaaW7
namespace Go.Proofs.Abs
open Go Go.RowKit
/-! Fenwick sums: what the parts of a sum are. -/
def In (a : Int) : Prop := -9223372036854775808 ≤ a ∧ a ≤ 9223372036854775807
def lb (k : Nat) : Nat := Nat.land k (512 - k)
def lowI (k : Nat) : Int := IntKind.wrap .i64 ((BitVec.ofInt 64 (Int.ofNat k) &&& BitVec.ofInt 64 (IntKind.wrap .i64 (0 - Int.ofNat k))).toNat)
set_option maxRecDepth 100000 in
theorem low_eq : ∀ k, k < 257 → lowI k = Int.ofNat (lb k) := by decide +kernel
set_option maxRecDepth 100000 in
theorem lb_pos : ∀ k, k < 257 → 0 < k → 0 < lb k ∧ lb k ≤ k := by decide +kernel
set_option maxRecDepth 100000 in
theorem lb_up : ∀ k, k < 129 → 0 < k → (k + lb k) - lb (k + lb k) ≤ k - lb k := by decide +kernel
set_option maxRecDepth 100000 in
theorem lb_mid : ∀ k, k < 129 → ∀ j, j < 257 → 0 < k → k < j → j < k + lb k → k ≤ j - lb j := by decide +kernel
def sm : List Int → Int
  | [] => 0
  | x :: xs => x + sm xs
def chkS (s : Int) : List Int → Int
  | [] => 0
  | x :: xs => if x < 0 ∨ 2305843009213693952 < x then 12 else if 4611686018427387904 < s + x then 13 else chkS (s + x) xs
def chkL (xs : List Int) : Int := if 4096 < xs.length then 3 else chkS 0 xs
def pre (xs : List Int) (k : Nat) : Int := sm (xs.take k)
def fs (xs : List Int) (k : Nat) : Int := pre xs k - pre xs (k - lb k)
theorem sm_append (xs ys : List Int) : sm (xs ++ ys) = sm xs + sm ys := by
  induction xs with
  | nil => simp [sm]
  | cons x xs ih => simp only [List.cons_append, sm, ih]; omega
theorem pre_succ {xs : List Int} {k : Nat} {x : Int} (hx : xs[k]? = some x) : pre xs (k + 1) = pre xs k + x := by
  unfold pre
  rw [take_at hx, sm_append]
  simp [sm]
theorem pre_all {xs : List Int} {k : Nat} (hk : xs.length ≤ k) : pre xs k = sm xs := by
  unfold pre
  rw [List.take_of_length_le hk]
/-- the sizes are none below 0, and their sum isn't too great -/
structure V (xs : List Int) : Prop where
  nn : ∀ (k : Nat) (x : Int), xs[k]? = some x → 0 ≤ x
  le : sm xs ≤ 4611686018427387904
theorem pre_mono {xs : List Int} (v : V xs) {j k : Nat} (h : j ≤ k) : pre xs j ≤ pre xs k := by
  induction k with
  | zero => obtain rfl : j = 0 := by omega
            exact Int.le_refl _
  | succ k ih =>
    by_cases hj : j = k + 1
    · subst hj; exact Int.le_refl _
    · have h1 := ih (by omega)
      by_cases hk : k < xs.length
      · obtain ⟨x, hx⟩ := at_some hk
        have h2 := v.nn k x hx
        rw [pre_succ hx]
        omega
      · rw [pre_all (show xs.length ≤ k + 1 by omega), ← pre_all (show xs.length ≤ k by omega)]
        exact h1
theorem pre_zero (xs : List Int) : pre xs 0 = 0 := by simp [pre, sm]
theorem pre_bound {xs : List Int} (v : V xs) (k : Nat) : 0 ≤ pre xs k ∧ pre xs k ≤ sm xs := by
  have h1 := pre_mono v (Nat.zero_le k)
  rw [pre_zero] at h1
  have h2 := pre_mono v (show k ≤ k + xs.length by omega)
  rw [pre_all (show xs.length ≤ k + xs.length by omega)] at h2
  exact ⟨h1, h2⟩
theorem fs_bound {xs : List Int} (v : V xs) (k : Nat) : 0 ≤ fs xs k ∧ fs xs k ≤ sm xs := by
  have h1 := pre_mono v (Nat.sub_le k (lb k))
  have h2 := pre_bound v k
  have h3 := pre_bound v (k - lb k)
  unfold fs
  omega
theorem take_set_lt {xs : List Int} {i k : Nat} {y : Int} (h : k ≤ i) : (xs.set i y).take k = xs.take k := by
  rw [List.take_set, List.set_eq_of_length_le (by simp; omega)]
theorem sm_set {xs : List Int} : ∀ {i : Nat} {x y : Int}, xs[i]? = some x → sm (xs.set i y) = sm xs + (y - x) := by
  induction xs with
  | nil => intro i x y h; simp at h
  | cons z zs ih =>
    intro i x y h
    cases i with
    | zero => simp at h; subst h; simp only [List.set_cons_zero, sm]; omega
    | succ i => simp at h; simp only [List.set_cons_succ, sm, ih h]; omega
theorem pre_set {xs : List Int} {i k : Nat} {x y : Int} (hx : xs[i]? = some x) : pre (xs.set i y) k = pre xs k + (if i < k then y - x else 0) := by
  unfold pre
  by_cases h : i < k
  · rw [if_pos h, List.take_set, sm_set]
    rw [List.getElem?_take, if_pos h]
    exact hx
  · rw [if_neg h, take_set_lt (by omega)]
    omega
theorem fs_set {xs : List Int} {i k : Nat} {x y : Int} (hx : xs[i]? = some x) : fs (xs.set i y) k = if k - lb k ≤ i ∧ i < k then fs xs k + (y - x) else fs xs k := by
  unfold fs
  rw [pre_set hx, pre_set hx]
  by_cases h1 : i < k
  · by_cases h2 : i < k - lb k
    · rw [if_pos h1, if_pos h2, if_neg (by omega)]; omega
    · rw [if_pos h1, if_neg h2, if_pos (by omega)]; omega
  · rw [if_neg h1, if_neg (by omega), if_neg (by omega)]; omega
theorem chkS_v : ∀ (xs : List Int) (s : Int), 0 ≤ s → s ≤ 4611686018427387904 → chkS s xs = 0 → (∀ (k : Nat) (x : Int), xs[k]? = some x → 0 ≤ x ∧ x ≤ 2305843009213693952) ∧ s + sm xs ≤ 4611686018427387904
  | [], s, h0, h1, _ => ⟨fun k x h => by simp at h, by simp [sm]; omega⟩
  | y :: xs, s, h0, h1, hc => by
    rw [chkS] at hc
    split at hc
    · cases hc
    · split at hc
      · cases hc
      · have := chkS_v xs (s + y) (by omega) (by omega) hc
        refine ⟨fun k x hx => ?_, by simp only [sm]; omega⟩
        cases k with
        | zero => simp at hx; subst hx; omega
        | succ k => exact this.1 k x (by simpa using hx)
theorem chk_v {xs : List Int} (h : chkL xs = 0) : V xs ∧ (∀ (k : Nat) (x : Int), xs[k]? = some x → 0 ≤ x ∧ x ≤ 2305843009213693952) ∧ xs.length ≤ 4096 := by
  unfold chkL at h
  split at h
  · cases h
  · have := chkS_v xs 0 (by omega) (by omega) h
    exact ⟨⟨fun k x hx => (this.1 k x hx).1, by have := this.2; omega⟩, this.1, by omega⟩
end Go.Proofs.Abs
