import Derived.Test.YtpioenfglmimgaaW7
namespace Go.Proofs.Abs
open Go Go.RowKit
/-! Fenwick sums: what the parts of a sum are. -/
def In (a : Int) : Prop := -9223372036854775808 ≤ a ∧ a ≤ 9223372036854775807
def lb (k : Nat) : Nat := Nat.land k (16384 - k)
def lowI (k : Nat) : Int := IntKind.wrap .i64 ((BitVec.ofInt 64 (Int.ofNat k) &&& BitVec.ofInt 64 (IntKind.wrap .i64 (0 - Int.ofNat k))).toNat)
/-- a fact below a bound, by the kernel over the list of all -/
theorem all_range {n : Nat} {f : Nat → Bool} (h : (List.range n).all f = true) (k : Nat) (hk : k < n) : f k = true := List.all_eq_true.1 h k (List.mem_range.2 hk)
set_option maxRecDepth 1000000 in
theorem low_eq (k : Nat) (hk : k < 8193) : lowI k = Int.ofNat (lb k) :=
  of_decide_eq_true (all_range (f := fun k => decide (lowI k = Int.ofNat (lb k))) (by decide +kernel) k hk)
set_option maxRecDepth 1000000 in
theorem lb_pos (k : Nat) (hk : k < 8193) (h0 : 0 < k) : 0 < lb k ∧ lb k ≤ k := by
  have h := of_decide_eq_true (all_range (n := 8193) (f := fun k => decide (0 < k → 0 < lb k ∧ lb k ≤ k)) (by decide +kernel) k hk)
  exact h h0
set_option maxRecDepth 1000000 in
theorem lb_up (k : Nat) (hk : k < 4097) (h0 : 0 < k) : (k + lb k) - lb (k + lb k) ≤ k - lb k := by
  have h := of_decide_eq_true (all_range (n := 4097) (f := fun k => decide (0 < k → (k + lb k) - lb (k + lb k) ≤ k - lb k)) (by decide +kernel) k hk)
  exact h h0
set_option maxRecDepth 1000000 in
theorem lb_pw (k : Nat) (hk : k < 8193) (h0 : 0 < k) : ∃ a, lb k = 2 ^ a ∧ (2 ^ a) ∣ k ∧ a < 14 := by
  have h := of_decide_eq_true (all_range (n := 8193) (f := fun k => decide (0 < k → ((List.range 14).any fun a => Nat.beq (lb k) (2 ^ a) && Nat.beq (k % 2 ^ a) 0) = true)) (by decide +kernel) k hk)
  obtain ⟨a, ha, hb⟩ := List.any_eq_true.1 (h h0)
  rw [Bool.and_eq_true] at hb
  exact ⟨a, Nat.eq_of_beq_eq_true hb.1, Nat.dvd_of_mod_eq_zero (Nat.eq_of_beq_eq_true hb.2), List.mem_range.1 ha⟩
theorem lb_mid (k : Nat) (hk : k < 4097) (j : Nat) (hj : j < 8193) (h0 : 0 < k) (h1 : k < j) (h2 : j < k + lb k) : k ≤ j - lb j := by
  obtain ⟨a, ea, da, _⟩ := lb_pw k (by omega) h0
  obtain ⟨b, eb, db, _⟩ := lb_pw j hj (by omega)
  rw [ea] at h2
  rw [eb]
  have hr : j = k + (j - k) := by omega
  rcases Nat.lt_or_ge b a with hab | hab
  · have d1 : 2 ^ b ∣ k := Nat.dvd_trans (Nat.pow_dvd_pow 2 (Nat.le_of_lt hab)) da
    have d2 : 2 ^ b ∣ j - k := Nat.dvd_sub db d1
    have := Nat.le_of_dvd (by omega) d2
    omega
  · have d1 : 2 ^ a ∣ j := Nat.dvd_trans (Nat.pow_dvd_pow 2 hab) db
    have d2 : 2 ^ a ∣ j - k := Nat.dvd_sub d1 da
    have := Nat.le_of_dvd (by omega) d2
    omega
set_option maxRecDepth 1000000 in
theorem lb_odd2 (k : Nat) (hk : k < 8193) (h0 : 0 < k) : (k / lb k) % 2 = 1 := by
  have h := of_decide_eq_true (all_range (n := 8193) (f := fun k => decide (0 < k → (k / lb k) % 2 = 1)) (by decide +kernel) k hk)
  exact h h0
theorem lb_odd (p q : Nat) (h : (2 * q + 1) * 2 ^ p < 8193) : lb ((2 * q + 1) * 2 ^ p) = 2 ^ p := by
  have hp : 0 < 2 ^ p := Nat.two_pow_pos p
  have h0 : 0 < (2 * q + 1) * 2 ^ p := Nat.mul_pos (by omega) hp
  obtain ⟨a, ea, da, _⟩ := lb_pw _ h h0
  have ho := lb_odd2 _ h h0
  rw [ea] at ho ⊢
  rcases Nat.lt_trichotomy a p with hap | rfl | hap
  · obtain ⟨d, rfl⟩ : ∃ d, p = a + (d + 1) := ⟨p - a - 1, by omega⟩
    rw [Nat.pow_add, Nat.mul_comm (2 ^ a), ← Nat.mul_assoc, Nat.mul_div_cancel _ (Nat.two_pow_pos a), Nat.pow_succ, ← Nat.mul_assoc, Nat.mul_mod_left] at ho
    omega
  · rfl
  · obtain ⟨d, rfl⟩ : ∃ d, a = p + (d + 1) := ⟨a - p - 1, by omega⟩
    rw [Nat.pow_add, Nat.mul_comm (2 ^ p)] at da
    have := Nat.dvd_of_mul_dvd_mul_right hp da
    rw [Nat.pow_succ] at this
    have h2 : 2 ∣ 2 * q + 1 := Nat.dvd_trans (Nat.dvd_mul_left 2 _) this
    omega
def sm : List Int → Int
  | [] => 0
  | x :: xs => x + sm xs
def chkS (s : Int) : List Int → Int
  | [] => 0
  | x :: xs => if x < 0 ∨ 2305843009213693952 < x then 12 else if 4611686018427387904 < s + x then 13 else chkS (s + x) xs
def chkL (xs : List Int) : Int := if 4096 < xs.length then 3 else chkS 0 xs
def pre (xs : List Int) (k : Nat) : Int := sm (xs.take k)
def fs (xs : List Int) (k : Nat) : Int := pre xs k - pre xs (k - lb k)
theorem sm_append (xs ys : List Int) : sm (xs ++ ys) = sm xs + sm ys := by
  induction xs with
  | nil => simp [sm]
  | cons x xs ih => simp only [List.cons_append, sm, ih]; omega
theorem pre_succ {xs : List Int} {k : Nat} {x : Int} (hx : xs[k]? = some x) : pre xs (k + 1) = pre xs k + x := by
  unfold pre
  rw [take_at hx, sm_append]
  simp [sm]
theorem pre_all {xs : List Int} {k : Nat} (hk : xs.length ≤ k) : pre xs k = sm xs := by
  unfold pre
  rw [List.take_of_length_le hk]
/-- the sizes are none below 0, and their sum isn't too great -/
structure V (xs : List Int) : Prop where
  nn : ∀ (k : Nat) (x : Int), xs[k]? = some x → 0 ≤ x
  le : sm xs ≤ 4611686018427387904
theorem pre_mono {xs : List Int} (v : V xs) {j k : Nat} (h : j ≤ k) : pre xs j ≤ pre xs k := by
  induction k with
  | zero => obtain rfl : j = 0 := by omega
            exact Int.le_refl _
  | succ k ih =>
    by_cases hj : j = k + 1
    · subst hj; exact Int.le_refl _
    · have h1 := ih (by omega)
      by_cases hk : k < xs.length
      · obtain ⟨x, hx⟩ := at_some hk
        have h2 := v.nn k x hx
        rw [pre_succ hx]
        omega
      · rw [pre_all (show xs.length ≤ k + 1 by omega), ← pre_all (show xs.length ≤ k by omega)]
        exact h1
theorem pre_zero (xs : List Int) : pre xs 0 = 0 := by simp [pre, sm]
theorem pre_bound {xs : List Int} (v : V xs) (k : Nat) : 0 ≤ pre xs k ∧ pre xs k ≤ sm xs := by
  have h1 := pre_mono v (Nat.zero_le k)
  rw [pre_zero] at h1
  have h2 := pre_mono v (show k ≤ k + xs.length by omega)
  rw [pre_all (show xs.length ≤ k + xs.length by omega)] at h2
  exact ⟨h1, h2⟩
theorem fs_bound {xs : List Int} (v : V xs) (k : Nat) : 0 ≤ fs xs k ∧ fs xs k ≤ sm xs := by
  have h1 := pre_mono v (Nat.sub_le k (lb k))
  have h2 := pre_bound v k
  have h3 := pre_bound v (k - lb k)
  unfold fs
  omega
theorem take_set_lt {xs : List Int} {i k : Nat} {y : Int} (h : k ≤ i) : (xs.set i y).take k = xs.take k := by
  rw [List.take_set, List.set_eq_of_length_le (by simp; omega)]
theorem sm_set {xs : List Int} : ∀ {i : Nat} {x y : Int}, xs[i]? = some x → sm (xs.set i y) = sm xs + (y - x) := by
  induction xs with
  | nil => intro i x y h; simp at h
  | cons z zs ih =>
    intro i x y h
    cases i with
    | zero => simp at h; subst h; simp only [List.set_cons_zero, sm]; omega
    | succ i => simp at h; simp only [List.set_cons_succ, sm, ih h]; omega
theorem pre_set {xs : List Int} {i k : Nat} {x y : Int} (hx : xs[i]? = some x) : pre (xs.set i y) k = pre xs k + (if i < k then y - x else 0) := by
  unfold pre
  by_cases h : i < k
  · rw [if_pos h, List.take_set, sm_set]
    rw [List.getElem?_take, if_pos h]
    exact hx
  · rw [if_neg h, take_set_lt (by omega)]
    omega
theorem fs_set {xs : List Int} {i k : Nat} {x y : Int} (hx : xs[i]? = some x) : fs (xs.set i y) k = if k - lb k ≤ i ∧ i < k then fs xs k + (y - x) else fs xs k := by
  unfold fs
  rw [pre_set hx, pre_set hx]
  by_cases h1 : i < k
  · by_cases h2 : i < k - lb k
    · rw [if_pos h1, if_pos h2, if_neg (by omega)]; omega
    · rw [if_pos h1, if_neg h2, if_pos (by omega)]; omega
  · rw [if_neg h1, if_neg (by omega), if_neg (by omega)]; omega
theorem chkS_v : ∀ (xs : List Int) (s : Int), 0 ≤ s → s ≤ 4611686018427387904 → chkS s xs = 0 → (∀ (k : Nat) (x : Int), xs[k]? = some x → 0 ≤ x ∧ x ≤ 2305843009213693952) ∧ s + sm xs ≤ 4611686018427387904
  | [], s, h0, h1, _ => ⟨fun k x h => by simp at h, by simp [sm]; omega⟩
  | y :: xs, s, h0, h1, hc => by
    rw [chkS] at hc
    split at hc
    · cases hc
    · split at hc
      · cases hc
      · have := chkS_v xs (s + y) (by omega) (by omega) hc
        refine ⟨fun k x hx => ?_, by simp only [sm]; omega⟩
        cases k with
        | zero => simp at hx; subst hx; omega
        | succ k => exact this.1 k x (by simpa using hx)
theorem chk_v {xs : List Int} (h : chkL xs = 0) : V xs ∧ (∀ (k : Nat) (x : Int), xs[k]? = some x → 0 ≤ x ∧ x ≤ 2305843009213693952) ∧ xs.length ≤ 4096 := by
  unfold chkL at h
  split at h
  · cases h
  · have := chkS_v xs 0 (by omega) (by omega) h
    exact ⟨⟨fun k x hx => (this.1 k x hx).1, by have := this.2; omega⟩, this.1, by omega⟩
end Go.Proofs.Abs
