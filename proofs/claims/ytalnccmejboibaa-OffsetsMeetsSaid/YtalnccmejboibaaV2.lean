import Derived.Test.YtalnccmejboibaaV1
import Derived.Test.YtalnccmejboibaaQ8
import Derived.KernelRfl
namespace Go.Proofs.Ytalnccmejboibaa
open Go Go.Proofs Go.RowKit
set_option linter.unusedSimpArgs false
set_option linter.unusedVariables false
open Go.Proofs.Abs
def Mt (xs : List Int) (s v : Int) (j : Nat) : Prop := ∃ x, xs[j]? = some x ∧ mtB (sm (xs.take j), x) s v = true
def LeastOk (xs : List Int) (k : Nat) (least : Int) : Prop := 0 ≤ least ∧ least ≤ 2305843009213693952 ∧ ∀ (j : Nat) x, j < k → xs[j]? = some x → least ≤ x
def ManyOk (xs : List Int) (s v : Int) (k : Nat) (many : Int) : Prop := 0 ≤ many ∧ many ≤ (k : Int) ∧ (many = 0 ∨ ∃ a b : Nat, a ≤ b ∧ b < k ∧ Mt xs s v a ∧ Mt xs s v b ∧ many ≤ (b : Int) - (a : Int) + 1)
def LastOk (xs : List Int) (s v : Int) (k : Nat) (last : Int) : Prop := last = -1 ∨ ∃ l, last = Int.ofNat l ∧ l < k ∧ Mt xs s v l ∧ (∃ x, xs[l]? = some x ∧ 0 < x) ∧ ∀ (j : Nat) x, l < j → j < k → xs[j]? = some x → 0 < x → ¬ Mt xs s v j
def mnI (x least : Int) : Int := if x < least then x else least
theorem least_up {xs : List Int} {k : Nat} {least x : Int} (h : LeastOk xs k least) (hx : xs[k]? = some x) (h0 : 0 ≤ x) : LeastOk xs (k + 1) (mnI x least) := by
  obtain ⟨h1, h2, h3⟩ := h
  unfold mnI
  by_cases c : x < least
  · rw [if_pos c]
    refine ⟨h0, by omega, fun j y hj hy => ?_⟩
    by_cases hjk : j = k
    · subst hjk; rw [hx] at hy; cases hy; exact Int.le_refl _
    · have := h3 j y (by omega) hy; omega
  · rw [if_neg c]
    refine ⟨h1, h2, fun j y hj hy => ?_⟩
    by_cases hjk : j = k
    · subst hjk; rw [hx] at hy; cases hy; omega
    · exact h3 j y (by omega) hy
theorem many_no {xs : List Int} {s v : Int} {k : Nat} {many : Int} (h : ManyOk xs s v k many) : ManyOk xs s v (k + 1) many := by
  obtain ⟨h1, h2, h3 | ⟨a, b, h3, h4, h5⟩⟩ := h
  · exact ⟨h1, by omega, .inl h3⟩
  · exact ⟨h1, by omega, .inr ⟨a, b, h3, by omega, h5⟩⟩
theorem many_up {xs : List Int} {s v : Int} {k : Nat} {many : Int} (h : ManyOk xs s v k many) (hm : Mt xs s v k) : ManyOk xs s v (k + 1) (many + 1) := by
  obtain ⟨h1, h2, h3 | ⟨a, b, h3, h4, h5, h6, h7⟩⟩ := h
  · exact ⟨by omega, by omega, .inr ⟨k, k, Nat.le_refl _, by omega, hm, hm, by omega⟩⟩
  · exact ⟨by omega, by omega, .inr ⟨a, k, by omega, by omega, h5, hm, by omega⟩⟩
theorem last_keep {xs : List Int} {s v : Int} {k : Nat} {last x : Int} (h : LastOk xs s v k last) (hx : xs[k]? = some x) (hn : 0 < x → ¬ Mt xs s v k) : LastOk xs s v (k + 1) last := by
  rcases h with h1 | ⟨l, h1, h2, h3, h4, h5⟩
  · exact .inl h1
  · refine .inr ⟨l, h1, by omega, h3, h4, fun j y h6 h7 hy h8 => ?_⟩
    by_cases hjk : j = k
    · subst hjk; rw [hx] at hy; cases hy; exact hn h8
    · exact h5 j y h6 (by omega) hy h8
theorem last_new {xs : List Int} {s v : Int} {k : Nat} {x : Int} (hm : Mt xs s v k) (hx : xs[k]? = some x) (h0 : 0 < x) : LastOk xs s v (k + 1) (Int.ofNat k) :=
  .inr ⟨k, rfl, by omega, hm, ⟨x, hx, h0⟩, fun j y h6 h7 => by omega⟩
theorem mt_iff {xs : List Int} {s v : Int} {k : Nat} {x : Int} (hx : xs[k]? = some x) : Mt xs s v k ↔ VD s v ∧ sm (xs.take k) < s + v ∧ s < sm (xs.take k) + x := by
  unfold Mt mtB
  constructor
  · rintro ⟨y, hy, hb⟩
    rw [hx] at hy
    cases hy
    simp only [Bool.and_eq_true, decide_eq_true_eq] at hb
    exact ⟨hb.1.1, hb.1.2, hb.2⟩
  · rintro ⟨h1, h2, h3⟩
    refine ⟨x, hx, ?_⟩
    simp only [Bool.and_eq_true, decide_eq_true_eq]
    exact ⟨⟨h1, h2⟩, h3⟩
/-- between two rows that meet there is none that has a size and doesn't -/
theorem between {xs : List Int} {s v : Int} (hc : chkS 0 xs = 0) {l j k : Nat} {y : Int} (hl : Mt xs s v l) (hk : Mt xs s v k) (h1 : l < j) (h2 : j < k) (hy : xs[j]? = some y) (h0 : 0 < y) : Mt xs s v j := by
  obtain ⟨a, ha, _⟩ := id hl
  obtain ⟨b, hb, _⟩ := id hk
  have l1 := (mt_iff ha).1 hl
  have k1 := (mt_iff hb).1 hk
  refine (mt_iff hy).2 ⟨l1.1, ?_, ?_⟩
  · have := sm_mono hc (show j ≤ k by omega)
    omega
  · have := sm_mono hc (show l + 1 ≤ j by omega)
    rw [sm_take ha] at this
    omega
theorem sm_least {xs : List Int} {least : Int} {k : Nat} (h : LeastOk xs k least) {i : Nat} : ∀ j, i ≤ j → j ≤ k → k ≤ xs.length → sm (xs.take i) + least * ((j : Int) - (i : Int)) ≤ sm (xs.take j) := by
  intro j
  induction j with
  | zero => intro h1 _ _; obtain rfl : i = 0 := by omega
            simp
  | succ j ih =>
    intro h1 h2 h3
    by_cases hij : i = j + 1
    · subst hij; simp
    · have h4 := ih (by omega) (by omega) h3
      obtain ⟨x, hx⟩ := at_some (show j < xs.length by omega)
      have h5 := h.2.2 j x (by omega) hx
      rw [sm_take hx]
      have h6 : least * (((j + 1 : Nat) : Int) - (i : Int)) = least * ((j : Int) - (i : Int)) + least := by
        rw [show ((j + 1 : Nat) : Int) - (i : Int) = ((j : Int) - (i : Int)) + 1 by omega, Int.mul_add, Int.mul_one]
      omega
theorem bound_many {xs : List Int} {s v least many : Int} {k : Nat} (hk : k ≤ xs.length) (hL : LeastOk xs k least) (hM : ManyOk xs s v k many) (h0 : 0 < least) (h1 : 0 < many) : many ≤ ceilI v least + 1 := by
  obtain ⟨_, _, h3 | ⟨a, b, h3, h4, h5, h6, h7⟩⟩ := hM
  · omega
  · obtain ⟨x, hx, _⟩ := id h5
    obtain ⟨y, hy, _⟩ := id h6
    have m1 := (mt_iff hx).1 h5
    have m2 := (mt_iff hy).1 h6
    have hv1 := m1.1
    unfold VD at hv1
    have e := Int.mul_ediv_add_emod v least
    have e2 := Int.emod_nonneg v (show least ≠ 0 by omega)
    have e3 := Int.emod_lt_of_pos v h0
    have hq : 0 ≤ v / least := Int.ediv_nonneg (by omega) (by omega)
    by_cases hab : a = b
    · subst hab
      unfold ceilI
      split <;> omega
    · have hs := sm_least hL (i := a + 1) b (by omega) (by omega) hk
      rw [sm_take hx] at hs
      have hlt : least * ((b : Int) - ((a + 1 : Nat) : Int)) < v := by omega
      have key : (b : Int) - ((a + 1 : Nat) : Int) < v / least + 1 := by
        rcases Int.lt_or_le ((b : Int) - ((a + 1 : Nat) : Int)) (v / least + 1) with c | c
        · exact c
        · have := Int.mul_le_mul_of_nonneg_left c (show 0 ≤ least by omega)
          rw [Int.mul_add, Int.mul_one] at this
          omega
      unfold ceilI
      split
      · omega
      · have hz : v % least = 0 := by omega
        have key2 : (b : Int) - ((a + 1 : Nat) : Int) < v / least := by
          rcases Int.lt_or_le ((b : Int) - ((a + 1 : Nat) : Int)) (v / least) with c | c
          · exact c
          · have := Int.mul_le_mul_of_nonneg_left c (show 0 ≤ least by omega)
            omega
        omega
/-- the state of the law's loop -/
def Inv8 (l : AV) (xs : List Int) (s v : Int) (ng : Nat) (h1 : Hp) (m : Nat) (e : Env) (h' : Hp) : Prop := ∃ k many least last, m = xs.length - k ∧ k ≤ xs.length ∧ e.get 0 = some l ∧ e.get 1 = some (I s) ∧ e.get 2 = some (I v) ∧ e.get 7 = some (.slice ng 0 xs.length false xs.length 0) ∧ e.get 9 = some (I many) ∧ e.get 10 = some (I least) ∧ e.get 11 = some (I last) ∧ e.get 12 = some (Bo (decide (VD s v))) ∧ e.get 13 = some (I (Int.ofNat k)) ∧ h' = h1 ∧
  LeastOk xs k least ∧ ManyOk xs s v k many ∧ LastOk xs s v k last
end Go.Proofs.Ytalnccmejboibaa
