import Derived.Test.YtalnccmejboibaaW7
namespace Go.Proofs.Abs
open Go Go.RowKit
/-! Floats of whole numbers below 2^53. -/
def fl (n : Int) : Nat := FloatKind.nearest .f64 n
theorem fl_nat (m : Nat) : fl (m : Int) = Ieee.double.nearest false m 0 := by
  show Ieee.double.write (.number (decide ((m : Int) < 0)) (m : Int).natAbs 0) = _
  rw [show decide ((m : Int) < 0) = false by simp, Int.natAbs_natCast]
  rfl
theorem cut_zero (m : Nat) : Ieee.Toward.even.cut false m 0 = m := by
  unfold Ieee.Toward.cut
  simp
  omega
theorem nearest_pos {m : Nat} (h0 : 0 < m) (h : m < 9007199254740992) : Ieee.double.nearest false m 0 = (m.log2 + 1022) * 4503599627370496 + m * 2 ^ (52 - m.log2) := by
  have hL : m.log2 < 53 := (Nat.log2_lt (by omega)).2 (by simpa using h)
  have hM : m * 2 ^ (52 - m.log2) < 9007199254740992 := by
    have h1 : m < 2 ^ (m.log2 + 1) := Nat.lt_log2_self
    have h2 : m * 2 ^ (52 - m.log2) < 2 ^ (m.log2 + 1) * 2 ^ (52 - m.log2) := (Nat.mul_lt_mul_right (Nat.two_pow_pos _)).2 h1
    rw [← Nat.pow_add, show m.log2 + 1 + (52 - m.log2) = 53 by omega] at h2
    simpa using h2
  unfold Ieee.Format.nearest
  rw [if_neg (by omega)]
  have hl : Ieee.double.leastPlace = -1074 := by decide
  have hf : Ieee.double.fractionBits = 52 := rfl
  have hlast : max ((0 : Int) + m.log2 - Ieee.double.fractionBits) Ieee.double.leastPlace = (m.log2 : Int) - 52 := by
    rw [hl, hf]
    omega
  simp only [hlast]
  have e1 : ((0 : Int) - ((m.log2 : Int) - 52)).toNat = 52 - m.log2 := by omega
  have e2 : ((m.log2 : Int) - 52 - 0).toNat = 0 := by omega
  have e3 : ((m.log2 : Int) - 52 - Ieee.double.leastPlace).toNat = m.log2 + 1022 := by rw [hl]; omega
  rw [e1, e2, e3, cut_zero, Nat.shiftLeft_eq]
  have hb : Ieee.double.binade = 4503599627370496 := by decide
  have hi : Ieee.double.infRung = 2047 * 4503599627370496 := by decide
  rw [hb, hi, Nat.min_eq_left (by omega)]
  rfl
theorem rd {m : Nat} (h : m < 9007199254740992) : ∃ s : Nat, s ≤ 1074 ∧ Ieee.double.read (fl (m : Int)) = .number false (m * 2 ^ s) (-(s : Int)) := by
  rw [fl_nat]
  by_cases h0 : m = 0
  · subst h0
    refine ⟨1074, Nat.le_refl _, ?_⟩
    generalize 2 ^ 1074 = K
    rw [Nat.zero_mul]
    decide
  · rw [nearest_pos (by omega) h]
    have hL : m.log2 < 53 := (Nat.log2_lt (by omega)).2 (by simpa using h)
    refine ⟨52 - m.log2, by omega, ?_⟩
    have hM : m * 2 ^ (52 - m.log2) < 9007199254740992 := by
      have h1 : m < 2 ^ (m.log2 + 1) := Nat.lt_log2_self
      have h2 : m * 2 ^ (52 - m.log2) < 2 ^ (m.log2 + 1) * 2 ^ (52 - m.log2) := (Nat.mul_lt_mul_right (Nat.two_pow_pos _)).2 h1
      rw [← Nat.pow_add, show m.log2 + 1 + (52 - m.log2) = 53 by omega] at h2
      simpa using h2
    have hM2 : 4503599627370496 ≤ m * 2 ^ (52 - m.log2) := by
      have h1 : 2 ^ m.log2 ≤ m := Nat.log2_self_le h0
      have h2 : 2 ^ m.log2 * 2 ^ (52 - m.log2) ≤ m * 2 ^ (52 - m.log2) := Nat.mul_le_mul_right _ h1
      rw [← Nat.pow_add, show m.log2 + (52 - m.log2) = 52 by omega] at h2
      simpa using h2
    generalize m * 2 ^ (52 - m.log2) = M at hM hM2 ⊢
    generalize m.log2 = L at hL ⊢
    have hl : Ieee.double.leastPlace = -1074 := by decide
    have hb : Ieee.double.binade = 4503599627370496 := by decide
    have hi : Ieee.double.infRung = 9218868437227405312 := by decide
    have hs : Ieee.double.signWeight = 9223372036854775808 := by decide
    unfold Ieee.Format.read
    rw [hs, hb, hi, hl]
    have a1 : ((L + 1022) * 4503599627370496 + M) / 9223372036854775808 % 2 = 0 := by omega
    have a2 : ((L + 1022) * 4503599627370496 + M) % 9223372036854775808 = (L + 1022) * 4503599627370496 + M := by omega
    have a3 : ((L + 1022) * 4503599627370496 + M) % 4503599627370496 = M - 4503599627370496 := by omega
    have a4 : ((L + 1022) * 4503599627370496 + M) / 4503599627370496 = L + 1023 := by omega
    simp only [a1, a2, a3, a4]
    rw [if_neg (by omega), if_pos (by omega)]
    have b1 : 4503599627370496 + (M - 4503599627370496) = M := by omega
    have b2 : (-1074 : Int) + ((L + 1023 - 1 : Nat) : Int) = -((52 - L : Nat) : Int) := by omega
    rw [b1, b2]
    rfl
theorem signed_eq (m k : Nat) : Ieee.signed false m k = ((m * 2 ^ k : Nat) : Int) := by
  unfold Ieee.signed
  rw [if_neg (by decide), Nat.shiftLeft_eq]
theorem cmp_mul (a b k : Nat) : compare (((a * 2 ^ k : Nat) : Int)) ((b * 2 ^ k : Nat) : Int) = compare (a : Int) (b : Int) := by
  have hk := Nat.two_pow_pos k
  rcases Nat.lt_trichotomy a b with h | h | h
  · have h2 := (Nat.mul_lt_mul_right hk).2 h
    rw [Int.compare_eq_lt.2 (by omega), Int.compare_eq_lt.2 (by omega)]
  · subst h
    rw [Int.compare_eq_eq.2 rfl, Int.compare_eq_eq.2 rfl]
  · have h2 := (Nat.mul_lt_mul_right hk).2 h
    rw [Int.compare_eq_gt.2 (by omega), Int.compare_eq_gt.2 (by omega)]
theorem ord {a b : Nat} (ha : a < 9007199254740992) (hb : b < 9007199254740992) : Ieee.double.order (fl (a : Int)) (fl (b : Int)) = some (compare (a : Int) (b : Int)) := by
  obtain ⟨s, hs, e1⟩ := rd ha
  obtain ⟨t, ht, e2⟩ := rd hb
  unfold Ieee.Format.order
  rw [e1, e2]
  unfold Ieee.Datum.order
  simp only [signed_eq]
  congr 1
  have k1 : ((-(s : Int)) - min (-(s : Int)) (-(t : Int))).toNat = max s t - s := by omega
  have k2 : ((-(t : Int)) - min (-(s : Int)) (-(t : Int))).toNat = max s t - t := by omega
  rw [k1, k2, Nat.mul_assoc, Nat.mul_assoc, ← Nat.pow_add, ← Nat.pow_add, show s + (max s t - s) = max s t by omega, show t + (max s t - t) = max s t by omega]
  exact cmp_mul _ _ _
theorem ord53 {a : Nat} (ha : a < 9007199254740992) : Ieee.double.order (fl (a : Int)) 4845873199050653696 = some .lt := by
  obtain ⟨s, hs, e1⟩ := rd ha
  have e2 : Ieee.double.read 4845873199050653696 = .number false 4503599627370496 1 := by decide
  unfold Ieee.Format.order
  rw [e1, e2]
  unfold Ieee.Datum.order
  simp only [signed_eq]
  congr 1
  have k1 : ((-(s : Int)) - min (-(s : Int)) 1).toNat = 0 := by omega
  have k2 : ((1 : Int) - min (-(s : Int)) 1).toNat = s + 1 := by omega
  rw [k1, k2, Int.compare_eq_lt]
  have h2 := (Nat.mul_lt_mul_right (Nat.two_pow_pos s)).2 ha
  rw [Nat.pow_zero, Nat.mul_one, Nat.pow_succ, Nat.mul_comm (2 ^ s) 2, ← Nat.mul_assoc]
  omega
theorem integral_eq {m s : Nat} : (Ieee.Datum.number false (m * 2 ^ s) (-(s : Int))).integral .zero = .number false m 0 := by
  unfold Ieee.Datum.integral
  have k1 : ((-(s : Int))).toNat = 0 := by omega
  have k2 : (-(-(s : Int))).toNat = s := by omega
  simp only [k1, k2]
  congr 1
  unfold Ieee.Toward.cut
  have h2 : (m * 2 ^ s) <<< 0 = m * 2 ^ s := by simp
  rw [h2]
  by_cases hm : m = 0
  · subst hm; simp
  · have hlog : s ≤ (m * 2 ^ s).log2 := by
      have hp := Nat.two_pow_pos s
      have : 2 ^ s ≤ m * 2 ^ s := Nat.le_mul_of_pos_left _ (by omega)
      exact (Nat.le_log2 (by have := Nat.mul_pos (show 0 < m by omega) hp; omega)).2 this
    rw [show min s ((m * 2 ^ s).log2 + 2) = s by omega]
    have : (1 : Nat) <<< s = 2 ^ s := by rw [Nat.shiftLeft_eq, Nat.one_mul]
    simp only [this, Nat.mul_div_cancel _ (Nat.two_pow_pos s)]
    simp
theorem f2i {m : Nat} (h : m < 9007199254740992) : pureV (Conv.floatToInt .f64 (fl (m : Int)) .i64) = some (I (m : Int)) := by
  obtain ⟨s, hs, e1⟩ := rd h
  have e2 : (FloatKind.f64.decode (fl (m : Int))).toInt .zero = some (m : Int) := by
    show (Ieee.Datum.toInt .zero (Ieee.double.read (fl (m : Int)))) = _
    rw [e1]
    unfold Ieee.Datum.toInt
    rw [integral_eq]
    simp [signed_eq]
  unfold Conv.floatToInt
  rw [e2]
  have h2 : IntKind.min .i64 ≤ (m : Int) ∧ (m : Int) ≤ IntKind.max .i64 := by
    simp only [show IntKind.min .i64 = -9223372036854775808 from by decide, show IntKind.max .i64 = 9223372036854775807 from by decide]
    omega
  simp only [h2]
  rfl
theorem trunc_fl {m : Nat} (h : m < 9007199254740992) : pureV (Extern.MathFloor.toIntegral "math.archTrunc" .zero #[.float .f64 (fl (m : Int))]) = some (.lit (.float .f64 (fl (m : Int)))) := by
  obtain ⟨s, hs, e1⟩ := rd h
  have e2 : FloatKind.f64.decode (fl (m : Int)) = .number false (m * 2 ^ s) (-(s : Int)) := e1
  have e3 : FloatKind.f64.encode (.number false m 0) = fl (m : Int) := by rw [fl_nat]; rfl
  have e4 : ∀ d, d = Ieee.Datum.number false (m * 2 ^ s) (-(s : Int)) → pureV (match d with
    | .nan s t =>
      if FloatKind.f64.format.quiet t = t then pure (.float .f64 (fl (m : Int))) else do
      let kept ← choose (.extern "math.Floor,Ceil,Trunc,RoundToEven.signallingNaN kept" 2)
      pure (.float .f64 (if kept == 1 then (fl (m : Int)) else FloatKind.f64.encode (.nan s (FloatKind.f64.format.quiet t))))
    | d => pure (.float .f64 (FloatKind.f64.encode (d.integral .zero)))) = some (.lit (.float .f64 (fl (m : Int)))) := by
    intro d hd
    subst hd
    show pureV (pure (Value.float .f64 (FloatKind.f64.encode ((Ieee.Datum.number false (m * 2 ^ s) (-(s : Int))).integral .zero)))) = _
    rw [integral_eq, e3]
    rfl
  exact e4 _ e2
end Go.Proofs.Abs
