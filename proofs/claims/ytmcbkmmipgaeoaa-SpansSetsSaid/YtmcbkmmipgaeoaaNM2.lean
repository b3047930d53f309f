import Derived.Test.YtmcbkmmipgaeoaaNM1
import Derived.KernelRfl
namespace Go.Proofs.Ytmcbkmmipgaeoaa
open Go Go.Proofs Go.RowKit
set_option linter.unusedSimpArgs false
set_option linter.unusedVariables false
open Go.Proofs.Abs
theorem lto_ge : ∀ (xs : List (Int × Int)) (last : Int), chk last xs = 0 → last ≤ lto last xs
  | [], _, _ => Int.le_refl _
  | (a, b) :: xs, last, h => by
    have h1 := chk_cons.1 h
    have := lto_ge xs b h1.2.2.2.2
    rw [lto]
    omega
theorem ins_none {p n : Int} : ∀ (xs s : List (Int × Int)) (last : Int), chk last xs = 0 → ¬ (p < last ∧ 1073741824 < last + n) → (insF p n s xs = none ↔ p < lto last xs ∧ 1073741824 < lto last xs + n)
  | [], s, last, _, hl => by
    rw [insF, lto]
    exact ⟨fun h => (by cases h), fun h => absurd h hl⟩
  | (a, b) :: xs, s, last, hc, _ => by
    have h1 := chk_cons.1 hc
    have hg := lto_ge xs b h1.2.2.2.2
    rw [insF, lto]
    by_cases hb : b ≤ p
    · rw [if_pos hb]
      exact ins_none xs _ b h1.2.2.2.2 (by omega)
    · rw [if_neg hb]
      by_cases hm : 1073741824 - n < b
      · rw [if_pos hm]
        exact ⟨fun _ => ⟨by omega, by omega⟩, fun _ => rfl⟩
      · rw [if_neg hm]
        exact ins_none xs _ b h1.2.2.2.2 (by omega)
theorem ins_good {p n : Int} (hp0 : 0 ≤ p) (hp : p ≤ 1073741824) (hn : 0 ≤ n) : ∀ (xs s r : List (Int × Int)) (last : Int), chk last xs = 0 → chk (-1) s = 0 → lto (-1) s ≤ (if last ≤ p then last else last + n) → insF p n s xs = some r →
    chk (-1) r = 0 ∧ tot r = tot s + tot xs ∧ r.length ≤ s.length + 2 * xs.length ∧ ∀ x, mem x r ↔ mem x s ∨ (x < p ∧ mem x xs) ∨ (p + n ≤ x ∧ mem (x - n) xs)
  | [], s, r, last, _, hs, _, hr => by
    rw [insF] at hr
    cases hr
    refine ⟨hs, by simp [tot], by simp, fun x => by simp [mem]⟩
  | (a, b) :: xs, s, r, last, hc, hs, hl, hr => by
    have h1 := chk_cons.1 hc
    rw [insF] at hr
    obtain ⟨g1, g2, g3, g4⟩ := jn_good (s := s) (f := a) (t := min b p) hs (fun h => by rw [if_pos (by omega)] at hl; omega) (fun _ => h1.1) (by omega)
    have gl := jn_length s a (min b p)
    by_cases hb : b ≤ p
    · rw [if_pos hb] at hr
      rw [if_neg (by omega)] at g2
      obtain ⟨i1, i2, i3, i4⟩ := ins_good hp0 hp hn xs _ r b h1.2.2.2.2 g1 (by rw [if_pos hb]; omega) hr
      refine ⟨i1, by rw [i2, g3, tot]; omega, by rw [List.length_cons]; omega, fun x => ?_⟩
      rw [i4, g4, mem, mem]
      constructor
      · rintro ((h | h) | h | h)
        · exact .inl h
        · exact .inr (.inl ⟨by omega, .inl (by omega)⟩)
        · exact .inr (.inl ⟨h.1, .inr h.2⟩)
        · exact .inr (.inr ⟨h.1, .inr h.2⟩)
      · rintro (h | ⟨h, h' | h'⟩ | ⟨h, h' | h'⟩)
        · exact .inl (.inl h)
        · exact .inl (.inr (by omega))
        · exact .inr (.inl ⟨h, h'⟩)
        · omega
        · exact .inr (.inr ⟨h, h'⟩)
    · rw [if_neg hb] at hr
      by_cases hm : 1073741824 - n < b
      · rw [if_pos hm] at hr
        cases hr
      rw [if_neg hm] at hr
      have hl1 : lto (-1) (jn s a (min b p)) ≤ max a p + n := by
        rw [g2]
        split
        · split at hl <;> omega
        · omega
      obtain ⟨k1, k2, k3, k4⟩ := jn_good (s := jn s a (min b p)) (f := max a p + n) (t := b + n) g1 (fun _ => hl1) (fun _ => by omega) (by omega)
      have kl := jn_length (jn s a (min b p)) (max a p + n) (b + n)
      rw [if_neg (by omega)] at k2
      obtain ⟨i1, i2, i3, i4⟩ := ins_good hp0 hp hn xs _ r b h1.2.2.2.2 k1 (by rw [if_neg hb]; omega) hr
      refine ⟨i1, by rw [i2, k3, g3, tot]; omega, by rw [List.length_cons]; omega, fun x => ?_⟩
      rw [i4, k4, g4, mem, mem]
      constructor
      · rintro (((h | h) | h) | h | h)
        · exact .inl h
        · exact .inr (.inl ⟨by omega, .inl (by omega)⟩)
        · exact .inr (.inr ⟨by omega, .inl (by omega)⟩)
        · exact .inr (.inl ⟨h.1, .inr h.2⟩)
        · exact .inr (.inr ⟨h.1, .inr h.2⟩)
      · rintro (h | ⟨h, h' | h'⟩ | ⟨h, h' | h'⟩)
        · exact .inl (.inl (.inl h))
        · exact .inl (.inl (.inr (by omega)))
        · exact .inr (.inl ⟨h, h'⟩)
        · exact .inl (.inr (by omega))
        · exact .inr (.inr ⟨h, h'⟩)
/-- how many places of a range are in a set -/
def gone (p e : Int) : List (Int × Int) → Int
  | [] => 0
  | (a, b) :: xs => max 0 (min b e - max a p) + gone p e xs
theorem rem_good {p e : Int} (hp0 : 0 ≤ p) (hp : p ≤ e) (he : e ≤ 1073741824) : ∀ (xs s : List (Int × Int)) (last : Int), chk last xs = 0 → chk (-1) s = 0 → lto (-1) s ≤ (if last ≤ p then last else if last ≤ e then p else last - (e - p)) →
    chk (-1) (remF p e (e - p) s xs) = 0 ∧ tot (remF p e (e - p) s xs) = tot s + tot xs - gone p e xs ∧ (remF p e (e - p) s xs).length ≤ s.length + 2 * xs.length ∧
      ∀ x, mem x (remF p e (e - p) s xs) ↔ mem x s ∨ (x < p ∧ mem x xs) ∨ (p ≤ x ∧ mem (x + (e - p)) xs)
  | [], s, last, _, hs, _ => by
    rw [remF]
    refine ⟨hs, by simp [tot, gone], by simp, fun x => by simp [mem]⟩
  | (a, b) :: xs, s, last, hc, hs, hl => by
    have h1 := chk_cons.1 hc
    rw [remF]
    obtain ⟨g1, g2, g3, g4⟩ := jn_good (s := s) (f := a) (t := min b p) hs (fun h => by rw [if_pos (by omega)] at hl; omega) (fun _ => h1.1) (by omega)
    have gl := jn_length s a (min b p)
    have hl1 : lto (-1) (jn s a (min b p)) ≤ max a e - (e - p) := by
      rw [g2]
      split
      · split at hl
        · omega
        · split at hl <;> omega
      · omega
    obtain ⟨k1, k2, k3, k4⟩ := jn_good (s := jn s a (min b p)) (f := max a e - (e - p)) (t := b - (e - p)) g1 (fun _ => hl1) (fun _ => by omega) (by omega)
    have kl := jn_length (jn s a (min b p)) (max a e - (e - p)) (b - (e - p))
    have hl2 : lto (-1) (jn (jn s a (min b p)) (max a e - (e - p)) (b - (e - p))) ≤ (if b ≤ p then b else if b ≤ e then p else b - (e - p)) := by
      rw [k2]
      by_cases c1 : b ≤ e
      · rw [if_pos (by omega), g2]
        by_cases c2 : b ≤ p
        · rw [if_pos c2, if_neg (by omega)]; omega
        · rw [if_neg c2, if_pos c1]
          split
          · split at hl
            · omega
            · split at hl <;> omega
          · omega
      · rw [if_neg (by omega), if_neg (by omega), if_neg c1]
        omega
    obtain ⟨i1, i2, i3, i4⟩ := rem_good hp0 hp he xs _ b h1.2.2.2.2 k1 hl2
    refine ⟨i1, by rw [i2, k3, g3, tot, gone]; omega, by rw [List.length_cons]; omega, fun x => ?_⟩
    rw [i4, k4, g4, mem, mem]
    constructor
    · rintro (((h | h) | h) | h | h)
      · exact .inl h
      · exact .inr (.inl ⟨by omega, .inl (by omega)⟩)
      · exact .inr (.inr ⟨by omega, .inl (by omega)⟩)
      · exact .inr (.inl ⟨h.1, .inr h.2⟩)
      · exact .inr (.inr ⟨h.1, .inr h.2⟩)
    · rintro (h | ⟨h, h' | h'⟩ | ⟨h, h' | h'⟩)
      · exact .inl (.inl (.inl h))
      · exact .inl (.inl (.inr (by omega)))
      · exact .inr (.inl ⟨h, h'⟩)
      · exact .inl (.inr (by omega))
      · exact .inr (.inr ⟨h, h'⟩)
theorem gone_le {p n : Int} (hp : p ≤ 1073741824) : ∀ (xs : List (Int × Int)) (last : Int), chk last xs = 0 → gone p (p + min n (1073741824 - p)) xs = gone p (p + n) xs
  | [], _, _ => rfl
  | (a, b) :: xs, last, hc => by
    have h1 := chk_cons.1 hc
    rw [gone, gone, gone_le hp xs b h1.2.2.2.2]
    omega
theorem tot_bound : ∀ (xs : List (Int × Int)) (last : Int), last ≤ 1073741824 → chk last xs = 0 → 0 ≤ tot xs ∧ tot xs ≤ 1073741824 - last
  | [], last, hu, hc => ⟨Int.le_refl _, by simp only [tot]; omega⟩
  | (a, b) :: xs, last, hu, hc => by
    have h1 := chk_cons.1 hc
    have := tot_bound xs b h1.2.2.1 h1.2.2.2.2
    rw [tot]
    omega
theorem cnt_tot : ∀ (xs : List (Int × Int)) (last acc : Int), last ≤ 1073741824 → chk last xs = 0 → 0 ≤ acc → acc + tot xs ≤ 2147483648 → cnt acc xs = acc + tot xs
  | [], _, acc, _, _, _, _ => by rw [cnt, tot]; omega
  | (a, b) :: xs, last, acc, hu, hc, h0, h2 => by
    have h3 := chk_cons.1 hc
    have hb := tot_bound xs b h3.2.2.1 h3.2.2.2.2
    rw [tot] at h2 ⊢
    rw [cnt, wrap_sub (a := b) (b := a) (by omega) (by omega), wrap_add (by omega) (by omega)]
    rw [cnt_tot xs b _ h3.2.2.1 h3.2.2.2.2 (by omega) (by omega)]
    omega
theorem cnt_val {xs : List (Int × Int)} (hc : chk (-1) xs = 0) : cnt 0 xs = tot xs := by
  have := tot_bound xs (-1) (by omega) hc
  have h := cnt_tot xs (-1) 0 (by omega) hc (by omega) (by omega)
  omega
theorem mem_lt : ∀ (xs : List (Int × Int)) (last x : Int), chk last xs = 0 → mem x xs → x < lto last xs
  | (a, b) :: xs, last, x, hc, hm => by
    have h := chk_cons.1 hc
    have hg := lto_ge xs b h.2.2.2.2
    rw [lto]
    rcases hm with hm | hm
    · omega
    · exact mem_lt xs b x h.2.2.2.2 hm
theorem lto_le : ∀ (xs : List (Int × Int)) (last : Int), last ≤ 1073741824 → chk last xs = 0 → lto last xs ≤ 1073741824
  | [], _, h, _ => h
  | (a, b) :: xs, _, _, hc => lto_le xs b (chk_cons.1 hc).2.2.1 (chk_cons.1 hc).2.2.2.2
/-- what was inserted, and is removed again, changes nothing -/
theorem back {p n : Int} {xs r : List (Int × Int)} (hp0 : 0 ≤ p) (hp : p ≤ 1073741824) (hn0 : 0 ≤ n) (hc : chk (-1) xs = 0) (hr : insF p n [] xs = some r) :
    remF p (p + min n (1073741824 - p)) (p + min n (1073741824 - p) - p) [] r = xs := by
  obtain ⟨i1, _, _, i4⟩ := ins_good hp0 hp hn0 xs [] r (-1) hc rfl (by rw [if_pos (by omega)]; exact Int.le_refl _) hr
  obtain ⟨j1, _, _, j4⟩ := rem_good (e := p + min n (1073741824 - p)) hp0 (by omega) (by omega) r [] (-1) i1 rfl (by rw [if_pos (by omega)]; exact Int.le_refl _)
  refine mem_ext _ _ (-1) (-1) j1 hc fun x => ?_
  have hno : ¬ (p < lto (-1) xs ∧ 1073741824 < lto (-1) xs + n) := fun h => by
    rw [(ins_none xs [] (-1) hc (by omega)).2 h] at hr
    cases hr
  have hmx := fun y => mem_lt xs (-1) y hc
  have hml := lto_le xs (-1) (by omega) hc
  rw [j4, i4, i4]
  by_cases hnp : n ≤ 1073741824 - p
  · have e : p + min n (1073741824 - p) - p = n := by omega
    rw [e, show x + n - n = x from by omega]
    constructor
    · rintro (h | ⟨h, h1 | h1 | h1⟩ | ⟨h, h1 | h1 | h1⟩)
      · cases h
      · cases h1
      · exact h1.2
      · omega
      · cases h1
      · omega
      · exact h1.2
    · intro h
      by_cases hx : x < p
      · exact .inr (.inl ⟨hx, .inr (.inl ⟨hx, h⟩)⟩)
      · exact .inr (.inr ⟨by omega, .inr (.inr ⟨by omega, h⟩)⟩)
  · have e : p + min n (1073741824 - p) - p = 1073741824 - p := by omega
    rw [e]
    constructor
    · rintro (h | ⟨h, h1 | h1 | h1⟩ | ⟨h, h1 | h1 | h1⟩)
      · cases h
      · cases h1
      · exact h1.2
      · omega
      · cases h1
      · omega
      · have := hmx _ h1.2
        omega
    · intro h
      have := hmx x h
      have hx : x < p := by omega
      exact .inr (.inl ⟨hx, .inr (.inl ⟨hx, h⟩)⟩)
theorem cmb_length (kp : Bool → Bool → Bool) : ∀ (m : Nat) (xa xb : List (Int × Int)) (p : Int) (s : List (Int × Int)), (cmb kp m xa xb p s).length ≤ s.length + m
  | 0, _, _, _, _ => by rw [cmb]; omega
  | m + 1, xa, xb, p, s => by
    rw [cmb]
    split
    · split
      · have := cmb_length kp m xa.tail xb p s; omega
      · split
        · have := cmb_length kp m xa xb.tail p s; omega
        · have h1 := cmb_length kp m xa xb (min (st p xa).2 (st p xb).2) (if kp (st p xa).1 (st p xb).1 = true then jn s p (min (st p xa).2 (st p xb).2) else s)
          have h2 : (if kp (st p xa).1 (st p xb).1 = true then jn s p (min (st p xa).2 (st p xb).2) else s).length ≤ s.length + 1 := by
            split
            · exact jn_length _ _ _
            · omega
          omega
    · omega

/-- the error of two sets -/
def err2 (xa xb : List (Int × Int)) : Int := if chk (-1) xa = 0 then chk (-1) xb else chk (-1) xa
theorem cmbR_err (kp : Bool → Bool → Bool) (xa xb : List (Int × Int)) (hl : xa.length + xb.length ≤ 600) : (cmbR kp xa xb).2 = err2 xa xb ∧ (err2 xa xb ≠ 0 → (cmbR kp xa xb).1 = []) := by
  unfold cmbR err2
  by_cases h1 : chk (-1) xa = 0
  · rw [if_neg (fun h => h h1), if_pos h1]
    by_cases h2 : chk (-1) xb = 0
    · rw [if_neg (fun h => h h2), h2]
      unfold finR
      have h3 := cmb_length kp (phi 0 xa + phi 0 xb + 1) xa xb 0 []
      have h4 := phi_le 0 xa
      have h5 := phi_le 0 xb
      rw [List.length_nil] at h3
      rw [if_pos (by omega)]
      exact ⟨rfl, fun h => absurd rfl h⟩
    · rw [if_pos h2]
      exact ⟨rfl, fun _ => rfl⟩
  · rw [if_pos h1, if_neg h1]
    exact ⟨rfl, fun _ => rfl⟩
theorem cc_ne {xs : List (Int × Int)} {p n : Int} : cc xs p n = 0 ↔ chk (-1) xs = 0 ∧ 0 ≤ p ∧ p ≤ 1073741824 ∧ 0 ≤ n ∧ n ≤ 1073741824 := by
  unfold cc
  by_cases h1 : chk (-1) xs = 0
  · rw [if_neg (fun h => h h1)]
    split
    · rename_i h2
      exact ⟨fun h => (by cases h), fun h => (by omega)⟩
    · rename_i h2
      exact ⟨fun _ => ⟨h1, by omega⟩, fun _ => rfl⟩
  · rw [if_pos h1]
    exact ⟨fun h => absurd h h1, fun h => absurd h.1 h1⟩
/-- the removal, where it is allowed -/
theorem remR_ok {xs : List (Int × Int)} {p n : Int} (h : cc xs p n = 0) (hl : xs.length ≤ 2000) :
    ∃ r, remR xs p n = (r, 0) ∧ r = remF p (p + min n (1073741824 - p)) (p + min n (1073741824 - p) - p) [] xs ∧ chk (-1) r = 0 ∧ cnt 0 r = cnt 0 xs - gone p (p + n) xs ∧ r.length ≤ 2 * xs.length := by
  obtain ⟨h0, h1, h2, h3, h4⟩ := cc_ne.1 h
  obtain ⟨i1, i2, i3, _⟩ := rem_good (e := p + min n (1073741824 - p)) h1 (by omega) (by omega) xs [] (-1) h0 rfl (by rw [if_pos (by omega)]; exact Int.le_refl _)
  refine ⟨_, ?_, rfl, i1, ?_, by rw [List.length_nil] at i3; omega⟩
  · unfold remR finR
    rw [if_neg (fun hn => hn h), if_pos (by rw [List.length_nil] at i3; omega)]
  · rw [cnt_val i1, cnt_val h0, i2, gone_le h2 xs (-1) h0, tot]
    omega
/-- the insertion, where it is allowed -/
theorem insR_ok {xs : List (Int × Int)} {p n : Int} (h : cc xs p n = 0) (hl : xs.length ≤ 2000) :
    (p < lto (-1) xs ∧ 1073741824 < lto (-1) xs + n ∧ insR xs p n = ([], 4)) ∨
    (¬ (p < lto (-1) xs ∧ 1073741824 < lto (-1) xs + n) ∧ ∃ r, insR xs p n = (r, 0) ∧ chk (-1) r = 0 ∧ cnt 0 r = cnt 0 xs ∧ r.length ≤ 2 * xs.length ∧ remR r p n = (xs, 0)) := by
  obtain ⟨h0, h1, h2, h3, h4⟩ := cc_ne.1 h
  have hn := ins_none (p := p) (n := n) xs [] (-1) h0 (by omega)
  cases hr : insF p n [] xs with
  | none =>
    have h5 := hn.1 hr
    refine .inl ⟨h5.1, h5.2, ?_⟩
    unfold insR
    rw [if_neg (fun hn => hn h), hr]
  | some r =>
    obtain ⟨i1, i2, i3, _⟩ := ins_good h1 h2 h3 xs [] r (-1) h0 rfl (by rw [if_pos (by omega)]; exact Int.le_refl _) hr
    rw [List.length_nil] at i3
    refine .inr ⟨fun h5 => ?_, r, ?_, i1, ?_, by omega, ?_⟩
    · rw [hn.2 h5] at hr
      cases hr
    · unfold insR
      rw [if_neg (fun hn => hn h), hr]
      show finR r = _
      unfold finR
      rw [if_pos (by omega)]
    · rw [cnt_val i1, cnt_val h0, i2, tot]
      omega
    · have hcc : cc r p n = 0 := cc_ne.2 ⟨i1, h1, h2, h3, h4⟩
      unfold remR
      rw [if_neg (fun hn => hn hcc), back h1 h2 h3 h0 hr]
      unfold finR
      rw [if_pos (by omega)]

end Go.Proofs.Ytmcbkmmipgaeoaa
