import Derived.Test.YtmcbkmmipgaeoaaNC20
import Derived.KernelRfl
namespace Go.Proofs.Ytmcbkmmipgaeoaa
open Go Go.Proofs Go.RowKit
set_option linter.unusedSimpArgs false
set_option linter.unusedVariables false
open Go.Proofs.Abs
/-- where the last span ends -/
def lto (last : Int) : List (Int × Int) → Int
  | [] => last
  | (_, b) :: xs => lto b xs
/-- how many places -/
def tot : List (Int × Int) → Int
  | [] => 0
  | (a, b) :: xs => (b - a) + tot xs
/-- is a place in a set? -/
def mem (x : Int) : List (Int × Int) → Prop
  | [] => False
  | (a, b) :: xs => (a ≤ x ∧ x < b) ∨ mem x xs
theorem chk_cons {last a b : Int} {xs : List (Int × Int)} : chk last ((a, b) :: xs) = 0 ↔ 0 ≤ a ∧ a < b ∧ b ≤ 1073741824 ∧ last < a ∧ chk b xs = 0 := by
  rw [chk]
  constructor
  · intro h
    split at h
    · cases h
    · split at h
      · cases h
      · exact ⟨by omega, by omega, by omega, by omega, h⟩
  · rintro ⟨h1, h2, h3, h4, h5⟩
    rw [if_neg (by omega), if_neg (by omega)]
    exact h5
theorem chk_snoc : ∀ (s : List (Int × Int)) (last a b : Int), chk last (s ++ [(a, b)]) = 0 ↔ chk last s = 0 ∧ 0 ≤ a ∧ a < b ∧ b ≤ 1073741824 ∧ lto last s < a
  | [], last, a, b => by
    show chk last [(a, b)] = 0 ↔ _
    rw [chk_cons]
    simp [chk, lto]
  | (x, y) :: s, last, a, b => by
    show chk last ((x, y) :: (s ++ [(a, b)])) = 0 ↔ _
    rw [chk_cons, chk_cons, chk_snoc s y a b, lto]
    constructor
    · rintro ⟨h1, h2, h3, h4, h5, h6⟩
      exact ⟨⟨h1, h2, h3, h4, h5⟩, h6⟩
    · rintro ⟨⟨h1, h2, h3, h4, h5⟩, h6⟩
      exact ⟨h1, h2, h3, h4, h5, h6⟩
theorem lto_snoc : ∀ (s : List (Int × Int)) (last a b : Int), lto last (s ++ [(a, b)]) = b
  | [], _, _, _ => rfl
  | (_, y) :: s, _, a, b => lto_snoc s y a b
theorem tot_snoc : ∀ (s : List (Int × Int)) (a b : Int), tot (s ++ [(a, b)]) = tot s + (b - a)
  | [], a, b => by simp [tot]
  | (x, y) :: s, a, b => by
    show (y - x) + tot (s ++ [(a, b)]) = (y - x) + tot s + (b - a)
    rw [tot_snoc s a b]
    omega
theorem mem_snoc : ∀ (s : List (Int × Int)) (x a b : Int), mem x (s ++ [(a, b)]) ↔ mem x s ∨ (a ≤ x ∧ x < b)
  | [], x, a, b => by simp [mem]
  | (c, d) :: s, x, a, b => by
    show (c ≤ x ∧ x < d) ∨ mem x (s ++ [(a, b)]) ↔ ((c ≤ x ∧ x < d) ∨ mem x s) ∨ (a ≤ x ∧ x < b)
    rw [mem_snoc s x a b, or_assoc]
theorem snoc_cases (s : List (Int × Int)) : s = [] ∨ ∃ t a b, s = t ++ [(a, b)] := by
  by_cases h : 0 < s.length
  · obtain ⟨t, ⟨a, b⟩, rfl⟩ := snoc_of h
    exact .inr ⟨t, a, b, rfl⟩
  · exact .inl (List.eq_nil_of_length_eq_zero (by omega))
theorem jn_none {s : List (Int × Int)} {f t : Int} (h : t ≤ f) : jn s f t = s := by unfold jn; rw [if_pos h]
theorem jn_nil {f t : Int} (h : ¬ t ≤ f) : jn [] f t = [(f, t)] := by unfold jn; rw [if_neg h]; rfl
/-- WHAT JOINING COMES TO, if nothing of the set is behind f -/
theorem jn_good {s : List (Int × Int)} {f t : Int} (hs : chk (-1) s = 0) (hl : f < t → lto (-1) s ≤ f) (hf : f < t → 0 ≤ f) (ht : t ≤ 1073741824) :
    chk (-1) (jn s f t) = 0 ∧ lto (-1) (jn s f t) = (if t ≤ f then lto (-1) s else t) ∧ tot (jn s f t) = tot s + max 0 (t - f) ∧ ∀ x, mem x (jn s f t) ↔ mem x s ∨ (f ≤ x ∧ x < t) := by
  by_cases h : t ≤ f
  · rw [jn_none h, if_pos h]
    refine ⟨hs, rfl, by omega, fun x => ⟨.inl, fun hx => hx.elim id fun h' => by omega⟩⟩
  have hl := hl (by omega)
  have hf := hf (by omega)
  rw [if_neg h]
  rcases snoc_cases s with rfl | ⟨u, a, b, rfl⟩
  · rw [jn_nil h]
    refine ⟨chk_cons.2 ⟨hf, by omega, ht, by omega, rfl⟩, rfl, ?_, fun x => ?_⟩
    · simp only [tot]; omega
    · simp [mem]
  · rw [lto_snoc] at hl
    have hu := (chk_snoc _ _ _ _).1 hs
    rw [jn_snoc u a b f t h]
    by_cases hfb : f ≤ b
    · rw [if_pos hfb]
      have hm : max b t = t := by omega
      rw [hm]
      refine ⟨(chk_snoc _ _ _ _).2 ⟨hu.1, hu.2.1, by omega, ht, hu.2.2.2.2⟩, lto_snoc _ _ _ _, ?_, fun x => ?_⟩
      · rw [tot_snoc, tot_snoc]; omega
      · rw [mem_snoc, mem_snoc]
        constructor
        · rintro (h1 | h1)
          · exact .inl (.inl h1)
          · by_cases hx : x < b
            · exact .inl (.inr ⟨h1.1, hx⟩)
            · exact .inr ⟨by omega, h1.2⟩
        · rintro ((h1 | h1) | h1)
          · exact .inl h1
          · exact .inr ⟨h1.1, by omega⟩
          · exact .inr ⟨by omega, h1.2⟩
    · rw [if_neg hfb]
      refine ⟨(chk_snoc _ _ _ _).2 ⟨hs, hf, by omega, ht, by rw [lto_snoc]; omega⟩, lto_snoc _ _ _ _, ?_, fun x => ?_⟩
      · rw [tot_snoc]; omega
      · rw [mem_snoc]
theorem mem_ge : ∀ (xs : List (Int × Int)) (last x : Int), chk last xs = 0 → mem x xs → last < x
  | (a, b) :: xs, last, x, hc, hm => by
    have h := chk_cons.1 hc
    rcases hm with hm | hm
    · omega
    · have := mem_ge xs b x h.2.2.2.2 hm
      omega
/-- sets with the same places are the same -/
theorem mem_ext : ∀ (xs ys : List (Int × Int)) (la lb : Int), chk la xs = 0 → chk lb ys = 0 → (∀ x, mem x xs ↔ mem x ys) → xs = ys
  | [], [], _, _, _, _, _ => rfl
  | [], (c, d) :: ys, _, _, _, hb, h => by
    have h2 := chk_cons.1 hb
    exact ((h c).2 (.inl ⟨Int.le_refl _, h2.2.1⟩)).elim
  | (a, b) :: xs, [], _, _, ha, _, h => by
    have h2 := chk_cons.1 ha
    exact ((h a).1 (.inl ⟨Int.le_refl _, h2.2.1⟩)).elim
  | (a, b) :: xs, (c, d) :: ys, la, lb, ha, hb, h => by
    have h1 := chk_cons.1 ha
    have h2 := chk_cons.1 hb
    have gx := fun x => mem_ge xs b x h1.2.2.2.2
    have gy := fun x => mem_ge ys d x h2.2.2.2.2
    have hac : a = c := by
      have e1 := (h a).1 (.inl ⟨Int.le_refl _, h1.2.1⟩)
      have e2 := (h c).2 (.inl ⟨Int.le_refl _, h2.2.1⟩)
      rcases e1 with e1 | e1
      · rcases e2 with e2 | e2
        · omega
        · have := gx c e2; omega
      · have := gy a e1
        rcases e2 with e2 | e2
        · omega
        · have := gx c e2; omega
    subst hac
    have hbd : b = d := by
      by_cases hlt : b < d
      · rcases (h b).2 (.inl ⟨by omega, hlt⟩) with e | e
        · omega
        · have := gx b e; omega
      · by_cases hgt : d < b
        · rcases (h d).1 (.inl ⟨by omega, hgt⟩) with e | e
          · omega
          · have := gy d e; omega
        · omega
    subst hbd
    rw [mem_ext xs ys b b h1.2.2.2.2 h2.2.2.2.2 fun x => ?_]
    constructor
    · intro hx
      have := gx x hx
      rcases (h x).1 (.inr hx) with e | e
      · omega
      · exact e
    · intro hx
      have := gy x hx
      rcases (h x).2 (.inr hx) with e | e
      · omega
      · exact e

end Go.Proofs.Ytmcbkmmipgaeoaa
