import Derived.Test.YtolpndlnabodgaaW10
namespace Go.Proofs.Abs
open Go Go.RowKit
set_option linter.unusedSimpArgs false
set_option linter.unusedVariables false
/-! Blocks of one's own that are copied into, cleared and divided. -/
section
variable {C : Ctx} {t e : TypeId} {ti te : TI} {α : Type}
/-- a block of elements -/
structure Blks (f : α → AV) (h : Hp) (nm : Nat) (M : List α) : Prop where
  lt : nm < h.c
  blk : ∃ b, h.m.get nm = some b ∧ ∀ (k : Nat) x, M[k]? = some x → b.cells.get k = some (f x)
theorem Blks.cell {f : α → AV} {h : Hp} {nm : Nat} {M : List α} (b : Blks f h nm M) {k : Nat} {x : α} (hx : M[k]? = some x) : Cell h nm k (f x) := by
  obtain ⟨c, h1, h2⟩ := b.blk
  exact ⟨c, h1, h2 k x hx⟩
theorem Blks.fr {f : α → AV} {h h' : Hp} {nm : Nat} {M : List α} (b : Blks f h nm M) {P : Nat → Prop} (a : Fr P h h') (hp : ¬ P nm) : Blks f h' nm M := by
  obtain ⟨c, h1, h2⟩ := b.blk
  exact ⟨Nat.lt_of_lt_of_le b.lt a.c, c, (a.m nm b.lt hp).trans h1, h2⟩
theorem Blks.ext {f : α → AV} {h h' : Hp} {nm : Nat} {M : List α} (b : Blks f h nm M) (a : Ext h h') : Blks f h' nm M := b.fr (a.fr (fun _ => False)) id
theorem Blks.only {f : α → AV} {h h' : Hp} {nm n : Nat} {M : List α} (b : Blks f h nm M) (a : Only n h h') (hp : nm ≠ n) : Blks f h' nm M := b.fr (a.fr (P := fun k => k = n) rfl) hp
/-- elements put into a list from a place on -/
def patch (M : List α) (a : Nat) (xs : List α) : List α := M.take a ++ xs ++ M.drop (a + xs.length)
theorem patch_at {M : List α} {a : Nat} {xs : List α} (h : a + xs.length ≤ M.length) (k : Nat) : (patch M a xs)[k]? = if a ≤ k ∧ k < a + xs.length then xs[k - a]? else M[k]? := by
  unfold patch
  rw [List.append_assoc, List.getElem?_append, List.length_take, List.getElem?_append, List.getElem?_take, List.getElem?_drop]
  have e : min a M.length = a := by omega
  rw [e]
  by_cases h1 : k < a
  · rw [if_pos h1, if_pos h1, if_neg (by omega)]
  · rw [if_neg h1]
    by_cases h2 : k - a < xs.length
    · rw [if_pos h2, if_pos (by omega)]
    · rw [if_neg h2, if_neg (by omega)]
      congr 1
      omega
theorem known_of {b : T AV} : ∀ {n off : Nat}, (∀ i, i < n → ∃ v, b.get (off + i) = some v) → known b off n = true := by
  intro n
  induction n with
  | zero => intro off _; rfl
  | succ n ih =>
    intro off h
    obtain ⟨v, hv⟩ := h 0 (by omega)
    rw [known_s (v := v) (by simpa using hv)]
    exact ih (fun i hi => by
      obtain ⟨w, hw⟩ := h (i + 1) (by omega)
      exact ⟨w, by rw [← hw]; congr 1; omega⟩)
/-- a part of a block: n elements from a on -/
def Sl (nm a n : Nat) (w : AV) : Prop := ∃ o c, w = .slice nm o n false c 0 ∧ (n = 0 ∨ o = a)
theorem Sl.len {nm a n : Nat} {w : AV} (s : Sl nm a n w) : lenA w = some n := by
  obtain ⟨o, c, rfl, _⟩ := s
  rfl
theorem Sl.whole (nm n c : Nat) : Sl nm 0 n (.slice nm 0 n false c 0) := ⟨0, c, rfl, .inr rfl⟩
theorem beq_zero {n : Nat} (h : n ≠ 0) : Nat.beq n 0 = false := by
  cases hb : Nat.beq n 0 with
  | false => rfl
  | true => exact absurd (Nat.eq_of_beq_eq_true hb) h
theorem Sl.elems {f : α → AV} {h : Hp} {nm a n m : Nat} {M : List α} {w : AV} (b : Blks f h nm M) (s : Sl nm a n w) (ha : a + n ≤ M.length) (hm : m ≤ n) : elemsA h 1 m w = some (((M.drop a).take m).map f) := by
  obtain ⟨o, c, rfl, ho⟩ := s
  by_cases hm0 : m = 0
  · subst hm0
    rw [List.take_zero]
    rfl
  · rcases ho with ho | rfl
    · omega
    · show cond (Nat.beq m 0) (some []) (Abs.load h nm o (m * 1)) = _
      rw [beq_zero hm0]
      show Abs.load h nm o (m * 1) = _
      obtain ⟨d, h1, h2⟩ := b.blk
      unfold Abs.load
      rw [h1, Nat.mul_one]
      show getCells d.cells o m = _
      have hlen : (((M.drop o).take m).map f).length = m := by rw [List.length_map, List.length_take, List.length_drop]; omega
      have := gets_of (b := d.cells) (cs := ((M.drop o).take m).map f) (off := o) (fun j x hj => by
        rw [List.getElem?_map, Option.map_eq_some_iff] at hj
        obtain ⟨y, hy, rfl⟩ := hj
        rw [List.getElem?_take] at hy
        split at hy
        · rw [List.getElem?_drop] at hy
          exact h2 (o + j) y hy
        · cases hy)
      rwa [hlen] at this
theorem row_load {h : Hp} {nm : Nat} {xs : List AV} : ∀ {off : Nat}, Row1 h nm off xs → Abs.load h nm off xs.length = some xs := by
  induction xs with
  | nil =>
    intro off _
    unfold Abs.load
    cases h.m.get nm <;> rfl
  | cons x xs ih =>
    intro off r
    have h0 := r 0 x rfl
    rw [Nat.add_zero] at h0
    have h1 := ih (off := off + 1) (fun k y hy => by have := r (k + 1) y (by simpa using hy); rwa [show off + 1 + k = off + (k + 1) by omega])
    unfold Abs.load at h0 h1 ⊢
    cases hm : h.m.get nm with
    | none =>
      rw [hm] at h0 h1
      change roCells (h.ro nm) off 1 = _ at h0
      change roCells (h.ro nm) (off + 1) xs.length = _ at h1
      show roCells (h.ro nm) off (xs.length + 1) = _
      rw [roCells_succ, h1]
      rw [roCells_succ, roCells_zero] at h0
      cases hx : h.ro nm off with
      | none => rw [hx] at h0; cases h0
      | some y => rw [hx] at h0; cases h0; rfl
    | some b =>
      rw [hm] at h0 h1
      change getCells b.cells off 1 = _ at h0
      change getCells b.cells (off + 1) xs.length = _ at h1
      show getCells b.cells off (xs.length + 1) = _
      rw [getCells_succ, h1]
      rw [getCells_succ, getCells_zero] at h0
      cases hx : b.cells.get off with
      | none => rw [hx] at h0; cases h0
      | some y => rw [hx] at h0; cases h0; rfl
theorem row_pre {h : Hp} {nm off m : Nat} {xs : List AV} (r : Row1 h nm off xs) (hm : m ≤ xs.length) : Abs.load h nm off m = some (xs.take m) := by
  have r2 : Row1 h nm off (xs.take m) := fun k x hx => by
    rw [List.getElem?_take] at hx
    split at hx
    · exact r k x hx
    · cases hx
  have := row_load r2
  rwa [List.length_take, Nat.min_eq_left hm] at this
/-- the first elements of a list that is given -/
theorem IsL.elems {h : Hp} {v : AV} {xs : List AV} (r : IsL h v xs) {m : Nat} (hm : m ≤ xs.length) : elemsA h 1 m v = some (xs.take m) := by
  rcases r with ⟨rfl, rfl⟩ | ⟨nm, off, rest, cap, z, rfl, _, h3⟩
  · rw [List.take_nil]
    rfl
  · by_cases hm0 : m = 0
    · subst hm0
      rw [List.take_zero]
      rfl
    · show cond (Nat.beq m 0) (some []) (Abs.load h nm off (m * 1)) = _
      rw [beq_zero hm0, Nat.mul_one]
      exact row_pre h3 hm
theorem IsL.lenA {h : Hp} {v : AV} {xs : List AV} (r : IsL h v xs) : Abs.lenA v = some xs.length := by
  rcases r with ⟨rfl, rfl⟩ | ⟨nm, off, rest, cap, z, rfl, _, h3⟩ <;> rfl
end
end Go.Proofs.Abs
