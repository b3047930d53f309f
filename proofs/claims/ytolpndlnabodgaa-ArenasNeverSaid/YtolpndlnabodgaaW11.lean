import Derived.Test.YtolpndlnabodgaaW10
namespace Go.Proofs.Abs
open Go Go.RowKit
set_option linter.unusedSimpArgs false
set_option linter.unusedVariables false
/-! Blocks of one's own that are copied into, cleared and divided. -/
section
variable {C : Ctx} {t e : TypeId} {ti te : TI} {α : Type}
/-- a block of elements -/
structure Blks (f : α → AV) (h : Hp) (nm : Nat) (M : List α) : Prop where
  lt : nm < h.c
  blk : ∃ b, h.m.get nm = some b ∧ ∀ (k : Nat) x, M[k]? = some x → b.cells.get k = some (f x)
theorem Blks.cell {f : α → AV} {h : Hp} {nm : Nat} {M : List α} (b : Blks f h nm M) {k : Nat} {x : α} (hx : M[k]? = some x) : Cell h nm k (f x) := by
  obtain ⟨c, h1, h2⟩ := b.blk
  exact ⟨c, h1, h2 k x hx⟩
theorem Blks.fr {f : α → AV} {h h' : Hp} {nm : Nat} {M : List α} (b : Blks f h nm M) {P : Nat → Prop} (a : Fr P h h') (hp : ¬ P nm) : Blks f h' nm M := by
  obtain ⟨c, h1, h2⟩ := b.blk
  exact ⟨Nat.lt_of_lt_of_le b.lt a.c, c, (a.m nm b.lt hp).trans h1, h2⟩
theorem Blks.ext {f : α → AV} {h h' : Hp} {nm : Nat} {M : List α} (b : Blks f h nm M) (a : Ext h h') : Blks f h' nm M := b.fr (a.fr (fun _ => False)) id
theorem Blks.only {f : α → AV} {h h' : Hp} {nm n : Nat} {M : List α} (b : Blks f h nm M) (a : Only n h h') (hp : nm ≠ n) : Blks f h' nm M := b.fr (a.fr (P := fun k => k = n) rfl) hp
/-- elements put into a list from a place on -/
def patch (M : List α) (a : Nat) (xs : List α) : List α := M.take a ++ xs ++ M.drop (a + xs.length)
theorem patch_at {M : List α} {a : Nat} {xs : List α} (h : a + xs.length ≤ M.length) (k : Nat) : (patch M a xs)[k]? = if a ≤ k ∧ k < a + xs.length then xs[k - a]? else M[k]? := by
  unfold patch
  rw [List.append_assoc, List.getElem?_append, List.length_take, List.getElem?_append, List.getElem?_take, List.getElem?_drop]
  have e : min a M.length = a := by omega
  rw [e]
  by_cases h1 : k < a
  · rw [if_pos h1, if_pos h1, if_neg (by omega)]
  · rw [if_neg h1]
    by_cases h2 : k - a < xs.length
    · rw [if_pos h2, if_pos (by omega)]
    · rw [if_neg h2, if_neg (by omega)]
      congr 1
      omega
theorem known_of {b : T AV} : ∀ {n off : Nat}, (∀ i, i < n → ∃ v, b.get (off + i) = some v) → known b off n = true := by
  intro n
  induction n with
  | zero => intro off _; rfl
  | succ n ih =>
    intro off h
    obtain ⟨v, hv⟩ := h 0 (by omega)
    rw [known_s (v := v) (by simpa using hv)]
    exact ih (fun i hi => by
      obtain ⟨w, hw⟩ := h (i + 1) (by omega)
      exact ⟨w, by rw [← hw]; congr 1; omega⟩)
/-- a part of a block: n elements from a on -/
def Sl (nm a n : Nat) (w : AV) : Prop := ∃ o c, w = .slice nm o n false c 0 ∧ (n = 0 ∨ o = a)
theorem Sl.len {nm a n : Nat} {w : AV} (s : Sl nm a n w) : lenA w = some n := by
  obtain ⟨o, c, rfl, _⟩ := s
  rfl
theorem Sl.whole (nm n c : Nat) : Sl nm 0 n (.slice nm 0 n false c 0) := ⟨0, c, rfl, .inr rfl⟩
theorem IsL.lenA {h : Hp} {v : AV} {xs : List AV} (r : IsL h v xs) : Abs.lenA v = some xs.length := by
  rcases r with ⟨rfl, rfl⟩ | ⟨nm, off, rest, cap, z, rfl, _, h3⟩ <;> rfl
end
end Go.Proofs.Abs
