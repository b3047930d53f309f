import Derived.Test.YtpioenfglmimgaaW10
namespace Go.Proofs.Abs
open Go Go.RowKit
set_option linter.unusedSimpArgs false
set_option linter.unusedVariables false
/-! Blocks of one's own that are copied into, cleared and divided. -/
section
variable {C : Ctx} {t e : TypeId} {ti te : TI} {α : Type}
/-- a block of elements -/
structure Blks (f : α → AV) (h : Hp) (nm : Nat) (M : List α) : Prop where
  lt : nm < h.c
  blk : ∃ b, h.m.get nm = some b ∧ ∀ (k : Nat) x, M[k]? = some x → b.cells.get k = some (f x)
theorem Blks.cell {f : α → AV} {h : Hp} {nm : Nat} {M : List α} (b : Blks f h nm M) {k : Nat} {x : α} (hx : M[k]? = some x) : Cell h nm k (f x) := by
  obtain ⟨c, h1, h2⟩ := b.blk
  exact ⟨c, h1, h2 k x hx⟩
theorem Blks.of_cells {f : α → AV} {h : Hp} {nm : Nat} {M : List α} (hl : nm < h.c) {b : Blk} (hb : h.m.get nm = some b) (hc : ∀ (k : Nat) x, M[k]? = some x → Cell h nm k (f x)) : Blks f h nm M :=
  ⟨hl, b, hb, fun k x hx => by
    obtain ⟨b', h1, h2⟩ := hc k x hx
    rw [hb] at h1
    cases h1
    exact h2⟩
theorem Blks.fr {f : α → AV} {h h' : Hp} {nm : Nat} {M : List α} (b : Blks f h nm M) {P : Nat → Prop} (a : Fr P h h') (hp : ¬ P nm) : Blks f h' nm M := by
  obtain ⟨c, h1, h2⟩ := b.blk
  exact ⟨Nat.lt_of_lt_of_le b.lt a.c, c, (a.m nm b.lt hp).trans h1, h2⟩
theorem Blks.ext {f : α → AV} {h h' : Hp} {nm : Nat} {M : List α} (b : Blks f h nm M) (a : Ext h h') : Blks f h' nm M := b.fr (a.fr (fun _ => False)) id
theorem Blks.only {f : α → AV} {h h' : Hp} {nm n : Nat} {M : List α} (b : Blks f h nm M) (a : Only n h h') (hp : nm ≠ n) : Blks f h' nm M := b.fr (a.fr (P := fun k => k = n) rfl) hp
/-- elements put into a list from a place on -/
def patch (M : List α) (a : Nat) (xs : List α) : List α := M.take a ++ xs ++ M.drop (a + xs.length)
theorem patch_nil (M : List α) (a : Nat) : patch M a [] = M := by
  unfold patch
  rw [List.append_nil, List.length_nil, Nat.add_zero, List.take_append_drop]
theorem patch_len {M : List α} {a : Nat} {xs : List α} (h : a + xs.length ≤ M.length) : (patch M a xs).length = M.length := by
  unfold patch
  rw [List.length_append, List.length_append, List.length_take, List.length_drop]
  omega
theorem patch_at {M : List α} {a : Nat} {xs : List α} (h : a + xs.length ≤ M.length) (k : Nat) : (patch M a xs)[k]? = if a ≤ k ∧ k < a + xs.length then xs[k - a]? else M[k]? := by
  unfold patch
  rw [List.append_assoc, List.getElem?_append, List.length_take, List.getElem?_append, List.getElem?_take, List.getElem?_drop]
  have e : min a M.length = a := by omega
  rw [e]
  by_cases h1 : k < a
  · rw [if_pos h1, if_pos h1, if_neg (by omega)]
  · rw [if_neg h1]
    by_cases h2 : k - a < xs.length
    · rw [if_pos h2, if_pos (by omega)]
    · rw [if_neg h2, if_neg (by omega)]
      congr 1
      omega
theorem known_of {b : T AV} : ∀ {n off : Nat}, (∀ i, i < n → ∃ v, b.get (off + i) = some v) → known b off n = true := by
  intro n
  induction n with
  | zero => intro off _; rfl
  | succ n ih =>
    intro off h
    obtain ⟨v, hv⟩ := h 0 (by omega)
    rw [known_s (v := v) (by simpa using hv)]
    exact ih (fun i hi => by
      obtain ⟨w, hw⟩ := h (i + 1) (by omega)
      exact ⟨w, by rw [← hw]; congr 1; omega⟩)
theorem store_blk {f : α → AV} (hf : ∀ x, oneA (f x) = true) {h : Hp} {nm a : Nat} {M xs : List α} (b : Blks f h nm M) (ha : a + xs.length ≤ M.length) : ∃ h', Abs.store h nm a (xs.map f) = some h' ∧ Only nm h h' ∧ Blks f h' nm (patch M a xs) := by
  obtain ⟨c, h1, h2⟩ := b.blk
  refine ⟨⟨h.m.put nm (some ⟨setCells c.cells a (xs.map f), c.n, c.elem, c.grow⟩), h.c, h.ro⟩, ?_, ⟨rfl, rfl, fun k hk => ?_⟩, b.lt, ⟨setCells c.cells a (xs.map f), c.n, c.elem, c.grow⟩, ?_, fun k x hx => ?_⟩
  · rw [store_h, h1, stO_s, known_of (n := (xs.map f).length) (off := a), ones_map f hf]
    · rfl
    · intro i hi
      rw [List.length_map] at hi
      have hq : a + i < M.length := by omega
      exact ⟨_, h2 (a + i) M[a + i] (List.getElem?_eq_getElem hq)⟩
  · show (h.m.put nm _).get k = _
    rw [T.get_put, if_neg hk]
  · show (h.m.put nm _).get nm = _
    rw [T.get_put, if_pos rfl]
  · show (setCells c.cells a (xs.map f)).get k = _
    rw [setCells_get, List.length_map]
    rw [patch_at ha] at hx
    split at hx
    · rename_i hk
      rw [if_pos hk, List.getElem?_map, hx]
      rfl
    · rename_i hk
      rw [if_neg hk]
      exact h2 k x hx
/-- a part of a block: n elements from a on -/
def Sl (nm a n : Nat) (w : AV) : Prop := ∃ o c, w = .slice nm o n false c 0 ∧ (n = 0 ∨ o = a)
theorem Sl.len {nm a n : Nat} {w : AV} (s : Sl nm a n w) : lenA w = some n := by
  obtain ⟨o, c, rfl, _⟩ := s
  rfl
theorem Sl.whole (nm n c : Nat) : Sl nm 0 n (.slice nm 0 n false c 0) := ⟨0, c, rfl, .inr rfl⟩
theorem beq_zero {n : Nat} (h : n ≠ 0) : Nat.beq n 0 = false := by
  cases hb : Nat.beq n 0 with
  | false => rfl
  | true => exact absurd (Nat.eq_of_beq_eq_true hb) h
theorem Sl.elems {f : α → AV} {h : Hp} {nm a n m : Nat} {M : List α} {w : AV} (b : Blks f h nm M) (s : Sl nm a n w) (ha : a + n ≤ M.length) (hm : m ≤ n) : elemsA h 1 m w = some (((M.drop a).take m).map f) := by
  obtain ⟨o, c, rfl, ho⟩ := s
  by_cases hm0 : m = 0
  · subst hm0
    rw [List.take_zero]
    rfl
  · rcases ho with ho | rfl
    · omega
    · show cond (Nat.beq m 0) (some []) (Abs.load h nm o (m * 1)) = _
      rw [beq_zero hm0]
      show Abs.load h nm o (m * 1) = _
      obtain ⟨d, h1, h2⟩ := b.blk
      unfold Abs.load
      rw [h1, Nat.mul_one]
      show getCells d.cells o m = _
      have hlen : (((M.drop o).take m).map f).length = m := by rw [List.length_map, List.length_take, List.length_drop]; omega
      have := gets_of (b := d.cells) (cs := ((M.drop o).take m).map f) (off := o) (fun j x hj => by
        rw [List.getElem?_map, Option.map_eq_some_iff] at hj
        obtain ⟨y, hy, rfl⟩ := hj
        rw [List.getElem?_take] at hy
        split at hy
        · rw [List.getElem?_drop] at hy
          exact h2 (o + j) y hy
        · cases hy)
      rwa [hlen] at this
theorem row_load {h : Hp} {nm : Nat} {xs : List AV} : ∀ {off : Nat}, Row1 h nm off xs → Abs.load h nm off xs.length = some xs := by
  induction xs with
  | nil =>
    intro off _
    unfold Abs.load
    cases h.m.get nm <;> rfl
  | cons x xs ih =>
    intro off r
    have h0 := r 0 x rfl
    rw [Nat.add_zero] at h0
    have h1 := ih (off := off + 1) (fun k y hy => by have := r (k + 1) y (by simpa using hy); rwa [show off + 1 + k = off + (k + 1) by omega])
    unfold Abs.load at h0 h1 ⊢
    cases hm : h.m.get nm with
    | none =>
      rw [hm] at h0 h1
      change roCells (h.ro nm) off 1 = _ at h0
      change roCells (h.ro nm) (off + 1) xs.length = _ at h1
      show roCells (h.ro nm) off (xs.length + 1) = _
      rw [roCells_succ, h1]
      rw [roCells_succ, roCells_zero] at h0
      cases hx : h.ro nm off with
      | none => rw [hx] at h0; cases h0
      | some y => rw [hx] at h0; cases h0; rfl
    | some b =>
      rw [hm] at h0 h1
      change getCells b.cells off 1 = _ at h0
      change getCells b.cells (off + 1) xs.length = _ at h1
      show getCells b.cells off (xs.length + 1) = _
      rw [getCells_succ, h1]
      rw [getCells_succ, getCells_zero] at h0
      cases hx : b.cells.get off with
      | none => rw [hx] at h0; cases h0
      | some y => rw [hx] at h0; cases h0; rfl
theorem row_pre {h : Hp} {nm off m : Nat} {xs : List AV} (r : Row1 h nm off xs) (hm : m ≤ xs.length) : Abs.load h nm off m = some (xs.take m) := by
  have r2 : Row1 h nm off (xs.take m) := fun k x hx => by
    rw [List.getElem?_take] at hx
    split at hx
    · exact r k x hx
    · cases hx
  have := row_load r2
  rwa [List.length_take, Nat.min_eq_left hm] at this
/-- the first elements of a list that is given -/
theorem IsL.elems {h : Hp} {v : AV} {xs : List AV} (r : IsL h v xs) {m : Nat} (hm : m ≤ xs.length) : elemsA h 1 m v = some (xs.take m) := by
  rcases r with ⟨rfl, rfl⟩ | ⟨nm, off, rest, cap, z, rfl, _, h3⟩
  · rw [List.take_nil]
    rfl
  · by_cases hm0 : m = 0
    · subst hm0
      rw [List.take_zero]
      rfl
    · show cond (Nat.beq m 0) (some []) (Abs.load h nm off (m * 1)) = _
      rw [beq_zero hm0, Nat.mul_one]
      exact row_pre h3 hm
theorem IsL.lenA {h : Hp} {v : AV} {xs : List AV} (r : IsL h v xs) : Abs.lenA v = some xs.length := by
  rcases r with ⟨rfl, rfl⟩ | ⟨nm, off, rest, cap, z, rfl, _, h3⟩ <;> rfl
/-- copy into a block of one's own -/
theorem copy_blk {f : α → AV} (hf : ∀ x, oneA (f x) = true) (ht : C.tys.get t = some ti) (hd : ti.desc = .slice e) (he : C.tys.get e = some te) (hs : te.size = 1) {h : Hp} {nm a n k : Nat} {M xs : List α} {d x : AV} {t2 : TypeId}
    (b : Blks f h nm M) (s : Sl nm a n d) (ha : a + n ≤ M.length) (hk : lenA x = some k) (hx : elemsA h 1 (min k n) x = some (xs.map f)) (hl : xs.length = min k n) :
    ∃ h', builtinA C h .copy [t, t2] [d, x] = some (I (Int.ofNat (min k n)), h') ∧ Only nm h h' ∧ Blks f h' nm (patch M a xs) := by
  have hun : ∀ r : Option (AV × Hp), copyA C h t d x = r → builtinA C h .copy [t, t2] [d, x] = r := by
    intro r hr
    unfold builtinA
    dsimp only
    exact hr
  obtain ⟨o, c, rfl, ho⟩ := s
  have hmin : Nat.min k n = min k n := rfl
  by_cases h0 : min k n = 0
  · rw [h0] at hl hx ⊢
    obtain rfl : xs = [] := List.length_eq_zero_iff.1 hl
    refine ⟨h, hun _ ?_, Only.refl _ _, by rw [patch_nil]; exact b⟩
    unfold copyA
    rw [ht]
    simp only [hd, he, hk, hs, hmin, h0, hx]
    rfl
  · have hon : o = a := by
      rcases ho with h1 | h1
      · omega
      · exact h1
    subst hon
    obtain ⟨h', hst, o1, b1⟩ := store_blk hf b (a := o) (xs := xs) (by omega)
    refine ⟨h', hun _ ?_, o1, b1⟩
    unfold copyA
    rw [ht]
    simp only [hd, he, hk, hs, hmin, hx, hst, beq_zero h0]
    rfl
theorem repl_eq {v : AV} : ∀ n, repl [v] n = List.replicate n v := by
  intro n
  induction n with
  | zero => rfl
  | succ n ih =>
    rw [List.replicate_succ, ← ih]
    rfl
theorem clear_blk {f : α → AV} (hf : ∀ x, oneA (f x) = true) (ht : C.tys.get t = some ti) (hd : ti.desc = .slice e) (he : C.tys.get e = some te) (hs : te.size = 1) {z : α} (hz : cellsOf (.lit te.zero) = [f z]) {h : Hp} {nm a n : Nat} {M : List α} {d : AV}
    (b : Blks f h nm M) (s : Sl nm a n d) (ha : a + n ≤ M.length) :
    ∃ h', builtinA C h .clear [t] [d] = some (uv, h') ∧ Only nm h h' ∧ Blks f h' nm (patch M a (List.replicate n z)) := by
  have hun : ∀ r : Option (AV × Hp), clearA C h t d = r → builtinA C h .clear [t] [d] = r := by
    intro r hr
    unfold builtinA
    dsimp only
    exact hr
  obtain ⟨o, c, rfl, ho⟩ := s
  by_cases h0 : n = 0
  · subst h0
    refine ⟨h, hun _ ?_, Only.refl _ _, by rw [List.replicate_zero, patch_nil]; exact b⟩
    unfold clearA
    rw [ht]
    simp only [hd, he]
    rfl
  · have hon : o = a := by
      rcases ho with h1 | h1
      · omega
      · exact h1
    subst hon
    obtain ⟨h', hst, o1, b1⟩ := store_blk hf b (a := o) (xs := List.replicate n z) (by simpa using ha)
    refine ⟨h', hun _ ?_, o1, b1⟩
    rw [List.map_replicate] at hst
    unfold clearA
    rw [ht]
    simp only [hd, he, hz, repl_eq, hst, beq_zero h0]
    rfl
/-- parts of a slice that takes its block as a whole -/
theorem sl_both (ht : C.tys.get t = some ti) (hd : ti.desc = .slice e) (he : C.tys.get e = some te) (hs : te.size = 1) {nm n a b : Nat} (hab : a ≤ b) (hb : b ≤ n) :
    ∃ w, (∀ h, sliceA C h t (.slice nm 0 n false n 0) (some (I (Int.ofNat a))) (some (I (Int.ofNat b))) none = some (w, h)) ∧ Sl nm a (b - a) w := by
  have e0 : natOf? (I (Int.ofNat b)) n = some b := natOf_I (n := b) hb
  have e1 : natOf? (I (Int.ofNat a)) b = some a := natOf_I (n := a) hab
  refine ⟨.slice nm (cond (Nat.beq (n - a) 0) 0 (0 + a * te.size)) (b - a) false (n - a) 0, fun h => ?_, _, _, rfl, ?_⟩
  · unfold sliceA
    rw [ht]
    simp only [hd, he, boundsA, e0, e1]
    by_cases hna : n = a
    · subst hna
      rw [show Nat.beq n n = true from Nat.beq_refl n, show n - n = 0 from Nat.sub_self n]
      rfl
    · rw [beq_zero (n := n - a) (by omega), show Nat.beq n a = false from by
        cases hq : Nat.beq n a with
        | false => rfl
        | true => exact absurd (Nat.eq_of_beq_eq_true hq) hna]
  · rw [hs, Nat.mul_one, Nat.zero_add]
    by_cases hna : n = a
    · exact .inl (by omega)
    · right
      rw [beq_zero (n := n - a) (by omega)]
      rfl
theorem sl_from (ht : C.tys.get t = some ti) (hd : ti.desc = .slice e) (he : C.tys.get e = some te) (hs : te.size = 1) {nm n a : Nat} (ha : a ≤ n) :
    ∃ w, (∀ h, sliceA C h t (.slice nm 0 n false n 0) (some (I (Int.ofNat a))) none none = some (w, h)) ∧ Sl nm a (n - a) w := by
  have e1 : natOf? (I (Int.ofNat a)) n = some a := natOf_I (n := a) ha
  refine ⟨.slice nm (cond (Nat.beq (n - a) 0) 0 (0 + a * te.size)) (n - a) false (n - a) 0, fun h => ?_, _, _, rfl, ?_⟩
  · unfold sliceA
    rw [ht]
    simp only [hd, he, boundsA, e1]
    by_cases hna : n = a
    · subst hna
      rw [show Nat.beq n n = true from Nat.beq_refl n, show n - n = 0 from Nat.sub_self n]
      rfl
    · rw [beq_zero (n := n - a) (by omega), show Nat.beq n a = false from by
        cases hq : Nat.beq n a with
        | false => rfl
        | true => exact absurd (Nat.eq_of_beq_eq_true hq) hna]
  · rw [hs, Nat.mul_one, Nat.zero_add]
    by_cases hna : n = a
    · exact .inl (by omega)
    · right
      rw [beq_zero (n := n - a) (by omega)]
      rfl
theorem sl_to (ht : C.tys.get t = some ti) (hd : ti.desc = .slice e) (he : C.tys.get e = some te) (hs : te.size = 1) {nm n b : Nat} (hb : b ≤ n) :
    ∃ w, (∀ h, sliceA C h t (.slice nm 0 n false n 0) none (some (I (Int.ofNat b))) none = some (w, h)) ∧ Sl nm 0 b w := by
  have e0 : natOf? (I (Int.ofNat b)) n = some b := natOf_I (n := b) hb
  refine ⟨.slice nm (cond (Nat.beq n 0) 0 (0 + 0 * te.size)) (b - 0) false (n - 0) 0, fun h => ?_, _, _, rfl, ?_⟩
  · unfold sliceA
    rw [ht]
    simp only [hd, he, boundsA, e0]
  · right
    rw [Nat.zero_mul]
    cases Nat.beq n 0 <;> rfl
/-- a block that was made just now -/
theorem make_blk {f : α → AV} {z : α} {zv : Value} (ht : C.tys.get t = some ti) (hd : ti.desc = .slice e) (he : C.tys.get e = some te) (hz : te.zero = zv) (hzc : cellsOf (.lit zv) = [.lit zv]) (hzf : f z = .lit zv) (hs : te.size = 1) (hb : Nat.ble te.bytes 1024 = true)
    {h : Hp} {n : Nat} (hn : n ≤ 1048576) : ∃ h', makeSliceA C h t (I (n : Int)) (I (n : Int)) = some (.slice h.c 0 n false n 0, h') ∧ Ext h h' ∧ h'.c = h.c + 1 ∧ Blks f h' h.c (List.replicate n z) := by
  obtain ⟨b, h1, o⟩ := make_own (k := .i64) ht hd he hz hzc hs hb (Nat.le_refl n) hn (h := h)
  refine ⟨_, h1, ⟨Nat.le_succ _, rfl, fun k hk => by show (h.m.put h.c _).get k = _; rw [T.get_put, if_neg (by omega)]⟩, rfl, Nat.lt_succ_self _, b, by show (h.m.put h.c _).get h.c = _; rw [T.get_put, if_pos rfl], fun k x hx => ?_⟩
  have := o.at_ k (.lit zv) (by
    rw [List.getElem?_replicate] at hx ⊢
    split at hx
    · rename_i hk; rw [if_pos hk]
    · cases hx)
  rw [List.getElem?_replicate] at hx
  split at hx
  · cases hx
    rw [hzf]
    exact this
  · cases hx
end
end Go.Proofs.Abs
