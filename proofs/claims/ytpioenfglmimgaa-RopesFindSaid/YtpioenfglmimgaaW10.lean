import Derived.Test.YtpioenfglmimgaaW9
namespace Go.Proofs.Abs
open Go Go.RowKit
set_option linter.unusedSimpArgs false
set_option linter.unusedVariables false
/-! Parts of lists that were put together by append. -/
section
variable {C : Ctx} {t e : TypeId} {ti te : TI}
/-- w stands for a part of a list: k elements from i on -/
structure Src (h : Hp) (v : AV) (cs : List AV) (i k : Nat) (w : AV) : Prop where
  len : lenA w = some k
  el : ∀ h', (∀ n, nmO v = some n → h'.m.get n = h.m.get n) → elemsA h' 1 k w = some ((cs.drop i).take k)
theorem src_nil {h : Hp} {cs : List AV} {i k : Nat} (hk : k = 0) : Src h nilS cs i k nilS := by
  subst hk
  exact ⟨rfl, fun h' _ => by rw [List.take_zero]; rfl⟩
theorem src_empty {h : Hp} {v : AV} {cs : List AV} {i k nm off c z : Nat} {r : Bool} (hk : k = 0) : Src h v cs i k (.slice nm off 0 r c z) := by
  subst hk
  exact ⟨rfl, fun h' _ => by rw [List.take_zero]; rfl⟩
theorem src_grown {h : Hp} {nm len : Nat} {cs : List AV} (g : Gr e 1 h (.slice nm 0 len true 0 0) cs len) (h0 : 0 < len) {i k o z : Nat} (hk : i + k ≤ len) : Src h (.slice nm 0 len true 0 0) cs i k (.slice nm i k true o z) := by
  refine ⟨rfl, fun h' hx => ?_⟩
  obtain ⟨hl, ⟨h9, _⟩ | ⟨nm', b, _, h9, h1, h2, _, _, _, h6⟩⟩ := g
  · omega
  · cases h9
    by_cases hk0 : k = 0
    · subst hk0
      rw [List.take_zero]
      rfl
    · have e1 : Nat.beq k 0 = false := by cases hb : Nat.beq k 0 with
        | false => rfl
        | true => exact absurd (Nat.eq_of_beq_eq_true hb) hk0
      show cond (Nat.beq k 0) (some []) (Abs.load h' nm i (k * 1)) = _
      rw [e1]
      show Abs.load h' nm i (k * 1) = _
      unfold Abs.load
      rw [hx nm rfl, h2, Nat.mul_one]
      show getCells b.cells i k = _
      have hlen : ((cs.drop i).take k).length = k := by rw [List.length_take, List.length_drop, hl]; omega
      have := gets_of (b := b.cells) (cs := (cs.drop i).take k) (off := i) (fun j x hj => by
        rw [List.getElem?_take] at hj
        split at hj
        · rw [List.getElem?_drop] at hj
          exact h6 (i + j) x hj
        · cases hj)
      rwa [hlen] at this
theorem part_to (ht : C.tys.get t = some ti) (hd : ti.desc = .slice e) (he : C.tys.get e = some te) (hs : te.size = 1) {h : Hp} {v : AV} {cs : List AV} {len : Nat} (g : Gr e 1 h v cs len) {k : Nat} (hk : k ≤ len) :
    ∃ w, (∀ h', sliceA C h' t v none (some (I (Int.ofNat k))) none = some (w, h')) ∧ Src h v cs 0 k w := by
  have e0 : natOf? (I (Int.ofNat k)) len = some k := natOf_I (n := k) hk
  rcases g.is with ⟨rfl, h0⟩ | ⟨nm, r, rfl, _, ⟨h0, rfl⟩ | ⟨h0, rfl⟩⟩
  · have hk0 : k = 0 := by omega
    subst hk0
    refine ⟨nilS, fun h' => ?_, src_nil rfl⟩
    unfold sliceA
    rw [ht]
    simp only [hd, he]
    rfl
  · have hk0 : k = 0 := by omega
    subst hk0
    refine ⟨.slice nm 0 0 false 0 0, fun h' => ?_, src_empty rfl⟩
    rw [h0]
    unfold sliceA
    rw [ht]
    simp only [hd, he]
    rfl
  · refine ⟨.slice nm 0 k true 0 0, fun h' => ?_, src_grown g h0 (by omega)⟩
    unfold sliceA
    rw [ht]
    simp only [hd, he, boundsA, e0]
    simp only [hs]
    rfl
theorem part_from (ht : C.tys.get t = some ti) (hd : ti.desc = .slice e) (he : C.tys.get e = some te) (hs : te.size = 1) {h : Hp} {v : AV} {cs : List AV} {len : Nat} (g : Gr e 1 h v cs len) {i : Nat} (hi : i ≤ len) :
    ∃ w, (∀ h', sliceA C h' t v (some (I (Int.ofNat i))) none none = some (w, h')) ∧ Src h v cs i (len - i) w := by
  have e0 : natOf? (I (Int.ofNat i)) len = some i := natOf_I (n := i) hi
  rcases g.is with ⟨rfl, h0⟩ | ⟨nm, r, rfl, _, ⟨h0, rfl⟩ | ⟨h0, rfl⟩⟩
  · have hk0 : i = 0 := by omega
    subst hk0
    refine ⟨nilS, fun h' => ?_, src_nil (by omega)⟩
    unfold sliceA
    rw [ht]
    simp only [hd, he]
    rfl
  · have hk0 : i = 0 := by omega
    subst hk0
    refine ⟨.slice nm 0 0 false 0 0, fun h' => ?_, src_empty (by omega)⟩
    rw [h0]
    unfold sliceA
    rw [ht]
    simp only [hd, he]
    rfl
  · refine ⟨.slice nm i (len - i) true i (cond (Nat.beq i 0) 0 0), fun h' => ?_, src_grown g h0 (by omega)⟩
    unfold sliceA
    rw [ht]
    simp only [hd, he, boundsA, e0]
    simp only [hs, Nat.mul_one, Nat.zero_add]
theorem part_mid (ht : C.tys.get t = some ti) (hd : ti.desc = .slice e) (he : C.tys.get e = some te) (hs : te.size = 1) {h : Hp} {v : AV} {cs : List AV} {len : Nat} (g : Gr e 1 h v cs len) {i j : Nat} (hij : i ≤ j) (hj : j ≤ len) :
    ∃ w, (∀ h', sliceA C h' t v (some (I (Int.ofNat i))) (some (I (Int.ofNat j))) none = some (w, h')) ∧ Src h v cs i (j - i) w := by
  have e0 : natOf? (I (Int.ofNat j)) len = some j := natOf_I (n := j) hj
  have e1 : natOf? (I (Int.ofNat i)) j = some i := natOf_I (n := i) hij
  rcases g.is with ⟨rfl, h0⟩ | ⟨nm, r, rfl, _, ⟨h0, rfl⟩ | ⟨h0, rfl⟩⟩
  · have hk0 : i = 0 := by omega
    have hk1 : j = 0 := by omega
    subst hk0 hk1
    refine ⟨nilS, fun h' => ?_, src_nil rfl⟩
    unfold sliceA
    rw [ht]
    simp only [hd, he]
    rfl
  · have hk0 : i = 0 := by omega
    have hk1 : j = 0 := by omega
    subst hk0 hk1
    refine ⟨.slice nm 0 0 false 0 0, fun h' => ?_, src_empty rfl⟩
    rw [h0]
    unfold sliceA
    rw [ht]
    simp only [hd, he]
    rfl
  · refine ⟨.slice nm i (j - i) true i (cond (Nat.beq i 0) 0 0), fun h' => ?_, src_grown g h0 (by omega)⟩
    unfold sliceA
    rw [ht]
    simp only [hd, he, boundsA, e0, e1]
    simp only [hs, Nat.mul_one, Nat.zero_add]
theorem ones_map {α : Type} (f : α → AV) (hf : ∀ x, oneA (f x) = true) : ∀ l : List α, onesA (l.map f) = true
  | [] => rfl
  | x :: l => by rw [List.map_cons, onesA_cons', hf, ones_map f hf l]; rfl
/-- append of a part of another list -/
theorem app_src (ht : C.tys.get t = some ti) (hd : ti.desc = .slice e) (he : C.tys.get e = some te) (hs : te.size = 1) (hb : Nat.ble te.bytes 65536 = true) {h h1 : Hp} {u v w : AV} {xs : List Int} {cs : List Int} {i k len n1 : Nat}
    (gu : Gr e 1 h1 u (xs.map I) n1) (s : Src h v (cs.map I) i k w) (hk : i + k ≤ cs.length) (hx : ∀ n, nmO v = some n → h1.m.get n = h.m.get n) (hl : n1 + k ≤ 100000) :
    ∃ v' h', builtinA C h1 .append [t, t] [u, w] = some (v', h') ∧ Gr e 1 h' v' ((xs ++ (cs.drop i).take k).map I) (n1 + k) ∧ Fr (fun n => nmO u = some n) h1 h' ∧ (nmO v' = nmO u ∨ nmO v' = some h1.c) := by
  have e1 := s.el h1 hx
  have e2 : ((cs.map I).drop i).take k = ((cs.drop i).take k).map I := by rw [List.map_take, List.map_drop]
  rw [e2] at e1
  rw [List.map_append]
  exact app_gr ht hd he hs (by omega) hb gu s.len e1 (by rw [List.length_map, List.length_take, List.length_drop]; omega) (ones_map I (fun _ => rfl) _) hl
end
end Go.Proofs.Abs
