import Derived.Test.YtgekfjndpbejoaaF12
import Derived.KernelRfl
namespace Go.Proofs.Ytgekfjndpbejoaa
open Go Go.Proofs Go.RowKit
set_option linter.unusedSimpArgs false
set_option linter.unusedVariables false
open Go.Proofs.Abs
def nmO : AV → Option Nat
  | .slice n _ _ _ _ _ => some n
  | _ => none
/-- a list keeps its content if its block does -/
theorem IsL_fr {h h' : Hp} {v : AV} {xs : List AV} (r : IsL h v xs) {P : Nat → Prop} (f : Fr P h h') (hp : ∀ n, nmO v = some n → ¬ P n) : IsL h' v xs := by
  rcases r with h1 | ⟨nm, off, rest, cap, z, rfl, h2, h3⟩
  · exact .inl h1
  · refine .inr ⟨nm, off, rest, cap, z, rfl, Nat.lt_of_lt_of_le h2 f.c, fun k x hx => ?_⟩
    have := h3 k x hx
    unfold Abs.load at this ⊢
    rw [f.ro, f.m nm h2 (hp nm rfl)]
    exact this
theorem row_load {h : Hp} {nm : Nat} {xs : List AV} : ∀ {off : Nat}, Row1 h nm off xs → Abs.load h nm off xs.length = some xs := by
  induction xs with
  | nil =>
    intro off _
    unfold Abs.load
    cases h.m.get nm <;> rfl
  | cons x xs ih =>
    intro off r
    have h0 := r 0 x rfl
    rw [Nat.add_zero] at h0
    have h1 := ih (off := off + 1) (fun k y hy => by have := r (k + 1) y (by simpa using hy); rwa [show off + 1 + k = off + (k + 1) by omega])
    unfold Abs.load at h0 h1 ⊢
    cases hm : h.m.get nm with
    | none =>
      rw [hm] at h0 h1
      change roCells (h.ro nm) off 1 = _ at h0
      change roCells (h.ro nm) (off + 1) xs.length = _ at h1
      show roCells (h.ro nm) off (xs.length + 1) = _
      rw [roCells_succ, h1]
      rw [roCells_succ, roCells_zero] at h0
      cases hx : h.ro nm off with
      | none => rw [hx] at h0; cases h0
      | some y => rw [hx] at h0; cases h0; rfl
    | some b =>
      rw [hm] at h0 h1
      change getCells b.cells off 1 = _ at h0
      change getCells b.cells (off + 1) xs.length = _ at h1
      show getCells b.cells off (xs.length + 1) = _
      rw [getCells_succ, h1]
      rw [getCells_succ, getCells_zero] at h0
      cases hx : b.cells.get off with
      | none => rw [hx] at h0; cases h0
      | some y => rw [hx] at h0; cases h0; rfl
theorem bs0 (h : Hp) : buildSliceA ctx h 22 0 [] = some (.slice h.c 0 0 false 0 0, newBlk h [] 2 0) := by kernel_rfl
/-- append of a list to an empty one that was made just now -/
theorem app0 {h : Hp} {v : AV} {xs : List Int} (r : IsL h v (xs.map I)) (hn : xs.length ≤ 4096) : ∃ w h', builtinA ctx (newBlk h [] 2 0) .append [22, 22] [.slice h.c 0 0 false 0 0, v] = some (w, h') ∧
    Ext h h' ∧ ((xs = [] ∧ w = .slice h.c 0 0 false 0 0 ∧ h.c < h'.c) ∨ ∃ ng, w = .slice ng 0 xs.length true 0 0 ∧ h.c ≤ ng ∧ ng < h'.c ∧ ∀ k x, xs[k]? = some x → Cell h' ng k (I x)) := by
  have hx0 : Ext h (newBlk h [] 2 0) := (new_cells h [] 2 0).1
  have hs : ti2.size = 1 := rfl
  have hby : Nat.ble ti2.bytes 65536 = true := rfl
  have hd : ti22.desc = .slice 2 := rfl
  have hc0 : (newBlk h [] 2 0).c = h.c + 1 := rfl
  obtain ⟨hh, hst, hxs0, hcs0⟩ : ∃ hh, Abs.store (newBlk h [] 2 0) h.c (0 + 0 * 1) [] = some hh ∧ Ext h hh ∧ h.c < hh.c := by
    refine ⟨⟨(newBlk h [] 2 0).m.put h.c (some ⟨setCells (setCells .leaf 0 []) (0 + 0 * 1) [], 0, 2, 0⟩), h.c + 1, h.ro⟩, ?_, hx0.put (n := h.c) (Nat.le_refl _) _ (Nat.le_refl _), Nat.lt_succ_self _⟩
    rw [store_h, show (newBlk h [] 2 0).m.get h.c = some ⟨setCells .leaf 0 [], 0, 2, 0⟩ from by unfold newBlk; show (h.m.put h.c _).get h.c = _; rw [T.get_put, if_pos rfl]; rfl]
    rfl
  rcases r with ⟨rfl, hnil⟩ | ⟨nm, off, rest, cap, z, rfl, h2, h3⟩
  · have hxs : xs = [] := by simpa using hnil
    subst hxs
    refine ⟨.slice h.c 0 0 false 0 0, hh, ?_, hxs0, .inl ⟨rfl, rfl, hcs0⟩⟩
    unfold builtinA
    dsimp only
    unfold appendA
    rw [ty22]
    simp only [hd, ty2, lenA, hs, hby, elemsA]
    rw [hst]
    rfl
  · rw [List.length_map] at *
    by_cases hk : xs.length = 0
    · have hxs : xs = [] := List.length_eq_zero_iff.1 hk
      subst hxs
      refine ⟨.slice h.c 0 0 false 0 0, hh, ?_, hxs0, .inl ⟨rfl, rfl, hcs0⟩⟩
      unfold builtinA
      dsimp only
      unfold appendA
      rw [ty22]
      simp only [hd, ty2, lenA, hs, hby, elemsA, List.length_nil, Nat.beq_refl, cond_true]
      rw [hst]
      rfl
    · have hld : Abs.load (newBlk h [] 2 0) nm off (xs.length * 1) = some (xs.map I) := by
        rw [load_ext hx0 h2, Nat.mul_one, ← List.length_map (f := I)]
        exact row_load h3
      have hld0 : Abs.load (newBlk h [] 2 0) h.c 0 (0 * 1) = some [] := by
        unfold Abs.load
        rw [show (newBlk h [] 2 0).m.get h.c = some ⟨setCells .leaf 0 [], 0, 2, 0⟩ from by unfold newBlk; show (h.m.put h.c _).get h.c = _; rw [T.get_put, if_pos rfl]; rfl]
        rfl
      have nb := new_cells (newBlk h [] 2 0) (xs.map I) 2 1
      refine ⟨.slice (newBlk h [] 2 0).c 0 xs.length true 0 0, newBlk (newBlk h [] 2 0) (xs.map I) 2 1, ?_, hx0.trans nb.1, .inr ⟨(newBlk h [] 2 0).c, rfl, by rw [hc0]; omega, by rw [nb.2.1]; omega, fun k x hx => nb.2.2 k (I x) (by rw [List.getElem?_map, hx]; rfl)⟩⟩
      unfold builtinA
      dsimp only
      unfold appendA
      rw [ty22]
      have e1 : Nat.beq xs.length 0 = false := by cases hb : Nat.beq xs.length 0 with
        | false => rfl
        | true => exact absurd (Nat.eq_of_beq_eq_true hb) hk
      have e2 : Nat.blt xs.length 1048576 = true := by simp; omega
      have e2' : Nat.ble xs.length 1048576 = true := Nat.ble_eq_true_of_le (by omega)
      have e3 : Nat.ble (0 + xs.length) 0 = false := by cases hb : Nat.ble (0 + xs.length) 0 with
        | false => rfl
        | true => have := Nat.le_of_ble_eq_true hb; omega
      have e4 : Nat.ble (0 + xs.length) 1048576 = true := Nat.ble_eq_true_of_le (by omega)
      simp only [hd, ty2, lenA, hs, hby, elemsA, e1, e2, e2', e3, e4, hld, hld0, cond_true, cond_false, Bool.and_true, Nat.blt_eq, Nat.zero_add, List.nil_append]
      rw [Nat.zero_add] at e3
      simp only [hld, hld0, hs, e3, cond_false, cond_true, Nat.reduceLT, Nat.zero_mul, decide_true, Bool.and_true]
      rfl
end Go.Proofs.Ytgekfjndpbejoaa
