import Derived.Test.YtpioenfglmimgaaW7
namespace Go.Proofs.Abs
open Go Go.RowKit
set_option linter.unusedSimpArgs false
set_option linter.unusedVariables false
/-! Lists that are put together by append. -/
section
variable {C : Ctx} {t e : TypeId} {ti te : TI}
def nmO : AV → Option Nat
  | .slice n _ _ _ _ _ => some n
  | _ => none
/-- a list of elements of s cells each, put together by append -/
def Gr (e s : Nat) (h : Hp) (v : AV) (cs : List AV) (len : Nat) : Prop :=
  cs.length = len * s ∧ ((len = 0 ∧ (v = nilS ∨ ∃ nm b, v = .slice nm 0 0 false 0 0 ∧ nm < h.c ∧ h.m.get nm = some b)) ∨
    ∃ nm b, 0 < len ∧ v = .slice nm 0 len true 0 0 ∧ nm < h.c ∧ h.m.get nm = some b ∧ b.grow = s ∧ b.n = len * s ∧ b.elem = e ∧ ∀ (k : Nat) x, cs[k]? = some x → b.cells.get k = some x)
theorem Gr.nil (e s : Nat) (h : Hp) : Gr e s h nilS [] 0 := ⟨by simp, .inl ⟨rfl, .inl rfl⟩⟩
theorem Gr.empty (e s : Nat) (h : Hp) (e' g : Nat) : Gr e s (newBlk h [] e' g) (.slice h.c 0 0 false 0 0) [] 0 :=
  ⟨by simp, .inl ⟨rfl, .inr ⟨h.c, _, rfl, Nat.lt_succ_self _, by unfold newBlk; show (h.m.put h.c _).get h.c = _; rw [T.get_put, if_pos rfl]⟩⟩⟩
theorem Gr.lt {s : Nat} {h : Hp} {v : AV} {cs : List AV} {len : Nat} (g : Gr e s h v cs len) {n : Nat} (hn : nmO v = some n) : n < h.c := by
  obtain ⟨_, ⟨_, rfl | ⟨nm, b, rfl, h1, _⟩⟩ | ⟨nm, b, _, rfl, h1, _⟩⟩ := g
  · cases hn
  · cases hn; exact h1
  · cases hn; exact h1
theorem Gr.fr {s : Nat} {h h' : Hp} {v : AV} {cs : List AV} {len : Nat} (g : Gr e s h v cs len) {P : Nat → Prop} (f : Fr P h h') (hp : ∀ n, nmO v = some n → ¬ P n) : Gr e s h' v cs len := by
  obtain ⟨hl, ⟨h0, rfl | ⟨nm, b, rfl, h1, h2⟩⟩ | ⟨nm, b, h0, rfl, h1, h2, h3⟩⟩ := g
  · exact ⟨hl, .inl ⟨h0, .inl rfl⟩⟩
  · exact ⟨hl, .inl ⟨h0, .inr ⟨nm, b, rfl, Nat.lt_of_lt_of_le h1 f.c, (f.m nm h1 (hp nm rfl)).trans h2⟩⟩⟩
  · exact ⟨hl, .inr ⟨nm, b, h0, rfl, Nat.lt_of_lt_of_le h1 f.c, (f.m nm h1 (hp nm rfl)).trans h2, h3⟩⟩
theorem Gr.ext {s : Nat} {h h' : Hp} {v : AV} {cs : List AV} {len : Nat} (g : Gr e s h v cs len) (a : Ext h h') : Gr e s h' v cs len := g.fr (a.fr (fun _ => False)) (fun _ _ => id)
theorem Gr.cell {s : Nat} {h : Hp} {nm n : Nat} {o c z : Nat} {r : Bool} {cs : List AV} {len : Nat} (g : Gr e s h (.slice nm o n r c z) cs len) {k : Nat} {x : AV} (hx : cs[k]? = some x) : Cell h nm k x := by
  obtain ⟨hl, ⟨h0, h9 | ⟨nm, b, h9, h1, h2⟩⟩ | ⟨nm, b, h0, h9, h1, h2, h3, h4, h5, h6⟩⟩ := g
  · cases h9
  · rw [h0, Nat.zero_mul] at hl
    rw [List.length_eq_zero_iff.1 hl] at hx
    cases hx
  · cases h9
    exact ⟨b, h2, h6 k x hx⟩
theorem Gr.is {s : Nat} {h : Hp} {v : AV} {cs : List AV} {len : Nat} (g : Gr e s h v cs len) : (v = nilS ∧ len = 0) ∨ ∃ nm r, v = .slice nm 0 len r 0 0 ∧ nm < h.c ∧ ((len = 0 ∧ r = false) ∨ (0 < len ∧ r = true)) := by
  obtain ⟨hl, ⟨h0, rfl | ⟨nm, b, rfl, h1, h2⟩⟩ | ⟨nm, b, h0, rfl, h1, h2, h3⟩⟩ := g
  · exact .inl ⟨rfl, h0⟩
  · exact .inr ⟨nm, false, by rw [h0], h1, .inl ⟨h0, rfl⟩⟩
  · exact .inr ⟨nm, true, rfl, h1, .inr ⟨h0, rfl⟩⟩
theorem load_len : ∀ {n : Nat} {t : T AV} {off : Nat} {cs : List AV}, getCells t off n = some cs → cs.length = n := by
  intro n
  induction n with
  | zero => intro t off cs h; rw [getCells_zero] at h; cases h; rfl
  | succ n ih =>
    intro t off cs h
    rw [getCells_succ] at h
    cases hx : t.get off with
    | none => rw [hx] at h; cases h
    | some x =>
      rw [hx] at h
      cases hr : getCells t (off + 1) n with
      | none => rw [hr] at h; cases h
      | some l =>
        rw [hr] at h
        cases h
        rw [List.length_cons, ih hr]
theorem gets_of {b : T AV} : ∀ {cs : List AV} {off : Nat}, (∀ (k : Nat) x, cs[k]? = some x → b.get (off + k) = some x) → getCells b off cs.length = some cs := by
  intro cs
  induction cs with
  | nil => intro off _; rfl
  | cons x xs ih =>
    intro off h
    rw [List.length_cons, getCells_succ, ih (off := off + 1) (fun k y hy => by have := h (k + 1) y (by simpa using hy); rwa [show off + 1 + k = off + (k + 1) by omega])]
    have := h 0 x rfl
    rw [Nat.add_zero] at this
    rw [this]
    rfl
/-- append of some elements -/
theorem app_gr {s : Nat} (ht : C.tys.get t = some ti) (hd : ti.desc = .slice e) (he : C.tys.get e = some te) (hs : te.size = s) (hs0 : 0 < s) (hb : Nat.ble te.bytes 65536 = true)
    {h : Hp} {v w : AV} {cs ds : List AV} {len k : Nat} (g : Gr e s h v cs len) (hk : lenA w = some k) (hds : elemsA h s k w = some ds) (hdl : ds.length = k * s) (ho : onesA ds = true) (hl : len + k ≤ 100000) :
    ∃ v' h', builtinA C h .append [t, t] [v, w] = some (v', h') ∧ Gr e s h' v' (cs ++ ds) (len + k) ∧ Fr (fun n => nmO v = some n) h h' ∧ (nmO v' = nmO v ∨ nmO v' = some h.c) := by
  have b0 : Nat.blt 0 s = true := by simpa using hs0
  have b1 : Nat.ble k 1048576 = true := Nat.ble_eq_true_of_le (by omega)
  have hun : ∀ r : Option (AV × Hp), appendA C h t t v w = r → builtinA C h .append [t, t] [v, w] = r := by
    intro r hr
    unfold builtinA
    dsimp only
    exact hr
  have hcl : (cs ++ ds).length = (len + k) * s := by rw [List.length_append, g.1, hdl, Nat.add_mul]
  have hns : ∀ (nm : Nat) (b : Blk), nm < h.c → h.m.get nm = some b → ∀ o, Abs.store h nm o [] = some ⟨h.m.put nm (some ⟨b.cells, b.n, b.elem, b.grow⟩), h.c, h.ro⟩ := by
    intro nm b _ h2 o
    rw [store_h, h2, stO_s]
    rfl
  by_cases hk0 : k = 0
  · subst hk0
    have hd0 : ds = [] := List.length_eq_zero_iff.1 (by rw [hdl, Nat.zero_mul])
    subst hd0
    obtain ⟨hl0, ⟨h0, rfl | ⟨nm, b, rfl, h1, h2⟩⟩ | ⟨nm, b, h0, rfl, h1, h2, h3, h4, h5, h6⟩⟩ := g
    · refine ⟨nilS, h, hun _ ?_, ⟨hcl, .inl ⟨by omega, .inl rfl⟩⟩, Fr.refl _ _, .inl rfl⟩
      unfold appendA
      rw [ht]
      simp only [hd, he, hk, hs, b0, b1, hb, hds]
      rfl
    · refine ⟨.slice nm 0 (0 + 0) false 0 0, ⟨h.m.put nm (some ⟨b.cells, b.n, b.elem, b.grow⟩), h.c, h.ro⟩, hun _ ?_, ⟨hcl, .inl ⟨by omega, .inr ⟨nm, ⟨b.cells, b.n, b.elem, b.grow⟩, rfl, h1, ?_⟩⟩⟩, ⟨Nat.le_refl _, rfl, fun n hn hne => ?_⟩, .inl rfl⟩
      · unfold appendA
        rw [ht]
        simp only [hd, he, hk, hs, b0, b1, hb, hds, hns nm b h1 h2]
        rfl
      · show (h.m.put nm _).get nm = _
        rw [T.get_put, if_pos rfl]
      · show (h.m.put nm _).get n = _
        rw [T.get_put, if_neg (fun e => hne (by rw [e]; rfl))]
    · have e1 : Nat.ble ((0 + len + 0) * s) b.n = true := Nat.ble_eq_true_of_le (by rw [h4]; simp)
      have e2 : Nat.blt 0 (len + 0) = true := by simp; omega
      have e3 : Nat.ble (len + 0) 1048576 = true := Nat.ble_eq_true_of_le (by omega)
      have e4 : Nat.beq b.grow s = true := by rw [h3]; exact Nat.beq_refl _
      have e5 : Nat.beq 0 (0 * s) = true := by rw [Nat.zero_mul]; rfl
      refine ⟨.slice nm 0 (len + 0) true 0 0, ⟨h.m.put nm (some ⟨b.cells, b.n, b.elem, b.grow⟩), h.c, h.ro⟩, hun _ ?_, ⟨hcl, .inr ⟨nm, ⟨b.cells, b.n, b.elem, b.grow⟩, by omega, rfl, h1, ?_, h3, by show b.n = _; rw [h4, Nat.add_zero], h5, ?_⟩⟩, ⟨Nat.le_refl _, rfl, fun n hn hne => ?_⟩, .inl rfl⟩
      · unfold appendA
        rw [ht]
        simp only [hd, he, hk, hs, b0, b1, hb, hds, h2, e1, e2, e3, e4, e5, hns nm b h1 h2, Bool.and_true, cond_true]
      · show (h.m.put nm _).get nm = _
        rw [T.get_put, if_pos rfl]
      · intro j x hx
        rw [List.append_nil] at hx
        exact h6 j x hx
      · show (h.m.put nm _).get n = _
        rw [T.get_put, if_neg (fun e => hne (by rw [e]; rfl))]
  · have hkb : Nat.beq k 0 = false := by cases hb : Nat.beq k 0 with
      | false => rfl
      | true => exact absurd (Nat.eq_of_beq_eq_true hb) hk0
    obtain ⟨hl0, ⟨h0, rfl | ⟨nm, b, rfl, h1, h2⟩⟩ | ⟨nm, b, h0, rfl, h1, h2, h3, h4, h5, h6⟩⟩ := g
    · subst h0
      have hc0 : cs = [] := List.length_eq_zero_iff.1 (by rw [hl0, Nat.zero_mul])
      subst hc0
      have nb := new_cells h ds e s
      refine ⟨.slice h.c 0 k true 0 0, newBlk h ds e s, hun _ ?_, ⟨hcl, .inr ⟨h.c, ⟨setCells .leaf 0 ds, ds.length, e, s⟩, by omega, by rw [Nat.zero_add], Nat.lt_succ_self _, by unfold newBlk; show (h.m.put h.c _).get h.c = _; rw [T.get_put, if_pos rfl], rfl, by show ds.length = _; rw [hdl, Nat.zero_add], rfl, ?_⟩⟩, nb.1.fr _, .inr rfl⟩
      · unfold appendA
        rw [ht]
        simp only [hd, he, hk, hs, b0, b1, hb, hds, hkb]
        rfl
      · intro j x hx
        rw [List.nil_append] at hx
        have hj := (List.getElem?_eq_some_iff.1 hx).1
        show (setCells .leaf 0 ds).get j = _
        rw [setCells_get, if_pos ⟨Nat.zero_le _, by omega⟩]
        exact hx
    · subst h0
      have hc0 : cs = [] := List.length_eq_zero_iff.1 (by rw [hl0, Nat.zero_mul])
      subst hc0
      have nb := new_cells h ds e s
      have e3 : Nat.ble (0 + k) 0 = false := by cases hb : Nat.ble (0 + k) 0 with
        | false => rfl
        | true => have := Nat.le_of_ble_eq_true hb; omega
      have e4 : Nat.ble (0 + k) 1048576 = true := Nat.ble_eq_true_of_le (by omega)
      have hld : Abs.load h nm 0 (0 * s) = some [] := by
        unfold Abs.load
        rw [h2, Nat.zero_mul]
        rfl
      refine ⟨.slice h.c 0 (0 + k) true 0 0, newBlk h ds e s, hun _ ?_, ⟨hcl, .inr ⟨h.c, ⟨setCells .leaf 0 ds, ds.length, e, s⟩, by omega, rfl, Nat.lt_succ_self _, by unfold newBlk; show (h.m.put h.c _).get h.c = _; rw [T.get_put, if_pos rfl], rfl, by show ds.length = _; rw [hdl, Nat.zero_add], rfl, ?_⟩⟩, nb.1.fr _, .inr rfl⟩
      · unfold appendA
        rw [ht]
        simp only [hd, he, hk, hs, b0, b1, hb, hds, e3, e4, hld, Bool.and_true, cond_true, cond_false, List.nil_append]
      · intro j x hx
        rw [List.nil_append] at hx
        have hj := (List.getElem?_eq_some_iff.1 hx).1
        show (setCells .leaf 0 ds).get j = _
        rw [setCells_get, if_pos ⟨Nat.zero_le _, by omega⟩]
        exact hx
    · have e1 : Nat.ble ((0 + len + k) * s) b.n = false := by
        cases hb : Nat.ble ((0 + len + k) * s) b.n with
        | false => rfl
        | true =>
          have h7 := Nat.le_of_ble_eq_true hb
          rw [h4] at h7
          have h8 : len * s < (0 + len + k) * s := Nat.mul_lt_mul_of_pos_right (by omega) hs0
          omega
      have e3 : Nat.ble (len + k) 1048576 = true := Nat.ble_eq_true_of_le (by omega)
      have e4 : Nat.beq b.grow s = true := by rw [h3]; exact Nat.beq_refl _
      have e5 : Nat.beq 0 (0 * s) = true := by rw [Nat.zero_mul]; rfl
      have e6 : Nat.beq (len * s) b.n = true := by rw [h4]; exact Nat.beq_refl _
      have e7 : Nat.beq b.elem e = true := by rw [h5]; exact Nat.beq_refl _
      have e8 : Nat.beq 0 0 = true := rfl
      refine ⟨.slice h.c 0 (len + k) true 0 0, ⟨(h.m.put nm none).put h.c (some ⟨setCells b.cells b.n ds, b.n + k * s, e, s⟩), h.c + 1, h.ro⟩, hun _ ?_, ⟨hcl, .inr ⟨h.c, ⟨setCells b.cells b.n ds, b.n + k * s, e, s⟩, by omega, rfl, Nat.lt_succ_self _, ?_, rfl, ?_, rfl, ?_⟩⟩, ⟨Nat.le_succ _, rfl, fun n hn hne => ?_⟩, .inr rfl⟩
      · unfold appendA
        rw [ht]
        simp only [hd, he, hk, hs, b0, b1, hb, hds, h2, e1, e3, e4, e5, e6, e7, e8, ho, Bool.and_true, Bool.false_and, cond_true, cond_false]
      · show ((h.m.put nm none).put h.c _).get h.c = _
        rw [T.get_put, if_pos rfl]
      · show b.n + k * s = _
        rw [h4, Nat.add_mul]
      · intro j x hx
        show (setCells b.cells b.n ds).get j = _
        rw [setCells_get]
        by_cases hj : j < cs.length
        · rw [if_neg (by rw [h4, ← hl0]; omega)]
          rw [List.getElem?_append_left hj] at hx
          exact h6 j x hx
        · have hj2 := (List.getElem?_eq_some_iff.1 hx).1
          rw [List.length_append] at hj2
          rw [List.getElem?_append_right (by omega)] at hx
          rw [if_pos ⟨by rw [h4, ← hl0]; omega, by rw [h4, ← hl0]; omega⟩, h4, ← hl0]
          exact hx
      · show ((h.m.put nm none).put h.c _).get n = _
        rw [T.get_put, if_neg (by omega), T.get_put, if_neg (fun e => hne (by rw [e]; rfl))]
/-- one cell of a list of one's own is written -/
theorem gr_store {s : Nat} {h : Hp} {nm o c z n : Nat} {r : Bool} {cs : List AV} {len k : Nat} {x w : AV} (g : Gr e s h (.slice nm o n r c z) cs len) (hx : cs[k]? = some x) (hw : oneA w = true) :
    ∃ h', Abs.store h nm k [w] = some h' ∧ Gr e s h' (.slice nm o n r c z) (cs.set k w) len ∧ Only nm h h' := by
  obtain ⟨hl, ⟨h0, h9 | ⟨nm', b, h9, h1, h2⟩⟩ | ⟨nm', b, h0, h9, h1, h2, h3, h4, h5, h6⟩⟩ := g
  · cases h9
  · rw [h0, Nat.zero_mul] at hl
    rw [List.length_eq_zero_iff.1 hl] at hx
    cases hx
  · cases h9
    refine ⟨⟨h.m.put nm (some ⟨setCells b.cells k [w], b.n, b.elem, b.grow⟩), h.c, h.ro⟩, ?_, ⟨by rw [List.length_set]; exact hl, .inr ⟨nm, ⟨setCells b.cells k [w], b.n, b.elem, b.grow⟩, h0, rfl, h1, ?_, h3, h4, h5, ?_⟩⟩, rfl, rfl, fun j hj => ?_⟩
    · rw [store_h, h2, stO_s, show known b.cells k [w].length = true from known1 (h6 k x hx)]
      simp only [onesA_cons', hw, onesA_nil, Bool.and_true, cond_true]
    · show (h.m.put nm _).get nm = _
      rw [T.get_put, if_pos rfl]
    · intro j y hy
      show (setCells b.cells k [w]).get j = _
      rw [setCells_get]
      by_cases hjk : j = k
      · subst hjk
        have hj := (List.getElem?_eq_some_iff.1 hx).1
        rw [List.getElem?_set_self hj] at hy
        rw [if_pos ⟨Nat.le_refl _, by simp⟩, Nat.sub_self]
        exact hy
      · rw [List.getElem?_set_ne (fun e => hjk e.symm)] at hy
        rw [if_neg (by simp; omega)]
        exact h6 j y hy
    · show (h.m.put nm _).get j = _
      rw [T.get_put, if_neg hj]
end
end Go.Proofs.Abs
