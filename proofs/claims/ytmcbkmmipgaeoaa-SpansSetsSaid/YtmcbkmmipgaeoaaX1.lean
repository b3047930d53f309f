import Derived.Test.YtmcbkmmipgaeoaaB6
import Derived.KernelRfl
namespace Go.Proofs.Ytmcbkmmipgaeoaa
open Go Go.Proofs Go.RowKit
set_option linter.unusedSimpArgs false
set_option linter.unusedVariables false
open Go.Proofs.Abs
theorem hr_false {x : Int} {xs : List (Int × Int)} {b : Int} (hc : chk b xs = 0) (h : x ≤ b) : hr x xs = false := by
  cases hh : hr x xs with
  | false => rfl
  | true =>
    have := mem_ge xs b x hc ((hr_mem _ _).1 hh)
    omega
/-- up to where a place's neighbours are as it is -/
theorem st_same {p x : Int} {xs : List (Int × Int)} {last : Int} (hc : chk last xs = 0) (hn : hd p xs = false) (h1 : p ≤ x) (h2 : x < (st p xs).2) : hr x xs = (st p xs).1 := by
  cases xs with
  | nil => rfl
  | cons y l =>
    obtain ⟨a, b⟩ := y
    have hc2 := chk_cons.1 hc
    have hpb := hd_not hn a b l rfl
    rw [st_cons] at h2 ⊢
    rw [hr]
    by_cases h3 : p < a
    · rw [if_pos h3] at h2 ⊢
      rw [if_pos (show x < a from h2)]
      exact hr_false hc2.2.2.2.2 (by have : x < a := h2; omega)
    · rw [if_neg h3] at h2 ⊢
      rw [if_neg (by omega), if_pos (show x < b from h2)]
theorem hr_drop {p x a b : Int} {l : List (Int × Int)} (hb : b ≤ p) (h1 : p ≤ x) (hab : a < b) : hr x ((a, b) :: l) = hr x l := by
  rw [hr, if_neg (by omega), if_neg (by omega)]
theorem st_le {p : Int} {xs : List (Int × Int)} {last : Int} (hc : chk last xs = 0) : (st p xs).2 ≤ 1073741824 := by
  cases xs with
  | nil => exact Int.le_refl _
  | cons y l =>
    obtain ⟨a, b⟩ := y
    have hc2 := chk_cons.1 hc
    rw [st_cons]
    split
    · show a ≤ _; omega
    · show b ≤ _; omega
theorem cmb_mem (kp : Bool → Bool → Bool) : ∀ (m : Nat) (xa xb : List (Int × Int)) (la lb p : Int) (s : List (Int × Int)), chk la xa = 0 → chk lb xb = 0 → chk (-1) s = 0 → lto (-1) s ≤ p → 0 ≤ p → phi p xa + phi p xb < m →
    chk (-1) (cmb kp m xa xb p s) = 0 ∧ ∀ x, mem x (cmb kp m xa xb p s) ↔ mem x s ∨ (p ≤ x ∧ x < 1073741824 ∧ kp (hr x xa) (hr x xb) = true) := by
  intro m
  induction m with
  | zero => intro xa xb la lb p s _ _ _ _ _ h; omega
  | succ m ih =>
    intro xa xb la lb p s ha hb hs hl hp hm
    rw [cmb]
    by_cases hpp : p < 1073741824
    · rw [if_pos hpp]
      by_cases h1 : hd p xa = true
      · rw [if_pos h1]
        obtain ⟨a, b, l, rfl, hbp⟩ := hd_some h1
        have hc := chk_cons.1 ha
        have hlt := phi_drop (l := l) hbp hc.2.1
        obtain ⟨i1, i2⟩ := ih l xb b lb p s hc.2.2.2.2 hb hs hl hp (by omega)
        refine ⟨i1, fun x => (i2 x).trans ⟨fun h => h.imp id fun h => ⟨h.1, h.2.1, ?_⟩, fun h => h.imp id fun h => ⟨h.1, h.2.1, ?_⟩⟩⟩
        · rw [hr_drop (l := l) hbp h.1 hc.2.1]; exact h.2.2
        · rw [← hr_drop (l := l) hbp h.1 hc.2.1]; exact h.2.2
      · rw [if_neg h1]
        by_cases h2 : hd p xb = true
        · rw [if_pos h2]
          obtain ⟨a, b, l, rfl, hbp⟩ := hd_some h2
          have hc := chk_cons.1 hb
          have hlt := phi_drop (l := l) hbp hc.2.1
          obtain ⟨i1, i2⟩ := ih xa l la b p s ha hc.2.2.2.2 hs hl hp (by omega)
          refine ⟨i1, fun x => (i2 x).trans ⟨fun h => h.imp id fun h => ⟨h.1, h.2.1, ?_⟩, fun h => h.imp id fun h => ⟨h.1, h.2.1, ?_⟩⟩⟩
          · rw [hr_drop (l := l) hbp h.1 hc.2.1]; exact h.2.2
          · rw [← hr_drop (l := l) hbp h.1 hc.2.1]; exact h.2.2
        · rw [if_neg h2]
          have n1 : hd p xa = false := by simpa using h1
          have n2 : hd p xb = false := by simpa using h2
          have ga := st_gt (hd_not n1) hpp
          have gb := st_gt (hd_not n2) hpp
          have la1 := st_le (p := p) ha
          have lb1 := st_le (p := p) hb
          have wa : Val xa := fun y hy => by
            obtain ⟨i, hi⟩ := List.getElem?_of_mem hy
            obtain ⟨a, b⟩ := y
            exact chk_mem xa la i a b ha hi
          have wb : Val xb := fun y hy => by
            obtain ⟨i, hi⟩ := List.getElem?_of_mem hy
            obtain ⟨a, b⟩ := y
            exact chk_mem xb lb i a b hb hi
          have hma : phi (min (st p xa).2 (st p xb).2) xa ≤ phi p xa := phi_mono (by omega) xa
          have hmb : phi (min (st p xa).2 (st p xb).2) xb ≤ phi p xb := phi_mono (by omega) xb
          have hms : phi (min (st p xa).2 (st p xb).2) xa + phi (min (st p xa).2 (st p xb).2) xb < phi p xa + phi p xb := by
            by_cases hle : (st p xa).2 ≤ (st p xb).2
            · have := phi_lt wa (hd_not n1) hpp (show (st p xa).2 = min (st p xa).2 (st p xb).2 by omega)
              omega
            · have := phi_lt wb (hd_not n2) hpp (show (st p xb).2 = min (st p xa).2 (st p xb).2 by omega)
              omega
          generalize he : min (st p xa).2 (st p xb).2 = e at hma hmb hms ⊢
          have hsame : ∀ x, p ≤ x → x < e → hr x xa = (st p xa).1 ∧ hr x xb = (st p xb).1 := fun x h3 h4 => ⟨st_same ha n1 h3 (by omega), st_same hb n2 h3 (by omega)⟩
          by_cases hk : kp (st p xa).1 (st p xb).1 = true
          · rw [if_pos hk]
            obtain ⟨g1, g2, _, g4⟩ := jn_good (s := s) (f := p) (t := e) hs (fun _ => hl) (fun _ => hp) (by omega)
            rw [if_neg (by omega)] at g2
            obtain ⟨i1, i2⟩ := ih xa xb la lb e (jn s p e) ha hb g1 (by omega) (by omega) (by omega)
            refine ⟨i1, fun x => (i2 x).trans ?_⟩
            rw [g4]
            constructor
            · rintro ((h3 | h3) | h3)
              · exact .inl h3
              · obtain ⟨h4, h5⟩ := hsame x h3.1 h3.2
                exact .inr ⟨h3.1, by omega, by rw [h4, h5]; exact hk⟩
              · exact .inr ⟨by omega, h3.2⟩
            · rintro (h3 | h3)
              · exact .inl (.inl h3)
              · by_cases h4 : x < e
                · exact .inl (.inr ⟨h3.1, h4⟩)
                · exact .inr ⟨by omega, h3.2⟩
          · rw [if_neg hk]
            obtain ⟨i1, i2⟩ := ih xa xb la lb e s ha hb hs (by omega) (by omega) (by omega)
            refine ⟨i1, fun x => (i2 x).trans ⟨fun h => h.imp id fun h => ⟨by omega, h.2⟩, fun h => h.imp id fun h => ⟨?_, h.2⟩⟩⟩
            by_cases h4 : x < e
            · exfalso
              obtain ⟨h5, h6⟩ := hsame x h.1 h4
              rw [h5, h6] at h
              exact hk h.2.2
            · omega
    · rw [if_neg hpp]
      exact ⟨hs, fun x => ⟨.inl, fun h => h.elim id fun h => by omega⟩⟩
theorem cmbR_mem (kp : Bool → Bool → Bool) {xa xb : List (Int × Int)} (ha : chk (-1) xa = 0) (hb : chk (-1) xb = 0) (hl : xa.length + xb.length ≤ 1200) :
    ∃ r, cmbR kp xa xb = (r, 0) ∧ chk (-1) r = 0 ∧ r.length ≤ 3700 ∧ ∀ x, mem x r ↔ 0 ≤ x ∧ x < 1073741824 ∧ kp (hr x xa) (hr x xb) = true := by
  have pa := phi_le 0 xa
  have pb := phi_le 0 xb
  obtain ⟨c1, c2⟩ := cmb_mem kp (phi 0 xa + phi 0 xb + 1) xa xb (-1) (-1) 0 [] ha hb rfl (by simp [lto]) (by omega) (by omega)
  have cl := cmb_length kp (phi 0 xa + phi 0 xb + 1) xa xb 0 []
  rw [List.length_nil] at cl
  refine ⟨_, ?_, c1, by omega, fun x => (c2 x).trans (by simp [mem])⟩
  unfold cmbR
  rw [if_neg (fun h => h ha), if_neg (fun h => h hb)]
  unfold finR
  rw [if_pos (by omega)]
def zB (f : Bool → Bool → Bool) (P Q : List Bool) (n : Nat) : List Bool := (List.range n).map fun i => f (P.getD i false) (Q.getD i false)
theorem zB_len (f : Bool → Bool → Bool) (P Q : List Bool) (n : Nat) : (zB f P Q n).length = n := by simp [zB]
theorem zB_succ (f : Bool → Bool → Bool) (P Q : List Bool) (n : Nat) : zB f P Q (n + 1) = zB f P Q n ++ [f (P.getD n false) (Q.getD n false)] := by
  unfold zB
  rw [List.range_succ, List.map_append]
  rfl
theorem hr_sp {P : List Bool} (hl : P.length ≤ 1000000) (j : Nat) : hr (j : Int) (sp P) = P.getD j false := by
  rw [List.getD_eq_getElem?_getD]
  cases hh : hr (j : Int) (sp P) with
  | true =>
    obtain ⟨i, h1, h2⟩ := (sp_mem hl _).1 ((hr_mem _ _).1 hh)
    obtain rfl : i = j := by omega
    rw [h2]; rfl
  | false =>
    cases hp : P[j]? with
    | none => rfl
    | some b =>
      cases b with
      | false => rfl
      | true =>
        have := (hr_mem _ _).2 ((sp_mem hl _).2 ⟨j, rfl, hp⟩)
        rw [hh] at this
        cases this
theorem z_eq (f : Bool → Bool → Bool) (hf : f false false = false) {P Q : List Bool} {r : List (Int × Int)} {n : Nat} (hP : P.length ≤ n) (hQ : Q.length ≤ n) (hn : n ≤ 1000) (hc : chk (-1) r = 0) (hm : ∀ x, mem x r ↔ 0 ≤ x ∧ x < 1073741824 ∧ f (hr x (sp P)) (hr x (sp Q)) = true) : r = sp (zB f P Q n) := by
  refine mem_ext _ _ (-1) (-1) hc (sp_chk (by rw [zB_len]; omega)) fun x => ?_
  rw [hm, sp_mem (by rw [zB_len]; omega)]
  have hat : ∀ j, j < n → (zB f P Q n)[j]? = some (f (P.getD j false) (Q.getD j false)) := fun j hj => by
    unfold zB
    rw [List.getElem?_map, List.getElem?_range hj]
    rfl
  constructor
  · rintro ⟨h1, h2, h3⟩
    obtain ⟨j, rfl⟩ := Int.eq_ofNat_of_zero_le h1
    rw [hr_sp (by omega), hr_sp (by omega)] at h3
    by_cases hj : j < n
    · exact ⟨j, rfl, by rw [hat j hj, h3]⟩
    · rw [List.getD_eq_getElem?_getD, List.getD_eq_getElem?_getD, List.getElem?_eq_none (by omega), List.getElem?_eq_none (by omega)] at h3
      change f false false = true at h3
      rw [hf] at h3
      cases h3
  · rintro ⟨j, rfl, h1⟩
    have hj := (List.getElem?_eq_some_iff.1 h1).1
    rw [zB_len] at hj
    rw [hat j hj] at h1
    exact ⟨by omega, by omega, by rw [hr_sp (by omega), hr_sp (by omega)]; exact Option.some.inj h1⟩
/-- places counted up to a bound -/
theorem gone_all {N : Int} : ∀ (xs : List (Int × Int)) (last : Int), chk last xs = 0 → (∀ x, mem x xs → x < N) → gone 0 N xs = tot xs
  | [], _, _, _ => rfl
  | (a, b) :: xs, last, hc, hx => by
    have h1 := chk_cons.1 hc
    have h2 := hx (b - 1) (.inl ⟨by omega, by omega⟩)
    rw [gone, tot, gone_all xs b h1.2.2.2.2 (fun x h => hx x (.inr h))]
    omega
theorem gone_zero : ∀ xs : List (Int × Int), gone 0 0 xs = 0 := gone_self 0
/-- the places of both sets are those of one, and of the other, but for those of both -/
theorem incl {A B' U C : List (Int × Int)} (hA : chk (-1) A = 0) (hB : chk (-1) B' = 0) (hU : chk (-1) U = 0) (hC : chk (-1) C = 0) (hu : ∀ j : Nat, hr (j : Int) U = (hr (j : Int) A || hr (j : Int) B')) (hc : ∀ j : Nat, hr (j : Int) C = (hr (j : Int) A && hr (j : Int) B')) : ∀ k : Nat, gone 0 (k : Int) U = gone 0 (k : Int) A + gone 0 (k : Int) B' - gone 0 (k : Int) C := by
  intro k
  induction k with
  | zero => show gone 0 0 U = _; rw [gone_zero]; show _ = gone 0 0 A + gone 0 0 B' - gone 0 0 C; rw [gone_zero, gone_zero, gone_zero]; rfl
  | succ k ih =>
    rw [show ((k + 1 : Nat) : Int) = (k : Int) + 1 by omega, gone_succ (by omega) U (-1) hU, gone_succ (by omega) A (-1) hA, gone_succ (by omega) B' (-1) hB, gone_succ (by omega) C (-1) hC, ih, hu, hc]
    cases hr (k : Int) A <;> cases hr (k : Int) B' <;> simp <;> omega
theorem cnt_incl {A B' U C : List (Int × Int)} (hA : chk (-1) A = 0) (hB : chk (-1) B' = 0) (hU : chk (-1) U = 0) (hC : chk (-1) C = 0) (hu : ∀ j : Nat, hr (j : Int) U = (hr (j : Int) A || hr (j : Int) B')) (hc : ∀ j : Nat, hr (j : Int) C = (hr (j : Int) A && hr (j : Int) B'))
    (lA : ∀ x, mem x A → x < 300) (lB : ∀ x, mem x B' → x < 300) (lU : ∀ x, mem x U → x < 300) (lC : ∀ x, mem x C → x < 300) : cnt 0 U = cnt 0 A + cnt 0 B' - cnt 0 C := by
  have := incl hA hB hU hC hu hc 300
  rw [show ((300 : Nat) : Int) = 300 from rfl, gone_all U (-1) hU lU, gone_all A (-1) hA lA, gone_all B' (-1) hB lB, gone_all C (-1) hC lC] at this
  rw [cnt_val hU, cnt_val hA, cnt_val hB, cnt_val hC]
  exact this
end Go.Proofs.Ytmcbkmmipgaeoaa
