import Derived.Test.YtmcbkmmipgaeoaaX1
import Derived.KernelRfl
namespace Go.Proofs.Ytmcbkmmipgaeoaa
open Go Go.Proofs Go.RowKit
set_option linter.unusedSimpArgs false
set_option linter.unusedVariables false
open Go.Proofs.Abs
theorem zget (f : Bool → Bool → Bool) (hf : f false false = false) {P Q : List Bool} {n : Nat} (hP : P.length ≤ n) (hQ : Q.length ≤ n) (j : Nat) : (zB f P Q n).getD j false = f (P.getD j false) (Q.getD j false) := by
  by_cases hj : j < n
  · rw [List.getD_eq_getElem?_getD]
    unfold zB
    rw [List.getElem?_map, List.getElem?_range hj]
    rfl
  · rw [List.getD_eq_getElem?_getD, List.getElem?_eq_none (by rw [zB_len]; omega), List.getD_eq_getElem?_getD, List.getElem?_eq_none (by omega), List.getD_eq_getElem?_getD, List.getElem?_eq_none (by omega)]
    exact hf.symm
theorem sp_len {X : List Bool} (hl : X.length ≤ 1000000) : (sp X).length ≤ X.length := (sp_ok X.length hl).len0
theorem cmb_sp (kp : Bool → Bool → Bool) {X Y R : List Bool} (lx : X.length ≤ 300) (ly : Y.length ≤ 300) (lr : R.length ≤ 300) (h : ∀ j, R.getD j false = kp (X.getD j false) (Y.getD j false)) : cmbR kp (sp X) (sp Y) = (sp R, 0) := by
  have l1 := sp_len (X := X) (by omega)
  have l2 := sp_len (X := Y) (by omega)
  obtain ⟨r, h1, h2, _, h4⟩ := cmbR_mem kp (sp_chk (ws := X) (by omega)) (sp_chk (ws := Y) (by omega)) (by omega)
  rw [h1]
  have : r = sp R := by
    refine mem_ext _ _ (-1) (-1) h2 (sp_chk (by omega)) fun x => ?_
    rw [h4, sp_mem (by omega)]
    constructor
    · rintro ⟨h5, h6, h7⟩
      obtain ⟨j, rfl⟩ := Int.eq_ofNat_of_zero_le h5
      rw [hr_sp (by omega), hr_sp (by omega), ← h] at h7
      refine ⟨j, rfl, ?_⟩
      rw [List.getD_eq_getElem?_getD] at h7
      cases hp : R[j]? with
      | none => rw [hp] at h7; cases h7
      | some b => rw [hp] at h7; rw [show b = true from h7]
    · rintro ⟨j, rfl, h5⟩
      have hj := (List.getElem?_eq_some_iff.1 h5).1
      refine ⟨by omega, by omega, ?_⟩
      rw [hr_sp (by omega), hr_sp (by omega), ← h, List.getD_eq_getElem?_getD, h5]
      rfl
  rw [this]
def fO : Bool → Bool → Bool := fun x y => x || y
def fA : Bool → Bool → Bool := fun x y => x && y
def fN : Bool → Bool → Bool := fun x y => x && !y
structure Facts (P Q : List Bool) (U C W : List (Int × Int)) : Prop where
  u : cmbR unionK (sp P) (sp Q) = (U, 0)
  c : cmbR commonK (sp P) (sp Q) = (C, 0)
  w : cmbR withoutK (sp P) (sp Q) = (W, 0)
  v : cmbR unionK (sp Q) (sp P) = (U, 0)
  d : cmbR commonK (sp Q) (sp P) = (C, 0)
  all : cmbR unionK C W = (sp P, 0)
  none : cmbR commonK C W = ([], 0)
  lP : (sp P).length ≤ 300
  lQ : (sp Q).length ≤ 300
  lU : U.length ≤ 300
  lC : C.length ≤ 300
  lW : W.length ≤ 300
  hP : chk (-1) (sp P) = 0
  hQ : chk (-1) (sp Q) = 0
  hU : chk (-1) U = 0
  hC : chk (-1) C = 0
  cnt : cnt 0 U = cnt 0 (sp P) + cnt 0 (sp Q) - cnt 0 C
theorem sp_lt {X : List Bool} (hl : X.length ≤ 300) : ∀ x, mem x (sp X) → x < 300 := fun x hx => by
  obtain ⟨j, rfl, h⟩ := (sp_mem (by omega) x).1 hx
  have := (List.getElem?_eq_some_iff.1 h).1
  omega
theorem facts {P Q : List Bool} (lP : P.length ≤ 300) (lQ : Q.length ≤ 300) : Facts P Q (sp (zB fO P Q (max P.length Q.length))) (sp (zB fA P Q (max P.length Q.length))) (sp (zB fN P Q (max P.length Q.length))) := by
  have hn : max P.length Q.length ≤ 300 := by omega
  have zO := zget fO rfl (P := P) (Q := Q) (n := max P.length Q.length) (by omega) (by omega)
  have zA := zget fA rfl (P := P) (Q := Q) (n := max P.length Q.length) (by omega) (by omega)
  have zN := zget fN rfl (P := P) (Q := Q) (n := max P.length Q.length) (by omega) (by omega)
  have lO : (zB fO P Q (max P.length Q.length)).length ≤ 300 := by rw [zB_len]; exact hn
  have lA : (zB fA P Q (max P.length Q.length)).length ≤ 300 := by rw [zB_len]; exact hn
  have lN : (zB fN P Q (max P.length Q.length)).length ≤ 300 := by rw [zB_len]; exact hn
  refine ⟨cmb_sp _ lP lQ lO zO, cmb_sp _ lP lQ lA zA, cmb_sp _ lP lQ lN zN, cmb_sp _ lQ lP lO (fun j => ?_), cmb_sp _ lQ lP lA (fun j => ?_), cmb_sp _ lA lN lP (fun j => ?_), ?_, ?_, ?_, ?_, ?_, ?_, sp_chk (by omega), sp_chk (by omega), sp_chk (by omega), sp_chk (by omega), ?_⟩
  · rw [zO]; exact Bool.or_comm _ _
  · rw [zA]; exact Bool.and_comm _ _
  · rw [zA, zN]
    unfold fA fN unionK
    cases P.getD j false <;> cases Q.getD j false <;> rfl
  · refine cmb_sp commonK lA lN (R := []) (by simp) (fun j => ?_)
    rw [zA, zN]
    unfold fA fN commonK
    cases P.getD j false <;> cases Q.getD j false <;> rfl
  · exact Nat.le_trans (sp_len (by omega)) lP
  · exact Nat.le_trans (sp_len (by omega)) lQ
  · exact Nat.le_trans (sp_len (by omega)) lO
  · exact Nat.le_trans (sp_len (by omega)) lA
  · exact Nat.le_trans (sp_len (by omega)) lN
  · refine cnt_incl (sp_chk (by omega)) (sp_chk (by omega)) (sp_chk (by omega)) (sp_chk (by omega)) (fun j => ?_) (fun j => ?_) (sp_lt lP) (sp_lt lQ) (sp_lt lO) (sp_lt lA)
    · rw [hr_sp (by omega), hr_sp (by omega), hr_sp (by omega), zO]; rfl
    · rw [hr_sp (by omega), hr_sp (by omega), hr_sp (by omega), zA]; rfl
theorem q20 (h : Hp) (va vb : AV) (xa xb r : List (Int × Int)) (ha : IsSl h va xa) (hb : IsSl h vb xb) (hl : xa.length + xb.length ≤ 1600) (hr : cmbR unionK xa xb = (r, 0)) : Wv (all8 20 [va, vb] h) (fun x h' => ∃ w, x = .tup [w, I 0] ∧ Ext h h' ∧ Fin' h' w r) := by
  unfold all8; rw [plus_not rfl]
  refine (union_any 4 h va vb xa xb ha hb hl).mono fun x h' hq => ?_
  obtain ⟨⟨w, hw, hf⟩, hx⟩ := hq
  rw [hr] at hw hf
  exact ⟨w, hw, hx, hf⟩
theorem q21 (h : Hp) (va vb : AV) (xa xb r : List (Int × Int)) (ha : IsSl h va xa) (hb : IsSl h vb xb) (hl : xa.length + xb.length ≤ 1600) (hr : cmbR commonK xa xb = (r, 0)) : Wv (all8 21 [va, vb] h) (fun x h' => ∃ w, x = .tup [w, I 0] ∧ Ext h h' ∧ Fin' h' w r) := by
  unfold all8; rw [plus_not rfl]
  refine (common_any 4 h va vb xa xb ha hb hl).mono fun x h' hq => ?_
  obtain ⟨⟨w, hw, hf⟩, hx⟩ := hq
  rw [hr] at hw hf
  exact ⟨w, hw, hx, hf⟩
theorem q22 (h : Hp) (va vb : AV) (xa xb r : List (Int × Int)) (ha : IsSl h va xa) (hb : IsSl h vb xb) (hl : xa.length + xb.length ≤ 1600) (hr : cmbR withoutK xa xb = (r, 0)) : Wv (all8 22 [va, vb] h) (fun x h' => ∃ w, x = .tup [w, I 0] ∧ Ext h h' ∧ Fin' h' w r) := by
  unfold all8; rw [plus_not rfl]
  refine (without_any 4 h va vb xa xb ha hb hl).mono fun x h' hq => ?_
  obtain ⟨⟨w, hw, hf⟩, hx⟩ := hq
  rw [hr] at hw hf
  exact ⟨w, hw, hx, hf⟩
theorem q19 (h : Hp) (v : AV) (ms : List Bool) (hv : InB h v ms) : Wv (all8 19 [.agg [v]] h) (fun r h' => Ext h h' ∧ IsB h' r (ms.take 300)) := by
  unfold all8; rw [plus_not rfl]; exact c19 7 h v ms hv
theorem gr_sl {h : Hp} {v : AV} {ps : List (Int × Int)} (g : Gr 28 2 h v (flat ps) ps.length) : IsSl h v ps := by
  rcases g.is with ⟨rfl, h0⟩ | ⟨nm, r, rfl, h1, h2⟩
  · exact .inl ⟨rfl, List.eq_nil_of_length_eq_zero h0⟩
  · refine .inr ⟨nm, 0, r, 0, 0, rfl, fun hr => ?_, h1, fun i a b hi => ?_⟩
    · rcases h2 with ⟨h3, _⟩ | ⟨_, h3⟩
      · omega
      · rw [h3] at hr; cases hr
    · obtain ⟨c1, c2⟩ := flat_at hi
      rw [Nat.zero_add]
      exact ⟨(g.cell c1).load, (g.cell c2).load⟩
theorem apart_new {h : Hp} {u u2 w : AV} (hn : nmO u2 = nmO u ∨ ∃ n, nmO u2 = some n ∧ h.c ≤ n) (hw : ∀ n, nmO w = some n → n < h.c) (ha : ∀ n, nmO u = some n → nmO w ≠ some n) : ∀ n, nmO u2 = some n → nmO w ≠ some n := fun n h1 h2 => by
  rcases hn with h3 | ⟨k, h3, h4⟩
  · rw [h3] at h1; exact ha n h1 h2
  · rw [h3] at h1; cases h1
    have := hw _ h2
    omega
theorem base_new {h h0 : Hp} {u u2 : AV} (hn : nmO u2 = nmO u ∨ ∃ n, nmO u2 = some n ∧ h.c ≤ n) (hb : ∀ n, nmO u = some n → h0.c ≤ n) (hc : h0.c ≤ h.c) : ∀ n, nmO u2 = some n → h0.c ≤ n := fun n h1 => by
  rcases hn with h3 | ⟨k, h3, h4⟩
  · rw [h3] at h1; exact hb n h1
  · rw [h3] at h1; cases h1; omega
end Go.Proofs.Ytmcbkmmipgaeoaa
