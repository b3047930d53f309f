import Derived.Test.YtdbajhklnaekjaaRD
import Derived.KernelRfl
namespace Go.Proofs.Ytdbajhklnaekjaa
open Go Go.Proofs Go.RowKit Go.Proofs.Abs
set_option linter.unusedSimpArgs false
set_option linter.unusedVariables false
/-! The map of changes that follow each other. -/
def cmpL (xa xb : List Int) : List Int := (List.range xb.length).map fun i => cmpF xa xb i
def fA (xa : List Int) (y : Int) : Int := if y = -1 then -1 else xa.getD y.toNat 0
theorem cmpL_map (xa xb : List Int) : cmpL xa xb = xb.map (fA xa) := by
  apply List.ext_getElem?
  intro k
  unfold cmpL
  rw [List.getElem?_map, List.getElem?_map]
  by_cases hk : k < xb.length
  · rw [List.getElem?_range hk]
    simp only [Option.map_some]
    unfold cmpF
    rw [List.getElem?_eq_getElem hk]
    rfl
  · rw [List.getElem?_eq_none (by simpa using hk), List.getElem?_eq_none (by simpa using hk)]
    rfl
theorem insL_map {f : Int → Int} (hf : f (-1) = -1) (l : List Int) (a m : Nat) : insL (l.map f) a m = (insL l a m).map f := by
  unfold insL
  rw [List.map_append, List.map_append, List.map_replicate, hf, List.map_take, List.map_drop]
theorem remL_map (f : Int → Int) (l : List Int) (a m : Nat) : remL (l.map f) a m = (remL l a m).map f := by
  unfold remL
  rw [List.map_append, List.map_take, List.map_drop]
theorem movL_map (f : Int → Int) (l : List Int) (a m t : Nat) : movL (l.map f) a m t = (movL l a m t).map f := by
  unfold movL
  rw [remL_map, List.map_append, List.map_append, List.map_take, List.map_take, List.map_drop, List.map_drop]
theorem stp_map {f : Int → Int} (hf : f (-1) = -1) (x : Q4) (l : List Int) : stp x (l.map f) = (stp x l).map f := by
  have h1 : atS x (l.map f) = atS x l := by unfold atS; rw [List.length_map]
  have h2 : mS x (l.map f) = mS x l := by unfold mS; rw [h1, List.length_map]
  have h3 : tS x (l.map f) = tS x l := by unfold tS; rw [h2, List.length_map]
  unfold stp
  rw [h1, h2, h3]
  split
  · exact insL_map hf _ _ _
  · split
    · exact remL_map f _ _ _
    · exact movL_map f _ _ _ _
theorem aft_map {f : Int → Int} (hf : f (-1) = -1) : ∀ (st : List Q4) (l : List Int), aft st (l.map f) = (aft st l).map f
  | [], _ => rfl
  | x :: st, l => by
    show aft st (stp x (l.map f)) = (aft st (stp x l)).map f
    rw [stp_map hf, aft_map hf st]
theorem fA_neg (xa : List Int) : fA xa (-1) = -1 := by unfold fA; rw [if_pos rfl]
theorem upto_map (xa : List Int) : (upto xa.length).map (fA xa) = xa := by
  apply List.ext_getElem?
  intro k
  unfold upto
  rw [List.getElem?_map, List.getElem?_map]
  by_cases hk : k < xa.length
  · rw [List.getElem?_range hk]
    simp only [Option.map_some]
    unfold fA
    rw [if_neg (by omega), Int.toNat_natCast, List.getD_eq_getElem?_getD, List.getElem?_eq_getElem hk]
    rfl
  · rw [List.getElem?_eq_none (by simpa using hk), List.getElem?_eq_none (by simpa using hk)]
    rfl
theorem cmp_aft (xa : List Int) (st : List Q4) {n : Nat} (hn : n = xa.length) : cmpL xa (aft st (upto n)) = aft st xa := by
  subst hn
  rw [cmpL_map, ← aft_map (fA_neg xa), upto_map]
theorem cmp_aft2 (xa : List Int) (st st2 : List Q4) {n : Nat} (hn : n = xa.length) : cmpL xa (aft st2 (aft st (upto n))) = aft st2 (aft st xa) := by
  subst hn
  rw [cmpL_map, ← aft_map (fA_neg xa), ← aft_map (fA_neg xa), upto_map]
theorem aft_upto_len (xa : List Int) (st : List Q4) {n : Nat} (hn : n = xa.length) : (aft st (upto n)).length = (aft st xa).length := by
  rw [← cmp_aft xa st hn, cmpL_map, List.length_map]
theorem cmp_upto (xa : List Int) {n : Nat} (hn : n = xa.length) : cmpL xa (upto n) = xa := cmp_aft xa [] hn
theorem upto_cmp {N : Nat} {xa : List Int} (o : OkP N xa) : cmpL (upto N) xa = xa := by
  rw [cmpL_map]
  refine (List.map_congr_left (fun y hy => ?_)).trans (List.map_id' xa)
  obtain ⟨h1, h2⟩ := o.rng y hy
  unfold fA
  by_cases h : y = -1
  · rw [if_pos h]; exact h.symm
  · rw [if_neg h]
    obtain ⟨k, hk⟩ := nat_of (show 0 ≤ y by omega)
    subst hk
    simp only [Int.ofNat_eq_natCast] at h2 ⊢
    rw [Int.toNat_natCast, upto, List.getD_eq_getElem?_getD, List.getElem?_map, List.getElem?_range (by omega)]
    rfl
/-! contracts -/
theorem q25 (h : Hp) (n : Nat) (hn : n ≤ 4096) : Wv (all8 25 [I (n : Int)] h) (fun r h' => ∃ w, w = r ∧ GL h' w (upto n) ∧ Ext h h') := by
  rw [all_run rfl]
  obtain ⟨r, h', e, x, g, _⟩ := c25 7 h n hn
  exact ⟨r, h', e, r, rfl, g, x⟩
theorem j31 (h : Hp) (nn : Int) (s v : AV) (st : List Q4) (l zs : List Int) (hs : IsR c4 4 h s st) (hok : ∀ x ∈ st, x.ok) (hv : GL h v l) (hl : l.length ≤ 1000) (hz : aft (st.take 12) l = zs) : Wv (all8 31 [.agg [U8 nn, s], v] h) (fun r h' => ∃ w, w = r ∧ GL h' w zs ∧ Ext h h') := by
  rw [all_run rfl]
  obtain ⟨r, h', e, x, g, _⟩ := k31 5 h nn s v st l hs hok hv hl
  exact ⟨r, h', e, r, rfl, by rw [← hz]; exact g, x⟩
theorem j12x (h : Hp) (N : Nat) (o2 : Int) (sa sb : AV) (xa xb zs : List Int) (ia : IsL h sa (xa.map I)) (ib : IsL h sb (xb.map I)) (oa : Ok N xa) (ob : Ok xa.length xb) (ho : o2 = (xa.length : Int)) (hz : cmpL xa xb = zs) : Wv (all8 12 [.agg [I (N : Int), sa], .agg [I o2, sb]] h) (fun r h' => ResM h h' r (N : Int) zs 0) := by
  rw [all_run rfl, ← hz]
  have hb := ob.chk
  rw [ho]
  exact c12 5 h N xa.length sa sb xa xb ia ib oa.chk hb rfl ob
theorem j21 (h : Hp) (n : Nat) (hn : n ≤ 4096) : Wv (all8 21 [I (n : Int)] h) (fun r h' => ResM h h' r (n : Int) (upto n) 0) := by
  rw [all_run rfl]; exact c21 5 h n hn

end Go.Proofs.Ytdbajhklnaekjaa
