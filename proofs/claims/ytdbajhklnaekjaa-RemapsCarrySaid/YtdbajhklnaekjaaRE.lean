import Derived.Test.YtdbajhklnaekjaaRD
import Derived.KernelRfl
namespace Go.Proofs.Ytdbajhklnaekjaa
open Go Go.Proofs Go.RowKit Go.Proofs.Abs
set_option linter.unusedSimpArgs false
set_option linter.unusedVariables false
/-! The map of changes that follow each other. -/
def cmpL (xa xb : List Int) : List Int := (List.range xb.length).map fun i => cmpF xa xb i
def fA (xa : List Int) (y : Int) : Int := if y = -1 then -1 else xa.getD y.toNat 0
theorem cmpL_map (xa xb : List Int) : cmpL xa xb = xb.map (fA xa) := by
  apply List.ext_getElem?
  intro k
  unfold cmpL
  rw [List.getElem?_map, List.getElem?_map]
  by_cases hk : k < xb.length
  · rw [List.getElem?_range hk]
    simp only [Option.map_some]
    unfold cmpF
    rw [List.getElem?_eq_getElem hk]
    rfl
  · rw [List.getElem?_eq_none (by simpa using hk), List.getElem?_eq_none (by simpa using hk)]
    rfl
theorem insL_map {f : Int → Int} (hf : f (-1) = -1) (l : List Int) (a m : Nat) : insL (l.map f) a m = (insL l a m).map f := by
  unfold insL
  rw [List.map_append, List.map_append, List.map_replicate, hf, List.map_take, List.map_drop]
theorem remL_map (f : Int → Int) (l : List Int) (a m : Nat) : remL (l.map f) a m = (remL l a m).map f := by
  unfold remL
  rw [List.map_append, List.map_take, List.map_drop]
theorem movL_map (f : Int → Int) (l : List Int) (a m t : Nat) : movL (l.map f) a m t = (movL l a m t).map f := by
  unfold movL
  rw [remL_map, List.map_append, List.map_append, List.map_take, List.map_take, List.map_drop, List.map_drop]
theorem stp_map {f : Int → Int} (hf : f (-1) = -1) (x : Q4) (l : List Int) : stp x (l.map f) = (stp x l).map f := by
  have h1 : atS x (l.map f) = atS x l := by unfold atS; rw [List.length_map]
  have h2 : mS x (l.map f) = mS x l := by unfold mS; rw [h1, List.length_map]
  have h3 : tS x (l.map f) = tS x l := by unfold tS; rw [h2, List.length_map]
  unfold stp
  rw [h1, h2, h3]
  split
  · exact insL_map hf _ _ _
  · split
    · exact remL_map f _ _ _
    · exact movL_map f _ _ _ _
theorem aft_map {f : Int → Int} (hf : f (-1) = -1) : ∀ (st : List Q4) (l : List Int), aft st (l.map f) = (aft st l).map f
  | [], _ => rfl
  | x :: st, l => by
    show aft st (stp x (l.map f)) = (aft st (stp x l)).map f
    rw [stp_map hf, aft_map hf st]
theorem fA_neg (xa : List Int) : fA xa (-1) = -1 := by unfold fA; rw [if_pos rfl]
theorem upto_map (xa : List Int) : (upto xa.length).map (fA xa) = xa := by
  apply List.ext_getElem?
  intro k
  unfold upto
  rw [List.getElem?_map, List.getElem?_map]
  by_cases hk : k < xa.length
  · rw [List.getElem?_range hk]
    simp only [Option.map_some]
    unfold fA
    rw [if_neg (by omega), Int.toNat_natCast, List.getD_eq_getElem?_getD, List.getElem?_eq_getElem hk]
    rfl
  · rw [List.getElem?_eq_none (by simpa using hk), List.getElem?_eq_none (by simpa using hk)]
    rfl
theorem cmp_aft (xa : List Int) (st : List Q4) {n : Nat} (hn : n = xa.length) : cmpL xa (aft st (upto n)) = aft st xa := by
  subst hn
  rw [cmpL_map, ← aft_map (fA_neg xa), upto_map]
theorem aft_upto_len (xa : List Int) (st : List Q4) {n : Nat} (hn : n = xa.length) : (aft st (upto n)).length = (aft st xa).length := by
  rw [← cmp_aft xa st hn, cmpL_map, List.length_map]
end Go.Proofs.Ytdbajhklnaekjaa
