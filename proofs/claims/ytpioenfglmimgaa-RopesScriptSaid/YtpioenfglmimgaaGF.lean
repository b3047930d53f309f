import Derived.Test.YtpioenfglmimgaaO7
namespace Go.Proofs.Abs
open Go Go.RowKit
set_option linter.unusedSimpArgs false
set_option linter.unusedVariables false
/-! Memory that came in, with what it leads to: each address that stands anywhere has a name. -/
/-- the addresses in a cell -/
def addrsV : Value → List Addr
  | .slice (some a) _ _ => [a]
  | .pointer (some a) => [a]
  | _ => []
def addrsO : Obj → List Addr
  | .cells c _ _ => c.toList.flatMap addrsV
  | _ => []
def addrsW (w : World) : List Addr := w.heap.toList.flatMap addrsO
theorem addrsW_mem {w : World} {a : Addr} {v : Value} (h : w.cell? a = some v) {x : Addr} (hx : x ∈ addrsV v) : x ∈ addrsW w := by
  unfold World.cell? at h
  cases hb : w.heap[a.block]? with
  | none => rw [hb] at h; cases h
  | some o =>
    rw [hb] at h
    cases o with
    | cells c t f =>
      dsimp only at h
      split at h
      · cases h
      · refine List.mem_flatMap.2 ⟨.cells c t f, List.mem_of_getElem? (i := a.block) (by rw [Array.getElem?_toList]; exact hb), ?_⟩
        exact List.mem_flatMap.2 ⟨v, List.mem_of_getElem? (i := a.off) (by rw [Array.getElem?_toList]; exact h), hx⟩
    | _ => cases h
def locA : Option Addr → Loc
  | some a => ⟨a.block, a.off, 0, a.spot⟩
  | none => ⟨0, 0, 0, none⟩
def sgA (A : List Addr) (n : Nat) : Loc := locA A[n]?
def absV (A : List Addr) : Value → AV
  | .slice (some a) len cap => .slice (A.idxOf a) 0 len false cap 0
  | .pointer (some a) => .ptr (A.idxOf a) 0
  | v => .lit v
theorem sgA_idx {A : List Addr} {a : Addr} (h : a ∈ A) : sgA A (A.idxOf a) = ⟨a.block, a.off, 0, a.spot⟩ := by
  unfold sgA
  have hl := List.idxOf_lt_length_of_mem h
  rw [List.getElem?_eq_getElem hl, List.getElem_idxOf hl]
  rfl
theorem absV_conc {A : List Addr} {v : Value} (h : ∀ x ∈ addrsV v, x ∈ A) : conc (sgA A) (absV A v) = v := by
  unfold absV
  split
  · rename_i a len cap
    have ha : a ∈ A := h a (by simp [addrsV])
    simp [conc, sgA_idx ha, spt_zero]
  · rename_i a
    have ha : a ∈ A := h a (by simp [addrsV])
    simp [conc, sgA_idx ha, spt_zero]
  · simp [conc]
theorem absV_ok {A : List Addr} {v : Value} (h : ∀ x ∈ addrsV v, x ∈ A) : (absV A v).ok (sgA A) A.length := by
  unfold absV
  split
  · rename_i a len cap
    have ha : a ∈ A := h a (by simp [addrsV])
    exact ⟨List.idxOf_lt_length_of_mem ha, fun h => by cases h⟩
  · rename_i a
    have ha : a ∈ A := h a (by simp [addrsV])
    exact List.idxOf_lt_length_of_mem ha
  · simp [AV.ok]
noncomputable def roA (A : List Addr) (w : World) (k : Nat) : Option Addr → Option AV
  | some a => if a.spot = none then (w.cell? ⟨a.block, a.off + k, none⟩).map (absV A) else none
  | none => none
noncomputable def hpA (A : List Addr) (w : World) : Hp := ⟨.leaf, A.length, fun n k => roA A w k A[n]?⟩
theorem gam_A (A : List Addr) (w : World) (hA : ∀ x ∈ addrsW w, x ∈ A) : Gam (sgA A) (below w.heap.size) (hpA A w) w := by
  refine ⟨fun _ h => h, fun n b hn => (by cases hn), fun n m bn bm hn => (by cases hn), fun n off v hv => ?_⟩
  change roA A w off A[n]? = some v at hv
  cases hn : A[n]? with
  | none => rw [hn] at hv; cases hv
  | some a =>
    rw [hn] at hv
    unfold roA at hv
    dsimp only at hv
    split at hv
    · rename_i hs
      cases hw : w.cell? ⟨a.block, a.off + off, none⟩ with
      | none => rw [hw] at hv; cases hv
      | some u =>
        rw [hw] at hv
        cases hv
        have hl : ∀ x ∈ addrsV u, x ∈ A := fun x hx => hA x (addrsW_mem hw hx)
        have e : sgA A n = ⟨a.block, a.off, 0, a.spot⟩ := by unfold sgA; rw [hn]; rfl
        refine ⟨(List.getElem?_eq_some_iff.1 hn).1, rfl, absV_ok hl, by rw [e]; exact hs, ?_, by rw [e, absV_conc hl]; exact hw⟩
        rw [e]
        show a.block < w.heap.size
        cases hb : w.heap[a.block]? with
        | none => simp [World.cell?, hb] at hw
        | some ob => exact (Array.getElem?_eq_some_iff.1 hb).1
    · cases hv
theorem load_A {A : List Addr} {w : World} {a : Addr} {k : Nat} {u : Value} (ha : a ∈ A) (hs : a.spot = none) (hw : w.cell? ⟨a.block, a.off + k, none⟩ = some u) : load (hpA A w) (A.idxOf a) k 1 = some [absV A u] := by
  rw [load_none rfl, roCells_succ, roCells_zero]
  have e : (hpA A w).ro (A.idxOf a) k = some (absV A u) := by
    show roA A w k A[A.idxOf a]? = _
    have hl := List.idxOf_lt_length_of_mem ha
    rw [List.getElem?_eq_getElem hl, List.getElem_idxOf hl]
    unfold roA
    dsimp only
    rw [if_pos hs, hw]
    rfl
  rw [e]
  rfl
/-- a slice of one cell an element that came in -/
def InS (P : Value → Prop) (w : World) (a : Option Addr) (len cap : Nat) : Prop :=
  (a = none ∧ len = 0 ∧ cap = 0) ∨ ∃ a0, a = some a0 ∧ len ≤ cap ∧ ∀ i, i < len → a0.spot = none ∧ ∃ u, w.cell? ⟨a0.block, a0.off + i, none⟩ = some u ∧ P u
theorem add_spot {w : World} {a : Addr} {i : Nat} {u : Value} (h0 : ∃ v, w.cell? a = some v) (h : w.cell? (a.add i) = some u) : a.spot = none ∧ w.cell? ⟨a.block, a.off + i, none⟩ = some u := by
  obtain ⟨b, o, s⟩ := a
  have hs : s = none := by
    obtain ⟨v, hv⟩ := h0
    cases s with
    | none => rfl
    | some s =>
      exfalso
      unfold World.cell? at hv
      cases hb : w.heap[b]? with
      | none => rw [hb] at hv; cases hv
      | some ob =>
        rw [hb] at hv
        cases ob <;> simp at hv
  subst hs
  refine ⟨rfl, ?_⟩
  rw [add_at] at h
  exact h
theorem InS.list {P : Value → Prop} {w : World} {a : Option Addr} {len cap : Nat} (h : InS P w a len cap) {A : List Addr} (hA : ∀ x ∈ addrsV (.slice a len cap), x ∈ A) :
    ∃ us : List Value, us.length = len ∧ (∀ u ∈ us, P u) ∧ (∀ (i : Nat) (u : Value), us[i]? = some u → ∃ b, w.cell? b = some u) ∧ Lc false (hpA A w) (absV A (.slice a len cap)) (us.map (absV A)) := by
  rcases h with ⟨rfl, rfl, rfl⟩ | ⟨a0, rfl, hl, hi⟩
  · exact ⟨[], rfl, fun u hu => (by cases hu), fun i u hu => (by cases hu), .inl ⟨rfl, rfl⟩, trivial, fun h => (by cases h)⟩
  · have ha : a0 ∈ A := hA a0 (by simp [addrsV])
    have hex : ∀ i, ∃ u : Value, i < len → a0.spot = none ∧ w.cell? ⟨a0.block, a0.off + i, none⟩ = some u ∧ P u := fun i => by
      by_cases hlt : i < len
      · obtain ⟨h1, u, h2, h3⟩ := hi i hlt
        exact ⟨u, fun _ => ⟨h1, h2, h3⟩⟩
      · exact ⟨undef, fun h => absurd h hlt⟩
    obtain ⟨U, hU⟩ := Classical.skolem.1 hex
    have hlen : ((List.range len).map U).length = len := by simp
    have at_ : ∀ i u, ((List.range len).map U)[i]? = some u → i < len ∧ u = U i := fun i u hu => by
      have hil : i < len := by
        have := (List.getElem?_eq_some_iff.1 hu).1
        rwa [hlen] at this
      rw [List.getElem?_map, List.getElem?_range hil] at hu
      exact ⟨hil, (Option.some.inj hu).symm⟩
    refine ⟨(List.range len).map U, hlen, fun u hu => ?_, fun i u hu => ?_, .inr ⟨A.idxOf a0, 0, false, cap, 0, by rw [List.length_map, hlen]; rfl, List.idxOf_lt_length_of_mem ha, fun i x hx => ?_⟩, hl, fun h => (by cases h)⟩
    · obtain ⟨i, hi2⟩ := List.getElem?_of_mem hu
      obtain ⟨h1, rfl⟩ := at_ i u hi2
      exact (hU i h1).2.2
    · obtain ⟨h1, rfl⟩ := at_ i u hu
      exact ⟨_, (hU i h1).2.1⟩
    · rw [List.getElem?_map, Option.map_eq_some_iff] at hx
      obtain ⟨u, hu, rfl⟩ := hx
      obtain ⟨h1, rfl⟩ := at_ i u hu
      rw [Nat.zero_add]
      exact load_A ha (hU i h1).1 (hU i h1).2.1
/-- a whole number -/
def PInt (v : Value) : Prop := ∃ x : Int, v = .int .i64 x ∧ -9223372036854775808 ≤ x ∧ x ≤ 9223372036854775807
/-- a slice of what P says -/
def PSl (P : Value → Prop) (w : World) (v : Value) : Prop := ∃ a len cap, v = .slice a len cap ∧ InS P w a len cap
theorem ints_A {us : List Value} (h : ∀ u ∈ us, PInt u) (A : List Addr) : ∃ xs : List Int, us.map (absV A) = xs.map I ∧ ∀ x ∈ xs, -9223372036854775808 ≤ x ∧ x ≤ 9223372036854775807 := by
  induction us with
  | nil => exact ⟨[], rfl, fun x hx => by cases hx⟩
  | cons u us ih =>
    obtain ⟨xs, h1, h2⟩ := ih (fun u hu => h u (.tail _ hu))
    obtain ⟨x, rfl, h3⟩ := h u (.head _)
    refine ⟨x :: xs, by rw [List.map_cons, List.map_cons, h1]; rfl, fun y hy => ?_⟩
    rcases List.mem_cons.1 hy with rfl | hy
    · exact h3
    · exact h2 y hy
theorem rows_A {w : World} {us : List Value} (h : ∀ u ∈ us, PSl PInt w u) {A : List Addr} (hA : ∀ u ∈ us, ∀ x ∈ addrsV u, x ∈ A) : ∃ xss : List (List Int), LLs false (hpA A w) (us.map (absV A)) xss := by
  induction us with
  | nil => exact ⟨[], rfl, fun i w xs h1 => by simp at h1⟩
  | cons u us ih =>
    obtain ⟨xss, h1, h2⟩ := ih (fun u hu => h u (.tail _ hu)) (fun u hu => hA u (.tail _ hu))
    obtain ⟨a, len, cap, rfl, h3⟩ := h u (.head _)
    obtain ⟨vs, h4, h5, _, h6⟩ := h3.list (A := A) (hA _ (.head _))
    obtain ⟨xs, h7, _⟩ := ints_A h5 A
    rw [h7] at h6
    refine ⟨xs :: xss, by simp [h1] at h1 ⊢, fun i w' ys h8 h9 => ?_⟩
    cases i with
    | zero =>
      simp only [List.map_cons, List.getElem?_cons_zero, Option.some.injEq] at h8 h9
      subst h8 h9
      exact h6
    | succ i =>
      simp only [List.map_cons, List.getElem?_cons_succ] at h8 h9
      exact h2 i w' ys h8 h9
end Go.Proofs.Abs
