import Derived.Test.YtalnccmejboibaaU4
import Derived.KernelRfl
namespace Go.Proofs.Ytalnccmejboibaa
open Go Go.Proofs Go.RowKit
set_option linter.unusedSimpArgs false
set_option linter.unusedVariables false
open Go.Proofs.Abs
def nmO : AV → Option Nat
  | .slice n _ _ _ _ _ => some n
  | _ => none
/-- a list of rows that was put together by append -/
def GrL (h : Hp) (v : AV) (ps : List (Int × Int)) : Prop := (v = nilS ∧ ps = []) ∨ ∃ nm b, v = .slice nm 0 ps.length true 0 0 ∧ nm < h.c ∧ h.m.get nm = some b ∧ b.grow = 1 ∧ b.n = ps.length ∧ b.elem = 46 ∧ ∀ (k : Nat) p, ps[k]? = some p → b.cells.get k = some (CX p)
theorem GrL.lt {h : Hp} {v : AV} {ps : List (Int × Int)} (g : GrL h v ps) {n : Nat} (hn : nmO v = some n) : n < h.c := by
  rcases g with ⟨rfl, _⟩ | ⟨nm, b, rfl, h1, _⟩
  · cases hn
  · cases hn; exact h1
theorem GrL.fr {h h' : Hp} {v : AV} {ps : List (Int × Int)} (g : GrL h v ps) {P : Nat → Prop} (f : Fr P h h') (hp : ∀ n, nmO v = some n → ¬ P n) : GrL h' v ps := by
  rcases g with h1 | ⟨nm, b, rfl, h1, h2, h3⟩
  · exact .inl h1
  · exact .inr ⟨nm, b, rfl, Nat.lt_of_lt_of_le h1 f.c, (f.m nm h1 (hp nm rfl)).trans h2, h3⟩
theorem GrL.isL {h : Hp} {v : AV} {ps : List (Int × Int)} (g : GrL h v ps) : IsL h v (ps.map CX) := by
  rcases g with ⟨rfl, rfl⟩ | ⟨nm, b, rfl, h1, h2, _, _, _, h3⟩
  · exact .inl ⟨rfl, rfl⟩
  · refine .inr ⟨nm, 0, true, 0, 0, by rw [List.length_map], h1, fun k x hx => ?_⟩
    rw [List.getElem?_map, Option.map_eq_some_iff] at hx
    obtain ⟨y, hy, rfl⟩ := hx
    rw [Nat.zero_add]
    exact (show Cell h nm k (CX y) from ⟨b, h2, h3 k y hy⟩).load
theorem gr_app {h : Hp} {v : AV} {ps : List (Int × Int)} {p : Int × Int} {n2 off c2 z2 : Nat} {r2 : Bool} (g : GrL h v ps) (hl : ps.length < 1000) (hld : Abs.load h n2 off 1 = some [CX p]) :
    ∃ v' h', builtinA ctx h .append [42, 42] [v, .slice n2 off 1 r2 c2 z2] = some (v', h') ∧ GrL h' v' (ps ++ [p]) ∧ nmO v' = some h.c ∧ Fr (fun n => nmO v = some n) h h' ∧ h'.c = h.c + 1 := by
  have hs : ti46.size = 1 := rfl
  rcases g with ⟨rfl, rfl⟩ | ⟨nm, b, rfl, h1, h2, h3, h4, h5, h6⟩
  · refine ⟨.slice h.c 0 1 true 0 0, newBlk h [CX p] 46 1, ?_, .inr ⟨h.c, _, rfl, Nat.lt_succ_self _, by unfold newBlk; show (h.m.put h.c _).get h.c = _; rw [T.get_put, if_pos rfl], rfl, rfl, rfl, ?_⟩, rfl, (new_cells h _ 46 1).1.fr _, rfl⟩
    · unfold builtinA
      dsimp only
      exact append_nil ty42 rfl ty42 rfl ty46 rfl rfl (k := 1) rfl rfl hld
    · intro k q hq
      cases k with
      | zero =>
        cases hq
        rw [setCells_cons, setCells_nil, T.get_put, if_pos rfl]
      | succ k => simp at hq
  · refine ⟨.slice h.c 0 (ps.length + 1) true 0 0, ⟨(h.m.put nm none).put h.c (some ⟨setCells b.cells b.n [CX p], b.n + 1 * 1, 46, 1⟩), h.c + 1, h.ro⟩, ?_, .inr ⟨h.c, _, by rw [List.length_append]; rfl, Nat.lt_succ_self _, by show ((h.m.put nm none).put h.c _).get h.c = _; rw [T.get_put, if_pos rfl], rfl, ?_, rfl, ?_⟩, rfl, ⟨Nat.le_succ _, rfl, fun n hn hne => ?_⟩, rfl⟩
    · unfold builtinA
      dsimp only
      exact append_more ty42 rfl ty42 rfl ty46 rfl rfl (k := 1) rfl rfl hld h2 h3 (by rw [h4, hs, Nat.mul_one]) h5 (by omega) rfl
    · show b.n + 1 * 1 = _
      rw [h4, List.length_append]
      rfl
    · intro k q hq
      show (setCells b.cells b.n [CX p]).get k = _
      rw [setCells_get]
      by_cases hk : k < ps.length
      · rw [if_neg (by omega)]
        rw [List.getElem?_append_left hk] at hq
        exact h6 k q hq
      · have hk2 : k = ps.length := by
          have := (List.getElem?_eq_some_iff.1 hq).1
          simp at this
          omega
        subst hk2
        rw [List.getElem?_append_right (Nat.le_refl _), Nat.sub_self] at hq
        cases hq
        rw [if_pos ⟨by omega, by simp; omega⟩, h4, Nat.sub_self]
        rfl
    · show ((h.m.put nm none).put h.c _).get n = _
      rw [T.get_put, if_neg (by omega), T.get_put, if_neg (fun e => hne (by rw [e]; rfl))]
theorem grL_nil (h : Hp) : GrL h nilS [] := .inl ⟨rfl, rfl⟩
theorem un_neg (y : Int) : pureV (Op.unary .neg (.int .i64 y)) = some (I (IntKind.wrap .i64 (0 - y))) := rfl
theorem wrap_in (y : Int) : In (IntKind.wrap .i64 y) := by
  rw [IntKind.wrap_i64]
  unfold In
  omega
theorem far_el {y : Int} {ps : List (Int × Int)} (h : farB y ps = false) {k : Nat} {p : Int × Int} (hp : ps[k]? = some p) : 0 ≤ sat (p.1 + y) ∧ sat (p.1 + y) < 9007199254740992 := by
  unfold farB at h
  rw [List.any_eq_false] at h
  have := h p (List.mem_of_getElem? hp)
  unfold fr1 at this
  simp at this
  omega
theorem sat_id {z : Int} (h : 0 ≤ sat z) (h2 : sat z < 9007199254740992) : sat z = z := by
  unfold sat at h h2 ⊢
  split at h
  · rw [if_pos (by assumption)] at h2; omega
  · split at h
    · omega
    · rw [if_neg (by assumption), if_neg (by assumption)]
theorem sld_ex {y : Int} {ps : List (Int × Int)} (hE : ExL ps) (h : farB y ps = false) : ExL (sld y ps) := by
  intro k q hq
  unfold sld at hq
  rw [List.getElem?_map, Option.map_eq_some_iff] at hq
  obtain ⟨p, hp, rfl⟩ := hq
  exact ⟨far_el h hp, (hE k p hp).2⟩
/-- rows that are slid back are as before -/
theorem back {y : Int} {ps : List (Int × Int)} (hE : ExL ps) (h : farB y ps = false) (hy : ps = [] ∨ IntKind.wrap .i64 (0 - y) = -y) : farB (IntKind.wrap .i64 (0 - y)) (sld y ps) = false ∧ sld (IntKind.wrap .i64 (0 - y)) (sld y ps) = ps := by
  rcases hy with rfl | hy
  · exact ⟨rfl, rfl⟩
  · rw [hy]
    have key : ∀ p ∈ ps, sat (sat (p.1 + y) + -y) = p.1 ∧ 0 ≤ p.1 ∧ p.1 < 9007199254740992 := by
      intro p hp
      obtain ⟨k, hk⟩ := List.getElem?_of_mem hp
      have h1 := far_el h hk
      have h2 := hE k p hk
      have h3 := sat_id h1.1 h1.2
      have h4 := h2.1
      refine ⟨?_, h4⟩
      rw [h3, show p.1 + y + -y = p.1 by omega]
      unfold sat
      rw [if_neg (by omega), if_neg (by omega)]
    constructor
    · unfold farB sld
      rw [List.any_map, List.any_eq_false]
      intro p hp
      obtain ⟨h1, h2, h3⟩ := key p hp
      simp only [Function.comp, fr1, h1]
      simp
      omega
    · unfold sld
      rw [List.map_map]
      conv => rhs; rw [← List.map_id ps]
      apply List.map_congr_left
      intro p hp
      obtain ⟨h1, _⟩ := key p hp
      simp only [Function.comp, h1, id]
end Go.Proofs.Ytalnccmejboibaa
