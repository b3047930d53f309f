import Derived.Test.YtdbajhklnaekjaaR6
import Derived.KernelRfl
namespace Go.Proofs.Ytdbajhklnaekjaa
open Go Go.Proofs Go.RowKit Go.Proofs.Abs
set_option linter.unusedSimpArgs false
set_option linter.unusedVariables false
/-! The lists that steps make of indices are valid. -/
def Rn (a b : Int) : Prop := a = b → a < 0
theorem rn_symm {a b : Int} (h : Rn a b) : Rn b a := fun e => by have := h e.symm; omega
structure OkP (N : Nat) (xs : List Int) : Prop where
  rng : ∀ x ∈ xs, -1 ≤ x ∧ x < (N : Int)
  un : xs.Pairwise Rn
theorem OkP.perm {N : Nat} {xs ys : List Int} (o : OkP N xs) (p : ys.Perm xs) : OkP N ys :=
  ⟨fun x hx => o.rng x (p.mem_iff.1 hx), (p.pairwise_iff (fun h => rn_symm h)).2 o.un⟩
theorem OkP.sub {N : Nat} {xs ys : List Int} (o : OkP N xs) (p : ys.Sublist xs) : OkP N ys := ⟨fun x hx => o.rng x (p.subset hx), o.un.sublist p⟩
theorem OkP.ins {N : Nat} {xs : List Int} (o : OkP N xs) (a m : Nat) : OkP N (insL xs a m) := by
  have p : (insL xs a m).Perm (List.replicate m (-1) ++ xs) := by
    unfold insL
    refine ((List.perm_append_comm (l₁ := xs.take a) (l₂ := List.replicate m (-1))).append_right _).trans ?_
    rw [List.append_assoc, List.take_append_drop]
  refine OkP.perm ⟨fun x hx => ?_, ?_⟩ p
  · rcases List.mem_append.1 hx with h | h
    · rw [(List.mem_replicate.1 h).2]
      omega
    · exact o.rng x h
  · rw [List.pairwise_append]
    refine ⟨List.pairwise_replicate.2 (.inr (fun _ => by omega)), o.un, fun x hx y _ e => ?_⟩
    rw [(List.mem_replicate.1 hx).2]
    omega
theorem OkP.rem {N : Nat} {xs : List Int} (o : OkP N xs) (a m : Nat) : OkP N (remL xs a m) := by
  refine o.sub ?_
  unfold remL
  have h1 : (xs.drop (a + m)).Sublist (xs.drop a) := by rw [← List.drop_drop]; exact List.drop_sublist _ _
  have := (List.Sublist.refl (xs.take a)).append h1
  rwa [List.take_append_drop] at this
theorem OkP.mov {N : Nat} {xs : List Int} (o : OkP N xs) (a m t : Nat) : OkP N (movL xs a m t) := by
  refine o.perm ?_
  unfold movL
  refine ((List.perm_append_comm (l₁ := (remL xs a m).take t) (l₂ := (xs.drop a).take m)).append_right _).trans ?_
  rw [List.append_assoc, List.take_append_drop]
  unfold remL
  rw [← List.append_assoc]
  refine ((List.perm_append_comm (l₁ := (xs.drop a).take m) (l₂ := xs.take a)).append_right _).trans ?_
  rw [List.append_assoc, ← List.drop_drop, List.take_append_drop, List.take_append_drop]
theorem OkP.stp {N : Nat} {xs : List Int} (o : OkP N xs) (x : Q4) : OkP N (stp x xs) := by
  unfold Go.Proofs.Ytdbajhklnaekjaa.stp
  split
  · exact o.ins _ _
  · split
    · exact o.rem _ _
    · exact o.mov _ _ _
theorem OkP.aft {N : Nat} : ∀ (st : List Q4) {xs : List Int}, OkP N xs → OkP N (aft st xs)
  | [], _, o => o
  | x :: st, _, o => OkP.aft st (o.stp x)
theorem okp_upto (N : Nat) : OkP N (upto N) := by
  refine ⟨fun x hx => ?_, ?_⟩
  · obtain ⟨i, hi, rfl⟩ := List.mem_map.1 hx
    have := List.mem_range.1 hi
    omega
  · unfold upto
    rw [List.pairwise_map]
    exact List.pairwise_lt_range.imp (fun h e => by omega)
theorem OkP.ok {N : Nat} {xs : List Int} (o : OkP N xs) (hN : N ≤ 4096) (hl : xs.length ≤ 4096) : Ok N xs := by
  refine ⟨hN, hl, o.rng, fun k x hx h0 h9 => ?_⟩
  obtain ⟨j, hj, hj2⟩ := take_mem.1 h9
  obtain ⟨hk1, hk2⟩ := List.getElem?_eq_some_iff.1 hx
  obtain ⟨hj3, hj4⟩ := List.getElem?_eq_some_iff.1 hj2
  have := (List.pairwise_iff_getElem.1 o.un) j k hj3 hk1 hj (by rw [hk2, hj4])
  omega
abbrev mvl (n a m t : Nat) : List Int := (List.range n).map fun (i : Nat) => mvF (a : Int) (m : Int) (t : Int) i
/-! The calls of the law. -/
theorem j30 (h : Hp) (n : Int) (s : AV) (st : List Q4) (N : Nat) (hs : IsR c4 4 h s st) (hok : ∀ x ∈ st, x.ok) (hn : Inb n) (hN : n.tmod 31 = (N : Int)) : Wv (all8 30 [.agg [U8 n, s]] h) (fun r h' => ∃ w, r = .agg [I (N : Int), w] ∧ GL h' w (aft (st.take 12) (upto N)) ∧ Ext h h') := by
  rw [all_run rfl]
  have := k30 4 h n s st hs hok hn
  rw [hN] at this
  exact this
def gv (p : Int) : Int := if p = -1 then 0 else p
def ge (p : Int) : Int := if p = -1 then 11 else 0
theorem j19 (h : Hp) (g v : AV) (xs : List Int) (hg : OwnS h g xs) (hv : IsL h v (xs.map I)) (hn : xs.length ≤ 4500) : Wv (all8 19 [g, I 0, v, I 0] h) (fun r h' => r = Bo true ∧ h' = h) := by
  rw [all_run rfl]; exact ⟨_, _, c19 7 h g v xs 0 hg hv hn, rfl, rfl⟩
end Go.Proofs.Ytdbajhklnaekjaa
