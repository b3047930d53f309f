import Derived.Test.YtdbajhklnaekjaaR6
import Derived.KernelRfl
namespace Go.Proofs.Ytdbajhklnaekjaa
open Go Go.Proofs Go.RowKit Go.Proofs.Abs
set_option linter.unusedSimpArgs false
set_option linter.unusedVariables false
/-! The lists that steps make of indices are valid. -/
def Rn (a b : Int) : Prop := a = b → a < 0
theorem rn_symm {a b : Int} (h : Rn a b) : Rn b a := fun e => by have := h e.symm; omega
structure OkP (N : Nat) (xs : List Int) : Prop where
  rng : ∀ x ∈ xs, -1 ≤ x ∧ x < (N : Int)
  un : xs.Pairwise Rn
theorem OkP.perm {N : Nat} {xs ys : List Int} (o : OkP N xs) (p : ys.Perm xs) : OkP N ys :=
  ⟨fun x hx => o.rng x (p.mem_iff.1 hx), (p.pairwise_iff (fun h => rn_symm h)).2 o.un⟩
theorem OkP.sub {N : Nat} {xs ys : List Int} (o : OkP N xs) (p : ys.Sublist xs) : OkP N ys := ⟨fun x hx => o.rng x (p.subset hx), o.un.sublist p⟩
theorem OkP.ins {N : Nat} {xs : List Int} (o : OkP N xs) (a m : Nat) : OkP N (insL xs a m) := by
  have p : (insL xs a m).Perm (List.replicate m (-1) ++ xs) := by
    unfold insL
    refine ((List.perm_append_comm (l₁ := xs.take a) (l₂ := List.replicate m (-1))).append_right _).trans ?_
    rw [List.append_assoc, List.take_append_drop]
  refine OkP.perm ⟨fun x hx => ?_, ?_⟩ p
  · rcases List.mem_append.1 hx with h | h
    · rw [(List.mem_replicate.1 h).2]
      omega
    · exact o.rng x h
  · rw [List.pairwise_append]
    refine ⟨List.pairwise_replicate.2 (.inr (fun _ => by omega)), o.un, fun x hx y _ e => ?_⟩
    rw [(List.mem_replicate.1 hx).2]
    omega
theorem OkP.rem {N : Nat} {xs : List Int} (o : OkP N xs) (a m : Nat) : OkP N (remL xs a m) := by
  refine o.sub ?_
  unfold remL
  have h1 : (xs.drop (a + m)).Sublist (xs.drop a) := by rw [← List.drop_drop]; exact List.drop_sublist _ _
  have := (List.Sublist.refl (xs.take a)).append h1
  rwa [List.take_append_drop] at this
theorem OkP.mov {N : Nat} {xs : List Int} (o : OkP N xs) (a m t : Nat) : OkP N (movL xs a m t) := by
  refine o.perm ?_
  unfold movL
  refine ((List.perm_append_comm (l₁ := (remL xs a m).take t) (l₂ := (xs.drop a).take m)).append_right _).trans ?_
  rw [List.append_assoc, List.take_append_drop]
  unfold remL
  rw [← List.append_assoc]
  refine ((List.perm_append_comm (l₁ := (xs.drop a).take m) (l₂ := xs.take a)).append_right _).trans ?_
  rw [List.append_assoc, ← List.drop_drop, List.take_append_drop, List.take_append_drop]
theorem OkP.stp {N : Nat} {xs : List Int} (o : OkP N xs) (x : Q4) : OkP N (stp x xs) := by
  unfold Go.Proofs.Ytdbajhklnaekjaa.stp
  split
  · exact o.ins _ _
  · split
    · exact o.rem _ _
    · exact o.mov _ _ _
theorem OkP.aft {N : Nat} : ∀ (st : List Q4) {xs : List Int}, OkP N xs → OkP N (aft st xs)
  | [], _, o => o
  | x :: st, _, o => OkP.aft st (o.stp x)
theorem okp_upto (N : Nat) : OkP N (upto N) := by
  refine ⟨fun x hx => ?_, ?_⟩
  · obtain ⟨i, hi, rfl⟩ := List.mem_map.1 hx
    have := List.mem_range.1 hi
    omega
  · unfold upto
    rw [List.pairwise_map]
    exact List.pairwise_lt_range.imp (fun h e => by omega)
theorem OkP.ok {N : Nat} {xs : List Int} (o : OkP N xs) (hN : N ≤ 4096) (hl : xs.length ≤ 4096) : Ok N xs := by
  refine ⟨hN, hl, o.rng, fun k x hx h0 h9 => ?_⟩
  obtain ⟨j, hj, hj2⟩ := take_mem.1 h9
  obtain ⟨hk1, hk2⟩ := List.getElem?_eq_some_iff.1 hx
  obtain ⟨hj3, hj4⟩ := List.getElem?_eq_some_iff.1 hj2
  have := (List.pairwise_iff_getElem.1 o.un) j k hj3 hk1 hj (by rw [hk2, hj4])
  omega
theorem mv_inv {n a m t i : Int} (hi : 0 ≤ i ∧ i < n) (ha : 0 ≤ a) (hm : 0 ≤ m) (ht : 0 ≤ t) (h1 : a + m ≤ n) (h2 : t + m ≤ n) : mvF a m t (mvF t m a i) = i ∧ 0 ≤ mvF t m a i ∧ mvF t m a i < n := by
  unfold mvF bump
  refine ⟨?_, ?_, ?_⟩
  · split <;> (try split) <;> (try split) <;> (try split) <;> (try split) <;> (try split) <;> (try split) <;> omega
  · split <;> (try split) <;> (try split) <;> (try split) <;> omega
  · split <;> (try split) <;> (try split) <;> (try split) <;> omega
abbrev mvl (n a m t : Nat) : List Int := (List.range n).map fun (i : Nat) => mvF (a : Int) (m : Int) (t : Int) i
theorem mvl_at {n a m t : Nat} (h1 : a + m ≤ n) (h2 : t + m ≤ n) {j : Nat} (hj : j < n) : atF (j : Int) (mvl n a m t) 0 = mvF t m a j := by
  obtain ⟨e1, e2, e3⟩ := mv_inv (n := n) (a := a) (m := m) (t := t) (i := j) (by omega) (by omega) (by omega) (by omega) (by omega) (by omega)
  obtain ⟨k, hk⟩ := nat_of e2
  rw [hk] at e1 e3
  have := atF_map (n := n) (k := k) (f := fun (i : Nat) => mvF (a : Int) (m : Int) (t : Int) i) (by simp only [Int.ofNat_eq_natCast] at e3; omega) (fun i hi e => by
    have q1 := (mv_inv (n := n) (a := t) (m := m) (t := a) (i := i) (by simp only [Int.ofNat_eq_natCast] at e3; omega) (by omega) (by omega) (by omega) (by omega) (by omega)).1
    have q2 := (mv_inv (n := n) (a := t) (m := m) (t := a) (i := k) (by simp only [Int.ofNat_eq_natCast] at e3; omega) (by omega) (by omega) (by omega) (by omega) (by omega)).1
    rw [e] at q1
    omega)
  rw [show (j : Int) = mvF (a : Int) (m : Int) (t : Int) (k : Int) from e1.symm, this, show mvF (t : Int) m a (mvF (a : Int) m t (k : Int)) = (k : Int) from by
    exact (mv_inv (n := n) (a := t) (m := m) (t := a) (i := k) (by simp only [Int.ofNat_eq_natCast] at e3; omega) (by omega) (by omega) (by omega) (by omega) (by omega)).1]
theorem plc_mvl {n a m t : Nat} (h1 : a + m ≤ n) (h2 : t + m ≤ n) : plc n (mvl n a m t) = mvl n t m a := by
  unfold plc mvl
  refine List.map_congr_left (fun j hj => ?_)
  exact mvl_at h1 h2 (List.mem_range.1 hj)
theorem cmp_mvl {n a m t : Nat} (h1 : a + m ≤ n) (h2 : t + m ≤ n) : ((List.range (mvl n t m a).length).map fun i => cmpF (mvl n a m t) (mvl n t m a) i) = upto n := by
  rw [show (mvl n t m a).length = n by simp]
  unfold upto
  refine List.map_congr_left (fun j hj => ?_)
  have hj := List.mem_range.1 hj
  obtain ⟨e1, e2, e3⟩ := mv_inv (n := n) (a := a) (m := m) (t := t) (i := j) (by omega) (by omega) (by omega) (by omega) (by omega) (by omega)
  unfold cmpF
  rw [at_map.2 ⟨hj, rfl⟩]
  dsimp only
  rw [if_neg (by omega)]
  obtain ⟨k, hk⟩ := nat_of e2
  rw [hk] at e1 e3 ⊢
  have : (mvl n a m t)[k]? = some (j : Int) := at_map.2 ⟨by simp only [Int.ofNat_eq_natCast] at e3; omega, e1⟩
  show (mvl n a m t).getD k 0 = _
  rw [List.getD_eq_getElem?_getD, this]
  rfl
theorem mvl_ok {n a m t : Nat} (hn : n ≤ 4096) (h1 : a + m ≤ n) (h2 : t + m ≤ n) : Ok n (mvl n a m t) := mvF_ok hn h1 (by omega)
/-! The calls of the law. -/
theorem j30 (h : Hp) (n : Int) (s : AV) (st : List Q4) (N : Nat) (hs : IsR c4 4 h s st) (hok : ∀ x ∈ st, x.ok) (hn : Inb n) (hN : n.tmod 31 = (N : Int)) : Wv (all8 30 [.agg [U8 n, s]] h) (fun r h' => ∃ w, r = .agg [I (N : Int), w] ∧ GL h' w (aft (st.take 12) (upto N)) ∧ Ext h h') := by
  rw [all_run rfl]
  have := k30 4 h n s st hs hok hn
  rw [hN] at this
  exact this
theorem j13 (h : Hp) (N : Nat) (s : AV) (xs : List Int) (hs : IsL h s (xs.map I)) (ok : Ok N xs) : Wv (all8 13 [.agg [I (N : Int), s]] h) (fun r h' => ResM h h' r (xs.length : Int) (plc N xs) 0) := by
  rw [all_run rfl]; exact c13 4 h N s xs hs ok.chk ok
theorem j15 (h : Hp) (N : Nat) (s : AV) (xs : List Int) (hs : IsL h s (xs.map I)) (ok : Ok N xs) : Wv (all8 15 [.agg [I (N : Int), s]] h) (fun r h' => ∃ w, r = .tup [w, I 0] ∧ OwnS h' w (goneL xs N) ∧ Ext h h') := by
  rw [all_run rfl]; exact c15 4 h N s xs hs ok.chk ok
def gv (p : Int) : Int := if p = -1 then 0 else p
def ge (p : Int) : Int := if p = -1 then 11 else 0
theorem j14 (h : Hp) (N j : Nat) (s : AV) (xs : List Int) (hs : IsL h s (xs.map I)) (ok : Ok N xs) (hj : j < N) : Wv (all8 14 [.agg [I (N : Int), s], I (j : Int)] h) (fun r h' => r = .tup [I (gv (atF (j : Int) xs 0)), I (ge (atF (j : Int) xs 0))] ∧ Ext h h') := by
  rw [all_run rfl]
  unfold gv ge
  by_cases h0 : atF (j : Int) xs 0 = -1
  · rw [if_pos h0, if_pos h0]; exact c14n 4 h N j s xs hs ok.chk ok hj h0
  · rw [if_neg h0, if_neg h0]; exact c14 4 h N j s xs hs ok.chk ok hj h0
theorem j20 (h : Hp) (v : AV) (xs : List Int) (j : Int) (hv : IsL h v (xs.map I)) (hn : xs.length ≤ 4500) : Wv (all8 20 [v, I j] h) (fun r h' => r = I (atF j xs 0) ∧ h' = h) := by
  rw [all_run rfl]; exact ⟨_, _, c20 7 h v xs j hv hn, rfl, rfl⟩
theorem j19 (h : Hp) (g v : AV) (xs : List Int) (hg : OwnS h g xs) (hv : IsL h v (xs.map I)) (hn : xs.length ≤ 4500) : Wv (all8 19 [g, I 0, v, I 0] h) (fun r h' => r = Bo true ∧ h' = h) := by
  rw [all_run rfl]; exact ⟨_, _, c19 7 h g v xs 0 hg hv hn, rfl, rfl⟩
theorem j24 (h : Hp) (n a m t : Nat) (hn : n ≤ 4096) (h1 : a + m ≤ n) (h2 : t + m ≤ n) : Wv (all8 24 [I (n : Int), I (a : Int), I (m : Int), I (t : Int)] h) (fun r h' => ResM h h' r (n : Int) (mvl n a m t) 0) := by
  rw [all_run rfl]; exact c24 5 h n a m t hn h1 (by omega)
theorem j12 (h : Hp) (n a m t : Nat) (sa sb : AV) (ia : IsL h sa ((mvl n a m t).map I)) (ib : IsL h sb ((mvl n t m a).map I)) (hn : n ≤ 4096) (h1 : a + m ≤ n) (h2 : t + m ≤ n) : Wv (all8 12 [.agg [I (n : Int), sa], .agg [I (n : Int), sb]] h) (fun r h' => ResM h h' r (n : Int) (upto n) 0) := by
  rw [all_run rfl]
  have := c12 5 h n n sa sb (mvl n a m t) (mvl n t m a) ia ib (mvl_ok hn h1 h2).chk (mvl_ok hn h2 h1).chk (by simp) (by have := mvl_ok hn h2 h1; simpa using this)
  rw [cmp_mvl h1 h2] at this
  exact this
theorem j13m (h : Hp) (n a m t : Nat) (s : AV) (ia : IsL h s ((mvl n a m t).map I)) (hn : n ≤ 4096) (h1 : a + m ≤ n) (h2 : t + m ≤ n) : Wv (all8 13 [.agg [I (n : Int), s]] h) (fun r h' => ResM h h' r (n : Int) (mvl n t m a) 0) := by
  have := j13 h n s _ ia (mvl_ok hn h1 h2)
  rw [plc_mvl h1 h2, show (mvl n a m t).length = n by simp] at this
  exact this

end Go.Proofs.Ytdbajhklnaekjaa
