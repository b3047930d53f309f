import Derived.Test.YtdbajhklnaekjaaY5
import Derived.KernelRfl
namespace Go.Proofs.Ytdbajhklnaekjaa
open Go Go.Proofs Go.RowKit
set_option linter.unusedSimpArgs false
set_option linter.unusedVariables false
open Go.Proofs.Abs
theorem upto_at (n i : Nat) : (upto n)[i]? = if i < n then some (i : Int) else none := by
  unfold upto
  rw [List.getElem?_map]
  split
  · rename_i h; rw [List.getElem?_range h]; rfl
  · rename_i h; rw [List.getElem?_eq_none (by simp; omega)]; rfl
theorem rng_at (n i : Nat) (f : Nat → Int) : ((List.range n).map f)[i]? = if i < n then some (f i) else none := by
  rw [List.getElem?_map]
  split
  · rename_i h; rw [List.getElem?_range h]; rfl
  · rename_i h; rw [List.getElem?_eq_none (by simp; omega)]; rfl
theorem ins_eq {n a m : Nat} (ha : a ≤ n) : ((List.range (n + m)).map fun (i : Nat) => insF (Int.ofNat a) (Int.ofNat m) i) = (upto n).take a ++ List.replicate m (-1) ++ (upto n).drop a := by
  apply List.ext_getElem?
  intro i
  rw [rng_at]
  simp only [List.getElem?_append, List.getElem?_take, List.getElem?_drop, List.getElem?_replicate, List.length_append, List.length_take, List.length_replicate, upto_len, upto_at, insF, Int.ofNat_eq_natCast]
  repeat' split
  all_goals first | rfl | omega | (congr 1; omega)
theorem rem_eq {n a m : Nat} (ha : a + m ≤ n) : ((List.range (n - m)).map fun (i : Nat) => remF (Int.ofNat a) (Int.ofNat m) i) = (upto n).take a ++ (upto n).drop (a + m) := by
  apply List.ext_getElem?
  intro i
  rw [rng_at]
  simp only [List.getElem?_append, List.getElem?_take, List.getElem?_drop, List.length_append, List.length_take, upto_len, upto_at, remF, Int.ofNat_eq_natCast]
  repeat' split
  all_goals first | rfl | omega | (congr 1; omega)
theorem mov_eq {n a m t : Nat} (ha : a + m ≤ n) (ht : t + m ≤ n) : ((List.range n).map fun (i : Nat) => mvF (Int.ofNat a) (Int.ofNat m) (Int.ofNat t) i) = ((upto n).take a ++ (upto n).drop (a + m)).take t ++ ((upto n).drop a).take m ++ ((upto n).take a ++ (upto n).drop (a + m)).drop t := by
  apply List.ext_getElem?
  intro i
  rw [rng_at]
  simp only [List.getElem?_append, List.getElem?_take, List.getElem?_drop, List.length_append, List.length_take, List.length_drop, upto_len, upto_at, mvF, bump, Int.ofNat_eq_natCast]
  repeat' split
  all_goals first | rfl | omega | (congr 1; omega)
def oldI (n c : Int) : Int := if c = 0 then n else 0
theorem nat_of {a : Int} (h : 0 ≤ a) : ∃ k : Nat, a = Int.ofNat k := ⟨a.toNat, by simp; omega⟩
theorem ins_both (N : Nat) (a m : Int) (hN : N ≤ 4096) : ∃ xs c, (∀ d h, Wv (runA ctx 5000 (d + 3) 22 [I (Int.ofNat N), I a, I m] h) (fun r h' => ResM h h' r (oldI (Int.ofNat N) c) xs c)) ∧ (∀ d h v, GL h v (upto N) → Wv (runA ctx 5000 (d + 1) 26 [v, I a, I m] h) (fun r h' => ResL h h' r xs c)) ∧ xs.length ≤ 4096 := by
  have n1 : ¬ Int.ofNat N < 0 := by simp
  have n2 : ¬ 4096 < Int.ofNat N := by simp; omega
  have ul : (upto N).length ≤ 4096 := by rw [upto_len]; exact hN
  by_cases h1 : a < 0
  · exact ⟨[], 4, fun d h => c22x2 d h _ a m n1 n2 h1, fun d h v hv => c26x d h v _ a m hv ul (.inl h1), by simp⟩
  by_cases h2 : Int.ofNat N < a
  · exact ⟨[], 4, fun d h => c22x3 d h _ a m n1 n2 h1 h2, fun d h v hv => c26x d h v _ a m hv ul (.inr (.inl (by rw [upto_len]; simp only [Int.ofNat_eq_natCast] at h2; omega))), by simp⟩
  by_cases h3 : m < 0
  · exact ⟨[], 4, fun d h => c22x4 d h _ a m n1 n2 h1 h2 h3, fun d h v hv => c26x d h v _ a m hv ul (.inr (.inr h3)), by simp⟩
  obtain ⟨a', rfl⟩ := nat_of (Int.not_lt.1 h1)
  have ha : a' ≤ N := by simp only [Int.ofNat_eq_natCast] at h2; omega
  by_cases h4 : 4096 - Int.ofNat N < m
  · exact ⟨[], 3, fun d h => c22b d h N a' m hN ha (by omega) h4, fun d h v hv => c26b d h v _ _ m hv ul h1 (by rw [upto_len]; simp only [Int.ofNat_eq_natCast] at h2 ⊢; omega) h3 (by rw [upto_len]; simp only [Int.ofNat_eq_natCast] at h4; omega), by simp⟩
  obtain ⟨m', rfl⟩ := nat_of (Int.not_lt.1 h3)
  have hm : N + m' ≤ 4096 := by simp only [Int.ofNat_eq_natCast] at h4; omega
  refine ⟨_, 0, fun d h => c22 d h N a' m' hN ha hm, fun d h v hv => ?_, by simp; omega⟩
  rw [ins_eq ha]
  exact c26 d h v _ a' m' hv (by rw [upto_len]; exact ha) (by rw [upto_len]; exact hm)
theorem rem_both (N : Nat) (a m : Int) (hN : N ≤ 4096) : ∃ xs c, (∀ d h, Wv (runA ctx 5000 (d + 3) 23 [I (Int.ofNat N), I a, I m] h) (fun r h' => ResM h h' r (oldI (Int.ofNat N) c) xs c)) ∧ (∀ d h v, GL h v (upto N) → Wv (runA ctx 5000 (d + 1) 27 [v, I a, I m] h) (fun r h' => ResL h h' r xs c)) ∧ xs.length ≤ 4096 := by
  have ul : (upto N).length ≤ 4096 := by rw [upto_len]; exact hN
  by_cases hv : Sv (Int.ofNat N) a m
  · obtain ⟨_, _, h1, h2, h3, h4⟩ := id hv
    obtain ⟨a', rfl⟩ := nat_of h1
    obtain ⟨m', rfl⟩ := nat_of h2
    have ha : a' + m' ≤ N := by simp only [Int.ofNat_eq_natCast] at h3 h4; omega
    refine ⟨_, 0, fun d h => c23 d h N a' m' hN ha, fun d h v hv => ?_, by simp; omega⟩
    rw [rem_eq ha]
    exact c27 d h v _ a' m' hv ul (by rw [upto_len]; exact ha)
  · exact ⟨[], 4, fun d h => c23b d h _ a m hv, fun d h v hg => c27x d h v _ a m hg ul (by rw [upto_len]; intro h9; apply hv; unfold Sv; simp only [Int.ofNat_eq_natCast]; omega), by simp⟩
theorem mov_both (N : Nat) (a m t : Int) (hN : N ≤ 4096) : ∃ xs c, (∀ d h, Wv (runA ctx 5000 (d + 3) 24 [I (Int.ofNat N), I a, I m, I t] h) (fun r h' => ResM h h' r (oldI (Int.ofNat N) c) xs c)) ∧ (∀ d h v, GL h v (upto N) → Wv (runA ctx 5000 (d + 2) 28 [v, I a, I m, I t] h) (fun r h' => ResL h h' r xs c)) ∧ xs.length ≤ 4096 := by
  have ul : (upto N).length ≤ 4096 := by rw [upto_len]; exact hN
  by_cases hv : Sv (Int.ofNat N) a m
  · obtain ⟨_, _, h1, h2, h3, h4⟩ := id hv
    obtain ⟨a', rfl⟩ := nat_of h1
    obtain ⟨m', rfl⟩ := nat_of h2
    have ha : a' + m' ≤ N := by simp only [Int.ofNat_eq_natCast] at h3 h4; omega
    by_cases h5 : t < 0
    · exact ⟨[], 4, fun d h => c24c d h _ _ _ t hv h5, fun d h v hg => c28y d h v _ a' m' t hg ul (by rw [upto_len]; exact ha) h5, by simp⟩
    by_cases h6 : Int.ofNat N - Int.ofNat m' < t
    · exact ⟨[], 4, fun d h => c24d d h _ _ _ t hv h5 h6, fun d h v hg => c28z d h v _ a' m' t hg ul (by rw [upto_len]; exact ha) h5 (by rw [upto_len]; exact h6), by simp⟩
    obtain ⟨t', rfl⟩ := nat_of (Int.not_lt.1 h5)
    have ht : t' + m' ≤ N := by simp only [Int.ofNat_eq_natCast] at h6; omega
    refine ⟨_, 0, fun d h => c24 d h N a' m' t' hN ha (by omega), fun d h v hv => ?_, by simp; omega⟩
    rw [mov_eq ha ht]
    exact c28 d h v _ a' m' t' hv ul (by rw [upto_len]; exact ha) (by rw [upto_len]; exact ht)
  · exact ⟨[], 4, fun d h => c24b d h _ a m t hv, fun d h v hg => c28x d h v _ a m t hg ul (by rw [upto_len]; intro h9; apply hv; unfold Sv; simp only [Int.ofNat_eq_natCast]; omega), by simp⟩
/-- numbers of rows that are none -/
theorem n_bad (n a m t : Int) (hn : n < 0 ∨ 4096 < n) : (∀ d h, Wv (runA ctx 5000 (d + 3) 21 [I n] h) (fun r h' => ResM h h' r 0 [] 4)) ∧ (∀ d h, Wv (runA ctx 5000 (d + 3) 22 [I n, I a, I m] h) (fun r h' => ResM h h' r 0 [] 4)) ∧ (∀ d h, Wv (runA ctx 5000 (d + 3) 23 [I n, I a, I m] h) (fun r h' => ResM h h' r 0 [] 4)) ∧ (∀ d h, Wv (runA ctx 5000 (d + 3) 24 [I n, I a, I m, I t] h) (fun r h' => ResM h h' r 0 [] 4)) := by
  have hv : ¬ Sv n a m := by unfold Sv; omega
  refine ⟨fun d h => ?_, fun d h => ?_, fun d h => c23b d h _ a m hv, fun d h => c24b d h _ a m t hv⟩
  · by_cases h0 : n < 0
    · exact c21l d h n h0
    · exact c21b d h n h0 (by omega)
  · by_cases h0 : n < 0
    · exact c22x0 d h n a m h0
    · exact c22x1 d h n a m h0 (by omega)
end Go.Proofs.Ytdbajhklnaekjaa
