import Derived.Test.YtdbajhklnaekjaaJ5
import Derived.KernelRfl
namespace Go.Proofs.Ytdbajhklnaekjaa
open Go Go.Proofs Go.RowKit Go.Proofs.Abs
set_option linter.unusedSimpArgs false
set_option linter.unusedVariables false
def isLives (f : FuncId) : Bool := Nat.beq f 9
noncomputable def all8 : CallF := plus isLives (runA ctx 5000 8)
theorem q9 (h : Hp) : all8 9 [] h = some (Bo true, h) := plus_lit rfl

/-- what was returned, in memory of its own or shared; it stands -/
def ows (v : AV) (xs : List Int) : As := ⟨(nmO v).toList, fun h => OwnS h v xs, fun h h' R p a hn => ⟨p.isL.fr a (fun n hv => hn n (nmO_mem.2 hv)), p.cap⟩, fun h p n hn => p.isL.lt (nmO_mem.1 hn)⟩
theorem chkF_zero {o : Int} : ∀ {xs l : List Int}, (∀ x ∈ xs, -1 ≤ x ∧ x < o) → (∀ (k : Nat) (x : Int), xs[k]? = some x → 0 ≤ x → x ∉ l ∧ x ∉ xs.take k) → chkF o l xs = 0
  | [], _, _, _ => rfl
  | y :: ys, l, h1, h2 => by
    have hy := h1 y (by simp)
    rw [chkF, if_neg (by omega), if_neg (fun h9 => (h2 0 y rfl h9.1).1 h9.2)]
    refine chkF_zero (fun x hx => h1 x (by simp [hx])) (fun k x hx h0 => ?_)
    obtain ⟨a, b⟩ := h2 (k + 1) x (by simpa using hx) h0
    rw [List.take_succ_cons] at b
    simp only [List.mem_cons, not_or] at b
    exact ⟨by simp only [List.mem_append, List.mem_singleton, not_or]; exact ⟨a, b.1⟩, b.2⟩
theorem Ok.chk {N : Nat} {xs : List Int} (o : Ok N xs) : chkM (Int.ofNat N) xs = 0 := by
  have h1 := o.n
  have h2 := o.l
  unfold chkM
  rw [if_neg (by simp), if_neg (by simp; omega)]
  exact chkF_zero o.rng (fun k x hx h0 => ⟨by simp, o.un k x hx h0⟩)
theorem at_map {n k : Nat} {f : Nat → Int} {x : Int} : ((List.range n).map f)[k]? = some x ↔ k < n ∧ f k = x := by
  rw [List.getElem?_map]
  by_cases h : k < n
  · rw [List.getElem?_range h]
    simp [h]
  · rw [List.getElem?_eq_none (by simpa using h)]
    simp [h]
/-- a map of indices that are told by a function -/
theorem ok_map {N n : Nat} {f : Nat → Int} (hN : N ≤ 4096) (hn : n ≤ 4096) (h1 : ∀ i, i < n → -1 ≤ f i ∧ f i < (N : Int)) (h2 : ∀ i j, i < n → j < n → 0 ≤ f i → f i = f j → i = j) : Ok N ((List.range n).map f) := by
  refine ⟨hN, by simpa using hn, fun x hx => ?_, fun k x hx h0 h9 => ?_⟩
  · obtain ⟨i, hi, rfl⟩ := List.mem_map.1 hx
    exact h1 i (List.mem_range.1 hi)
  · obtain ⟨hk, rfl⟩ := at_map.1 hx
    obtain ⟨j, hj, hj2⟩ := take_mem.1 h9
    obtain ⟨hjn, e⟩ := at_map.1 hj2
    have := h2 j k hjn hk (by rw [e]; exact h0) e
    omega
theorem atF_at {j : Int} : ∀ {xs : List Int} {i k : Nat}, xs[k]? = some j → (∀ m, m < k → xs[m]? ≠ some j) → atF j xs i = Int.ofNat (i + k)
  | [], _, _, h, _ => by cases h
  | x :: xs, i, 0, h, _ => by
    cases h
    rw [atF, if_pos rfl]
    rfl
  | x :: xs, i, k + 1, h, hm => by
    have h0 := hm 0 (by omega)
    rw [atF, if_neg (fun e => h0 (by rw [← e]; rfl)), atF_at (k := k) (by simpa using h) (fun m hm2 => by have := hm (m + 1) (by omega); simpa using this)]
    congr 1
    omega
theorem atF_map {n k : Nat} {f : Nat → Int} (hk : k < n) (h2 : ∀ i, i < k → f i ≠ f k) : atF (f k) ((List.range n).map f) 0 = (k : Int) := by
  rw [atF_at (k := k) (at_map.2 ⟨hk, rfl⟩) (fun m hm h => h2 m hm (at_map.1 h).2), Nat.zero_add]
  rfl
theorem mvF_ok {n a m t : Nat} (hn : n ≤ 4096) (ha : a + m ≤ n) (ht : t ≤ n - m) : Ok n ((List.range n).map fun (i : Nat) => mvF (Int.ofNat a) (Int.ofNat m) (Int.ofNat t) i) := by
  refine ok_map hn hn (fun i hi => ?_) (fun i j hi hj h0 e => ?_)
  · unfold mvF bump
    simp only [Int.ofNat_eq_natCast]
    split <;> (try split) <;> (try split) <;> omega
  · unfold mvF bump at h0 e
    simp only [Int.ofNat_eq_natCast] at h0 e
    revert h0 e
    split <;> split <;> (try split) <;> (try split) <;> (try split) <;> (try split) <;> omega
theorem insF_ok {n a m : Nat} (ha : a ≤ n) (hm : n + m ≤ 4096) : Ok n ((List.range (n + m)).map fun (i : Nat) => insF (Int.ofNat a) (Int.ofNat m) i) := by
  refine ok_map (by omega) hm (fun i hi => ?_) (fun i j hi hj h0 e => ?_)
  · unfold insF
    simp only [Int.ofNat_eq_natCast]
    split <;> (try split) <;> omega
  · unfold insF at h0 e
    simp only [Int.ofNat_eq_natCast] at h0 e
    revert h0 e
    split <;> (try split) <;> (try split) <;> (try split) <;> omega
theorem gone_none {xs : List Int} {N : Nat} (h : ∀ j, j < N → atF (j : Int) xs 0 ≠ -1) : goneL xs N = [] := by
  unfold goneL
  rw [List.filter_eq_nil_iff.2 (fun j hj => by simpa using h j (List.mem_range.1 hj))]
  rfl

end Go.Proofs.Ytdbajhklnaekjaa
