import Derived.Test.YtdbajhklnaekjaaJ5
import Derived.KernelRfl
namespace Go.Proofs.Ytdbajhklnaekjaa
open Go Go.Proofs Go.RowKit Go.Proofs.Abs
set_option linter.unusedSimpArgs false
set_option linter.unusedVariables false
def isLives (f : FuncId) : Bool := Nat.beq f 9
noncomputable def all8 : CallF := plus isLives (runA ctx 5000 8)
/-- what was returned, in memory of its own or shared; it stands -/
def ows (v : AV) (xs : List Int) : As := ⟨(nmO v).toList, fun h => OwnS h v xs, fun h h' R p a hn => ⟨p.isL.fr a (fun n hv => hn n (nmO_mem.2 hv)), p.cap⟩, fun h p n hn => p.isL.lt (nmO_mem.1 hn)⟩
theorem chkF_zero {o : Int} : ∀ {xs l : List Int}, (∀ x ∈ xs, -1 ≤ x ∧ x < o) → (∀ (k : Nat) (x : Int), xs[k]? = some x → 0 ≤ x → x ∉ l ∧ x ∉ xs.take k) → chkF o l xs = 0
  | [], _, _, _ => rfl
  | y :: ys, l, h1, h2 => by
    have hy := h1 y (by simp)
    rw [chkF, if_neg (by omega), if_neg (fun h9 => (h2 0 y rfl h9.1).1 h9.2)]
    refine chkF_zero (fun x hx => h1 x (by simp [hx])) (fun k x hx h0 => ?_)
    obtain ⟨a, b⟩ := h2 (k + 1) x (by simpa using hx) h0
    rw [List.take_succ_cons] at b
    simp only [List.mem_cons, not_or] at b
    exact ⟨by simp only [List.mem_append, List.mem_singleton, not_or]; exact ⟨a, b.1⟩, b.2⟩
theorem Ok.chk {N : Nat} {xs : List Int} (o : Ok N xs) : chkM (Int.ofNat N) xs = 0 := by
  have h1 := o.n
  have h2 := o.l
  unfold chkM
  rw [if_neg (by simp), if_neg (by simp; omega)]
  exact chkF_zero o.rng (fun k x hx h0 => ⟨by simp, o.un k x hx h0⟩)
end Go.Proofs.Ytdbajhklnaekjaa
