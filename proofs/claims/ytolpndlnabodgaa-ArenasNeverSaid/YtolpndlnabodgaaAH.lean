import Derived.Test.YtolpndlnabodgaaAG
import Derived.KernelRfl
namespace Go.Proofs.Ytolpndlnabodgaa
open Go Go.Proofs Go.RowKit Go.Proofs.Abs
set_option linter.unusedSimpArgs false
set_option linter.unusedVariables false
def c2h (p : Int × Int) : List AV := [U32 p.1, U32 p.2]
theorem c2h_len (xs : List (Int × Int)) : ∀ x ∈ xs, (c2h x).length = 2 := fun _ _ => rfl
def hndF : Nat → List Ent → List (Int × Int)
  | _, [] => []
  | i, p :: l => if p.2.1 then ((i : Int), p.1) :: hndF (i + 1) l else hndF (i + 1) l
/-- the handles of the slots that are used -/
def hnd (ls : List Ent) : List (Int × Int) := hndF 0 ls
theorem take_snoc {α : Type} {l : List α} {i : Nat} {p : α} (h : l[i]? = some p) : l.take (i + 1) = l.take i ++ [p] := by
  rw [List.take_add_one, h]
  rfl
def roomH (xs : List (Int × Int)) (c : Nat) : List (List AV) := xs.map c2h ++ List.replicate (c - xs.length) [U32 0, U32 0]
end Go.Proofs.Ytolpndlnabodgaa
