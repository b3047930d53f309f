/-
  No cell of these rows narrows 'for every input' (looked for: loops, veiled, ifaces, maps, wideKeys, modest, calm, conditions, laid).
  DERIVED. THE GIVEN ROWS OF THIS SEAT. 4 by the template 'for every input the law returns true; each argument reads behind the call as it read before'; 0 by the template 'total and deterministic' (their statements: YtgnnjlabnnapnaaTotals.lean).
  GIVEN WITH THE SEED: the statements are not yours to turn. If you find one false, say at which input.
  Laid BY PROGRAM, IN A SANDBOX (cutbox-rows.mjs): the forced cells as the released guide's own fill.sh prints them over the translation 9aaa8587627c00a2… (all of the seat's roots in one cut). By AI agents, Wed Nov 11 2026. No macro, syntax, notation, axiom, sorry.
-/
import Derived.Test.YtgnnjlabnnapnaaChecked
import GoSem.Claim
import GoSem.ClaimJoined
import GoSem.ClaimMapViews
import Derived.JoinedTies
import Derived.KernelRfl
namespace Go.Proofs.Ytgnnjlabnnapnaa
/- THE CELL 'sum', in the pinned program and in every row, IS THE sha256 OF THE DUMP (.gsa) THAT YtgnnjlabnnapnaaProg.lean LOADS. Nothing in Lean hashes anything: it is a label: what it is worth is what the hold of that sum in a sandbox is worth. -/
noncomputable def Try.pinned : Pinned := { name := "ytgnnjlabnnapnaa", sum := "9aaa8587627c00a2fbd8e215bbef88cab2f3a489c8ba0626069e4a13dfc5298e", checked := Try.checked }
namespace Rows
def none {H : Type} : Left H := { results := [], args := [] }

/-- 'paternosterlaw21.PoolsPlay': WHATEVER THE INPUT: true; the input reads as it did. -/
def poolsPlaySpec : ChangeSpec := { name := "poolsPlay", fn := fun _ => fun
  | [d] => { results := [.lit (.bool true)], args := [d] }
  | _ => none }
def poolsPlayRow : OpenClaim := { program := "ytgnnjlabnnapnaa", sum := "9aaa8587627c00a2fbd8e215bbef88cab2f3a489c8ba0626069e4a13dfc5298e", func := "paternoster/paternosterlaw21.PoolsPlay", spec := "poolsPlay", apart := false }
def PoolsPlaySaid : Prop := poolsPlayRow.holds Try.pinned (OpenSpec.ofChange poolsPlaySpec)

/-- ITS FALSE NEIGHBOUR: 'it returns false'. Refute it at one input. -/
def poolsPlayWrong : ChangeSpec := { name := "poolsPlay", fn := fun _ => fun
  | [d] => { results := [.lit (.bool false)], args := [d] }
  | _ => none }
def PoolsPlayWrongFalsely : Prop := poolsPlayRow.holds Try.pinned (OpenSpec.ofChange poolsPlayWrong)

/-- 'paternosterlaw21.PoolsEach': WHATEVER THE INPUT: true; the input reads as it did. -/
def poolsEachSpec : ChangeSpec := { name := "poolsEach", fn := fun _ => fun
  | [d] => { results := [.lit (.bool true)], args := [d] }
  | _ => none }
def poolsEachRow : OpenClaim := { program := "ytgnnjlabnnapnaa", sum := "9aaa8587627c00a2fbd8e215bbef88cab2f3a489c8ba0626069e4a13dfc5298e", func := "paternoster/paternosterlaw21.PoolsEach", spec := "poolsEach", apart := false }
def PoolsEachSaid : Prop := poolsEachRow.holds Try.pinned (OpenSpec.ofChange poolsEachSpec)

/-- ITS FALSE NEIGHBOUR: 'it returns false'. Refute it at one input. -/
def poolsEachWrong : ChangeSpec := { name := "poolsEach", fn := fun _ => fun
  | [d] => { results := [.lit (.bool false)], args := [d] }
  | _ => none }
def PoolsEachWrongFalsely : Prop := poolsEachRow.holds Try.pinned (OpenSpec.ofChange poolsEachWrong)

/-- 'paternosterlaw21.PoolsErrors': WHATEVER THE INPUT: true; the input reads as it did. -/
def poolsErrorsSpec : ChangeSpec := { name := "poolsErrors", fn := fun _ => fun
  | [d1, d2, d3] => { results := [.lit (.bool true)], args := [d1, d2, d3] }
  | _ => none }
def poolsErrorsRow : OpenClaim := { program := "ytgnnjlabnnapnaa", sum := "9aaa8587627c00a2fbd8e215bbef88cab2f3a489c8ba0626069e4a13dfc5298e", func := "paternoster/paternosterlaw21.PoolsErrors", spec := "poolsErrors", apart := false }
def PoolsErrorsSaid : Prop := poolsErrorsRow.holds Try.pinned (OpenSpec.ofChange poolsErrorsSpec)

/-- ITS FALSE NEIGHBOUR: 'it returns false'. Refute it at one input. -/
def poolsErrorsWrong : ChangeSpec := { name := "poolsErrors", fn := fun _ => fun
  | [d1, d2, d3] => { results := [.lit (.bool false)], args := [d1, d2, d3] }
  | _ => none }
def PoolsErrorsWrongFalsely : Prop := poolsErrorsRow.holds Try.pinned (OpenSpec.ofChange poolsErrorsWrong)

/-- 'paternosterlaw21.PoolsKnown': WHATEVER THE INPUT: true; the input reads as it did. -/
def poolsKnownSpec : ChangeSpec := { name := "poolsKnown", fn := fun _ => fun
  | [] => { results := [.lit (.bool true)], args := [] }
  | _ => none }
def poolsKnownRow : OpenClaim := { program := "ytgnnjlabnnapnaa", sum := "9aaa8587627c00a2fbd8e215bbef88cab2f3a489c8ba0626069e4a13dfc5298e", func := "paternoster/paternosterlaw21.PoolsKnown", spec := "poolsKnown", apart := false }
def PoolsKnownSaid : Prop := poolsKnownRow.holds Try.pinned (OpenSpec.ofChange poolsKnownSpec)

/-- ITS FALSE NEIGHBOUR: 'it returns false'. Refute it at one input. -/
def poolsKnownWrong : ChangeSpec := { name := "poolsKnown", fn := fun _ => fun
  | [] => { results := [.lit (.bool false)], args := [] }
  | _ => none }
def PoolsKnownWrongFalsely : Prop := poolsKnownRow.holds Try.pinned (OpenSpec.ofChange poolsKnownWrong)

/- THE SECOND FORM. 'bulk': how many values and letters a reading holds, each counted each time it is reached (what is shared counts as often as it is met; a slice's spare places count too). A statement '..UptoSaid' is the law's where the arguments, and the package variables that the reading takes, are together of bulk at most 1048576: NARROWER than '..Said'. Prove '..Said' where nothing that the law and all that it calls make is longer than what came in: it says more and counts as full. Else prove '..UptoSaid'. A law counts once. -/
mutual
def uptoBulk {H : Type} : DataW H → Nat
  | .lit (.string bytes) => bytes.length + 1
  | .lit _ => 1
  | .nil => 1
  | .ptr d => uptoBulk d + 1
  | .slice elems spare => uptoBulkAll elems + uptoBulkAll spare + 1
  | .agg parts => uptoBulkAll parts + 1
  | .iface _ d => uptoBulk d + 1
  | .map entries => uptoBulkEntries entries + 1
  | .held _ => 1
def uptoBulkAll {H : Type} : List (DataW H) → Nat
  | [] => 0
  | d :: r => uptoBulk d + uptoBulkAll r
def uptoBulkEntries {H : Type} : List (Lit × DataW H) → Nat
  | [] => 0
  | x :: r => uptoBulkEntry x + uptoBulkEntries r
def uptoBulkEntry {H : Type} : Lit × DataW H → Nat
  | (.string bytes, d) => bytes.length + uptoBulk d + 1
  | (_, d) => uptoBulk d + 1
 end
def uptoSmall : (H : Type) → List (DataW H) → Bool := fun _ ds => decide (uptoBulkAll ds ≤ 1048576)
def OpenSpec.upto (s : _root_.Go.ChangeSpec) : _root_.Go.OpenSpec := { _root_.Go.OpenSpec.ofChange s with cond := some uptoSmall }

/-- 'paternosterlaw21.PoolsPlay', WHERE WHAT IT READS IS OF BULK AT MOST 1048576: true; the input reads as it did. -/
def poolsPlayUptoRow : OpenClaim := { program := "ytgnnjlabnnapnaa", sum := "9aaa8587627c00a2fbd8e215bbef88cab2f3a489c8ba0626069e4a13dfc5298e", func := "paternoster/paternosterlaw21.PoolsPlay", spec := "poolsPlay", apart := false, narrowed := true }
def PoolsPlayUptoSaid : Prop := poolsPlayUptoRow.holds Try.pinned (OpenSpec.upto poolsPlaySpec)

/-- 'paternosterlaw21.PoolsEach', WHERE WHAT IT READS IS OF BULK AT MOST 1048576: true; the input reads as it did. -/
def poolsEachUptoRow : OpenClaim := { program := "ytgnnjlabnnapnaa", sum := "9aaa8587627c00a2fbd8e215bbef88cab2f3a489c8ba0626069e4a13dfc5298e", func := "paternoster/paternosterlaw21.PoolsEach", spec := "poolsEach", apart := false, narrowed := true }
def PoolsEachUptoSaid : Prop := poolsEachUptoRow.holds Try.pinned (OpenSpec.upto poolsEachSpec)

/-- 'paternosterlaw21.PoolsErrors', WHERE WHAT IT READS IS OF BULK AT MOST 1048576: true; the input reads as it did. -/
def poolsErrorsUptoRow : OpenClaim := { program := "ytgnnjlabnnapnaa", sum := "9aaa8587627c00a2fbd8e215bbef88cab2f3a489c8ba0626069e4a13dfc5298e", func := "paternoster/paternosterlaw21.PoolsErrors", spec := "poolsErrors", apart := false, narrowed := true }
def PoolsErrorsUptoSaid : Prop := poolsErrorsUptoRow.holds Try.pinned (OpenSpec.upto poolsErrorsSpec)

/-- 'paternosterlaw21.PoolsKnown', WHERE WHAT IT READS IS OF BULK AT MOST 1048576: true; the input reads as it did. -/
def poolsKnownUptoRow : OpenClaim := { program := "ytgnnjlabnnapnaa", sum := "9aaa8587627c00a2fbd8e215bbef88cab2f3a489c8ba0626069e4a13dfc5298e", func := "paternoster/paternosterlaw21.PoolsKnown", spec := "poolsKnown", apart := false, narrowed := true }
def PoolsKnownUptoSaid : Prop := poolsKnownUptoRow.holds Try.pinned (OpenSpec.upto poolsKnownSpec)

end Rows
end Go.Proofs.Ytgnnjlabnnapnaa
