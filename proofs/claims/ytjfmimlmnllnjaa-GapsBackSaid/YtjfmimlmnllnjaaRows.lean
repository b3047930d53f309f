/-
  No cell of these rows narrows 'for every input' (looked for: loops, veiled, ifaces, maps, wideKeys, modest, calm, conditions, laid).
  DERIVED. THE GIVEN ROWS OF THIS SEAT. 4 by the template 'for every input the law returns true; each argument reads behind the call as it read before'; 0 by the template 'total and deterministic' (their statements: YtjfmimlmnllnjaaTotals.lean).
  GIVEN WITH THE SEED: the statements are not yours to turn. If you find one false, say at which input.
  Laid BY PROGRAM, IN A SANDBOX (cutbox-rows.mjs): the forced cells as the released guide's own fill.sh prints them over the translation 24c1be58b54ce334… (all of the seat's roots in one cut). By AI agents, Wed Nov 11 2026. No macro, syntax, notation, axiom, sorry.
-/
import Derived.Test.YtjfmimlmnllnjaaChecked
import GoSem.Claim
import GoSem.ClaimJoined
import GoSem.ClaimMapViews
import Derived.JoinedTies
import Derived.KernelRfl
namespace Go.Proofs.Ytjfmimlmnllnjaa
/- THE CELL 'sum', in the pinned program and in every row, IS THE sha256 OF THE DUMP (.gsa) THAT YtjfmimlmnllnjaaProg.lean LOADS. Nothing in Lean hashes anything: it is a label: what it is worth is what the hold of that sum in a sandbox is worth. -/
noncomputable def Try.pinned : Pinned := { name := "ytjfmimlmnllnjaa", sum := "24c1be58b54ce334d29c12f8fbefc4fdd5dc2bc4dae00b29a17858b543b84ea4", checked := Try.checked }
namespace Rows
def none {H : Type} : Left H := { results := [], args := [] }

/-- 'paternosterlaw03.GapsBack': WHATEVER THE INPUT: true; the input reads as it did. -/
def gapsBackSpec : ChangeSpec := { name := "gapsBack", fn := fun _ => fun
  | [d1, d2, d3] => { results := [.lit (.bool true)], args := [d1, d2, d3] }
  | _ => none }
def gapsBackRow : OpenClaim := { program := "ytjfmimlmnllnjaa", sum := "24c1be58b54ce334d29c12f8fbefc4fdd5dc2bc4dae00b29a17858b543b84ea4", func := "paternoster/paternosterlaw03.GapsBack", spec := "gapsBack", apart := false }
def GapsBackSaid : Prop := gapsBackRow.holds Try.pinned (OpenSpec.ofChange gapsBackSpec)

/-- ITS FALSE NEIGHBOUR: 'it returns false'. Refute it at one input. -/
def gapsBackWrong : ChangeSpec := { name := "gapsBack", fn := fun _ => fun
  | [d1, d2, d3] => { results := [.lit (.bool false)], args := [d1, d2, d3] }
  | _ => none }
def GapsBackWrongFalsely : Prop := gapsBackRow.holds Try.pinned (OpenSpec.ofChange gapsBackWrong)

/-- 'paternosterlaw03.GapsOwn': WHATEVER THE INPUT: true; the input reads as it did. -/
def gapsOwnSpec : ChangeSpec := { name := "gapsOwn", fn := fun _ => fun
  | [d1, d2] => { results := [.lit (.bool true)], args := [d1, d2] }
  | _ => none }
def gapsOwnRow : OpenClaim := { program := "ytjfmimlmnllnjaa", sum := "24c1be58b54ce334d29c12f8fbefc4fdd5dc2bc4dae00b29a17858b543b84ea4", func := "paternoster/paternosterlaw03.GapsOwn", spec := "gapsOwn", apart := false }
def GapsOwnSaid : Prop := gapsOwnRow.holds Try.pinned (OpenSpec.ofChange gapsOwnSpec)

/-- ITS FALSE NEIGHBOUR: 'it returns false'. Refute it at one input. -/
def gapsOwnWrong : ChangeSpec := { name := "gapsOwn", fn := fun _ => fun
  | [d1, d2] => { results := [.lit (.bool false)], args := [d1, d2] }
  | _ => none }
def GapsOwnWrongFalsely : Prop := gapsOwnRow.holds Try.pinned (OpenSpec.ofChange gapsOwnWrong)

/-- 'paternosterlaw03.GapsNil': WHATEVER THE INPUT: true; the input reads as it did. -/
def gapsNilSpec : ChangeSpec := { name := "gapsNil", fn := fun _ => fun
  | [d1, d2] => { results := [.lit (.bool true)], args := [d1, d2] }
  | _ => none }
def gapsNilRow : OpenClaim := { program := "ytjfmimlmnllnjaa", sum := "24c1be58b54ce334d29c12f8fbefc4fdd5dc2bc4dae00b29a17858b543b84ea4", func := "paternoster/paternosterlaw03.GapsNil", spec := "gapsNil", apart := false }
def GapsNilSaid : Prop := gapsNilRow.holds Try.pinned (OpenSpec.ofChange gapsNilSpec)

/-- ITS FALSE NEIGHBOUR: 'it returns false'. Refute it at one input. -/
def gapsNilWrong : ChangeSpec := { name := "gapsNil", fn := fun _ => fun
  | [d1, d2] => { results := [.lit (.bool false)], args := [d1, d2] }
  | _ => none }
def GapsNilWrongFalsely : Prop := gapsNilRow.holds Try.pinned (OpenSpec.ofChange gapsNilWrong)

/-- 'paternosterlaw03.GapsKnown': WHATEVER THE INPUT: true; the input reads as it did. -/
def gapsKnownSpec : ChangeSpec := { name := "gapsKnown", fn := fun _ => fun
  | [] => { results := [.lit (.bool true)], args := [] }
  | _ => none }
def gapsKnownRow : OpenClaim := { program := "ytjfmimlmnllnjaa", sum := "24c1be58b54ce334d29c12f8fbefc4fdd5dc2bc4dae00b29a17858b543b84ea4", func := "paternoster/paternosterlaw03.GapsKnown", spec := "gapsKnown", apart := false }
def GapsKnownSaid : Prop := gapsKnownRow.holds Try.pinned (OpenSpec.ofChange gapsKnownSpec)

/-- ITS FALSE NEIGHBOUR: 'it returns false'. Refute it at one input. -/
def gapsKnownWrong : ChangeSpec := { name := "gapsKnown", fn := fun _ => fun
  | [] => { results := [.lit (.bool false)], args := [] }
  | _ => none }
def GapsKnownWrongFalsely : Prop := gapsKnownRow.holds Try.pinned (OpenSpec.ofChange gapsKnownWrong)

/- THE SECOND FORM. 'bulk': how many values and letters a reading holds, each counted each time it is reached (what is shared counts as often as it is met; a slice's spare places count too). A statement '..UptoSaid' is the law's where the arguments, and the package variables that the reading takes, are together of bulk at most 1048576: NARROWER than '..Said'. Prove '..Said' where nothing that the law and all that it calls make is longer than what came in: it says more and counts as full. Else prove '..UptoSaid'. A law counts once. -/
mutual
def uptoBulk {H : Type} : DataW H → Nat
  | .lit (.string bytes) => bytes.length + 1
  | .lit _ => 1
  | .nil => 1
  | .ptr d => uptoBulk d + 1
  | .slice elems spare => uptoBulkAll elems + uptoBulkAll spare + 1
  | .agg parts => uptoBulkAll parts + 1
  | .iface _ d => uptoBulk d + 1
  | .map entries => uptoBulkEntries entries + 1
  | .held _ => 1
def uptoBulkAll {H : Type} : List (DataW H) → Nat
  | [] => 0
  | d :: r => uptoBulk d + uptoBulkAll r
def uptoBulkEntries {H : Type} : List (Lit × DataW H) → Nat
  | [] => 0
  | x :: r => uptoBulkEntry x + uptoBulkEntries r
def uptoBulkEntry {H : Type} : Lit × DataW H → Nat
  | (.string bytes, d) => bytes.length + uptoBulk d + 1
  | (_, d) => uptoBulk d + 1
 end
def uptoSmall : (H : Type) → List (DataW H) → Bool := fun _ ds => decide (uptoBulkAll ds ≤ 1048576)
def OpenSpec.upto (s : _root_.Go.ChangeSpec) : _root_.Go.OpenSpec := { _root_.Go.OpenSpec.ofChange s with cond := some uptoSmall }

/-- 'paternosterlaw03.GapsBack', WHERE WHAT IT READS IS OF BULK AT MOST 1048576: true; the input reads as it did. -/
def gapsBackUptoRow : OpenClaim := { program := "ytjfmimlmnllnjaa", sum := "24c1be58b54ce334d29c12f8fbefc4fdd5dc2bc4dae00b29a17858b543b84ea4", func := "paternoster/paternosterlaw03.GapsBack", spec := "gapsBack", apart := false, narrowed := true }
def GapsBackUptoSaid : Prop := gapsBackUptoRow.holds Try.pinned (OpenSpec.upto gapsBackSpec)

/-- 'paternosterlaw03.GapsOwn', WHERE WHAT IT READS IS OF BULK AT MOST 1048576: true; the input reads as it did. -/
def gapsOwnUptoRow : OpenClaim := { program := "ytjfmimlmnllnjaa", sum := "24c1be58b54ce334d29c12f8fbefc4fdd5dc2bc4dae00b29a17858b543b84ea4", func := "paternoster/paternosterlaw03.GapsOwn", spec := "gapsOwn", apart := false, narrowed := true }
def GapsOwnUptoSaid : Prop := gapsOwnUptoRow.holds Try.pinned (OpenSpec.upto gapsOwnSpec)

/-- 'paternosterlaw03.GapsNil', WHERE WHAT IT READS IS OF BULK AT MOST 1048576: true; the input reads as it did. -/
def gapsNilUptoRow : OpenClaim := { program := "ytjfmimlmnllnjaa", sum := "24c1be58b54ce334d29c12f8fbefc4fdd5dc2bc4dae00b29a17858b543b84ea4", func := "paternoster/paternosterlaw03.GapsNil", spec := "gapsNil", apart := false, narrowed := true }
def GapsNilUptoSaid : Prop := gapsNilUptoRow.holds Try.pinned (OpenSpec.upto gapsNilSpec)

/-- 'paternosterlaw03.GapsKnown', WHERE WHAT IT READS IS OF BULK AT MOST 1048576: true; the input reads as it did. -/
def gapsKnownUptoRow : OpenClaim := { program := "ytjfmimlmnllnjaa", sum := "24c1be58b54ce334d29c12f8fbefc4fdd5dc2bc4dae00b29a17858b543b84ea4", func := "paternoster/paternosterlaw03.GapsKnown", spec := "gapsKnown", apart := false, narrowed := true }
def GapsKnownUptoSaid : Prop := gapsKnownUptoRow.holds Try.pinned (OpenSpec.upto gapsKnownSpec)

end Rows
end Go.Proofs.Ytjfmimlmnllnjaa
