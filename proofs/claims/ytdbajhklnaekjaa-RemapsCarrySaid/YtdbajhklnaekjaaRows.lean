/-
  No cell of these rows narrows 'for every input' (looked for: loops, veiled, ifaces, maps, wideKeys, modest, calm, conditions, laid).
  DERIVED. THE GIVEN ROWS OF THIS SEAT. 6 by the template 'for every input the law returns true; each argument reads behind the call as it read before'; 0 by the template 'total and deterministic' (their statements: YtdbajhklnaekjaaTotals.lean).
  GIVEN WITH THE SEED: the statements are not yours to turn. If you find one false, say at which input.
  Laid BY PROGRAM, IN A SANDBOX (cutbox-rows.mjs): the forced cells as the released guide's own fill.sh prints them over the translation b930fa4c391961d2… (all of the seat's roots in one cut). By AI agents, Wed Nov 11 2026. No macro, syntax, notation, axiom, sorry.
-/
import Derived.Test.YtdbajhklnaekjaaChecked
import GoSem.Claim
import GoSem.ClaimJoined
import GoSem.ClaimMapViews
import Derived.JoinedTies
import Derived.KernelRfl
namespace Go.Proofs.Ytdbajhklnaekjaa
/- THE CELL 'sum', in the pinned program and in every row, IS THE sha256 OF THE DUMP (.gsa) THAT YtdbajhklnaekjaaProg.lean LOADS. Nothing in Lean hashes anything: it is a label: what it is worth is what the hold of that sum in a sandbox is worth. -/
noncomputable def Try.pinned : Pinned := { name := "ytdbajhklnaekjaa", sum := "b930fa4c391961d277cb1c2d05681c41e6b5fe5c528b01e41c71ede0cc554d25", checked := Try.checked }
namespace Rows
def none {H : Type} : Left H := { results := [], args := [] }

/-- 'paternosterlaw09.RemapsCheck': WHATEVER THE INPUT: true; the input reads as it did. -/
def remapsCheckSpec : ChangeSpec := { name := "remapsCheck", fn := fun _ => fun
  | [d1, d2] => { results := [.lit (.bool true)], args := [d1, d2] }
  | _ => none }
def remapsCheckRow : OpenClaim := { program := "ytdbajhklnaekjaa", sum := "b930fa4c391961d277cb1c2d05681c41e6b5fe5c528b01e41c71ede0cc554d25", func := "paternoster/paternosterlaw09.RemapsCheck", spec := "remapsCheck", unfollowed := true, recurses := true, apart := false }
def RemapsCheckSaid : Prop := remapsCheckRow.holds Try.pinned (OpenSpec.ofChange remapsCheckSpec)

/-- ITS FALSE NEIGHBOUR: 'it returns false'. Refute it at one input. -/
def remapsCheckWrong : ChangeSpec := { name := "remapsCheck", fn := fun _ => fun
  | [d1, d2] => { results := [.lit (.bool false)], args := [d1, d2] }
  | _ => none }
def RemapsCheckWrongFalsely : Prop := remapsCheckRow.holds Try.pinned (OpenSpec.ofChange remapsCheckWrong)

/-- 'paternosterlaw09.RemapsMade': WHATEVER THE INPUT: true; the input reads as it did. -/
def remapsMadeSpec : ChangeSpec := { name := "remapsMade", fn := fun _ => fun
  | [d] => { results := [.lit (.bool true)], args := [d] }
  | _ => none }
def remapsMadeRow : OpenClaim := { program := "ytdbajhklnaekjaa", sum := "b930fa4c391961d277cb1c2d05681c41e6b5fe5c528b01e41c71ede0cc554d25", func := "paternoster/paternosterlaw09.RemapsMade", spec := "remapsMade", unfollowed := true, recurses := true, apart := false }
def RemapsMadeSaid : Prop := remapsMadeRow.holds Try.pinned (OpenSpec.ofChange remapsMadeSpec)

/-- ITS FALSE NEIGHBOUR: 'it returns false'. Refute it at one input. -/
def remapsMadeWrong : ChangeSpec := { name := "remapsMade", fn := fun _ => fun
  | [d] => { results := [.lit (.bool false)], args := [d] }
  | _ => none }
def RemapsMadeWrongFalsely : Prop := remapsMadeRow.holds Try.pinned (OpenSpec.ofChange remapsMadeWrong)

/-- 'paternosterlaw09.RemapsCompose': WHATEVER THE INPUT: true; the input reads as it did. -/
def remapsComposeSpec : ChangeSpec := { name := "remapsCompose", fn := fun _ => fun
  | [d1, d2, d3] => { results := [.lit (.bool true)], args := [d1, d2, d3] }
  | _ => none }
def remapsComposeRow : OpenClaim := { program := "ytdbajhklnaekjaa", sum := "b930fa4c391961d277cb1c2d05681c41e6b5fe5c528b01e41c71ede0cc554d25", func := "paternoster/paternosterlaw09.RemapsCompose", spec := "remapsCompose", unfollowed := true, recurses := true, apart := false }
def RemapsComposeSaid : Prop := remapsComposeRow.holds Try.pinned (OpenSpec.ofChange remapsComposeSpec)

/-- ITS FALSE NEIGHBOUR: 'it returns false'. Refute it at one input. -/
def remapsComposeWrong : ChangeSpec := { name := "remapsCompose", fn := fun _ => fun
  | [d1, d2, d3] => { results := [.lit (.bool false)], args := [d1, d2, d3] }
  | _ => none }
def RemapsComposeWrongFalsely : Prop := remapsComposeRow.holds Try.pinned (OpenSpec.ofChange remapsComposeWrong)

/-- 'paternosterlaw09.RemapsInvert': WHATEVER THE INPUT: true; the input reads as it did. -/
def remapsInvertSpec : ChangeSpec := { name := "remapsInvert", fn := fun _ => fun
  | [d1, d2] => { results := [.lit (.bool true)], args := [d1, d2] }
  | _ => none }
def remapsInvertRow : OpenClaim := { program := "ytdbajhklnaekjaa", sum := "b930fa4c391961d277cb1c2d05681c41e6b5fe5c528b01e41c71ede0cc554d25", func := "paternoster/paternosterlaw09.RemapsInvert", spec := "remapsInvert", unfollowed := true, recurses := true, apart := false }
def RemapsInvertSaid : Prop := remapsInvertRow.holds Try.pinned (OpenSpec.ofChange remapsInvertSpec)

/-- ITS FALSE NEIGHBOUR: 'it returns false'. Refute it at one input. -/
def remapsInvertWrong : ChangeSpec := { name := "remapsInvert", fn := fun _ => fun
  | [d1, d2] => { results := [.lit (.bool false)], args := [d1, d2] }
  | _ => none }
def RemapsInvertWrongFalsely : Prop := remapsInvertRow.holds Try.pinned (OpenSpec.ofChange remapsInvertWrong)

/-- 'paternosterlaw09.RemapsCarry': WHATEVER THE INPUT: true; the input reads as it did. -/
def remapsCarrySpec : ChangeSpec := { name := "remapsCarry", fn := fun _ => fun
  | [d1, d2, d3] => { results := [.lit (.bool true)], args := [d1, d2, d3] }
  | _ => none }
def remapsCarryRow : OpenClaim := { program := "ytdbajhklnaekjaa", sum := "b930fa4c391961d277cb1c2d05681c41e6b5fe5c528b01e41c71ede0cc554d25", func := "paternoster/paternosterlaw09.RemapsCarry", spec := "remapsCarry", unfollowed := true, recurses := true, apart := false }
def RemapsCarrySaid : Prop := remapsCarryRow.holds Try.pinned (OpenSpec.ofChange remapsCarrySpec)

/-- ITS FALSE NEIGHBOUR: 'it returns false'. Refute it at one input. -/
def remapsCarryWrong : ChangeSpec := { name := "remapsCarry", fn := fun _ => fun
  | [d1, d2, d3] => { results := [.lit (.bool false)], args := [d1, d2, d3] }
  | _ => none }
def RemapsCarryWrongFalsely : Prop := remapsCarryRow.holds Try.pinned (OpenSpec.ofChange remapsCarryWrong)

/-- 'paternosterlaw09.RemapsKnown': WHATEVER THE INPUT: true; the input reads as it did. -/
def remapsKnownSpec : ChangeSpec := { name := "remapsKnown", fn := fun _ => fun
  | [] => { results := [.lit (.bool true)], args := [] }
  | _ => none }
def remapsKnownRow : OpenClaim := { program := "ytdbajhklnaekjaa", sum := "b930fa4c391961d277cb1c2d05681c41e6b5fe5c528b01e41c71ede0cc554d25", func := "paternoster/paternosterlaw09.RemapsKnown", spec := "remapsKnown", unfollowed := true, recurses := true, apart := false }
def RemapsKnownSaid : Prop := remapsKnownRow.holds Try.pinned (OpenSpec.ofChange remapsKnownSpec)

/-- ITS FALSE NEIGHBOUR: 'it returns false'. Refute it at one input. -/
def remapsKnownWrong : ChangeSpec := { name := "remapsKnown", fn := fun _ => fun
  | [] => { results := [.lit (.bool false)], args := [] }
  | _ => none }
def RemapsKnownWrongFalsely : Prop := remapsKnownRow.holds Try.pinned (OpenSpec.ofChange remapsKnownWrong)

/- THE SECOND FORM. 'bulk': how many values and letters a reading holds, each counted each time it is reached (what is shared counts as often as it is met; a slice's spare places count too). A statement '..UptoSaid' is the law's where the arguments, and the package variables that the reading takes, are together of bulk at most 1048576: NARROWER than '..Said'. Prove '..Said' where nothing that the law and all that it calls make is longer than what came in: it says more and counts as full. Else prove '..UptoSaid'. A law counts once. -/
mutual
def uptoBulk {H : Type} : DataW H → Nat
  | .lit (.string bytes) => bytes.length + 1
  | .lit _ => 1
  | .nil => 1
  | .ptr d => uptoBulk d + 1
  | .slice elems spare => uptoBulkAll elems + uptoBulkAll spare + 1
  | .agg parts => uptoBulkAll parts + 1
  | .iface _ d => uptoBulk d + 1
  | .map entries => uptoBulkEntries entries + 1
  | .held _ => 1
def uptoBulkAll {H : Type} : List (DataW H) → Nat
  | [] => 0
  | d :: r => uptoBulk d + uptoBulkAll r
def uptoBulkEntries {H : Type} : List (Lit × DataW H) → Nat
  | [] => 0
  | x :: r => uptoBulkEntry x + uptoBulkEntries r
def uptoBulkEntry {H : Type} : Lit × DataW H → Nat
  | (.string bytes, d) => bytes.length + uptoBulk d + 1
  | (_, d) => uptoBulk d + 1
 end
def uptoSmall : (H : Type) → List (DataW H) → Bool := fun _ ds => decide (uptoBulkAll ds ≤ 1048576)
def OpenSpec.upto (s : _root_.Go.ChangeSpec) : _root_.Go.OpenSpec := { _root_.Go.OpenSpec.ofChange s with cond := some uptoSmall }

/-- 'paternosterlaw09.RemapsCheck', WHERE WHAT IT READS IS OF BULK AT MOST 1048576: true; the input reads as it did. -/
def remapsCheckUptoRow : OpenClaim := { program := "ytdbajhklnaekjaa", sum := "b930fa4c391961d277cb1c2d05681c41e6b5fe5c528b01e41c71ede0cc554d25", func := "paternoster/paternosterlaw09.RemapsCheck", spec := "remapsCheck", unfollowed := true, recurses := true, apart := false, narrowed := true }
def RemapsCheckUptoSaid : Prop := remapsCheckUptoRow.holds Try.pinned (OpenSpec.upto remapsCheckSpec)

/-- 'paternosterlaw09.RemapsMade', WHERE WHAT IT READS IS OF BULK AT MOST 1048576: true; the input reads as it did. -/
def remapsMadeUptoRow : OpenClaim := { program := "ytdbajhklnaekjaa", sum := "b930fa4c391961d277cb1c2d05681c41e6b5fe5c528b01e41c71ede0cc554d25", func := "paternoster/paternosterlaw09.RemapsMade", spec := "remapsMade", unfollowed := true, recurses := true, apart := false, narrowed := true }
def RemapsMadeUptoSaid : Prop := remapsMadeUptoRow.holds Try.pinned (OpenSpec.upto remapsMadeSpec)

/-- 'paternosterlaw09.RemapsCompose', WHERE WHAT IT READS IS OF BULK AT MOST 1048576: true; the input reads as it did. -/
def remapsComposeUptoRow : OpenClaim := { program := "ytdbajhklnaekjaa", sum := "b930fa4c391961d277cb1c2d05681c41e6b5fe5c528b01e41c71ede0cc554d25", func := "paternoster/paternosterlaw09.RemapsCompose", spec := "remapsCompose", unfollowed := true, recurses := true, apart := false, narrowed := true }
def RemapsComposeUptoSaid : Prop := remapsComposeUptoRow.holds Try.pinned (OpenSpec.upto remapsComposeSpec)

/-- 'paternosterlaw09.RemapsInvert', WHERE WHAT IT READS IS OF BULK AT MOST 1048576: true; the input reads as it did. -/
def remapsInvertUptoRow : OpenClaim := { program := "ytdbajhklnaekjaa", sum := "b930fa4c391961d277cb1c2d05681c41e6b5fe5c528b01e41c71ede0cc554d25", func := "paternoster/paternosterlaw09.RemapsInvert", spec := "remapsInvert", unfollowed := true, recurses := true, apart := false, narrowed := true }
def RemapsInvertUptoSaid : Prop := remapsInvertUptoRow.holds Try.pinned (OpenSpec.upto remapsInvertSpec)

/-- 'paternosterlaw09.RemapsCarry', WHERE WHAT IT READS IS OF BULK AT MOST 1048576: true; the input reads as it did. -/
def remapsCarryUptoRow : OpenClaim := { program := "ytdbajhklnaekjaa", sum := "b930fa4c391961d277cb1c2d05681c41e6b5fe5c528b01e41c71ede0cc554d25", func := "paternoster/paternosterlaw09.RemapsCarry", spec := "remapsCarry", unfollowed := true, recurses := true, apart := false, narrowed := true }
def RemapsCarryUptoSaid : Prop := remapsCarryUptoRow.holds Try.pinned (OpenSpec.upto remapsCarrySpec)

/-- 'paternosterlaw09.RemapsKnown', WHERE WHAT IT READS IS OF BULK AT MOST 1048576: true; the input reads as it did. -/
def remapsKnownUptoRow : OpenClaim := { program := "ytdbajhklnaekjaa", sum := "b930fa4c391961d277cb1c2d05681c41e6b5fe5c528b01e41c71ede0cc554d25", func := "paternoster/paternosterlaw09.RemapsKnown", spec := "remapsKnown", unfollowed := true, recurses := true, apart := false, narrowed := true }
def RemapsKnownUptoSaid : Prop := remapsKnownUptoRow.holds Try.pinned (OpenSpec.upto remapsKnownSpec)

end Rows
end Go.Proofs.Ytdbajhklnaekjaa
