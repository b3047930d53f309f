import Derived.Test.YtolpndlnabodgaaO1
namespace Go.Proofs.Abs
open Go Go.RowKit
set_option linter.unusedSimpArgs false
set_option linter.unusedVariables false
/-! Pools of lists. -/
section
/-- the answer of a function that makes lists of its own -/
def RP1 (b h' : Hp) (r : AV) (bs : List Int) (xss : List (List Int)) : Prop :=
  ∃ vB p ws, r = .agg [vB, .slice p 0 ws.length false ws.length 0] ∧ Blks id h' p ws ∧ b.c ≤ p ∧ Lc true h' vB (bs.map I) ∧ LLs true h' ws xss ∧ ∀ n, n ∈ ((nmO vB).toList ++ ws.flatMap fun w => (nmO w).toList) → b.c ≤ n ∧ n ≠ p
/-- put together: a block of one's own and what stands -/
theorem Hs.pls {M : List Nat} {h0 h : Hp} {L Z : List As} (H : Hs M h0 h L Z) {vB : AV} {p : Nat} {ws : List AV} {bs : List Int} {xss : List (List Int)} (h1 : blk id p ws ∈ L) (h2 : lc true vB (bs.map I) ∈ Z) (h3 : lls true ws xss ∈ Z) : PLs true h vB (.slice p 0 ws.length false ws.length 0) ws bs xss :=
  ⟨H.pz h2, Lc.blk (H.p h1) rfl, H.pz h3⟩
end
section
variable {M : List Nat} {h0 h : Hp} {L Z : List As}
end
end Go.Proofs.Abs
