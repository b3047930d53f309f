/-
  The law RemapsMade returns true, whatever four numbers it is given.
  There are no conditions.
-/
import Derived.Test.YtdbajhklnaekjaaRows
import Derived.Test.YtdbajhklnaekjaaY7
import Derived.Test.YtdbajhklnaekjaaLives
import Derived.WalkKit
import Derived.ProofKit
import Derived.OpenShut
import Derived.ShutString
import Derived.ChangeOld
import Derived.Below
import Derived.Deep.SlicePairs
import Derived.Deep.Grids
namespace Go.Proofs.Ytdbajhklnaekjaa
open Go Go.Proofs Go.Proofs.Abs
open Go.ChangeShapes Go.WideShapes Go.ChangeAt Go.RowKit Go.Deep
set_option linter.unusedSimpArgs false
set_option linter.unusedVariables false

theorem calls4 : CallOk Try.prog (fun f args h => funA ctx all8 5000 args h (ctx.funs.get f)) :=
  run_step tysOk funsOk mixed 5000 (plus_ok (fun f hf => by
    have h9 : f = 9 := Nat.eq_of_beq_eq_true hf
    subst h9
    have hfo := funsOk 9 Try.f9 (by kernel_rfl)
    exact ⟨⟨Try.f9, hfo.at_, rfl, hfo.name⟩, lives_true⟩) (run_ok tysOk funsOk mixed 5000 8))
theorem walk4 (z0_0 : Int) (r0_0 : In z0_0) (z0_1 : Int) (r0_1 : In z0_1) (z0_2 : Int) (r0_2 : In z0_2) (z0_3 : Int) (r0_3 : In z0_3) (w : World) :
    Calls Try.prog 4 #[.agg #[.int .i64 z0_0, .int .i64 z0_1, .int .i64 z0_2, .int .i64 z0_3]] w fun e w' => e = .returned (.bool true) ∧ Below w.heap.size w w' := by
  have ho : oks (fun n => ⟨0, 0, 0⟩) 0 [.agg [I z0_0, I z0_1, I z0_2, I z0_3]] := ⟨⟨trivial, trivial, trivial, trivial, trivial⟩, trivial⟩
  have k := true_calls calls4 (f := 4) (gam_none w) ho (fun fn h => by rw [Try.func4] at h; cases h; rfl) (made_law _ z0_0 z0_1 z0_2 z0_3 r0_0 r0_1 r0_2 r0_3)
  have e : (concs (fun n => ⟨0, 0, 0⟩) [.agg [I z0_0, I z0_1, I z0_2, I z0_3]]).toArray = #[.agg #[.int .i64 z0_0, .int .i64 z0_1, .int .i64 z0_2, .int .i64 z0_3]] := by
    (simp only [concs]) <;> simp [conc, concs]
  rw [e] at k
  exact k

namespace remapsMadeDone
theorem own : ownKnob Try.prog.godebug = none := by kernel_rfl
theorem laidOut : laidOutB Try.prog = true := by kernel_rfl
theorem openI3 {W : World} {base : Nat} {v : Value} (hv : Value.okWide Try.prog W .any base 3 v) : ∃ z : Int, v = .int .i64 z ∧ In z := by
  simp only [Value.okWide, Try.underlying3, Cell.okWide, Cell.ok] at hv
  cases v <;> simp_all
  rename_i k z
  exact hv.2
theorem openA42 {W : World} {base : Nat} {v : Value} (hv : Value.okWide Try.prog W .any base 42 v) : ∃ z0 z1 z2 z3 : Int, v = .agg #[.int .i64 z0, .int .i64 z1, .int .i64 z2, .int .i64 z3] ∧ In z0 ∧ In z1 ∧ In z2 ∧ In z3 := by
  simp only [Value.okWide, Try.underlying42] at hv
  obtain ⟨cs, rfl, hsz, ts, hts, _, hall⟩ := hv
  have hA : Try.prog.cellTypes Try.prog.depth 42 = some [3, 3, 3, 3] := by kernel_rfl
  have hB : Try.prog.cellsOf 42 = 4 := by kernel_rfl
  rw [hA] at hts
  cases hts
  rw [hB] at hsz
  have cell : ∀ c : Value, Cell.okWide Try.prog W .any base 3 c → ∃ z : Int, c = .int .i64 z ∧ In z := by
    intro c hc
    simp only [Cell.okWide, Try.underlying3, Cell.ok] at hc
    cases c <;> simp_all
    rename_i k z
    exact hc.2
  obtain ⟨l⟩ := cs
  match l, hsz with
  | [y0, y1, y2, y3], _ =>
    obtain ⟨u0, hu0, hc0⟩ := hall 0 y0 rfl
    cases hu0
    obtain ⟨z0, rfl, r0⟩ := cell y0 hc0
    obtain ⟨u1, hu1, hc1⟩ := hall 1 y1 rfl
    cases hu1
    obtain ⟨z1, rfl, r1⟩ := cell y1 hc1
    obtain ⟨u2, hu2, hc2⟩ := hall 2 y2 rfl
    cases hu2
    obtain ⟨z2, rfl, r2⟩ := cell y2 hc2
    obtain ⟨u3, hu3, hc3⟩ := hall 3 y3 rfl
    cases hu3
    obtain ⟨z3, rfl, r3⟩ := cell y3 hc3
    exact ⟨z0, z1, z2, z3, rfl, r0, r1, r2, r3⟩
set_option maxRecDepth 100000 in
theorem lifted (os : Os) (started : os.Started) (H : Type) (enc : TypeId × Value → H) :
    ReturnsInHanded {} Try.checked os 4 .any (Rows.remapsMadeSpec.pre6 enc Try.prog Try.f4 Rows.remapsMadeRow.domain false) (Rows.remapsMadeSpec.post enc Try.prog Try.f4 false true false false) := by
  refine returnsInHanded_of_change (C := Try.checked) own started (by kernel_rfl) Try.func4
    (ChangeSpec.witness6 (enc := enc) (C := Try.checked) false ⟨#[], #[.agg #[.int .i64 0, .int .i64 0, .int .i64 0, .int .i64 0]], []⟩ 8 (by kernel_rfl) (by kernel_rfl) (by kernel_rfl) (by kernel_rfl)) ?_
  intro W base args ds gs before hval0 hW hcnd _
  have hval : ∀ (j : Nat) t v, Try.f4.params[j]? = some t → args[j]? = some v → Value.okWide Try.prog W .any base t v := hval0
  have hW' := hW
  obtain ⟨p, q, hA0, hV, rfl, hfz, hnd⟩ := hW
  have hA : DataW.TrodAll enc Try.prog W 0 (fun _ => true) true Try.f4.params.toList args.toList ds p := hA0
  rw [Try.params4] at hA hval
  obtain ⟨v0, vs0, d0, ds0, p0, q0, hargs, rfl, rfl, h0, s0⟩ := trodAll_cons hA
  obtain ⟨rfl, rfl, rfl⟩ := trodAll_nil s0
  obtain rfl : args = #[v0] := by cases args; simp_all
  obtain ⟨rfl, rfl⟩ := trodVars_none hV
  have hv0 := hval 0 42 v0 rfl rfl
  have lt0 : ∀ x ∈ p0, x.block < W.heap.size := by obtain ⟨m, hm⟩ := h0; exact DataW.trod_lt m _ _ _ hm
  obtain ⟨z0_0, z0_1, z0_2, z0_3, rfl, r0_0, r0_1, r0_2, r0_3⟩ := openA42 hv0
  clear hA0 hval0
  refine (walk4 z0_0 r0_0 z0_1 r0_1 z0_2 r0_2 z0_3 r0_3 W).mono fun e W' ⟨he, bel⟩ => ?_
  subst he
  exact ⟨_, rfl, _, _, _, [], _, [], hW', trodAll_mk1 (shut_bool Try.underlying4 _), (trodAll_cons_mk (Below.trod laidOut (by kernel_rfl) (of_decide_eq_true (by kernel_rfl)) h0 bel lt0) trodAll_mk0), rfl, bel.frame _, fun h => by cases h⟩

theorem over : Rows.remapsMadeRow.holds Try.pinned (OpenSpec.ofChange Rows.remapsMadeSpec) :=
  OpenClaim.holds_of_wide 4 Try.f4 rfl rfl rfl rfl rfl rfl rfl ⟨rfl, rfl, rfl, rfl, rfl⟩ rfl rfl rfl rfl rfl (by kernel_rfl) Try.func4 (by kernel_rfl)
    (of_decide_eq_true (by kernel_rfl)) (by unfold Func.isWrapper; first | (rw [if_pos (by decide +kernel)]; kernel_rfl) | (rw [if_neg (by decide +kernel)]; exact ⟨rfl, rfl⟩))
    (fun os started H enc _ => lifted os started H enc)
end remapsMadeDone
/-- THE STATEMENT -/
theorem remapsMade_proved : Rows.RemapsMadeSaid := remapsMadeDone.over
#print axioms remapsMade_proved
end Go.Proofs.Ytdbajhklnaekjaa
