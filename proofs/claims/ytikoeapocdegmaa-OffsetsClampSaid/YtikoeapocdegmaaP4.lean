/-
  The law OffsetsClamp returns true, whatever four numbers it is given.
  There are no conditions.
-/
import Derived.Test.YtikoeapocdegmaaRows
import Derived.Test.YtikoeapocdegmaaQ6
import Derived.Test.YtikoeapocdegmaaLives
import Derived.WalkKit
import Derived.ProofKit
import Derived.OpenShut
import Derived.ShutString
import Derived.ChangeOld
import Derived.Below
import Derived.Deep.SlicePairs
namespace Go.Proofs.Ytikoeapocdegmaa
open Go Go.Proofs Go.Proofs.Abs
open Go.ChangeShapes Go.WideShapes Go.ChangeAt Go.RowKit Go.Deep
set_option linter.unusedSimpArgs false
set_option linter.unusedVariables false

theorem calls4 : CallOk Try.prog (fun f args h => funA ctx all4 5000 args h (ctx.funs.get f)) :=
  run_step tysOk funsOk mixed 5000 (plus_ok (fun f hf => by
    have h9 : f = 12 := Nat.eq_of_beq_eq_true hf
    subst h9
    have hfo := funsOk 12 Try.f12 (by kernel_rfl)
    exact ⟨⟨Try.f12, hfo.at_, rfl, hfo.name⟩, lives_true⟩) (run_ok tysOk funsOk mixed 5000 4))
theorem walk4 (z0 : Int) (r0 : In z0) (z1 : Int) (r1 : In z1) (z2_0 : Int) (r2_0 : In z2_0) (z2_1 : Int) (r2_1 : In z2_1) (w : World) :
    Calls Try.prog 4 #[.int .i64 z0, .int .i64 z1, .agg #[.int .i64 z2_0, .int .i64 z2_1]] w fun e w' => e = .returned (.bool true) ∧ Below w.heap.size w w' := by
  have ho : oks (fun n => ⟨0, 0, 0⟩) 0 [I z0, I z1, .agg [I z2_0, I z2_1]] := ⟨trivial, trivial, ⟨trivial, trivial, trivial⟩, trivial⟩
  have k := true_calls calls4 (f := 4) (gam_none w) ho (fun fn h => by rw [Try.func4] at h; cases h; rfl) (clamp_law _ z0 z1 z2_0 z2_1 r0 r1 r2_0 r2_1)
  have e : (concs (fun n => ⟨0, 0, 0⟩) [I z0, I z1, .agg [I z2_0, I z2_1]]).toArray = #[.int .i64 z0, .int .i64 z1, .agg #[.int .i64 z2_0, .int .i64 z2_1]] := by
    simp only [concs]
    simp [conc, concs]
  rw [e] at k
  exact k

namespace offsetsClampDone
theorem own : ownKnob Try.prog.godebug = none := by kernel_rfl
theorem laidOut : laidOutB Try.prog = true := by kernel_rfl
theorem openI2 {W : World} {base : Nat} {v : Value} (hv : Value.okWide Try.prog W .any base 2 v) : ∃ z : Int, v = .int .i64 z ∧ In z := by
  simp only [Value.okWide, Try.underlying2, Cell.okWide, Cell.ok] at hv
  cases v <;> simp_all
  rename_i k z
  exact hv.2
theorem openA25 {W : World} {base : Nat} {v : Value} (hv : Value.okWide Try.prog W .any base 25 v) : ∃ z0 z1 : Int, v = .agg #[.int .i64 z0, .int .i64 z1] ∧ In z0 ∧ In z1 := by
  simp only [Value.okWide, Try.underlying25] at hv
  obtain ⟨cs, rfl, hsz, ts, hts, _, hall⟩ := hv
  have hA : Try.prog.cellTypes Try.prog.depth 25 = some [2, 2] := by kernel_rfl
  have hB : Try.prog.cellsOf 25 = 2 := by kernel_rfl
  rw [hA] at hts
  cases hts
  rw [hB] at hsz
  have cell : ∀ c : Value, Cell.okWide Try.prog W .any base 2 c → ∃ z : Int, c = .int .i64 z ∧ In z := by
    intro c hc
    simp only [Cell.okWide, Try.underlying2, Cell.ok] at hc
    cases c <;> simp_all
    rename_i k z
    exact hc.2
  obtain ⟨l⟩ := cs
  match l, hsz with
  | [y0, y1], _ =>
    obtain ⟨u0, hu0, hc0⟩ := hall 0 y0 rfl
    cases hu0
    obtain ⟨z0, rfl, r0⟩ := cell y0 hc0
    obtain ⟨u1, hu1, hc1⟩ := hall 1 y1 rfl
    cases hu1
    obtain ⟨z1, rfl, r1⟩ := cell y1 hc1
    exact ⟨z0, z1, rfl, r0, r1⟩
set_option maxRecDepth 100000 in
theorem lifted (os : Os) (started : os.Started) (H : Type) (enc : TypeId × Value → H) :
    ReturnsInHanded {} Try.checked os 4 .any (Rows.offsetsClampSpec.pre6 enc Try.prog Try.f4 Rows.offsetsClampRow.domain false) (Rows.offsetsClampSpec.post enc Try.prog Try.f4 false true false false) := by
  refine returnsInHanded_of_change (C := Try.checked) own started (by kernel_rfl) Try.func4
    (ChangeSpec.witness6 (enc := enc) (C := Try.checked) false ⟨#[], #[.int .i64 0, .int .i64 0, .agg #[.int .i64 0, .int .i64 0]], []⟩ 8 (by kernel_rfl) (by kernel_rfl) (by kernel_rfl) (by kernel_rfl)) ?_
  intro W base args ds gs before hval0 hW hcnd _
  have hval : ∀ (j : Nat) t v, Try.f4.params[j]? = some t → args[j]? = some v → Value.okWide Try.prog W .any base t v := hval0
  have hW' := hW
  obtain ⟨p, q, hA0, hV, rfl, hfz, hnd⟩ := hW
  have hA : DataW.TrodAll enc Try.prog W 0 (fun _ => true) true Try.f4.params.toList args.toList ds p := hA0
  rw [Try.params4] at hA hval
  obtain ⟨v0, vs0, d0, ds0, p0, q0, hargs, rfl, rfl, h0, s0⟩ := trodAll_cons hA
  obtain ⟨v1, vs1, d1, ds1, p1, q1, rfl, rfl, rfl, h1, s1⟩ := trodAll_cons s0
  obtain ⟨v2, vs2, d2, ds2, p2, q2, rfl, rfl, rfl, h2, s2⟩ := trodAll_cons s1
  obtain ⟨rfl, rfl, rfl⟩ := trodAll_nil s2
  obtain rfl : args = #[v0, v1, v2] := by cases args; simp_all
  obtain ⟨rfl, rfl⟩ := trodVars_none hV
  have hv0 := hval 0 2 v0 rfl rfl
  have lt0 : ∀ x ∈ p0, x.block < W.heap.size := by obtain ⟨m, hm⟩ := h0; exact DataW.trod_lt m _ _ _ hm
  obtain ⟨z0, rfl, r0⟩ := openI2 hv0
  have hv1 := hval 1 2 v1 rfl rfl
  have lt1 : ∀ x ∈ p1, x.block < W.heap.size := by obtain ⟨m, hm⟩ := h1; exact DataW.trod_lt m _ _ _ hm
  obtain ⟨z1, rfl, r1⟩ := openI2 hv1
  have hv2 := hval 2 25 v2 rfl rfl
  have lt2 : ∀ x ∈ p2, x.block < W.heap.size := by obtain ⟨m, hm⟩ := h2; exact DataW.trod_lt m _ _ _ hm
  obtain ⟨z2_0, z2_1, rfl, r2_0, r2_1⟩ := openA25 hv2
  clear hA0 hval0
  refine (walk4 z0 r0 z1 r1 z2_0 r2_0 z2_1 r2_1 W ).mono fun e W' ⟨he, bel⟩ => ?_
  subst he
  exact ⟨_, rfl, _, _, _, [], _, [], hW', trodAll_mk1 (shut_bool Try.underlying4 _), (trodAll_cons_mk (Below.trod laidOut (by kernel_rfl) (of_decide_eq_true (by kernel_rfl)) h0 bel lt0) (trodAll_cons_mk (Below.trod laidOut (by kernel_rfl) (of_decide_eq_true (by kernel_rfl)) h1 bel lt1) (trodAll_cons_mk (Below.trod laidOut (by kernel_rfl) (of_decide_eq_true (by kernel_rfl)) h2 bel lt2) trodAll_mk0))), rfl, bel.frame _, fun h => by cases h⟩

theorem over : Rows.offsetsClampRow.holds Try.pinned (OpenSpec.ofChange Rows.offsetsClampSpec) :=
  OpenClaim.holds_of_wide 4 Try.f4 rfl rfl rfl rfl rfl rfl rfl ⟨rfl, rfl, rfl, rfl, rfl⟩ rfl rfl rfl rfl rfl (by kernel_rfl) Try.func4 (by kernel_rfl)
    (of_decide_eq_true (by kernel_rfl)) (by unfold Func.isWrapper; first | (rw [if_pos (by decide +kernel)]; kernel_rfl) | (rw [if_neg (by decide +kernel)]; exact ⟨rfl, rfl⟩))
    (fun os started H enc _ => lifted os started H enc)
end offsetsClampDone
/-- THE STATEMENT -/
theorem offsetsClamp_proved : Rows.OffsetsClampSaid := offsetsClampDone.over
#print axioms offsetsClamp_proved
end Go.Proofs.Ytikoeapocdegmaa
