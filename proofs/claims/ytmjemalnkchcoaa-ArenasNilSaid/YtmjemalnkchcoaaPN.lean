/-
  The law ArenasNil returns true, whatever handle it is given.
  There are no conditions.
-/
import Derived.Test.YtmjemalnkchcoaaRows
import Derived.Test.YtmjemalnkchcoaaA2
import Derived.Test.YtmjemalnkchcoaaLives
import Derived.WalkKit
import Derived.ProofKit
import Derived.OpenShut
import Derived.ShutString
import Derived.ChangeOld
import Derived.Below
import Derived.Deep.SlicePairs
namespace Go.Proofs.Ytmjemalnkchcoaa
open Go Go.Proofs Go.Proofs.Abs
open Go.ChangeShapes Go.WideShapes Go.ChangeAt Go.RowKit Go.Deep
set_option linter.unusedSimpArgs false
set_option linter.unusedVariables false

theorem calls7 : CallOk Try.prog (fun f args h => funA ctx all8 5000 args h (ctx.funs.get f)) :=
  run_step tysOk funsOk mixed 5000 (plus_ok (fun f hf => by
    have h9 : f = 12 := Nat.eq_of_beq_eq_true hf
    subst h9
    have hfo := funsOk 12 Try.f12 (by kernel_rfl)
    exact ⟨⟨Try.f12, hfo.at_, rfl, hfo.name⟩, lives_true⟩) (run_ok tysOk funsOk mixed 5000 8))
theorem walk7 (z0_0 : Int) (r0_0 : Inu z0_0) (z0_1 : Int) (r0_1 : Inu z0_1) (w : World) :
    Calls Try.prog 7 #[.agg #[.int .u32 z0_0, .int .u32 z0_1]] w fun e w' => e = .returned (.bool true) ∧ Below w.heap.size w w' := by
  have ho : oks (fun n => ⟨0, 0, 0⟩) 0 [.agg [.lit (.int .u32 z0_0), .lit (.int .u32 z0_1)]] := ⟨⟨trivial, trivial, trivial⟩, trivial⟩
  have k := true_calls calls7 (f := 7) (gam_none w) ho (fun fn h => by rw [Try.func7] at h; cases h; rfl) (nil_law z0_0 z0_1 r0_0 r0_1)
  have e : (concs (fun n => ⟨0, 0, 0⟩) [.agg [.lit (.int .u32 z0_0), .lit (.int .u32 z0_1)]]).toArray = #[.agg #[.int .u32 z0_0, .int .u32 z0_1]] := by
    (simp only [concs]) <;> simp [conc, concs]
  rw [e] at k
  exact k

namespace arenasNilDone
theorem own : ownKnob Try.prog.godebug = none := by kernel_rfl
theorem laidOut : laidOutB Try.prog = true := by kernel_rfl
theorem openC40 {W : World} {base : Nat} (c : Value) (hc : Cell.okWide Try.prog W .any base 40 c) : ∃ z : Int, c = .int .u32 z ∧ Inu z := by
  simp only [Cell.okWide, Try.underlying40, Cell.ok] at hc
  cases c <;> simp_all
  rename_i k z
  exact hc.2
theorem openS42 {W : World} {base : Nat} {v : Value} (hv : Value.okWide Try.prog W .any base 42 v) : ∃ z0 z1 : Int, v = .agg #[.int .u32 z0, .int .u32 z1] ∧ Inu z0 ∧ Inu z1 := by
  simp only [Value.okWide, Try.underlying42] at hv
  obtain ⟨cs, rfl, hsz, ts, hts, _, hall⟩ := hv
  have hA : Try.prog.cellTypes Try.prog.depth 42 = some [40, 40] := by kernel_rfl
  have hB : Try.prog.cellsOf 42 = 2 := by kernel_rfl
  rw [hA] at hts
  cases hts
  rw [hB] at hsz
  obtain ⟨l⟩ := cs
  match l, hsz with
  | [y0, y1], _ =>
    obtain ⟨u0, hu0, hc0⟩ := hall 0 y0 rfl
    cases hu0
    obtain ⟨z0, rfl, r0⟩ := openC40 y0 hc0
    obtain ⟨u1, hu1, hc1⟩ := hall 1 y1 rfl
    cases hu1
    obtain ⟨z1, rfl, r1⟩ := openC40 y1 hc1
    exact ⟨z0, z1, rfl, r0, r1⟩
set_option maxRecDepth 100000 in
theorem lifted (os : Os) (started : os.Started) (H : Type) (enc : TypeId × Value → H) :
    ReturnsInHanded {} Try.checked os 7 .any (Rows.arenasNilSpec.pre6 enc Try.prog Try.f7 Rows.arenasNilRow.domain false) (Rows.arenasNilSpec.post enc Try.prog Try.f7 false true false false) := by
  refine returnsInHanded_of_change (C := Try.checked) own started (by kernel_rfl) Try.func7
    (ChangeSpec.witness6 (enc := enc) (C := Try.checked) false ⟨#[], #[.agg #[.int .u32 0, .int .u32 0]], []⟩ 8 (by kernel_rfl) (by kernel_rfl) (by kernel_rfl) (by kernel_rfl)) ?_
  intro W base args ds gs before hval0 hW hcnd _
  have hval : ∀ (j : Nat) t v, Try.f7.params[j]? = some t → args[j]? = some v → Value.okWide Try.prog W .any base t v := hval0
  have hW' := hW
  obtain ⟨p, q, hA0, hV, rfl, hfz, hnd⟩ := hW
  have hA : DataW.TrodAll enc Try.prog W 0 (fun _ => true) true Try.f7.params.toList args.toList ds p := hA0
  rw [Try.params7] at hA hval
  obtain ⟨v0, vs0, d0, ds0, p0, q0, hargs, rfl, rfl, h0, s0⟩ := trodAll_cons hA
  obtain ⟨rfl, rfl, rfl⟩ := trodAll_nil s0
  obtain rfl : args = #[v0] := by cases args; simp_all
  obtain ⟨rfl, rfl⟩ := trodVars_none hV
  have hv0 := hval 0 42 v0 rfl rfl
  have lt0 : ∀ x ∈ p0, x.block < W.heap.size := by obtain ⟨m, hm⟩ := h0; exact DataW.trod_lt m _ _ _ hm
  obtain ⟨z0_0, z0_1, rfl, r0_0, r0_1⟩ := openS42 hv0
  clear hA0 hval0
  refine (walk7 z0_0 r0_0 z0_1 r0_1 W).mono fun e W' ⟨he, bel⟩ => ?_
  subst he
  exact ⟨_, rfl, _, _, _, [], _, [], hW', trodAll_mk1 (shut_bool Try.underlying4 _), (trodAll_cons_mk (Below.trod laidOut (by kernel_rfl) (of_decide_eq_true (by kernel_rfl)) h0 bel lt0) trodAll_mk0), rfl, bel.frame _, fun h => by cases h⟩

theorem over : Rows.arenasNilRow.holds Try.pinned (OpenSpec.ofChange Rows.arenasNilSpec) :=
  OpenClaim.holds_of_wide 7 Try.f7 rfl rfl rfl rfl rfl rfl rfl ⟨rfl, rfl, rfl, rfl, rfl⟩ rfl rfl rfl rfl rfl (by kernel_rfl) Try.func7 (by kernel_rfl)
    (of_decide_eq_true (by kernel_rfl)) (by unfold Func.isWrapper; first | (rw [if_pos (by decide +kernel)]; kernel_rfl) | (rw [if_neg (by decide +kernel)]; exact ⟨rfl, rfl⟩))
    (fun os started H enc _ => lifted os started H enc)
end arenasNilDone
/-- THE STATEMENT -/
theorem arenasNil_proved : Rows.ArenasNilSaid := arenasNilDone.over
#print axioms arenasNil_proved
end Go.Proofs.Ytmjemalnkchcoaa
