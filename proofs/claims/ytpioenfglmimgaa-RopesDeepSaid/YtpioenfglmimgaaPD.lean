/-
  The law RopesDeep returns true for every number of sizes, and either end.
  There are no conditions.
-/
import Derived.Test.YtpioenfglmimgaaRows
import Derived.Test.YtpioenfglmimgaaVK
import Derived.Test.YtpioenfglmimgaaLives
import Derived.WalkKit
import Derived.ProofKit
import Derived.OpenShut
import Derived.ShutString
import Derived.ChangeOld
import Derived.Below
import Derived.Deep.SlicePairs
import Derived.Deep.Grids
import Derived.Deep.Strs
namespace Go.Proofs.Ytpioenfglmimgaa
open Go Go.Proofs Go.Proofs.Abs
open Go.ChangeShapes Go.WideShapes Go.ChangeAt Go.RowKit Go.Deep
set_option linter.unusedSimpArgs false
set_option linter.unusedVariables false

theorem calls7 : CallOk Try.prog (fun f args h => funA ctx all99 5000 args h (ctx.funs.get f)) :=
  run_step tysOk funsOk mixed 5000 (plus_ok (fun f hf => by
    have h9 : f = 9 := Nat.eq_of_beq_eq_true hf
    subst h9
    have hfo := funsOk 9 Try.f9 (by kernel_rfl)
    exact ⟨⟨Try.f9, hfo.at_, rfl, hfo.name⟩, lives_true⟩) (run_ok tysOk funsOk mixed 5000 99))
theorem walk7 (z0 : Int) (r0 : Inu8 z0) (z1 : Bool) (w : World) :
    Calls Try.prog 7 #[.int .u8 z0, .bool z1] w fun e w' => e = .returned (.bool true) ∧ Below w.heap.size w w' := by
  have ho : oks (fun n => ⟨0, 0, 0, none⟩) 0 [.lit (.int .u8 z0), Bo z1] := ⟨trivial, trivial, trivial⟩
  have k := true_calls calls7 (f := 7) (gam_none w) ho (fun fn h => by rw [Try.func7] at h; cases h; rfl) (deep_law _ z0 z1 r0)
  have e : (concs (fun n => ⟨0, 0, 0, none⟩) [.lit (.int .u8 z0), Bo z1]).toArray = #[.int .u8 z0, .bool z1] := by
    (simp only [concs]) <;> simp [conc, concs]
  rw [e] at k
  exact k

namespace ropesDeepDone
theorem own : ownKnob Try.prog.godebug = none := by kernel_rfl
theorem laidOut : laidOutB Try.prog = true := by kernel_rfl
theorem openU5 {W : World} {base : Nat} {v : Value} (hv : Value.okWide Try.prog W .any base 5 v) : ∃ z : Int, v = .int .u8 z ∧ Inu8 z := by
  simp only [Value.okWide, Try.underlying5, Cell.okWide, Cell.ok] at hv
  cases v <;> simp_all
  rename_i k z
  exact hv.2
set_option maxRecDepth 100000 in
theorem lifted (os : Os) (started : os.Started) (H : Type) (enc : TypeId × Value → H) :
    ReturnsInHanded {} Try.checked os 7 .any (Rows.ropesDeepSpec.pre6 enc Try.prog Try.f7 Rows.ropesDeepRow.domain false) (Rows.ropesDeepSpec.post enc Try.prog Try.f7 false true false false) := by
  refine returnsInHanded_of_change (C := Try.checked) own started (by kernel_rfl) Try.func7
    (ChangeSpec.witness6 (enc := enc) (C := Try.checked) false ⟨#[], #[.int .u8 0, .bool false], []⟩ 8 (by kernel_rfl) (by kernel_rfl) (by kernel_rfl) (by kernel_rfl)) ?_
  intro W base args ds gs before hval0 hW hcnd _
  have hval : ∀ (j : Nat) t v, Try.f7.params[j]? = some t → args[j]? = some v → Value.okWide Try.prog W .any base t v := hval0
  have hW' := hW
  obtain ⟨p, q, hA0, hV, rfl, hfz, hnd⟩ := hW
  have hA : DataW.TrodAll enc Try.prog W 0 (fun _ => true) true Try.f7.params.toList args.toList ds p := hA0
  rw [Try.params7] at hA hval
  obtain ⟨v0, vs0, d0, ds0, p0, q0, hargs, rfl, rfl, h0, s0⟩ := trodAll_cons hA
  obtain ⟨v1, vs1, d1, ds1, p1, q1, rfl, rfl, rfl, h1, s1⟩ := trodAll_cons s0
  obtain ⟨rfl, rfl, rfl⟩ := trodAll_nil s1
  obtain rfl : args = #[v0, v1] := by cases args; simp_all
  obtain ⟨rfl, rfl⟩ := trodVars_none hV
  have hv0 := hval 0 5 v0 rfl rfl
  have lt0 : ∀ x ∈ p0, x.block < W.heap.size := by obtain ⟨m, hm⟩ := h0; exact DataW.trod_lt m _ _ _ hm
  obtain ⟨z0, rfl, r0⟩ := openU5 hv0
  have hv1 := hval 1 4 v1 rfl rfl
  have lt1 : ∀ x ∈ p1, x.block < W.heap.size := by obtain ⟨m, hm⟩ := h1; exact DataW.trod_lt m _ _ _ hm
  obtain ⟨z1, rfl⟩ := okWide_bool Try.underlying4 hv1
  clear hA0 hval0
  refine (walk7 z0 r0 z1 W).mono fun e W' ⟨he, bel⟩ => ?_
  subst he
  exact ⟨_, rfl, _, _, _, [], _, [], hW', trodAll_mk1 (shut_bool Try.underlying4 _), (trodAll_cons_mk (Below.trod laidOut (by kernel_rfl) (of_decide_eq_true (by kernel_rfl)) h0 bel lt0) (trodAll_cons_mk (Below.trod laidOut (by kernel_rfl) (of_decide_eq_true (by kernel_rfl)) h1 bel lt1) trodAll_mk0)), rfl, bel.frame _, fun h => by cases h⟩

theorem over : Rows.ropesDeepRow.holds Try.pinned (OpenSpec.ofChange Rows.ropesDeepSpec) :=
  OpenClaim.holds_of_wide 7 Try.f7 rfl rfl rfl rfl rfl rfl rfl ⟨rfl, rfl, rfl, rfl, rfl⟩ rfl rfl rfl rfl rfl (by kernel_rfl) Try.func7 (by kernel_rfl)
    (of_decide_eq_true (by kernel_rfl)) (by unfold Func.isWrapper; first | (rw [if_pos (by decide +kernel)]; kernel_rfl) | (rw [if_neg (by decide +kernel)]; exact ⟨rfl, rfl⟩))
    (fun os started H enc _ => lifted os started H enc)
end ropesDeepDone
/-- THE STATEMENT -/
theorem ropesDeep_proved : Rows.RopesDeepSaid := ropesDeepDone.over
#print axioms ropesDeep_proved
end Go.Proofs.Ytpioenfglmimgaa
