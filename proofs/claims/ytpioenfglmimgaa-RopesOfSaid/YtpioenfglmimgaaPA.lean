/-
  The law RopesOf returns true for every list of sizes that it is given.
  There are no conditions.
-/
import Derived.Test.YtpioenfglmimgaaRows
import Derived.Test.YtpioenfglmimgaaVH
import Derived.Test.YtpioenfglmimgaaLives
import Derived.WalkKit
import Derived.ProofKit
import Derived.OpenShut
import Derived.ShutString
import Derived.ChangeOld
import Derived.Below
import Derived.Deep.SlicePairs
import Derived.Deep.Grids
import Derived.Deep.Strs
namespace Go.Proofs.Ytpioenfglmimgaa
open Go Go.Proofs Go.Proofs.Abs
open Go.ChangeShapes Go.WideShapes Go.ChangeAt Go.RowKit Go.Deep
set_option linter.unusedSimpArgs false
set_option linter.unusedVariables false

theorem calls3 : CallOk Try.prog (fun f args h => funA ctx all99 5000 args h (ctx.funs.get f)) :=
  run_step tysOk funsOk mixed 5000 (plus_ok (fun f hf => by
    have h9 : f = 9 := Nat.eq_of_beq_eq_true hf
    subst h9
    have hfo := funsOk 9 Try.f9 (by kernel_rfl)
    exact ⟨⟨Try.f9, hfo.at_, rfl, hfo.name⟩, lives_true⟩) (run_ok tysOk funsOk mixed 5000 99))
/-- memory that came in, read at the places of some names -/
noncomputable def inHp (w : World) (σ : Nat → Abs.Loc) (c : Nat) : Hp := ⟨.leaf, c, fun n off => if n < c ∧ (σ n).s = none then (w.cell? ⟨(σ n).b, (σ n).o + off, none⟩).map AV.lit else none⟩
theorem gam_ins (w : World) (σ : Nat → Abs.Loc) (c : Nat) : Gam σ (below w.heap.size) (inHp w σ c) w := by
  refine ⟨fun _ h => h, fun n b hn => (by cases hn), fun n m bn bm hn => (by cases hn), fun n off v hv => ?_⟩
  have hv' : (if n < c ∧ (σ n).s = none then (w.cell? ⟨(σ n).b, (σ n).o + off, none⟩).map AV.lit else none) = some v := hv
  split at hv'
  · rename_i hn
    cases hw : w.cell? ⟨(σ n).b, (σ n).o + off, none⟩ with
    | none => rw [hw] at hv'; cases hv'
    | some u =>
      rw [hw] at hv'
      cases hv'
      refine ⟨hn.1, rfl, trivial, hn.2, ?_, by simp [conc]⟩
      cases hb : w.heap[(σ n).b]? with
      | none => simp [World.cell?, hb] at hw
      | some ob => exact (Array.getElem?_eq_some_iff.1 hb).1
  · cases hv'
/-- a slice of numbers that came in: it is nil, or it leads to a row of cells -/
def InInts (w : World) (a : Option Addr) (len cap : Nat) : Prop :=
  (a = none ∧ len = 0 ∧ cap = 0) ∨ ∃ b o, a = some ⟨b, o, none⟩ ∧ len ≤ cap ∧ ∀ i, i < len → ∃ x : Int, w.cell? ⟨b, o + i, none⟩ = some (.int .i64 x) ∧ In x
def cellInt : Option Value → Int
  | some (.int _ n) => n
  | _ => 0
def locOf : Option Addr → Abs.Loc
  | some a => ⟨a.block, a.off, 0, a.spot⟩
  | none => ⟨0, 0, 0, none⟩
theorem in_ints {w : World} {σ : Nat → Abs.Loc} {c n : Nat} {a : Option Addr} {len cap : Nat} (hn : n < c) (h : InInts w a len cap) (hs : σ n = locOf a) :
    ∃ (v : AV) (xs : List Int), Lc false (inHp w σ c) v (xs.map I) ∧ (∀ x ∈ xs, In x) ∧ v.ok σ c ∧ conc σ v = .slice a len cap := by
  rcases h with ⟨rfl, rfl, rfl⟩ | ⟨b, o, rfl, hle, hc⟩
  · exact ⟨nilS, [], ⟨.inl ⟨rfl, rfl⟩, trivial, fun h => by cases h⟩, fun x hx => (by cases hx), trivial, by simp [conc]⟩
  · have hl : ((List.range len).map fun i => cellInt (w.cell? ⟨b, o + i, none⟩)).length = len := by simp
    refine ⟨.slice n 0 len false cap 0, (List.range len).map fun i => cellInt (w.cell? ⟨b, o + i, none⟩), ⟨.inr ⟨n, 0, false, cap, 0, by rw [List.length_map, hl], hn, ?_⟩, hle, fun h => by cases h⟩, ?_, ⟨hn, fun h => by cases h⟩, ?_⟩
    · intro i x hi
      rw [List.getElem?_map, Option.map_eq_some_iff] at hi
      obtain ⟨y, hy, rfl⟩ := hi
      have hil : i < len := by
        have := (List.getElem?_eq_some_iff.1 hy).1
        rwa [hl] at this
      obtain ⟨z, hz, _⟩ := hc i hil
      have hyz : y = z := by
        rw [List.getElem?_map, List.getElem?_range hil] at hy
        simp [hz, cellInt] at hy
        exact hy.symm
      subst hyz
      have e1 : (inHp w σ c).ro n i = some (I y) := by
        show (if n < c ∧ (σ n).s = none then (w.cell? ⟨(σ n).b, (σ n).o + i, none⟩).map AV.lit else none) = _
        rw [if_pos ⟨hn, by rw [hs]; rfl⟩, hs]
        show (w.cell? ⟨b, o + i, none⟩).map AV.lit = _
        rw [hz]
        rfl
      rw [load_none rfl, roCells_succ, roCells_zero, Nat.zero_add, e1]
      rfl
    · intro x hx
      obtain ⟨i, hi, rfl⟩ := List.mem_map.1 hx
      obtain ⟨z, hz, hr⟩ := hc i (List.mem_range.1 hi)
      rw [hz]
      exact hr
    · simp [conc, hs, locOf, spt]

theorem walk3  (w : World) (a0 : Option Addr) (len0 cap0 : Nat) (w0 : InInts w a0 len0 cap0) :
    Calls Try.prog 3 #[.slice a0 len0 cap0] w fun e w' => e = .returned (.bool true) ∧ Below w.heap.size w w' := by
  obtain ⟨v0, x0, h0, b0, o0, c0⟩ := in_ints (σ := fun n => locOf a0) (c := 1) (n := 0) (by decide) w0 (by simp [locOf])
  have ho : oks (fun n => locOf a0) 1 [v0] := ⟨o0, trivial⟩
  have k := true_calls calls3 (f := 3) (gam_ins w _ 1) ho (fun fn h => by rw [Try.func3] at h; cases h; rfl) (of_law _ v0 x0 h0 b0)
  have e : (concs (fun n => locOf a0) [v0]).toArray = #[.slice a0 len0 cap0] := by
    (simp only [concs, c0]) <;> simp [conc, concs]
  rw [e] at k
  exact k

namespace ropesOfDone
theorem own : ownKnob Try.prog.godebug = none := by kernel_rfl
theorem laidOut : laidOutB Try.prog = true := by kernel_rfl
theorem openI2 {W : World} {base : Nat} {v : Value} (hv : Value.okWide Try.prog W .any base 2 v) : ∃ z : Int, v = .int .i64 z ∧ In z := by
  simp only [Value.okWide, Try.underlying2, Cell.okWide, Cell.ok] at hv
  cases v <;> simp_all
  rename_i k z
  exact hv.2
/-- what is known of a slice of numbers among the arguments -/
theorem opened22 {H : Type} {enc : TypeId × Value → H} {W : World} {base : Nat} {a : Option Addr} {len cap : Nat} {d : DataW H} {p : List MemPlace} (hv : Value.okWide Try.prog W .any base 22 (.slice a len cap))
    (h0 : DataW.Trod enc Try.prog W 0 (fun _ => true) true 22 (.slice a len cap) d p) : InInts W a len cap := by
  obtain ⟨fuel, hf⟩ := h0
  rcases open_slice1 Try.underlying22 (by kernel_rfl) hf with ⟨hcs, _⟩ | ⟨x, l, c, m, n, V, D, Pl, hcs, _, hl, hm, hmm, _, hi⟩
  · simp [Value.cells] at hcs
    obtain ⟨rfl, rfl, rfl⟩ := hcs
    exact .inl ⟨rfl, rfl, rfl⟩
  · simp [Value.cells] at hcs
    obtain ⟨rfl, rfl, rfl⟩ := hcs
    simp only [Value.okWide, Try.underlying22, Cell.okWide, Cell.ok, World.has] at hv
    obtain ⟨_, _, _, hspot, _⟩ := hv
    obtain ⟨b, o, s⟩ := x
    simp only at hspot
    subst hspot
    refine .inr ⟨b, o, rfl, hl, fun i hil => ?_⟩
    obtain ⟨hc0, ht0⟩ := hi i (by simp at hmm; omega)
    obtain ⟨n0, e0, q0, q1⟩ := DataW.trod_int Try.underlying2 ht0
    rw [List.singleton_inj.1 e0, add_at] at hc0
    simp only [Lit.wf, Bool.and_eq_true, decide_eq_true_eq] at q1
    exact ⟨n0, hc0, q1⟩
set_option maxRecDepth 100000 in
theorem lifted (os : Os) (started : os.Started) (H : Type) (enc : TypeId × Value → H) :
    ReturnsInHanded {} Try.checked os 3 .any (Rows.ropesOfSpec.pre6 enc Try.prog Try.f3 Rows.ropesOfRow.domain false) (Rows.ropesOfSpec.post enc Try.prog Try.f3 false true false false) := by
  refine returnsInHanded_of_change (C := Try.checked) own started (by kernel_rfl) Try.func3
    (ChangeSpec.witness6 (enc := enc) (C := Try.checked) false ⟨#[], #[.slice none 0 0], []⟩ 8 (by kernel_rfl) (by kernel_rfl) (by kernel_rfl) (by kernel_rfl)) ?_
  intro W base args ds gs before hval0 hW hcnd _
  have hval : ∀ (j : Nat) t v, Try.f3.params[j]? = some t → args[j]? = some v → Value.okWide Try.prog W .any base t v := hval0
  have hW' := hW
  obtain ⟨p, q, hA0, hV, rfl, hfz, hnd⟩ := hW
  have hA : DataW.TrodAll enc Try.prog W 0 (fun _ => true) true Try.f3.params.toList args.toList ds p := hA0
  rw [Try.params3] at hA hval
  obtain ⟨v0, vs0, d0, ds0, p0, q0, hargs, rfl, rfl, h0, s0⟩ := trodAll_cons hA
  obtain ⟨rfl, rfl, rfl⟩ := trodAll_nil s0
  obtain rfl : args = #[v0] := by cases args; simp_all
  obtain ⟨rfl, rfl⟩ := trodVars_none hV
  have hv0 := hval 0 22 v0 rfl rfl
  have lt0 : ∀ x ∈ p0, x.block < W.heap.size := by obtain ⟨m, hm⟩ := h0; exact DataW.trod_lt m _ _ _ hm
  obtain ⟨a0, len0, cap0, rfl⟩ := okWide_slice Try.underlying22 hv0
  have w0 := opened22 hv0 h0
  clear hA0 hval0
  refine (walk3  W a0 len0 cap0 w0).mono fun e W' ⟨he, bel⟩ => ?_
  subst he
  exact ⟨_, rfl, _, _, _, [], _, [], hW', trodAll_mk1 (shut_bool Try.underlying4 _), (trodAll_cons_mk (Below.trod laidOut (by kernel_rfl) (of_decide_eq_true (by kernel_rfl)) h0 bel lt0) trodAll_mk0), rfl, bel.frame _, fun h => by cases h⟩

theorem over : Rows.ropesOfRow.holds Try.pinned (OpenSpec.ofChange Rows.ropesOfSpec) :=
  OpenClaim.holds_of_wide 3 Try.f3 rfl rfl rfl rfl rfl rfl rfl ⟨rfl, rfl, rfl, rfl, rfl⟩ rfl rfl rfl rfl rfl (by kernel_rfl) Try.func3 (by kernel_rfl)
    (of_decide_eq_true (by kernel_rfl)) (by unfold Func.isWrapper; first | (rw [if_pos (by decide +kernel)]; kernel_rfl) | (rw [if_neg (by decide +kernel)]; exact ⟨rfl, rfl⟩))
    (fun os started H enc _ => lifted os started H enc)
end ropesOfDone
/-- THE STATEMENT -/
theorem ropesOf_proved : Rows.RopesOfSaid := ropesOfDone.over
#print axioms ropesOf_proved
end Go.Proofs.Ytpioenfglmimgaa
