/-
  The law RemapsCheck returns true, whatever map and number it is given.
  There are no conditions.
-/
import Derived.Test.YtdbajhklnaekjaaRows
import Derived.Test.YtdbajhklnaekjaaJ8
import Derived.Test.YtdbajhklnaekjaaLives
import Derived.WalkKit
import Derived.ProofKit
import Derived.OpenShut
import Derived.ShutString
import Derived.ChangeOld
import Derived.Below
import Derived.Deep.SlicePairs
import Derived.Deep.Grids
namespace Go.Proofs.Ytdbajhklnaekjaa
open Go Go.Proofs Go.Proofs.Abs
open Go.ChangeShapes Go.WideShapes Go.ChangeAt Go.RowKit Go.Deep
set_option linter.unusedSimpArgs false
set_option linter.unusedVariables false

theorem calls3 : CallOk Try.prog (fun f args h => funA ctx all8 5000 args h (ctx.funs.get f)) :=
  run_step tysOk funsOk mixed 5000 (plus_ok (fun f hf => by
    have h9 : f = 9 := Nat.eq_of_beq_eq_true hf
    subst h9
    have hfo := funsOk 9 Try.f9 (by kernel_rfl)
    exact ⟨⟨Try.f9, hfo.at_, rfl, hfo.name⟩, lives_true⟩) (run_ok tysOk funsOk mixed 5000 8))
/-- memory that came in, read at the places of some names -/
noncomputable def inHp (w : World) (σ : Nat → Abs.Loc) (c : Nat) : Hp := ⟨.leaf, c, fun n off => if n < c then (w.cell? ⟨(σ n).b, (σ n).o + off, none⟩).map AV.lit else none⟩
theorem gam_ins (w : World) (σ : Nat → Abs.Loc) (c : Nat) : Gam σ w.heap.size (inHp w σ c) w := by
  refine ⟨Nat.le_refl _, fun n b hn => (by cases hn), fun n m bn bm hn => (by cases hn), fun n off v hv => ?_⟩
  have hv' : (if n < c then (w.cell? ⟨(σ n).b, (σ n).o + off, none⟩).map AV.lit else none) = some v := hv
  split at hv'
  · rename_i hn
    cases hw : w.cell? ⟨(σ n).b, (σ n).o + off, none⟩ with
    | none => rw [hw] at hv'; cases hv'
    | some u =>
      rw [hw] at hv'
      cases hv'
      refine ⟨hn, rfl, trivial, ?_, by simp [conc]⟩
      cases hb : w.heap[(σ n).b]? with
      | none => simp [World.cell?, hb] at hw
      | some ob => exact (Array.getElem?_eq_some_iff.1 hb).1
  · cases hv'
/-- a slice of numbers that came in: it is nil, or it leads to a row of cells -/
def InInts (w : World) (a : Option Addr) (len cap : Nat) : Prop :=
  (a = none ∧ len = 0 ∧ cap = 0) ∨ ∃ b o, a = some ⟨b, o, none⟩ ∧ len ≤ cap ∧ ∀ i, i < len → ∃ x : Int, w.cell? ⟨b, o + i, none⟩ = some (.int .i64 x) ∧ In x
def cellInt : Option Value → Int
  | some (.int _ n) => n
  | _ => 0
def locOf : Option Addr → Abs.Loc
  | some a => ⟨a.block, a.off, 0⟩
  | none => ⟨0, 0, 0⟩
theorem in_ints {w : World} {σ : Nat → Abs.Loc} {c n : Nat} {a : Option Addr} {len cap : Nat} (hn : n < c) (h : InInts w a len cap) (hs : σ n = locOf a) :
    ∃ (v : AV) (xs : List Int), IsL (inHp w σ c) v (xs.map I) ∧ (∀ x ∈ xs, In x) ∧ v.ok σ c ∧ conc σ v = .slice a len cap := by
  rcases h with ⟨rfl, rfl, rfl⟩ | ⟨b, o, rfl, hle, hc⟩
  · exact ⟨nilS, [], .inl ⟨rfl, rfl⟩, fun x hx => (by cases hx), trivial, by simp [conc]⟩
  · have hl : ((List.range len).map fun i => cellInt (w.cell? ⟨b, o + i, none⟩)).length = len := by simp
    refine ⟨.slice n 0 len false cap 0, (List.range len).map fun i => cellInt (w.cell? ⟨b, o + i, none⟩), .inr ⟨n, 0, false, cap, 0, by rw [List.length_map, hl], hn, ?_⟩, ?_, ⟨hn, fun h => by cases h⟩, ?_⟩
    · intro i x hi
      rw [List.getElem?_map, Option.map_eq_some_iff] at hi
      obtain ⟨y, hy, rfl⟩ := hi
      have hil : i < len := by
        have := (List.getElem?_eq_some_iff.1 hy).1
        rwa [hl] at this
      obtain ⟨z, hz, _⟩ := hc i hil
      have hyz : y = z := by
        rw [List.getElem?_map, List.getElem?_range hil] at hy
        simp [hz, cellInt] at hy
        exact hy.symm
      subst hyz
      have e1 : (inHp w σ c).ro n i = some (I y) := by
        show (if n < c then (w.cell? ⟨(σ n).b, (σ n).o + i, none⟩).map AV.lit else none) = _
        rw [if_pos hn, hs]
        show (w.cell? ⟨b, o + i, none⟩).map AV.lit = _
        rw [hz]
        rfl
      rw [load_none rfl, roCells_succ, roCells_zero, Nat.zero_add, e1]
      rfl
    · intro x hx
      obtain ⟨i, hi, rfl⟩ := List.mem_map.1 hx
      obtain ⟨z, hz, hr⟩ := hc i (List.mem_range.1 hi)
      rw [hz]
      exact hr
    · simp [conc, hs, locOf]

theorem walk3 (z0 : Int) (r0 : In z0) (z1 : Int) (r1 : In z1) (w : World) (a0 : Option Addr) (len0 cap0 : Nat) (w0 : InInts w a0 len0 cap0) :
    Calls Try.prog 3 #[.agg #[.int .i64 z0, .slice a0 len0 cap0], .int .i64 z1] w fun e w' => e = .returned (.bool true) ∧ Below w.heap.size w w' := by
  obtain ⟨v0, x0, h0, b0, o0, c0⟩ := in_ints (σ := fun n => locOf a0) (c := 1) (n := 0) (by decide) w0 (by simp [locOf])
  have ho : oks (fun n => locOf a0) 1 [.agg [I z0, v0], I z1] := ⟨⟨trivial, o0, trivial⟩, trivial, trivial⟩
  have k := true_calls calls3 (f := 3) (gam_ins w _ 1) ho (fun fn h => by rw [Try.func3] at h; cases h; rfl) (check_law _ z0 v0 x0 z1 r0 h0 b0 r1)
  have e : (concs (fun n => locOf a0) [.agg [I z0, v0], I z1]).toArray = #[.agg #[.int .i64 z0, .slice a0 len0 cap0], .int .i64 z1] := by
    (simp only [concs, c0]) <;> simp [conc, concs, c0]
  rw [e] at k
  exact k

namespace remapsCheckDone
theorem own : ownKnob Try.prog.godebug = none := by kernel_rfl
theorem laidOut : laidOutB Try.prog = true := by kernel_rfl
theorem openI3 {W : World} {base : Nat} {v : Value} (hv : Value.okWide Try.prog W .any base 3 v) : ∃ z : Int, v = .int .i64 z ∧ In z := by
  simp only [Value.okWide, Try.underlying3, Cell.okWide, Cell.ok] at hv
  cases v <;> simp_all
  rename_i k z
  exact hv.2
/-- what is known of a slice of numbers among the arguments -/
theorem opened22 {H : Type} {enc : TypeId × Value → H} {W : World} {base : Nat} {a : Option Addr} {len cap : Nat} {d : DataW H} {p : List MemPlace} (hv : Value.okWide Try.prog W .any base 22 (.slice a len cap))
    (h0 : DataW.Trod enc Try.prog W 0 (fun _ => true) true 22 (.slice a len cap) d p) : InInts W a len cap := by
  obtain ⟨fuel, hf⟩ := h0
  rcases open_slice1 Try.underlying22 (by kernel_rfl) hf with ⟨hcs, _⟩ | ⟨x, l, c, m, n, V, D, Pl, hcs, _, hl, hm, hmm, _, hi⟩
  · simp [Value.cells] at hcs
    obtain ⟨rfl, rfl, rfl⟩ := hcs
    exact .inl ⟨rfl, rfl, rfl⟩
  · simp [Value.cells] at hcs
    obtain ⟨rfl, rfl, rfl⟩ := hcs
    simp only [Value.okWide, Try.underlying22, Cell.okWide, Cell.ok, World.has] at hv
    obtain ⟨_, _, _, hspot, _⟩ := hv
    obtain ⟨b, o, s⟩ := x
    simp only at hspot
    subst hspot
    refine .inr ⟨b, o, rfl, hl, fun i hil => ?_⟩
    obtain ⟨hc0, ht0⟩ := hi i (by simp at hmm; omega)
    obtain ⟨n0, e0, q0, q1⟩ := DataW.trod_int Try.underlying3 ht0
    rw [List.singleton_inj.1 e0, add_at] at hc0
    simp only [Lit.wf, Bool.and_eq_true, decide_eq_true_eq] at q1
    exact ⟨n0, hc0, q1⟩
/-- what is known of a struct with a number and a slice of numbers among the arguments -/
theorem opened24 {H : Type} {enc : TypeId × Value → H} {W : World} {base : Nat} {v : Value} {d : DataW H} {p : List MemPlace} (hv : Value.okWide Try.prog W .any base 24 v)
    (h0 : DataW.Trod enc Try.prog W 0 (fun _ => true) true 24 v d p) : ∃ z a len cap, v = .agg #[.int .i64 z, .slice a len cap] ∧ In z ∧ InInts W a len cap := by
  simp only [Value.okWide, Try.underlying24] at hv
  obtain ⟨cs, rfl, hsz, ts, hts, _, hall⟩ := hv
  have hA : Try.prog.cellTypes Try.prog.depth 24 = some [3, 22] := by kernel_rfl
  have hB : Try.prog.cellsOf 24 = 2 := by kernel_rfl
  rw [hA] at hts
  cases hts
  rw [hB] at hsz
  obtain ⟨l⟩ := cs
  match l, hsz with
  | [x, y], _ =>
    obtain ⟨u0, hu0, hc0⟩ := hall 0 x rfl
    cases hu0
    obtain ⟨u, hu, hc⟩ := hall 1 y rfl
    cases hu
    have hx : ∃ z : Int, x = .int .i64 z ∧ In z := by
      simp only [Cell.okWide, Try.underlying3, Cell.ok] at hc0
      cases x <;> simp_all
      rename_i k z
      exact hc0.2
    obtain ⟨z, rfl, hz⟩ := hx
    obtain ⟨fuel, hf⟩ := h0
    obtain ⟨y0, y1, n, _, _, _, hf2⟩ := trod_struct2 Try.underlying24 hf
    have hcc : Try.prog.cellsOf 22 = 1 := by kernel_rfl
    have hf3 : DataW.trod enc Try.prog W 0 (fun _ => true) true n 22 [y] = some y1 := by simpa [Value.cells, hcc] using hf2
    have hc' := hc
    simp only [Cell.okWide, Try.underlying22, Cell.ok, World.has] at hc
    rcases open_slice1 Try.underlying22 (by kernel_rfl) hf3 with ⟨hcs, _⟩ | ⟨a, len, cap, m, n, V, D, Pl, hcs, _, hl, hm, hmm, _, hi⟩
    · rw [List.singleton_inj.1 hcs]
      exact ⟨z, none, 0, 0, rfl, hz, .inl ⟨rfl, rfl, rfl⟩⟩
    · have hy := List.singleton_inj.1 hcs
      subst hy
      obtain ⟨_, _, _, hspot, _⟩ := hc
      obtain ⟨b, o, s⟩ := a
      simp only at hspot
      subst hspot
      refine ⟨z, _, len, cap, rfl, hz, .inr ⟨b, o, rfl, hl, fun i hil => ?_⟩⟩
      obtain ⟨hc0, ht0⟩ := hi i (by simp at hmm; omega)
      obtain ⟨n0, e0, q0, q1⟩ := DataW.trod_int Try.underlying3 ht0
      rw [List.singleton_inj.1 e0, add_at] at hc0
      simp only [Lit.wf, Bool.and_eq_true, decide_eq_true_eq] at q1
      exact ⟨n0, hc0, q1⟩
set_option maxRecDepth 100000 in
theorem lifted (os : Os) (started : os.Started) (H : Type) (enc : TypeId × Value → H) :
    ReturnsInHanded {} Try.checked os 3 .any (Rows.remapsCheckSpec.pre6 enc Try.prog Try.f3 Rows.remapsCheckRow.domain false) (Rows.remapsCheckSpec.post enc Try.prog Try.f3 false true false false) := by
  refine returnsInHanded_of_change (C := Try.checked) own started (by kernel_rfl) Try.func3
    (ChangeSpec.witness6 (enc := enc) (C := Try.checked) false ⟨#[], #[.agg #[.int .i64 0, .slice none 0 0], .int .i64 0], []⟩ 8 (by kernel_rfl) (by kernel_rfl) (by kernel_rfl) (by kernel_rfl)) ?_
  intro W base args ds gs before hval0 hW hcnd _
  have hval : ∀ (j : Nat) t v, Try.f3.params[j]? = some t → args[j]? = some v → Value.okWide Try.prog W .any base t v := hval0
  have hW' := hW
  obtain ⟨p, q, hA0, hV, rfl, hfz, hnd⟩ := hW
  have hA : DataW.TrodAll enc Try.prog W 0 (fun _ => true) true Try.f3.params.toList args.toList ds p := hA0
  rw [Try.params3] at hA hval
  obtain ⟨v0, vs0, d0, ds0, p0, q0, hargs, rfl, rfl, h0, s0⟩ := trodAll_cons hA
  obtain ⟨v1, vs1, d1, ds1, p1, q1, rfl, rfl, rfl, h1, s1⟩ := trodAll_cons s0
  obtain ⟨rfl, rfl, rfl⟩ := trodAll_nil s1
  obtain rfl : args = #[v0, v1] := by cases args; simp_all
  obtain ⟨rfl, rfl⟩ := trodVars_none hV
  have hv0 := hval 0 24 v0 rfl rfl
  have lt0 : ∀ x ∈ p0, x.block < W.heap.size := by obtain ⟨m, hm⟩ := h0; exact DataW.trod_lt m _ _ _ hm
  obtain ⟨z0, a0, len0, cap0, rfl, r0, w0⟩ := opened24 hv0 h0
  have hv1 := hval 1 3 v1 rfl rfl
  have lt1 : ∀ x ∈ p1, x.block < W.heap.size := by obtain ⟨m, hm⟩ := h1; exact DataW.trod_lt m _ _ _ hm
  obtain ⟨z1, rfl, r1⟩ := openI3 hv1
  clear hA0 hval0
  refine (walk3 z0 r0 z1 r1 W a0 len0 cap0 w0).mono fun e W' ⟨he, bel⟩ => ?_
  subst he
  exact ⟨_, rfl, _, _, _, [], _, [], hW', trodAll_mk1 (shut_bool Try.underlying4 _), (trodAll_cons_mk (Below.trod laidOut (by kernel_rfl) (of_decide_eq_true (by kernel_rfl)) h0 bel lt0) (trodAll_cons_mk (Below.trod laidOut (by kernel_rfl) (of_decide_eq_true (by kernel_rfl)) h1 bel lt1) trodAll_mk0)), rfl, bel.frame _, fun h => by cases h⟩

theorem over : Rows.remapsCheckRow.holds Try.pinned (OpenSpec.ofChange Rows.remapsCheckSpec) :=
  OpenClaim.holds_of_wide 3 Try.f3 rfl rfl rfl rfl rfl rfl rfl ⟨rfl, rfl, rfl, rfl, rfl⟩ rfl rfl rfl rfl rfl (by kernel_rfl) Try.func3 (by kernel_rfl)
    (of_decide_eq_true (by kernel_rfl)) (by unfold Func.isWrapper; first | (rw [if_pos (by decide +kernel)]; kernel_rfl) | (rw [if_neg (by decide +kernel)]; exact ⟨rfl, rfl⟩))
    (fun os started H enc _ => lifted os started H enc)
end remapsCheckDone
/-- THE STATEMENT -/
theorem remapsCheck_proved : Rows.RemapsCheckSaid := remapsCheckDone.over
#print axioms remapsCheck_proved
end Go.Proofs.Ytdbajhklnaekjaa
