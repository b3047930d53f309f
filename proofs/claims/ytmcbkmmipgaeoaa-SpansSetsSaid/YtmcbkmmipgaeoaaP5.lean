/-
  The law SpansSets returns true, whatever two lists of marks it is given.
  There are no conditions.
-/
import Derived.Test.YtmcbkmmipgaeoaaRows
import Derived.Test.YtmcbkmmipgaeoaaX5
import Derived.Test.YtmcbkmmipgaeoaaLives
import Derived.WalkKit
import Derived.ProofKit
import Derived.OpenShut
import Derived.ShutString
import Derived.ChangeOld
import Derived.Below
import Derived.Deep.SlicePairs
import Derived.Deep.Grids
namespace Go.Proofs.Ytmcbkmmipgaeoaa
open Go Go.Proofs Go.Proofs.Abs
open Go.ChangeShapes Go.WideShapes Go.ChangeAt Go.RowKit Go.Deep
set_option linter.unusedSimpArgs false
set_option linter.unusedVariables false

theorem calls5 : CallOk Try.prog (fun f args h => funA ctx all8 5000 args h (ctx.funs.get f)) :=
  run_step tysOk funsOk mixed 5000 (plus_ok (fun f hf => by
    have h9 : f = 9 := Nat.eq_of_beq_eq_true hf
    subst h9
    have hfo := funsOk 9 Try.f9 (by kernel_rfl)
    exact ⟨⟨Try.f9, hfo.at_, rfl, hfo.name⟩, lives_true⟩) (run_ok tysOk funsOk mixed 5000 8))
/-- memory that came in, read at the places of some names -/
noncomputable def inHp (w : World) (σ : Nat → Abs.Loc) (c : Nat) : Hp := ⟨.leaf, c, fun n off => if n < c then (w.cell? ⟨(σ n).b, (σ n).o + off, none⟩).map AV.lit else none⟩
theorem gam_ins (w : World) (σ : Nat → Abs.Loc) (c : Nat) : Gam σ w.heap.size (inHp w σ c) w := by
  refine ⟨Nat.le_refl _, fun n b hn => (by cases hn), fun n m bn bm hn => (by cases hn), fun n off v hv => ?_⟩
  have hv' : (if n < c then (w.cell? ⟨(σ n).b, (σ n).o + off, none⟩).map AV.lit else none) = some v := hv
  split at hv'
  · rename_i hn
    cases hw : w.cell? ⟨(σ n).b, (σ n).o + off, none⟩ with
    | none => rw [hw] at hv'; cases hv'
    | some u =>
      rw [hw] at hv'
      cases hv'
      refine ⟨hn, rfl, trivial, ?_, by simp [conc]⟩
      cases hb : w.heap[(σ n).b]? with
      | none => simp [World.cell?, hb] at hw
      | some ob => exact (Array.getElem?_eq_some_iff.1 hb).1
  · cases hv'
/-- a slice of numbers that came in: it is nil, or it leads to a row of cells -/
def InInts (w : World) (a : Option Addr) (len cap : Nat) : Prop :=
  (a = none ∧ len = 0 ∧ cap = 0) ∨ ∃ b o, a = some ⟨b, o, none⟩ ∧ len ≤ cap ∧ ∀ i, i < len → ∃ x : Int, w.cell? ⟨b, o + i, none⟩ = some (.int .i64 x) ∧ In x
def cellInt : Option Value → Int
  | some (.int _ n) => n
  | _ => 0
def locOf : Option Addr → Abs.Loc
  | some a => ⟨a.block, a.off, 0⟩
  | none => ⟨0, 0, 0⟩
theorem in_ints {w : World} {σ : Nat → Abs.Loc} {c n : Nat} {a : Option Addr} {len cap : Nat} (hn : n < c) (h : InInts w a len cap) (hs : σ n = locOf a) :
    ∃ (v : AV) (xs : List Int), IsL (inHp w σ c) v (xs.map I) ∧ (∀ x ∈ xs, In x) ∧ v.ok σ c ∧ conc σ v = .slice a len cap := by
  rcases h with ⟨rfl, rfl, rfl⟩ | ⟨b, o, rfl, hle, hc⟩
  · exact ⟨nilS, [], .inl ⟨rfl, rfl⟩, fun x hx => (by cases hx), trivial, by simp [conc]⟩
  · have hl : ((List.range len).map fun i => cellInt (w.cell? ⟨b, o + i, none⟩)).length = len := by simp
    refine ⟨.slice n 0 len false cap 0, (List.range len).map fun i => cellInt (w.cell? ⟨b, o + i, none⟩), .inr ⟨n, 0, false, cap, 0, by rw [List.length_map, hl], hn, ?_⟩, ?_, ⟨hn, fun h => by cases h⟩, ?_⟩
    · intro i x hi
      rw [List.getElem?_map, Option.map_eq_some_iff] at hi
      obtain ⟨y, hy, rfl⟩ := hi
      have hil : i < len := by
        have := (List.getElem?_eq_some_iff.1 hy).1
        rwa [hl] at this
      obtain ⟨z, hz, _⟩ := hc i hil
      have hyz : y = z := by
        rw [List.getElem?_map, List.getElem?_range hil] at hy
        simp [hz, cellInt] at hy
        exact hy.symm
      subst hyz
      have e1 : (inHp w σ c).ro n i = some (I y) := by
        show (if n < c then (w.cell? ⟨(σ n).b, (σ n).o + i, none⟩).map AV.lit else none) = _
        rw [if_pos hn, hs]
        show (w.cell? ⟨b, o + i, none⟩).map AV.lit = _
        rw [hz]
        rfl
      rw [load_none rfl, roCells_succ, roCells_zero, Nat.zero_add, e1]
      rfl
    · intro x hx
      obtain ⟨i, hi, rfl⟩ := List.mem_map.1 hx
      obtain ⟨z, hz, hr⟩ := hc i (List.mem_range.1 hi)
      rw [hz]
      exact hr
    · simp [conc, hs, locOf]

/-- a slice of bools that came in: it is nil, or it leads to a row of cells -/
def InBools (w : World) (a : Option Addr) (len cap : Nat) : Prop :=
  (a = none ∧ len = 0 ∧ cap = 0) ∨ ∃ b o, a = some ⟨b, o, none⟩ ∧ len ≤ cap ∧ ∀ i, i < len → ∃ x : Bool, w.cell? ⟨b, o + i, none⟩ = some (.bool x)
def cellBool : Option Value → Bool
  | some (.bool b) => b
  | _ => false
theorem in_bools {w : World} {σ : Nat → Abs.Loc} {c n : Nat} {a : Option Addr} {len cap : Nat} (hn : n < c) (h : InBools w a len cap) (hs : σ n = locOf a) :
    ∃ (v : AV) (xs : List Bool), InB (inHp w σ c) v xs ∧ True ∧ v.ok σ c ∧ conc σ v = .slice a len cap := by
  rcases h with ⟨rfl, rfl, rfl⟩ | ⟨b, o, rfl, hle, hc⟩
  · exact ⟨nilS, [], .inl ⟨rfl, rfl⟩, trivial, trivial, by simp [conc]⟩
  · have hl : ((List.range len).map fun i => cellBool (w.cell? ⟨b, o + i, none⟩)).length = len := by simp
    refine ⟨.slice n 0 len false cap 0, (List.range len).map fun i => cellBool (w.cell? ⟨b, o + i, none⟩), .inr ⟨n, 0, cap, 0, by rw [hl], by rw [hl]; exact hle, hn, ?_⟩, trivial, ⟨hn, fun h => by cases h⟩, ?_⟩
    · intro i x hi
      rw [List.getElem?_map, Option.map_eq_some_iff] at hi
      obtain ⟨y, hy, rfl⟩ := hi
      have hil : i < len := by
        have := (List.getElem?_eq_some_iff.1 hy).1
        rwa [hl] at this
      obtain ⟨z, hz⟩ := hc i hil
      have hyz : y = z := by
        rw [List.getElem?_map, List.getElem?_range hil] at hy
        simp [hz, cellBool] at hy
        exact hy.symm
      subst hyz
      have e1 : (inHp w σ c).ro n i = some (Bo y) := by
        show (if n < c then (w.cell? ⟨(σ n).b, (σ n).o + i, none⟩).map AV.lit else none) = _
        rw [if_pos hn, hs]
        show (w.cell? ⟨b, o + i, none⟩).map AV.lit = _
        rw [hz]
        rfl
      rw [load_none rfl, roCells_succ, roCells_zero, Nat.zero_add, e1]
      rfl
    · simp [conc, hs, locOf]

theorem walk5  (w : World) (a0 : Option Addr) (len0 cap0 : Nat) (w0 : InBools w a0 len0 cap0) (a1 : Option Addr) (len1 cap1 : Nat) (w1 : InBools w a1 len1 cap1) :
    Calls Try.prog 5 #[.agg #[.slice a0 len0 cap0], .agg #[.slice a1 len1 cap1]] w fun e w' => e = .returned (.bool true) ∧ Below w.heap.size w w' := by
  obtain ⟨v0, x0, h0, b0, o0, c0⟩ := in_bools (σ := fun n => if n = 0 then locOf a0 else locOf a1) (c := 2) (n := 0) (by decide) w0 (by simp [locOf])
  obtain ⟨v1, x1, h1, b1, o1, c1⟩ := in_bools (σ := fun n => if n = 0 then locOf a0 else locOf a1) (c := 2) (n := 1) (by decide) w1 (by simp [locOf])
  have ho : oks (fun n => if n = 0 then locOf a0 else locOf a1) 2 [.agg [v0], .agg [v1]] := ⟨⟨o0, trivial⟩, ⟨o1, trivial⟩, trivial⟩
  have k := true_calls calls5 (f := 5) (gam_ins w _ 2) ho (fun fn h => by rw [Try.func5] at h; cases h; rfl) (sets_law _ v0 x0 v1 x1 h0 b0 h1 b1)
  have e : (concs (fun n => if n = 0 then locOf a0 else locOf a1) [.agg [v0], .agg [v1]]).toArray = #[.agg #[.slice a0 len0 cap0], .agg #[.slice a1 len1 cap1]] := by
    (simp only [concs, c0, c1]) <;> simp [conc, concs, c0, c1]
  rw [e] at k
  exact k

namespace spansSetsDone
theorem own : ownKnob Try.prog.godebug = none := by kernel_rfl
theorem laidOut : laidOutB Try.prog = true := by kernel_rfl
/-- what is known of a struct with a slice of bools among the arguments -/
theorem opened41 {H : Type} {enc : TypeId × Value → H} {W : World} {base : Nat} {v : Value} {d : DataW H} {p : List MemPlace} (hv : Value.okWide Try.prog W .any base 41 v)
    (h0 : DataW.Trod enc Try.prog W 0 (fun _ => true) true 41 v d p) : ∃ a len cap, v = .agg #[.slice a len cap] ∧ InBools W a len cap := by
  simp only [Value.okWide, Try.underlying41] at hv
  obtain ⟨cs, rfl, hsz, ts, hts, _, hall⟩ := hv
  have hA : Try.prog.cellTypes Try.prog.depth 41 = some [39] := by kernel_rfl
  have hB : Try.prog.cellsOf 41 = 1 := by kernel_rfl
  rw [hA] at hts
  cases hts
  rw [hB] at hsz
  obtain ⟨l⟩ := cs
  match l, hsz with
  | [y], _ =>
    obtain ⟨u, hu, hc⟩ := hall 0 y rfl
    cases hu
    obtain ⟨fuel, hf⟩ := h0
    obtain ⟨y0, n, _, _, hf2⟩ := trod_struct1 Try.underlying41 hf
    have hcc : Try.prog.cellsOf 39 = 1 := by kernel_rfl
    have hf3 : DataW.trod enc Try.prog W 0 (fun _ => true) true n 39 [y] = some y0 := by simpa [Value.cells, hcc] using hf2
    rcases open_bools Try.underlying39 Try.underlying4 (by kernel_rfl) hf3 with ⟨hcs, _⟩ | ⟨a, len, cap, B, hcs, _, hl, _, _, hi⟩
    · rw [List.singleton_inj.1 hcs]
      exact ⟨none, 0, 0, rfl, .inl ⟨rfl, rfl, rfl⟩⟩
    · have hy := List.singleton_inj.1 hcs
      subst hy
      simp only [Cell.okWide, Try.underlying39, Cell.ok, World.has] at hc
      obtain ⟨_, _, _, hspot, _⟩ := hc
      obtain ⟨b, o, s⟩ := a
      simp only at hspot
      subst hspot
      refine ⟨_, len, cap, rfl, .inr ⟨b, o, rfl, hl, fun i hil => ⟨B i, ?_⟩⟩⟩
      have := hi i (by omega)
      rwa [add_at] at this
set_option maxRecDepth 100000 in
theorem lifted (os : Os) (started : os.Started) (H : Type) (enc : TypeId × Value → H) :
    ReturnsInHanded {} Try.checked os 5 .any (Rows.spansSetsSpec.pre6 enc Try.prog Try.f5 Rows.spansSetsRow.domain false) (Rows.spansSetsSpec.post enc Try.prog Try.f5 false true false false) := by
  refine returnsInHanded_of_change (C := Try.checked) own started (by kernel_rfl) Try.func5
    (ChangeSpec.witness6 (enc := enc) (C := Try.checked) false ⟨#[], #[.agg #[.slice none 0 0], .agg #[.slice none 0 0]], []⟩ 8 (by kernel_rfl) (by kernel_rfl) (by kernel_rfl) (by kernel_rfl)) ?_
  intro W base args ds gs before hval0 hW hcnd _
  have hval : ∀ (j : Nat) t v, Try.f5.params[j]? = some t → args[j]? = some v → Value.okWide Try.prog W .any base t v := hval0
  have hW' := hW
  obtain ⟨p, q, hA0, hV, rfl, hfz, hnd⟩ := hW
  have hA : DataW.TrodAll enc Try.prog W 0 (fun _ => true) true Try.f5.params.toList args.toList ds p := hA0
  rw [Try.params5] at hA hval
  obtain ⟨v0, vs0, d0, ds0, p0, q0, hargs, rfl, rfl, h0, s0⟩ := trodAll_cons hA
  obtain ⟨v1, vs1, d1, ds1, p1, q1, rfl, rfl, rfl, h1, s1⟩ := trodAll_cons s0
  obtain ⟨rfl, rfl, rfl⟩ := trodAll_nil s1
  obtain rfl : args = #[v0, v1] := by cases args; simp_all
  obtain ⟨rfl, rfl⟩ := trodVars_none hV
  have hv0 := hval 0 41 v0 rfl rfl
  have lt0 : ∀ x ∈ p0, x.block < W.heap.size := by obtain ⟨m, hm⟩ := h0; exact DataW.trod_lt m _ _ _ hm
  obtain ⟨a0, len0, cap0, rfl, w0⟩ := opened41 hv0 h0
  have hv1 := hval 1 41 v1 rfl rfl
  have lt1 : ∀ x ∈ p1, x.block < W.heap.size := by obtain ⟨m, hm⟩ := h1; exact DataW.trod_lt m _ _ _ hm
  obtain ⟨a1, len1, cap1, rfl, w1⟩ := opened41 hv1 h1
  clear hA0 hval0
  refine (walk5  W a0 len0 cap0 w0 a1 len1 cap1 w1).mono fun e W' ⟨he, bel⟩ => ?_
  subst he
  exact ⟨_, rfl, _, _, _, [], _, [], hW', trodAll_mk1 (shut_bool Try.underlying4 _), (trodAll_cons_mk (Below.trod laidOut (by kernel_rfl) (of_decide_eq_true (by kernel_rfl)) h0 bel lt0) (trodAll_cons_mk (Below.trod laidOut (by kernel_rfl) (of_decide_eq_true (by kernel_rfl)) h1 bel lt1) trodAll_mk0)), rfl, bel.frame _, fun h => by cases h⟩

theorem over : Rows.spansSetsRow.holds Try.pinned (OpenSpec.ofChange Rows.spansSetsSpec) :=
  OpenClaim.holds_of_wide 5 Try.f5 rfl rfl rfl rfl rfl rfl rfl ⟨rfl, rfl, rfl, rfl, rfl⟩ rfl rfl rfl rfl rfl (by kernel_rfl) Try.func5 (by kernel_rfl)
    (of_decide_eq_true (by kernel_rfl)) (by unfold Func.isWrapper; first | (rw [if_pos (by decide +kernel)]; kernel_rfl) | (rw [if_neg (by decide +kernel)]; exact ⟨rfl, rfl⟩))
    (fun os started H enc _ => lifted os started H enc)
end spansSetsDone
/-- THE STATEMENT -/
theorem spansSets_proved : Rows.SpansSetsSaid := spansSetsDone.over
#print axioms spansSets_proved
end Go.Proofs.Ytmcbkmmipgaeoaa
