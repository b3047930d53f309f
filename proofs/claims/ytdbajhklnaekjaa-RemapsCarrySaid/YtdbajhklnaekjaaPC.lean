/-
  The law RemapsCarry returns true, whatever changes and numbers it is given.
  There are no conditions.
-/
import Derived.Test.YtdbajhklnaekjaaRows
import Derived.Test.YtdbajhklnaekjaaRM
import Derived.Test.YtdbajhklnaekjaaLives
import Derived.WalkKit
import Derived.ProofKit
import Derived.OpenShut
import Derived.ShutString
import Derived.ChangeOld
import Derived.Below
import Derived.Deep.SlicePairs
import Derived.Deep.Grids
import Derived.Deep.Strs
namespace Go.Proofs.Ytdbajhklnaekjaa
open Go Go.Proofs Go.Proofs.Abs
open Go.ChangeShapes Go.WideShapes Go.ChangeAt Go.RowKit Go.Deep
set_option linter.unusedSimpArgs false
set_option linter.unusedVariables false

theorem calls7 : CallOk Try.prog (fun f args h => funA ctx all8 5000 args h (ctx.funs.get f)) :=
  run_step tysOk funsOk mixed 5000 (plus_ok (fun f hf => by
    have h9 : f = 9 := Nat.eq_of_beq_eq_true hf
    subst h9
    have hfo := funsOk 9 Try.f9 (by kernel_rfl)
    exact ⟨⟨Try.f9, hfo.at_, rfl, hfo.name⟩, lives_true⟩) (run_ok tysOk funsOk mixed 5000 8))
/-- memory that came in, read at the places of some names -/
noncomputable def inHp (w : World) (σ : Nat → Abs.Loc) (c : Nat) : Hp := ⟨.leaf, c, fun n off => if n < c then (w.cell? ⟨(σ n).b, (σ n).o + off, none⟩).map AV.lit else none⟩
theorem gam_ins (w : World) (σ : Nat → Abs.Loc) (c : Nat) : Gam σ (below w.heap.size) (inHp w σ c) w := by
  refine ⟨fun _ h => h, fun n b hn => (by cases hn), fun n m bn bm hn => (by cases hn), fun n off v hv => ?_⟩
  have hv' : (if n < c then (w.cell? ⟨(σ n).b, (σ n).o + off, none⟩).map AV.lit else none) = some v := hv
  split at hv'
  · rename_i hn
    cases hw : w.cell? ⟨(σ n).b, (σ n).o + off, none⟩ with
    | none => rw [hw] at hv'; cases hv'
    | some u =>
      rw [hw] at hv'
      cases hv'
      refine ⟨hn, rfl, trivial, ?_, by simp [conc]⟩
      cases hb : w.heap[(σ n).b]? with
      | none => simp [World.cell?, hb] at hw
      | some ob => exact (Array.getElem?_eq_some_iff.1 hb).1
  · cases hv'
/-- a slice of numbers that came in: it is nil, or it leads to a row of cells -/
def InInts (w : World) (a : Option Addr) (len cap : Nat) : Prop :=
  (a = none ∧ len = 0 ∧ cap = 0) ∨ ∃ b o, a = some ⟨b, o, none⟩ ∧ len ≤ cap ∧ ∀ i, i < len → ∃ x : Int, w.cell? ⟨b, o + i, none⟩ = some (.int .i64 x) ∧ In x
def cellInt : Option Value → Int
  | some (.int _ n) => n
  | _ => 0
def locOf : Option Addr → Abs.Loc
  | some a => ⟨a.block, a.off, 0⟩
  | none => ⟨0, 0, 0⟩
theorem in_ints {w : World} {σ : Nat → Abs.Loc} {c n : Nat} {a : Option Addr} {len cap : Nat} (hn : n < c) (h : InInts w a len cap) (hs : σ n = locOf a) :
    ∃ (v : AV) (xs : List Int), IsL (inHp w σ c) v (xs.map I) ∧ (∀ x ∈ xs, In x) ∧ v.ok σ c ∧ conc σ v = .slice a len cap := by
  rcases h with ⟨rfl, rfl, rfl⟩ | ⟨b, o, rfl, hle, hc⟩
  · exact ⟨nilS, [], .inl ⟨rfl, rfl⟩, fun x hx => (by cases hx), trivial, by simp [conc]⟩
  · have hl : ((List.range len).map fun i => cellInt (w.cell? ⟨b, o + i, none⟩)).length = len := by simp
    refine ⟨.slice n 0 len false cap 0, (List.range len).map fun i => cellInt (w.cell? ⟨b, o + i, none⟩), .inr ⟨n, 0, false, cap, 0, by rw [List.length_map, hl], hn, ?_⟩, ?_, ⟨hn, fun h => by cases h⟩, ?_⟩
    · intro i x hi
      rw [List.getElem?_map, Option.map_eq_some_iff] at hi
      obtain ⟨y, hy, rfl⟩ := hi
      have hil : i < len := by
        have := (List.getElem?_eq_some_iff.1 hy).1
        rwa [hl] at this
      obtain ⟨z, hz, _⟩ := hc i hil
      have hyz : y = z := by
        rw [List.getElem?_map, List.getElem?_range hil] at hy
        simp [hz, cellInt] at hy
        exact hy.symm
      subst hyz
      have e1 : (inHp w σ c).ro n i = some (I y) := by
        show (if n < c then (w.cell? ⟨(σ n).b, (σ n).o + i, none⟩).map AV.lit else none) = _
        rw [if_pos hn, hs]
        show (w.cell? ⟨b, o + i, none⟩).map AV.lit = _
        rw [hz]
        rfl
      rw [load_none rfl, roCells_succ, roCells_zero, Nat.zero_add, e1]
      rfl
    · intro x hx
      obtain ⟨i, hi, rfl⟩ := List.mem_map.1 hx
      obtain ⟨z, hz, hr⟩ := hc i (List.mem_range.1 hi)
      rw [hz]
      exact hr
    · simp [conc, hs, locOf]

/-- a slice of rows of four small numbers that came in -/
def InR4 (w : World) (a : Option Addr) (len cap : Nat) : Prop :=
  (a = none ∧ len = 0 ∧ cap = 0) ∨ ∃ b o, a = some ⟨b, o, none⟩ ∧ len ≤ cap ∧ ∀ i, i < len → ∃ x : Q4, w.cell? ⟨b, o + i * 4, none⟩ = some (.int .u8 x.1) ∧ w.cell? ⟨b, o + (i * 4 + 1), none⟩ = some (.int .u8 x.2.1) ∧ w.cell? ⟨b, o + (i * 4 + 1 + 1), none⟩ = some (.int .u8 x.2.2.1) ∧ w.cell? ⟨b, o + (i * 4 + 1 + 1 + 1), none⟩ = some (.int .u8 x.2.2.2) ∧ x.ok
theorem in_r4 {w : World} {σ : Nat → Abs.Loc} {c n : Nat} {a : Option Addr} {len cap : Nat} (hn : n < c) (h : InR4 w a len cap) (hs : σ n = locOf a) :
    ∃ (v : AV) (xs : List Q4), IsR c4 4 (inHp w σ c) v xs ∧ (∀ x ∈ xs, x.ok) ∧ v.ok σ c ∧ conc σ v = .slice a len cap := by
  rcases h with ⟨rfl, rfl, rfl⟩ | ⟨b, o, rfl, hle, hc⟩
  · exact ⟨nilS, [], .inl ⟨rfl, rfl⟩, fun x hx => (by cases hx), trivial, by simp [conc]⟩
  · have hex : ∀ i, ∃ x : Q4, i < len → w.cell? ⟨b, o + i * 4, none⟩ = some (.int .u8 x.1) ∧ w.cell? ⟨b, o + (i * 4 + 1), none⟩ = some (.int .u8 x.2.1) ∧ w.cell? ⟨b, o + (i * 4 + 1 + 1), none⟩ = some (.int .u8 x.2.2.1) ∧ w.cell? ⟨b, o + (i * 4 + 1 + 1 + 1), none⟩ = some (.int .u8 x.2.2.2) ∧ x.ok := fun i => by
      by_cases hi : i < len
      · obtain ⟨x, hx⟩ := hc i hi
        exact ⟨x, fun _ => hx⟩
      · exact ⟨(0, 0, 0, 0), fun h => absurd h hi⟩
    obtain ⟨X, hX⟩ := Classical.skolem.1 hex
    have hl : ((List.range len).map X).length = len := by simp
    refine ⟨.slice n 0 len false cap 0, (List.range len).map X, .inr ⟨n, 0, false, cap, 0, by rw [hl], hn, ?_⟩, ?_, ⟨hn, fun h => by cases h⟩, ?_⟩
    · intro i x hi
      have hil : i < len := by
        have := (List.getElem?_eq_some_iff.1 hi).1
        rwa [hl] at this
      have hx : X i = x := by
        rw [List.getElem?_map, List.getElem?_range hil] at hi
        exact Option.some.inj hi
      obtain ⟨h0, h1, h2, h3, _⟩ := hX i hil
      rw [hx] at h0 h1 h2 h3
      have e : ∀ k u, w.cell? ⟨b, o + k, none⟩ = some u → (inHp w σ c).ro n k = some (.lit u) := fun k u hu => by
        show (if n < c then (w.cell? ⟨(σ n).b, (σ n).o + k, none⟩).map AV.lit else none) = _
        rw [if_pos hn, hs]
        show (w.cell? ⟨b, o + k, none⟩).map AV.lit = _
        rw [hu]
        rfl
      rw [load_none rfl, Nat.zero_add, roCells_succ, roCells_succ, roCells_succ, roCells_succ, roCells_zero, e _ _ h0, e _ _ h1, e _ _ h2, e _ _ h3]
      rfl
    · intro x hx
      obtain ⟨i, hi, rfl⟩ := List.mem_map.1 hx
      exact (hX i (List.mem_range.1 hi)).2.2.2.2
    · simp [conc, hs, locOf]

theorem walk7 (z0 : Int) (r0 : Inu8 z0) (z2 : Int) (r2 : In z2) (w : World) (a0 : Option Addr) (len0 cap0 : Nat) (w0 : InR4 w a0 len0 cap0) (a1 : Option Addr) (len1 cap1 : Nat) (w1 : InR4 w a1 len1 cap1) :
    Calls Try.prog 7 #[.agg #[.int .u8 z0, .slice a0 len0 cap0], .slice a1 len1 cap1, .int .i64 z2] w fun e w' => e = .returned (.bool true) ∧ Below w.heap.size w w' := by
  obtain ⟨v0, x0, h0, b0, o0, c0⟩ := in_r4 (σ := fun n => if n = 0 then locOf a0 else locOf a1) (c := 2) (n := 0) (by decide) w0 (by simp [locOf])
  obtain ⟨v1, x1, h1, b1, o1, c1⟩ := in_r4 (σ := fun n => if n = 0 then locOf a0 else locOf a1) (c := 2) (n := 1) (by decide) w1 (by simp [locOf])
  have ho : oks (fun n => if n = 0 then locOf a0 else locOf a1) 2 [.agg [.lit (.int .u8 z0), v0], v1, I z2] := ⟨⟨trivial, o0, trivial⟩, o1, trivial, trivial⟩
  have k := true_calls calls7 (f := 7) (gam_ins w _ 2) ho (fun fn h => by rw [Try.func7] at h; cases h; rfl) (carr_law _ z0 v0 x0 v1 x1 z2 r0 h0 b0 h1 b1 r2)
  have e : (concs (fun n => if n = 0 then locOf a0 else locOf a1) [.agg [.lit (.int .u8 z0), v0], v1, I z2]).toArray = #[.agg #[.int .u8 z0, .slice a0 len0 cap0], .slice a1 len1 cap1, .int .i64 z2] := by
    (simp only [concs, c0, c1]) <;> simp [conc, concs, c0]
  rw [e] at k
  exact k

namespace remapsCarryDone
theorem own : ownKnob Try.prog.godebug = none := by kernel_rfl
theorem laidOut : laidOutB Try.prog = true := by kernel_rfl
theorem openI3 {W : World} {base : Nat} {v : Value} (hv : Value.okWide Try.prog W .any base 3 v) : ∃ z : Int, v = .int .i64 z ∧ In z := by
  simp only [Value.okWide, Try.underlying3, Cell.okWide, Cell.ok] at hv
  cases v <;> simp_all
  rename_i k z
  exact hv.2
/-- what is known of a slice of rows of four small numbers among the arguments -/
theorem openedc52 {H : Type} {enc : TypeId × Value → H} {W : World} {base : Nat} {fuel : Nat} {y : Value} {x : DataW H × List MemPlace} (hv : Cell.okWide Try.prog W .any base 52 y) (hf : DataW.trod enc Try.prog W 0 (fun _ => true) true fuel 52 [y] = some x) : ∃ a len cap, y = .slice a len cap ∧ InR4 W a len cap := by
  have ce : Try.prog.cellsOf 69 = 4 := by kernel_rfl
  have c1 : Try.prog.cellsOf 5 = 1 := by kernel_rfl
  rcases open_slice Try.underlying52 hf with ⟨hcs, _⟩ | ⟨a, len, cap, m, n, D, Pl, hcs, _, hl, hm, hmm, _, hi⟩
  · rw [List.singleton_inj.1 hcs]
    exact ⟨none, 0, 0, rfl, .inl ⟨rfl, rfl, rfl⟩⟩
  · have hy := List.singleton_inj.1 hcs
    subst hy
    simp only [Cell.okWide, Try.underlying52, Cell.ok, World.has] at hv
    obtain ⟨_, _, _, hspot, _⟩ := hv
    obtain ⟨b, o, s⟩ := a
    simp only at hspot
    subst hspot
    refine ⟨_, len, cap, rfl, .inr ⟨b, o, rfl, hl, fun i hil => ?_⟩⟩
    obtain ⟨cs', h1, h2⟩ := hi i (by simp at hmm; omega)
    rw [ce] at h1
    obtain ⟨_, hlen, hcell⟩ := World.cells?_some h1
    obtain ⟨xs, k, _, _, _, hxl, hq⟩ := DataW.trod_array Try.underlying69 h2
    match cs', hlen with
    | [v0, v1, v2, v3], _ =>
      have g : ∀ (j : Nat) (v : Value), j < 4 → [v0, v1, v2, v3][j]? = some v → ∃ z : Int, v = .int .u8 z ∧ 0 ≤ z ∧ z < 256 := fun j v hj hv => by
        have hh := hq j hj
        rw [c1, Nat.mul_one, show (([v0, v1, v2, v3] : List Value).drop j).take 1 = [v] by
          match j, hj with
          | 0, _ => simpa using hv
          | 1, _ => simpa using hv
          | 2, _ => simpa using hv
          | 3, _ => simpa using hv] at hh
        have hj2 : j < xs.length := by rw [hxl]; exact hj
        rw [List.getElem?_eq_getElem hj2] at hh
        obtain ⟨n0, e0, _, q1⟩ := DataW.trod_int Try.underlying5 hh
        simp only [Lit.wf, Bool.and_eq_true, decide_eq_true_eq] at q1
        exact ⟨n0, List.singleton_inj.1 e0, q1.1, Int.lt_of_le_of_lt q1.2 (by decide)⟩
      obtain ⟨z0, rfl, b0⟩ := g 0 v0 (by omega) rfl
      obtain ⟨z1, rfl, b1⟩ := g 1 v1 (by omega) rfl
      obtain ⟨z2, rfl, b2⟩ := g 2 v2 (by omega) rfl
      obtain ⟨z3, rfl, b3⟩ := g 3 v3 (by omega) rfl
      have e0 := hcell 0 (by omega)
      have e1 := hcell 1 (by omega)
      have e2 := hcell 2 (by omega)
      have e3 := hcell 3 (by omega)
      rw [add_add, add_at] at e0 e1 e2 e3
      exact ⟨(z0, z1, z2, z3), by simpa using e0, by simpa using e1, by simpa using e2, by simpa using e3, b0, b1, b2, b3⟩
/-- what is known of a slice of rows of four small numbers that is an argument -/
theorem opened52 {H : Type} {enc : TypeId × Value → H} {W : World} {base : Nat} {a : Option Addr} {len cap : Nat} {d : DataW H} {p : List MemPlace} (hv : Value.okWide Try.prog W .any base 52 (.slice a len cap))
    (h0 : DataW.Trod enc Try.prog W 0 (fun _ => true) true 52 (.slice a len cap) d p) : InR4 W a len cap := by
  obtain ⟨fuel, hf⟩ := h0
  have hc : Cell.okWide Try.prog W .any base 52 (.slice a len cap) := by
    simp only [Value.okWide, Try.underlying52] at hv
    exact hv
  have hcc : Try.prog.cellsOf 52 = 1 := by kernel_rfl
  have hf3 : DataW.trod enc Try.prog W 0 (fun _ => true) true fuel 52 [.slice a len cap] = some (d, p) := by simpa [Value.cells, hcc] using hf
  obtain ⟨a', len', cap', e, hw⟩ := openedc52 hc hf3
  cases e
  exact hw
/-- what is known of a struct with a small number and a slice of rows among the arguments -/
theorem opened54 {H : Type} {enc : TypeId × Value → H} {W : World} {base : Nat} {v : Value} {d : DataW H} {p : List MemPlace} (hv : Value.okWide Try.prog W .any base 54 v)
    (h0 : DataW.Trod enc Try.prog W 0 (fun _ => true) true 54 v d p) : ∃ z a len cap, v = .agg #[.int .u8 z, .slice a len cap] ∧ Inu8 z ∧ InR4 W a len cap := by
  simp only [Value.okWide, Try.underlying54] at hv
  obtain ⟨cs, rfl, hsz, ts, hts, _, hall⟩ := hv
  have hA : Try.prog.cellTypes Try.prog.depth 54 = some [5, 52] := by kernel_rfl
  have hB : Try.prog.cellsOf 54 = 2 := by kernel_rfl
  rw [hA] at hts
  cases hts
  rw [hB] at hsz
  obtain ⟨l⟩ := cs
  match l, hsz with
  | [x, y], _ =>
    obtain ⟨u0, hu0, hc0⟩ := hall 0 x rfl
    cases hu0
    obtain ⟨u, hu, hc⟩ := hall 1 y rfl
    cases hu
    have hx : ∃ z : Int, x = .int .u8 z ∧ Inu8 z := by
      simp only [Cell.okWide, Try.underlying5, Cell.ok] at hc0
      cases x <;> simp_all
      rename_i k z
      exact hc0.2
    obtain ⟨z, rfl, hz⟩ := hx
    obtain ⟨fuel, hf⟩ := h0
    obtain ⟨y0, y1, n, _, _, _, hf2⟩ := trod_struct2 Try.underlying54 hf
    have hcc : Try.prog.cellsOf 52 = 1 := by kernel_rfl
    have hf3 : DataW.trod enc Try.prog W 0 (fun _ => true) true n 52 [y] = some y1 := by simpa [Value.cells, hcc] using hf2
    obtain ⟨a, len, cap, rfl, hw⟩ := openedc52 hc hf3
    exact ⟨z, a, len, cap, rfl, hz, hw⟩
set_option maxRecDepth 100000 in
theorem lifted (os : Os) (started : os.Started) (H : Type) (enc : TypeId × Value → H) :
    ReturnsInHanded {} Try.checked os 7 .any (Rows.remapsCarrySpec.pre6 enc Try.prog Try.f7 Rows.remapsCarryRow.domain false) (Rows.remapsCarrySpec.post enc Try.prog Try.f7 false true false false) := by
  refine returnsInHanded_of_change (C := Try.checked) own started (by kernel_rfl) Try.func7
    (ChangeSpec.witness6 (enc := enc) (C := Try.checked) false ⟨#[], #[.agg #[.int .u8 0, .slice none 0 0], .slice none 0 0, .int .i64 0], []⟩ 8 (by kernel_rfl) (by kernel_rfl) (by kernel_rfl) (by kernel_rfl)) ?_
  intro W base args ds gs before hval0 hW hcnd _
  have hval : ∀ (j : Nat) t v, Try.f7.params[j]? = some t → args[j]? = some v → Value.okWide Try.prog W .any base t v := hval0
  have hW' := hW
  obtain ⟨p, q, hA0, hV, rfl, hfz, hnd⟩ := hW
  have hA : DataW.TrodAll enc Try.prog W 0 (fun _ => true) true Try.f7.params.toList args.toList ds p := hA0
  rw [Try.params7] at hA hval
  obtain ⟨v0, vs0, d0, ds0, p0, q0, hargs, rfl, rfl, h0, s0⟩ := trodAll_cons hA
  obtain ⟨v1, vs1, d1, ds1, p1, q1, rfl, rfl, rfl, h1, s1⟩ := trodAll_cons s0
  obtain ⟨v2, vs2, d2, ds2, p2, q2, rfl, rfl, rfl, h2, s2⟩ := trodAll_cons s1
  obtain ⟨rfl, rfl, rfl⟩ := trodAll_nil s2
  obtain rfl : args = #[v0, v1, v2] := by cases args; simp_all
  obtain ⟨rfl, rfl⟩ := trodVars_none hV
  have hv0 := hval 0 54 v0 rfl rfl
  have lt0 : ∀ x ∈ p0, x.block < W.heap.size := by obtain ⟨m, hm⟩ := h0; exact DataW.trod_lt m _ _ _ hm
  obtain ⟨z0, a0, len0, cap0, rfl, r0, w0⟩ := opened54 hv0 h0
  have hv1 := hval 1 52 v1 rfl rfl
  have lt1 : ∀ x ∈ p1, x.block < W.heap.size := by obtain ⟨m, hm⟩ := h1; exact DataW.trod_lt m _ _ _ hm
  obtain ⟨a1, len1, cap1, rfl⟩ := okWide_slice Try.underlying52 hv1
  have w1 := opened52 hv1 h1
  have hv2 := hval 2 3 v2 rfl rfl
  have lt2 : ∀ x ∈ p2, x.block < W.heap.size := by obtain ⟨m, hm⟩ := h2; exact DataW.trod_lt m _ _ _ hm
  obtain ⟨z2, rfl, r2⟩ := openI3 hv2
  clear hA0 hval0
  refine (walk7 z0 r0 z2 r2 W a0 len0 cap0 w0 a1 len1 cap1 w1).mono fun e W' ⟨he, bel⟩ => ?_
  subst he
  exact ⟨_, rfl, _, _, _, [], _, [], hW', trodAll_mk1 (shut_bool Try.underlying4 _), (trodAll_cons_mk (Below.trod laidOut (by kernel_rfl) (of_decide_eq_true (by kernel_rfl)) h0 bel lt0) (trodAll_cons_mk (Below.trod laidOut (by kernel_rfl) (of_decide_eq_true (by kernel_rfl)) h1 bel lt1) (trodAll_cons_mk (Below.trod laidOut (by kernel_rfl) (of_decide_eq_true (by kernel_rfl)) h2 bel lt2) trodAll_mk0))), rfl, bel.frame _, fun h => by cases h⟩

theorem over : Rows.remapsCarryRow.holds Try.pinned (OpenSpec.ofChange Rows.remapsCarrySpec) :=
  OpenClaim.holds_of_wide 7 Try.f7 rfl rfl rfl rfl rfl rfl rfl ⟨rfl, rfl, rfl, rfl, rfl⟩ rfl rfl rfl rfl rfl (by kernel_rfl) Try.func7 (by kernel_rfl)
    (of_decide_eq_true (by kernel_rfl)) (by unfold Func.isWrapper; first | (rw [if_pos (by decide +kernel)]; kernel_rfl) | (rw [if_neg (by decide +kernel)]; exact ⟨rfl, rfl⟩))
    (fun os started H enc _ => lifted os started H enc)
end remapsCarryDone
/-- THE STATEMENT -/
theorem remapsCarry_proved : Rows.RemapsCarrySaid := remapsCarryDone.over
#print axioms remapsCarry_proved
end Go.Proofs.Ytdbajhklnaekjaa
