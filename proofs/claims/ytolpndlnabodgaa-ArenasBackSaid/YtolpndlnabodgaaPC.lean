/-
  The law ArenasBack returns true, whatever calls it is given.
  There are no conditions.
-/
import Derived.Test.YtolpndlnabodgaaRows
import Derived.Test.YtolpndlnabodgaaVM
import Derived.Test.YtolpndlnabodgaaLives
import Derived.WalkKit
import Derived.ProofKit
import Derived.OpenShut
import Derived.ShutString
import Derived.ChangeOld
import Derived.Below
import Derived.Deep.SlicePairs
import Derived.Deep.Grids
import Derived.Deep.Strs
namespace Go.Proofs.Ytolpndlnabodgaa
open Go Go.Proofs Go.Proofs.Abs
open Go.ChangeShapes Go.WideShapes Go.ChangeAt Go.RowKit Go.Deep
set_option linter.unusedSimpArgs false
set_option linter.unusedVariables false

theorem calls4 : CallOk Try.prog (fun f args h => funA ctx all8 5000 args h (ctx.funs.get f)) :=
  run_step tysOk funsOk mixed 5000 (plus_ok (fun f hf => by
    have h9 : f = 12 := Nat.eq_of_beq_eq_true hf
    subst h9
    have hfo := funsOk 12 Try.f12 (by kernel_rfl)
    exact ⟨⟨Try.f12, hfo.at_, rfl, hfo.name⟩, lives_true⟩) (run_ok tysOk funsOk mixed 5000 8))
/-- memory that came in, read at the places of some names -/
noncomputable def inHp (w : World) (σ : Nat → Abs.Loc) (c : Nat) : Hp := ⟨.leaf, c, fun n off => if n < c ∧ (σ n).s = none then (w.cell? ⟨(σ n).b, (σ n).o + off, none⟩).map AV.lit else none⟩
theorem gam_ins (w : World) (σ : Nat → Abs.Loc) (c : Nat) : Gam σ (below w.heap.size) (inHp w σ c) w := by
  refine ⟨fun _ h => h, fun n b hn => (by cases hn), fun n m bn bm hn => (by cases hn), fun n off v hv => ?_⟩
  have hv' : (if n < c ∧ (σ n).s = none then (w.cell? ⟨(σ n).b, (σ n).o + off, none⟩).map AV.lit else none) = some v := hv
  split at hv'
  · rename_i hn
    cases hw : w.cell? ⟨(σ n).b, (σ n).o + off, none⟩ with
    | none => rw [hw] at hv'; cases hv'
    | some u =>
      rw [hw] at hv'
      cases hv'
      refine ⟨hn.1, rfl, trivial, hn.2, ?_, by simp [conc]⟩
      cases hb : w.heap[(σ n).b]? with
      | none => simp [World.cell?, hb] at hw
      | some ob => exact (Array.getElem?_eq_some_iff.1 hb).1
  · cases hv'
/-- a slice of numbers that came in: it is nil, or it leads to a row of cells -/
def InInts (w : World) (a : Option Addr) (len cap : Nat) : Prop :=
  (a = none ∧ len = 0 ∧ cap = 0) ∨ ∃ b o, a = some ⟨b, o, none⟩ ∧ len ≤ cap ∧ ∀ i, i < len → ∃ x : Int, w.cell? ⟨b, o + i, none⟩ = some (.int .i64 x) ∧ In x
def cellInt : Option Value → Int
  | some (.int _ n) => n
  | _ => 0
def locOf : Option Addr → Abs.Loc
  | some a => ⟨a.block, a.off, 0, a.spot⟩
  | none => ⟨0, 0, 0, none⟩
theorem in_ints {w : World} {σ : Nat → Abs.Loc} {c n : Nat} {a : Option Addr} {len cap : Nat} (hn : n < c) (h : InInts w a len cap) (hs : σ n = locOf a) :
    ∃ (v : AV) (xs : List Int), IsL (inHp w σ c) v (xs.map I) ∧ (∀ x ∈ xs, In x) ∧ v.ok σ c ∧ conc σ v = .slice a len cap := by
  rcases h with ⟨rfl, rfl, rfl⟩ | ⟨b, o, rfl, hle, hc⟩
  · exact ⟨nilS, [], .inl ⟨rfl, rfl⟩, fun x hx => (by cases hx), trivial, by simp [conc]⟩
  · have hl : ((List.range len).map fun i => cellInt (w.cell? ⟨b, o + i, none⟩)).length = len := by simp
    refine ⟨.slice n 0 len false cap 0, (List.range len).map fun i => cellInt (w.cell? ⟨b, o + i, none⟩), .inr ⟨n, 0, false, cap, 0, by rw [List.length_map, hl], hn, ?_⟩, ?_, ⟨hn, fun h => by cases h⟩, ?_⟩
    · intro i x hi
      rw [List.getElem?_map, Option.map_eq_some_iff] at hi
      obtain ⟨y, hy, rfl⟩ := hi
      have hil : i < len := by
        have := (List.getElem?_eq_some_iff.1 hy).1
        rwa [hl] at this
      obtain ⟨z, hz, _⟩ := hc i hil
      have hyz : y = z := by
        rw [List.getElem?_map, List.getElem?_range hil] at hy
        simp [hz, cellInt] at hy
        exact hy.symm
      subst hyz
      have e1 : (inHp w σ c).ro n i = some (I y) := by
        show (if n < c ∧ (σ n).s = none then (w.cell? ⟨(σ n).b, (σ n).o + i, none⟩).map AV.lit else none) = _
        rw [if_pos ⟨hn, by rw [hs]; rfl⟩, hs]
        show (w.cell? ⟨b, o + i, none⟩).map AV.lit = _
        rw [hz]
        rfl
      rw [load_none rfl, roCells_succ, roCells_zero, Nat.zero_add, e1]
      rfl
    · intro x hx
      obtain ⟨i, hi, rfl⟩ := List.mem_map.1 hx
      obtain ⟨z, hz, hr⟩ := hc i (List.mem_range.1 hi)
      rw [hz]
      exact hr
    · simp [conc, hs, locOf, spt]

/-- a slice of structs of three small numbers that came in -/
def InR3 (w : World) (a : Option Addr) (len cap : Nat) : Prop :=
  (a = none ∧ len = 0 ∧ cap = 0) ∨ ∃ b o, a = some ⟨b, o, none⟩ ∧ len ≤ cap ∧ ∀ i, i < len → ∃ x : Q3, w.cell? ⟨b, o + i * 3, none⟩ = some (.int .u8 x.1) ∧ w.cell? ⟨b, o + (i * 3 + 1), none⟩ = some (.int .u8 x.2.1) ∧ w.cell? ⟨b, o + (i * 3 + 1 + 1), none⟩ = some (.int .u8 x.2.2) ∧ Inb x.1 ∧ Inb x.2.1 ∧ Inb x.2.2
theorem in_r3 {w : World} {σ : Nat → Abs.Loc} {c n : Nat} {a : Option Addr} {len cap : Nat} (hn : n < c) (h : InR3 w a len cap) (hs : σ n = locOf a) :
    ∃ (v : AV) (xs : List Q3), IsR c3 3 (inHp w σ c) v xs ∧ (∀ x ∈ xs, Inb x.1 ∧ Inb x.2.1 ∧ Inb x.2.2) ∧ v.ok σ c ∧ conc σ v = .slice a len cap := by
  rcases h with ⟨rfl, rfl, rfl⟩ | ⟨b, o, rfl, hle, hc⟩
  · exact ⟨nilS, [], .inl ⟨rfl, rfl⟩, fun x hx => (by cases hx), trivial, by simp [conc]⟩
  · have hex : ∀ i, ∃ x : Q3, i < len → w.cell? ⟨b, o + i * 3, none⟩ = some (.int .u8 x.1) ∧ w.cell? ⟨b, o + (i * 3 + 1), none⟩ = some (.int .u8 x.2.1) ∧ w.cell? ⟨b, o + (i * 3 + 1 + 1), none⟩ = some (.int .u8 x.2.2) ∧ Inb x.1 ∧ Inb x.2.1 ∧ Inb x.2.2 := fun i => by
      by_cases hi : i < len
      · obtain ⟨x, hx⟩ := hc i hi
        exact ⟨x, fun _ => hx⟩
      · exact ⟨(0, 0, 0), fun h => absurd h hi⟩
    obtain ⟨X, hX⟩ := Classical.skolem.1 hex
    have hl : ((List.range len).map X).length = len := by simp
    refine ⟨.slice n 0 len false cap 0, (List.range len).map X, .inr ⟨n, 0, false, cap, 0, by rw [hl], hn, ?_⟩, ?_, ⟨hn, fun h => by cases h⟩, ?_⟩
    · intro i x hi
      have hil : i < len := by
        have := (List.getElem?_eq_some_iff.1 hi).1
        rwa [hl] at this
      have hx : X i = x := by
        rw [List.getElem?_map, List.getElem?_range hil] at hi
        exact Option.some.inj hi
      obtain ⟨h0, h1, h2, _⟩ := hX i hil
      rw [hx] at h0 h1 h2
      have e : ∀ k u, w.cell? ⟨b, o + k, none⟩ = some u → (inHp w σ c).ro n k = some (.lit u) := fun k u hu => by
        show (if n < c ∧ (σ n).s = none then (w.cell? ⟨(σ n).b, (σ n).o + k, none⟩).map AV.lit else none) = _
        rw [if_pos ⟨hn, by rw [hs]; rfl⟩, hs]
        show (w.cell? ⟨b, o + k, none⟩).map AV.lit = _
        rw [hu]
        rfl
      rw [load_none rfl, Nat.zero_add, roCells_succ, roCells_succ, roCells_succ, roCells_zero, e _ _ h0, e _ _ h1, e _ _ h2]
      rfl
    · intro x hx
      obtain ⟨i, hi, rfl⟩ := List.mem_map.1 hx
      exact (hX i (List.mem_range.1 hi)).2.2.2
    · simp [conc, hs, locOf, spt]
set_option maxHeartbeats 4000000 in
theorem walk4  (w : World) (a0 : Option Addr) (len0 cap0 : Nat) (w0 : InR3 w a0 len0 cap0) (a1 : Option Addr) (len1 cap1 : Nat) (w1 : InR3 w a1 len1 cap1) :
    Calls Try.prog 4 #[.slice a0 len0 cap0, .slice a1 len1 cap1] w fun e w' => e = .returned (.bool true) ∧ Below w.heap.size w w' := by
  obtain ⟨v0, x0, h0, b0, o0, c0⟩ := in_r3 (σ := fun n => if n = 0 then locOf a0 else locOf a1) (c := 2) (n := 0) (by decide) w0 (by simp [locOf])
  obtain ⟨v1, x1, h1, b1, o1, c1⟩ := in_r3 (σ := fun n => if n = 0 then locOf a0 else locOf a1) (c := 2) (n := 1) (by decide) w1 (by simp [locOf])
  have ho : oks (fun n => if n = 0 then locOf a0 else locOf a1) 2 [v0, v1] := ⟨o0, o1, trivial⟩
  have k := true_calls calls4 (f := 4) (gam_ins w _ 2) ho (fun fn h => by rw [Try.func4] at h; cases h; rfl) (back_law _ v0 v1 x0 x1 h0 h1 b0 b1)
  have e : (concs (fun n => if n = 0 then locOf a0 else locOf a1) [v0, v1]).toArray = #[.slice a0 len0 cap0, .slice a1 len1 cap1] := by
    (simp only [concs, c0, c1]) <;> simp [conc, concs]
  rw [e] at k
  exact k

namespace arenasBackDone
theorem own : ownKnob Try.prog.godebug = none := by kernel_rfl
theorem laidOut : laidOutB Try.prog = true := by kernel_rfl
/-- what is known of a slice of structs of three small numbers among the arguments -/
theorem openedc22 {H : Type} {enc : TypeId × Value → H} {W : World} {base : Nat} {fuel : Nat} {y : Value} {x : DataW H × List MemPlace} (hv : Cell.okWide Try.prog W .any base 22 y) (hf : DataW.trod enc Try.prog W 0 (fun _ => true) true fuel 22 [y] = some x) : ∃ a len cap, y = .slice a len cap ∧ InR3 W a len cap := by
  have ce : Try.prog.cellsOf 35 = 3 := by kernel_rfl
  have c1 : Try.prog.cellsOf 5 = 1 := by kernel_rfl
  rcases open_slice Try.underlying22 hf with ⟨hcs, _⟩ | ⟨a, len, cap, m, n, D, Pl, hcs, _, hl, hm, hmm, _, hi⟩
  · rw [List.singleton_inj.1 hcs]
    exact ⟨none, 0, 0, rfl, .inl ⟨rfl, rfl, rfl⟩⟩
  · have hy := List.singleton_inj.1 hcs
    subst hy
    simp only [Cell.okWide, Try.underlying22, Cell.ok, World.has] at hv
    obtain ⟨_, _, _, hspot, _⟩ := hv
    obtain ⟨b, o, s⟩ := a
    simp only at hspot
    subst hspot
    refine ⟨_, len, cap, rfl, .inr ⟨b, o, rfl, hl, fun i hil => ?_⟩⟩
    obtain ⟨cs', h1, h2⟩ := hi i (by simp at hmm; omega)
    rw [ce] at h1
    obtain ⟨_, hlen, hcell⟩ := World.cells?_some h1
    obtain ⟨y0, y1, y2, n, _, _, t0, t1, t2⟩ := trod_struct3 Try.underlying35 h2
    match cs', hlen with
    | [v0, v1, v2], _ =>
      have g : ∀ (v : Value) (z : DataW H × List MemPlace), DataW.trod enc Try.prog W 0 (fun _ => true) true n 5 [v] = some z → ∃ z : Int, v = .int .u8 z ∧ Inb z := fun v z hh => by
        obtain ⟨n0, e0, _, q1⟩ := DataW.trod_int Try.underlying5 hh
        simp only [Lit.wf, Bool.and_eq_true, decide_eq_true_eq] at q1
        exact ⟨n0, List.singleton_inj.1 e0, q1.1, Int.lt_of_le_of_lt q1.2 (by decide)⟩
      obtain ⟨z0, rfl, b0⟩ := g v0 y0 (by simpa [c1] using t0)
      obtain ⟨z1, rfl, b1⟩ := g v1 y1 (by simpa [c1] using t1)
      obtain ⟨z2, rfl, b2⟩ := g v2 y2 (by simpa [c1] using t2)
      have e0 := hcell 0 (by omega)
      have e1 := hcell 1 (by omega)
      have e2 := hcell 2 (by omega)
      rw [add_add, add_at] at e0 e1 e2
      exact ⟨(z0, z1, z2), by simpa using e0, by simpa using e1, by simpa using e2, b0, b1, b2⟩
theorem opened22 {H : Type} {enc : TypeId × Value → H} {W : World} {base : Nat} {a : Option Addr} {len cap : Nat} {d : DataW H} {p : List MemPlace} (hv : Value.okWide Try.prog W .any base 22 (.slice a len cap))
    (h0 : DataW.Trod enc Try.prog W 0 (fun _ => true) true 22 (.slice a len cap) d p) : InR3 W a len cap := by
  obtain ⟨fuel, hf⟩ := h0
  have hv2 : Cell.okWide Try.prog W .any base 22 (.slice a len cap) := by simpa only [Value.okWide, Try.underlying22] using hv
  have hf2 : DataW.trod enc Try.prog W 0 (fun _ => true) true fuel 22 [.slice a len cap] = some (d, p) := by simpa [Value.cells] using hf
  obtain ⟨a', len', cap', e, hw⟩ := openedc22 hv2 hf2
  cases e
  exact hw
set_option maxRecDepth 100000 in
theorem lifted (os : Os) (started : os.Started) (H : Type) (enc : TypeId × Value → H) :
    ReturnsInHanded {} Try.checked os 4 .any (Rows.arenasBackSpec.pre6 enc Try.prog Try.f4 Rows.arenasBackRow.domain false) (Rows.arenasBackSpec.post enc Try.prog Try.f4 false true false false) := by
  refine returnsInHanded_of_change (C := Try.checked) own started (by kernel_rfl) Try.func4
    (ChangeSpec.witness6 (enc := enc) (C := Try.checked) false ⟨#[], #[.slice none 0 0, .slice none 0 0], []⟩ 8 (by kernel_rfl) (by kernel_rfl) (by kernel_rfl) (by kernel_rfl)) ?_
  intro W base args ds gs before hval0 hW hcnd _
  have hval : ∀ (j : Nat) t v, Try.f4.params[j]? = some t → args[j]? = some v → Value.okWide Try.prog W .any base t v := hval0
  have hW' := hW
  obtain ⟨p, q, hA0, hV, rfl, hfz, hnd⟩ := hW
  have hA : DataW.TrodAll enc Try.prog W 0 (fun _ => true) true Try.f4.params.toList args.toList ds p := hA0
  rw [Try.params4] at hA hval
  obtain ⟨v0, vs0, d0, ds0, p0, q0, hargs, rfl, rfl, h0, s0⟩ := trodAll_cons hA
  obtain ⟨v1, vs1, d1, ds1, p1, q1, rfl, rfl, rfl, h1, s1⟩ := trodAll_cons s0
  obtain ⟨rfl, rfl, rfl⟩ := trodAll_nil s1
  obtain rfl : args = #[v0, v1] := by cases args; simp_all
  obtain ⟨rfl, rfl⟩ := trodVars_none hV
  have hv0 := hval 0 22 v0 rfl rfl
  have lt0 : ∀ x ∈ p0, x.block < W.heap.size := by obtain ⟨m, hm⟩ := h0; exact DataW.trod_lt m _ _ _ hm
  obtain ⟨a0, len0, cap0, rfl⟩ := okWide_slice Try.underlying22 hv0
  have w0 := opened22 hv0 h0
  have hv1 := hval 1 22 v1 rfl rfl
  have lt1 : ∀ x ∈ p1, x.block < W.heap.size := by obtain ⟨m, hm⟩ := h1; exact DataW.trod_lt m _ _ _ hm
  obtain ⟨a1, len1, cap1, rfl⟩ := okWide_slice Try.underlying22 hv1
  have w1 := opened22 hv1 h1
  clear hA0 hval0
  refine (walk4  W a0 len0 cap0 w0 a1 len1 cap1 w1).mono fun e W' ⟨he, bel⟩ => ?_
  subst he
  exact ⟨_, rfl, _, _, _, [], _, [], hW', trodAll_mk1 (shut_bool Try.underlying4 _), (trodAll_cons_mk (Below.trod laidOut (by kernel_rfl) (of_decide_eq_true (by kernel_rfl)) h0 bel lt0) (trodAll_cons_mk (Below.trod laidOut (by kernel_rfl) (of_decide_eq_true (by kernel_rfl)) h1 bel lt1) trodAll_mk0)), rfl, bel.frame _, fun h => by cases h⟩

theorem over : Rows.arenasBackRow.holds Try.pinned (OpenSpec.ofChange Rows.arenasBackSpec) :=
  OpenClaim.holds_of_wide 4 Try.f4 rfl rfl rfl rfl rfl rfl rfl ⟨rfl, rfl, rfl, rfl, rfl⟩ rfl rfl rfl rfl rfl (by kernel_rfl) Try.func4 (by kernel_rfl)
    (of_decide_eq_true (by kernel_rfl)) (by unfold Func.isWrapper; first | (rw [if_pos (by decide +kernel)]; kernel_rfl) | (rw [if_neg (by decide +kernel)]; exact ⟨rfl, rfl⟩))
    (fun os started H enc _ => lifted os started H enc)
end arenasBackDone
/-- THE STATEMENT -/
theorem arenasBack_proved : Rows.ArenasBackSaid := arenasBackDone.over
#print axioms arenasBack_proved
end Go.Proofs.Ytolpndlnabodgaa
