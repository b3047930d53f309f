/-
  The law SpansErrors returns true, whatever two lists of spans and whatever two numbers it is given, and what was given reads as it did.
  There are no conditions.
-/
import Derived.Test.YtmgdjhofifdiaaaRows
import Derived.Test.YtmgdjhofifdiaaaL7
import Derived.Test.YtmgdjhofifdiaaaLives
import Derived.WalkKit
import Derived.ProofKit
import Derived.OpenShut
import Derived.ShutString
import Derived.ChangeOld
import Derived.Below
import Derived.Deep.SlicePairs
namespace Go.Proofs.Ytmgdjhofifdiaaa
open Go Go.Proofs Go.Proofs.Abs
open Go.ChangeShapes Go.WideShapes Go.ChangeAt Go.RowKit Go.Deep

theorem calls7 : CallOk Try.prog (fun f args h => funA ctx all4 5000 args h (ctx.funs.get f)) :=
  run_step tysOk funsOk mixed 5000 (plus_ok (fun f hf => by
    have h9 : f = 9 := Nat.eq_of_beq_eq_true hf
    subst h9
    have hfo := funsOk 9 Try.f9 (by kernel_rfl)
    exact ⟨⟨Try.f9, hfo.at_, rfl, hfo.name⟩, lives_true⟩) (run_ok tysOk funsOk mixed 5000 4))

/-- memory that came in, read at the places of some names -/
noncomputable def inHp (w : World) (σ : Nat → Abs.Loc) (c : Nat) : Hp := ⟨.leaf, c, fun n off => if n < c then (w.cell? ⟨(σ n).b, (σ n).o + off, none⟩).map AV.lit else none⟩
theorem gam_ins (w : World) (σ : Nat → Abs.Loc) (c : Nat) : Gam σ w.heap.size (inHp w σ c) w := by
  refine ⟨Nat.le_refl _, fun n b hn => (by cases hn), fun n m bn bm hn => (by cases hn), fun n off v hv => ?_⟩
  have hv' : (if n < c then (w.cell? ⟨(σ n).b, (σ n).o + off, none⟩).map AV.lit else none) = some v := hv
  split at hv'
  · rename_i hn
    cases hw : w.cell? ⟨(σ n).b, (σ n).o + off, none⟩ with
    | none => rw [hw] at hv'; cases hv'
    | some u =>
      rw [hw] at hv'
      cases hv'
      refine ⟨hn, rfl, trivial, ?_, by simp [conc]⟩
      cases hb : w.heap[(σ n).b]? with
      | none => simp [World.cell?, hb] at hw
      | some ob => exact (Array.getElem?_eq_some_iff.1 hb).1
  · cases hv'

/-- a slice of spans that came in: it is nil, or it leads to a row of cells -/
def InSpan2 (w : World) (a : Option Addr) (len cap : Nat) : Prop :=
  (a = none ∧ len = 0 ∧ cap = 0) ∨ ∃ b o, a = some ⟨b, o, none⟩ ∧ len ≤ cap ∧
    ∀ i, i < len → ∃ x y : Int, w.cell? ⟨b, o + i * 2, none⟩ = some (.int .i64 x) ∧ w.cell? ⟨b, o + (i * 2 + 1), none⟩ = some (.int .i64 y)
def cellInt2 : Option Value → Int
  | some (.int _ n) => n
  | _ => 0
def locOf : Option Addr → Abs.Loc
  | some a => ⟨a.block, a.off, 0⟩
  | none => ⟨0, 0, 0⟩
theorem in_sl {w : World} {σ : Nat → Abs.Loc} {c n : Nat} {a : Option Addr} {len cap : Nat} (hn : n < c) (h : InSpan2 w a len cap) (hs : σ n = locOf a) :
    ∃ v xs, IsSl (inHp w σ c) v xs ∧ v.ok σ c ∧ conc σ v = .slice a len cap := by
  rcases h with ⟨rfl, rfl, rfl⟩ | ⟨b, o, rfl, hle, hc⟩
  · exact ⟨nilS, [], .inl ⟨rfl, rfl⟩, trivial, by simp [conc]⟩
  · have hl : ((List.range len).map fun i => (cellInt2 (w.cell? ⟨b, o + i * 2, none⟩), cellInt2 (w.cell? ⟨b, o + (i * 2 + 1), none⟩))).length = len := by simp
    refine ⟨.slice n 0 len false cap 0, (List.range len).map fun i => (cellInt2 (w.cell? ⟨b, o + i * 2, none⟩), cellInt2 (w.cell? ⟨b, o + (i * 2 + 1), none⟩)), .inr ⟨n, 0, cap, 0, by rw [hl], by rw [hl]; exact hle, hn, ?_⟩, ⟨hn, fun h => by cases h⟩, ?_⟩
    · intro i x y hi
      have hil : i < len := by
        have := (List.getElem?_eq_some_iff.1 hi).1
        rwa [hl] at this
      obtain ⟨x', y', hx, hy⟩ := hc i hil
      have hxy : (x, y) = (x', y') := by
        have h2 : ((List.range len).map fun i => (cellInt2 (w.cell? ⟨b, o + i * 2, none⟩), cellInt2 (w.cell? ⟨b, o + (i * 2 + 1), none⟩)))[i]? = some (x', y') := by
          simp [hil, hx, hy, cellInt2]
        rw [hi] at h2
        exact Option.some.inj h2
      cases hxy
      have e1 : (inHp w σ c).ro n (i * 2) = some (I x) := by
        show (if n < c then (w.cell? ⟨(σ n).b, (σ n).o + i * 2, none⟩).map AV.lit else none) = _
        rw [if_pos hn, hs]
        show (w.cell? ⟨b, o + i * 2, none⟩).map AV.lit = _
        rw [hx]
        rfl
      have e2 : (inHp w σ c).ro n (i * 2 + 1) = some (I y) := by
        show (if n < c then (w.cell? ⟨(σ n).b, (σ n).o + (i * 2 + 1), none⟩).map AV.lit else none) = _
        rw [if_pos hn, hs]
        show (w.cell? ⟨b, o + (i * 2 + 1), none⟩).map AV.lit = _
        rw [hy]
        rfl
      rw [load_none rfl, load_none rfl, roCells_succ, roCells_succ, roCells_zero, roCells_zero, Nat.zero_add, e1, e2]
      exact ⟨rfl, rfl⟩
    · simp [conc, hs, locOf]

theorem walk7 (a0 : Option Addr) (len0 cap0 : Nat) (a1 : Option Addr) (len1 cap1 : Nat) (z0 z1 : Int) (w : World) (w0 : InSpan2 w a0 len0 cap0) (w1 : InSpan2 w a1 len1 cap1) :
    Calls Try.prog 7 #[.slice a0 len0 cap0, .slice a1 len1 cap1, .agg #[.int .i64 z0, .int .i64 z1]] w fun e w' => e = .returned (.bool true) ∧ Below w.heap.size w w' := by
  obtain ⟨va, xa, ha, oa, ca⟩ := in_sl (σ := fun n => if n = 0 then locOf a0 else locOf a1) (c := 2) (n := 0) (by decide) w0 rfl
  obtain ⟨vb, xb, hb, ob, cb⟩ := in_sl (σ := fun n => if n = 0 then locOf a0 else locOf a1) (c := 2) (n := 1) (by decide) w1 rfl
  have ho : oks (fun n => if n = 0 then locOf a0 else locOf a1) 2 [va, vb, .agg [I z0, I z1]] := ⟨oa, ob, ⟨trivial, trivial, trivial⟩, trivial⟩
  have k := true_calls calls7 (f := 7) (gam_ins w _ 2) ho (errors_law _ va vb xa xb z0 z1 ha hb)
  have e : (concs (fun n => if n = 0 then locOf a0 else locOf a1) [va, vb, .agg [I z0, I z1]]).toArray = #[.slice a0 len0 cap0, .slice a1 len1 cap1, .agg #[.int .i64 z0, .int .i64 z1]] := by
    simp only [concs, ca, cb]
    simp [conc, concs]
  rw [e] at k
  exact k

namespace spansErrorsDone
theorem own : ownKnob Try.prog.godebug = none := by kernel_rfl
theorem laidOut : laidOutB Try.prog = true := by kernel_rfl
/-- what is known of a slice of spans among the arguments -/
theorem opened {H : Type} {enc : TypeId × Value → H} {W : World} {base : Nat} {a : Option Addr} {len cap : Nat} {d : DataW H} {p : List MemPlace} (hv : Value.okWide Try.prog W .any base 22 (.slice a len cap))
    (h0 : DataW.Trod enc Try.prog W 0 (fun _ => true) true 22 (.slice a len cap) d p) : InSpan2 W a len cap := by
  obtain ⟨fuel, hf⟩ := h0
  rcases open_slice_pairs Try.underlying22 Try.underlying28 (by kernel_rfl) rfl rfl (by kernel_rfl) (by kernel_rfl) hf with ⟨hcs, _⟩ | ⟨x, l, c, m, n, V0, V1, D0, D1, P0, P1, hcs, _, hl, hm, hmm, _, hi⟩
  · simp [Value.cells] at hcs
    obtain ⟨rfl, rfl, rfl⟩ := hcs
    exact .inl ⟨rfl, rfl, rfl⟩
  · simp [Value.cells] at hcs
    obtain ⟨rfl, rfl, rfl⟩ := hcs
    simp only [Value.okWide, Try.underlying22, Cell.okWide, Cell.ok, World.has] at hv
    obtain ⟨_, _, _, hspot, _⟩ := hv
    obtain ⟨b, o, s⟩ := x
    simp only at hspot
    subst hspot
    refine .inr ⟨b, o, rfl, hl, fun i hil => ?_⟩
    obtain ⟨hc0, hc1, ht0, ht1⟩ := hi i (by simp at hmm; omega)
    obtain ⟨n0, e0, _, _⟩ := DataW.trod_int Try.underlying3 ht0
    obtain ⟨n1, e1, _, _⟩ := DataW.trod_int Try.underlying3 ht1
    rw [List.singleton_inj.1 e0, add_at] at hc0
    rw [List.singleton_inj.1 e1, add_at] at hc1
    exact ⟨n0, n1, hc0, hc1⟩
/-- what is known of an array of two numbers among the arguments -/
theorem opened2 {W : World} {base : Nat} {v : Value} (hv : Value.okWide Try.prog W .any base 51 v) : ∃ z0 z1 : Int, v = .agg #[.int .i64 z0, .int .i64 z1] := by
  simp only [Value.okWide, Try.underlying51] at hv
  obtain ⟨cs, rfl, hsz, ts, hts, _, hall⟩ := hv
  have h51 : Try.prog.cellTypes Try.prog.depth 51 = some [3, 3] := by kernel_rfl
  have h2 : Try.prog.cellsOf 51 = 2 := by kernel_rfl
  rw [h51] at hts
  cases hts
  rw [h2] at hsz
  have cell : ∀ c : Value, Cell.okWide Try.prog W .any base 3 c → ∃ z : Int, c = .int .i64 z := by
    intro c hc
    simp only [Cell.okWide, Try.underlying3, Cell.ok] at hc
    cases c <;> simp_all
  obtain ⟨l⟩ := cs
  match l, hsz with
  | [c0, c1], _ =>
    obtain ⟨u0, hu0, hc0⟩ := hall 0 c0 rfl
    obtain ⟨u1, hu1, hc1⟩ := hall 1 c1 rfl
    cases hu0
    cases hu1
    obtain ⟨z0, rfl⟩ := cell c0 hc0
    obtain ⟨z1, rfl⟩ := cell c1 hc1
    exact ⟨z0, z1, rfl⟩
set_option maxRecDepth 100000 in
theorem lifted (os : Os) (started : os.Started) (H : Type) (enc : TypeId × Value → H) :
    ReturnsInHanded {} Try.checked os 7 .any (Rows.spansErrorsSpec.pre6 enc Try.prog Try.f7 Rows.spansErrorsRow.domain false) (Rows.spansErrorsSpec.post enc Try.prog Try.f7 false true false false) := by
  refine returnsInHanded_of_change (C := Try.checked) own started (by kernel_rfl) Try.func7
    (ChangeSpec.witness6 (enc := enc) (C := Try.checked) false ⟨#[], #[.slice none 0 0, .slice none 0 0, .agg #[.int .i64 0, .int .i64 0]], []⟩ 8 (by kernel_rfl) (by kernel_rfl) (by kernel_rfl) (by kernel_rfl)) ?_
  intro W base args ds gs before hval0 hW hcnd _
  have hval : ∀ (j : Nat) t v, Try.f7.params[j]? = some t → args[j]? = some v → Value.okWide Try.prog W .any base t v := hval0
  have hW' := hW
  obtain ⟨p, q, hA0, hV, rfl, hfz, hnd⟩ := hW
  have hA : DataW.TrodAll enc Try.prog W 0 (fun _ => true) true Try.f7.params.toList args.toList ds p := hA0
  rw [Try.params7] at hA hval
  obtain ⟨v0, vs0, d0, ds0, p0, q0, hargs, rfl, rfl, h0, r0⟩ := trodAll_cons hA
  obtain ⟨v1, vs1, d1, ds1, p1, q1, rfl, rfl, rfl, h1, r1⟩ := trodAll_cons r0
  obtain ⟨v2, vs2, d2, ds2, p2, q2, rfl, rfl, rfl, h2, r2⟩ := trodAll_cons r1
  obtain ⟨rfl, rfl, rfl⟩ := trodAll_nil r2
  obtain rfl : args = #[v0, v1, v2] := by cases args; simp_all
  obtain ⟨rfl, rfl⟩ := trodVars_none hV
  have hv0 := hval 0 22 v0 rfl rfl
  have hv1 := hval 1 22 v1 rfl rfl
  have hv2 := hval 2 51 v2 rfl rfl
  obtain ⟨a0, len0, cap0, rfl⟩ := okWide_slice Try.underlying22 hv0
  obtain ⟨a1, len1, cap1, rfl⟩ := okWide_slice Try.underlying22 hv1
  obtain ⟨z0, z1, rfl⟩ := opened2 hv2
  have lt0 : ∀ x ∈ p0, x.block < W.heap.size := by obtain ⟨m, hm⟩ := h0; exact DataW.trod_lt m _ _ _ hm
  have lt1 : ∀ x ∈ p1, x.block < W.heap.size := by obtain ⟨m, hm⟩ := h1; exact DataW.trod_lt m _ _ _ hm
  have lt2 : ∀ x ∈ p2, x.block < W.heap.size := by obtain ⟨m, hm⟩ := h2; exact DataW.trod_lt m _ _ _ hm
  have w0 := opened hv0 h0
  have w1 := opened hv1 h1
  clear hA0 hval0
  refine (walk7 a0 len0 cap0 a1 len1 cap1 z0 z1 W w0 w1).mono fun e W' ⟨he, bel⟩ => ?_
  subst he
  exact ⟨_, rfl, _, _, _, [], _, [], hW', trodAll_mk1 (shut_bool Try.underlying4 _), (trodAll_cons_mk (Below.trod laidOut (by kernel_rfl) (of_decide_eq_true (by kernel_rfl)) h0 bel lt0) (trodAll_cons_mk (Below.trod laidOut (by kernel_rfl) (of_decide_eq_true (by kernel_rfl)) h1 bel lt1) (trodAll_cons_mk (Below.trod laidOut (by kernel_rfl) (of_decide_eq_true (by kernel_rfl)) h2 bel lt2) trodAll_mk0))), rfl, bel.frame _, fun h => by cases h⟩

theorem over : Rows.spansErrorsRow.holds Try.pinned (OpenSpec.ofChange Rows.spansErrorsSpec) :=
  OpenClaim.holds_of_wide 7 Try.f7 rfl rfl rfl rfl rfl rfl rfl ⟨rfl, rfl, rfl, rfl, rfl⟩ rfl rfl rfl rfl rfl (by kernel_rfl) Try.func7 (by kernel_rfl)
    (of_decide_eq_true (by kernel_rfl)) (by unfold Func.isWrapper; first | (rw [if_pos (by decide +kernel)]; kernel_rfl) | (rw [if_neg (by decide +kernel)]; exact ⟨rfl, rfl⟩))
    (fun os started H enc _ => lifted os started H enc)
end spansErrorsDone
/-- THE STATEMENT -/
theorem spansErrors_proved : Rows.SpansErrorsSaid := spansErrorsDone.over
#print axioms spansErrors_proved
end Go.Proofs.Ytmgdjhofifdiaaa
