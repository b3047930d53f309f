/-
  The law SpansCheck returns true, whatever list of spans and whatever place it is given, and what was given reads as it did.
  There are no conditions.
-/
import Derived.Test.YtmgdjhofifdiaaaRows
import Derived.Test.YtmgdjhofifdiaaaL3
import Derived.Test.YtmgdjhofifdiaaaLives
import Derived.WalkKit
import Derived.ProofKit
import Derived.OpenShut
import Derived.ShutString
import Derived.ChangeOld
import Derived.Below
import Derived.Deep.SlicePairs
namespace Go.Proofs.Ytmgdjhofifdiaaa
open Go Go.Proofs Go.Proofs.Abs
open Go.ChangeShapes Go.WideShapes Go.ChangeAt Go.RowKit Go.Deep

theorem calls3 : CallOk Try.prog (fun f args h => funA ctx all2 5000 args h (ctx.funs.get f)) :=
  run_step tysOk funsOk mixed 5000 (plus_ok (fun f hf => by
    have h9 : f = 9 := Nat.eq_of_beq_eq_true hf
    subst h9
    have hfo := funsOk 9 Try.f9 (by kernel_rfl)
    exact ⟨⟨Try.f9, hfo.at_, rfl, hfo.name⟩, lives_true⟩) (run_ok tysOk funsOk mixed 5000 2))

/-- a slice of spans that came in: it is nil, or it leads to a row of cells -/
def InSpans (w : World) (a : Option Addr) (len cap : Nat) : Prop :=
  (a = none ∧ len = 0 ∧ cap = 0) ∨ ∃ b o, a = some ⟨b, o, none⟩ ∧ b < w.heap.size ∧
    ∀ i, i < len → ∃ x y : Int, w.cell? ⟨b, o + i * 2, none⟩ = some (.int .i64 x) ∧ w.cell? ⟨b, o + (i * 2 + 1), none⟩ = some (.int .i64 y)

def cellInt : Option Value → Int
  | some (.int _ n) => n
  | _ => 0
/-- the spans of a row -/
def spansAt (w : World) (b o len : Nat) : List (Int × Int) := (List.range len).map fun i => (cellInt (w.cell? ⟨b, o + i * 2, none⟩), cellInt (w.cell? ⟨b, o + (i * 2 + 1), none⟩))

theorem walk3 (a0 : Option Addr) (len0 cap0 : Nat) (a1 : Int) (w : World) (w0 : InSpans w a0 len0 cap0) :
    Calls Try.prog 3 #[.slice a0 len0 cap0, .int .i64 a1] w fun e w' => e = .returned (.bool true) ∧ Below w.heap.size w w' := by
  rcases w0 with ⟨rfl, rfl, rfl⟩ | ⟨b, o, rfl, hb, hc⟩
  · exact true_calls calls3 (gam_none w) (args := [nilS, I a1]) ⟨trivial, trivial, trivial⟩ ⟨_, _, law_nil _ a1, rfl⟩
  · have g : Gam (fun _ => ⟨b, o, 0⟩) w.heap.size ⟨.leaf, 1, fun n off => if n = 0 then (w.cell? ⟨b, o + off, none⟩).map AV.lit else none⟩ w := by
      refine gam_in hb fun off v hv => ?_
      cases hw : w.cell? ⟨b, o + off, none⟩ with
      | none => rw [hw] at hv; cases hv
      | some u => rw [hw] at hv; cases hv; exact ⟨u, rfl, rfl⟩
    have ha : oks (fun _ => (⟨b, o, 0⟩ : Abs.Loc)) 1 [.slice 0 0 len0 false cap0 0, I a1] := ⟨⟨Nat.zero_lt_one, fun h => by cases h⟩, trivial, trivial⟩
    have hr : Rows ⟨.leaf, 1, fun n off => if n = 0 then (w.cell? ⟨b, o + off, none⟩).map AV.lit else none⟩ 0 0 (spansAt w b o len0) := by
      intro i x y hi
      have hil : i < len0 := by
        have := (List.getElem?_eq_some_iff.1 hi).1
        simpa [spansAt] using this
      obtain ⟨x', y', hx, hy⟩ := hc i hil
      have hxy : (x, y) = (x', y') := by
        have : (spansAt w b o len0)[i]? = some (x', y') := by
          simp [spansAt, hil, hx, hy, cellInt]
        rw [hi] at this
        exact Option.some.inj this
      cases hxy
      rw [load_none rfl, load_none rfl, roCells_succ, roCells_succ, roCells_zero, roCells_zero, Nat.zero_add]
      simp only [if_pos, hx, hy, Option.map_some]
      exact ⟨rfl, rfl⟩
    have hl : (spansAt w b o len0).length = len0 := by simp [spansAt]
    have key : Wv (funA ctx all2 5000 [.slice 0 0 len0 false cap0 0, I a1] ⟨.leaf, 1, fun n off => if n = 0 then (w.cell? ⟨b, o + off, none⟩).map AV.lit else none⟩ (ctx.funs.get 3)) fun v _ => v = .lit (.bool true) := by
      by_cases h40 : len0 ≤ 40
      · have := law_row _ 0 0 false cap0 0 (spansAt w b o len0) a1 Nat.zero_lt_one hr (by rw [hl]; exact h40)
        rw [hl] at this
        exact this
      · exact law_long _ 0 0 false cap0 0 len0 a1 (by omega)
    have k := true_calls calls3 (f := 3) g ha key
    have e : (concs (fun _ => (⟨b, o, 0⟩ : Abs.Loc)) [.slice 0 0 len0 false cap0 0, I a1]).toArray = #[.slice (some ⟨b, o, none⟩) len0 cap0, .int .i64 a1] := by simp [concs, conc]
    rw [e] at k
    exact k

namespace spansCheckDone
theorem own : ownKnob Try.prog.godebug = none := by kernel_rfl
theorem laidOut : laidOutB Try.prog = true := by kernel_rfl
set_option maxRecDepth 100000 in
theorem lifted (os : Os) (started : os.Started) (H : Type) (enc : TypeId × Value → H) :
    ReturnsInHanded {} Try.checked os 3 .any (Rows.spansCheckSpec.pre6 enc Try.prog Try.f3 Rows.spansCheckRow.domain false) (Rows.spansCheckSpec.post enc Try.prog Try.f3 false true false false) := by
  refine returnsInHanded_of_change (C := Try.checked) own started (by kernel_rfl) Try.func3
    (ChangeSpec.witness6 (enc := enc) (C := Try.checked) false ⟨#[], #[.slice none 0 0, .int .i64 0], []⟩ 8 (by kernel_rfl) (by kernel_rfl) (by kernel_rfl) (by kernel_rfl)) ?_
  intro W base args ds gs before hval0 hW hcnd _
  have hval : ∀ (j : Nat) t v, Try.f3.params[j]? = some t → args[j]? = some v → Value.okWide Try.prog W .any base t v := hval0
  have hW' := hW
  obtain ⟨p, q, hA0, hV, rfl, hfz, hnd⟩ := hW
  have hA : DataW.TrodAll enc Try.prog W 0 (fun _ => true) true Try.f3.params.toList args.toList ds p := hA0
  rw [Try.params3] at hA hval
  obtain ⟨v0, vs0, d0, ds0, p0, q0, hargs, rfl, rfl, h0, r0⟩ := trodAll_cons hA
  obtain ⟨v1, vs1, d1, ds1, p1, q1, rfl, rfl, rfl, h1, r1⟩ := trodAll_cons r0
  obtain ⟨rfl, rfl, rfl⟩ := trodAll_nil r1
  obtain rfl : args = #[v0, v1] := by cases args; simp_all
  obtain ⟨rfl, rfl⟩ := trodVars_none hV
  have hv0 := hval 0 22 v0 rfl rfl
  obtain ⟨a0, len0, cap0, rfl⟩ := okWide_slice Try.underlying22 hv0
  have k0 := h0
  have lt0 : ∀ x ∈ p0, x.block < W.heap.size := by obtain ⟨m, hm⟩ := k0; exact DataW.trod_lt m _ _ _ hm
  have w0 : InSpans W a0 len0 cap0 := by
    obtain ⟨fuel, hf⟩ := h0
    rcases open_slice_pairs Try.underlying22 Try.underlying28 (by kernel_rfl) rfl rfl (by kernel_rfl) (by kernel_rfl) hf with ⟨hcs, _⟩ | ⟨x, l, c, m, n, V0, V1, D0, D1, P0, P1, hcs, _, hl, hm, hmm, _, hi⟩
    · simp [Value.cells] at hcs
      obtain ⟨rfl, rfl, rfl⟩ := hcs
      exact .inl ⟨rfl, rfl, rfl⟩
    · simp [Value.cells] at hcs
      obtain ⟨rfl, rfl, rfl⟩ := hcs
      simp only [Value.okWide, Try.underlying22, Cell.okWide, Cell.ok, World.has] at hv0
      obtain ⟨_, _, _, hspot, row, cells, hshape, _⟩ := hv0
      obtain ⟨b, o, s⟩ := x
      simp only at hspot hshape
      subst hspot
      refine .inr ⟨b, o, rfl, ?_, fun i hil => ?_⟩
      · cases hb : W.heap[b]? with
        | none => simp [World.shape?, hb] at hshape
        | some ob => exact (Array.getElem?_eq_some_iff.1 hb).1
      · obtain ⟨hc0, hc1, ht0, ht1⟩ := hi i (by simp at hmm; omega)
        obtain ⟨n0, e0, _, _⟩ := DataW.trod_int Try.underlying3 ht0
        obtain ⟨n1, e1, _, _⟩ := DataW.trod_int Try.underlying3 ht1
        rw [List.singleton_inj.1 e0, add_at] at hc0
        rw [List.singleton_inj.1 e1, add_at] at hc1
        exact ⟨n0, n1, hc0, hc1⟩
  obtain ⟨a1, rfl, rfl, rfl, w1⟩ := open_int Try.underlying3 (hval 1 3 v1 rfl rfl) h1
  clear hA0 hval0
  refine (walk3 a0 len0 cap0 a1 W w0).mono fun e W' ⟨he, bel⟩ => ?_
  subst he
  exact ⟨_, rfl, _, _, _, [], _, [], hW', trodAll_mk1 (shut_bool Try.underlying4 _), (trodAll_cons_mk (Below.trod laidOut (by kernel_rfl) (of_decide_eq_true (by kernel_rfl)) k0 bel lt0) (trodAll_cons_mk (shut_int Try.underlying3 w1) trodAll_mk0)), rfl, bel.frame _, fun h => by cases h⟩

theorem over : Rows.spansCheckRow.holds Try.pinned (OpenSpec.ofChange Rows.spansCheckSpec) :=
  OpenClaim.holds_of_wide 3 Try.f3 rfl rfl rfl rfl rfl rfl rfl ⟨rfl, rfl, rfl, rfl, rfl⟩ rfl rfl rfl rfl rfl (by kernel_rfl) Try.func3 (by kernel_rfl)
    (of_decide_eq_true (by kernel_rfl)) (by unfold Func.isWrapper; first | (rw [if_pos (by decide +kernel)]; kernel_rfl) | (rw [if_neg (by decide +kernel)]; exact ⟨rfl, rfl⟩))
    (fun os started H enc _ => lifted os started H enc)
end spansCheckDone
/-- THE STATEMENT -/
theorem spansCheck_proved : Rows.SpansCheckSaid := spansCheckDone.over
#print axioms spansCheck_proved
end Go.Proofs.Ytmgdjhofifdiaaa
