/-
  The law RopesScript returns true for every struct of sizes and every list of steps that it is given.
  There are no conditions.
-/
import Derived.Test.YtpioenfglmimgaaRows
import Derived.Test.YtpioenfglmimgaaVN
import Derived.Test.YtpioenfglmimgaaGF
import Derived.Test.YtpioenfglmimgaaLives
import Derived.WalkKit
import Derived.ProofKit
import Derived.OpenShut
import Derived.ShutString
import Derived.ChangeOld
import Derived.Below
import Derived.Deep.SlicePairs
import Derived.Deep.Grids
import Derived.Deep.Strs
namespace Go.Proofs.Ytpioenfglmimgaa
open Go Go.Proofs Go.Proofs.Abs
open Go.ChangeShapes Go.WideShapes Go.ChangeAt Go.RowKit Go.Deep
set_option linter.unusedSimpArgs false
set_option linter.unusedVariables false

theorem calls6 : CallOk Try.prog (fun f args h => funA ctx all99 5000 args h (ctx.funs.get f)) :=
  run_step tysOk funsOk mixed 5000 (plus_ok (fun f hf => by
    have h9 : f = 9 := Nat.eq_of_beq_eq_true hf
    subst h9
    have hfo := funsOk 9 Try.f9 (by kernel_rfl)
    exact ⟨⟨Try.f9, hfo.at_, rfl, hfo.name⟩, lives_true⟩) (run_ok tysOk funsOk mixed 5000 99))
def PU8 (v : Value) : Prop := ∃ x : Int, v = .int .u8 x ∧ 0 ≤ x ∧ x < 256
theorem u8s_A {us : List Value} (h : ∀ u ∈ us, PU8 u) (A : List Addr) : ∃ xs : List Int, us.map (absV A) = xs.map (fun x => AV.lit (.int .u8 x)) ∧ ∀ x ∈ xs, 0 ≤ x ∧ x < 256 := by
  induction us with
  | nil => exact ⟨[], rfl, fun x hx => by cases hx⟩
  | cons u us ih =>
    obtain ⟨xs, h1, h2⟩ := ih (fun u hu => h u (.tail _ hu))
    obtain ⟨x, rfl, h3⟩ := h u (.head _)
    refine ⟨x :: xs, by rw [List.map_cons, List.map_cons, h1]; rfl, fun y hy => ?_⟩
    rcases List.mem_cons.1 hy with rfl | hy
    · exact h3
    · exact h2 y hy
/-- a step at a place -/
def StepAt (w : World) (b o : Nat) (s : Int × Int × Int × Int × Value) : Prop :=
  w.cell? ⟨b, o, none⟩ = some (.int .u8 s.1) ∧ w.cell? ⟨b, o + 1, none⟩ = some (.int .i64 s.2.1) ∧ w.cell? ⟨b, o + 2, none⟩ = some (.int .i64 s.2.2.1) ∧ w.cell? ⟨b, o + 3, none⟩ = some (.int .i64 s.2.2.2.1) ∧ w.cell? ⟨b, o + 4, none⟩ = some s.2.2.2.2 ∧ 0 ≤ s.1 ∧ PSl PInt w s.2.2.2.2
/-- a slice of steps that came in -/
def InT (w : World) (a : Option Addr) (len cap : Nat) : Prop :=
  (a = none ∧ len = 0 ∧ cap = 0) ∨ ∃ a0, a = some a0 ∧ len ≤ cap ∧ ∀ i, i < len → a0.spot = none ∧ ∃ s, StepAt w a0.block (a0.off + i * 5) s
theorem InT.list {w : World} {a : Option Addr} {len cap : Nat} (h : InT w a len cap) {A : List Addr} (hA : ∀ x ∈ addrsV (.slice a len cap), x ∈ A) (hW : ∀ x ∈ addrsW w, x ∈ A) :
    ∃ sts : List S5, IsR c5 5 (hpA A w) (absV A (.slice a len cap)) sts ∧ ∀ st ∈ sts, 0 ≤ st.1 ∧ ∃ zs : List Int, Lc false (hpA A w) st.2.2.2.2 (zs.map I) := by
  rcases h with ⟨rfl, rfl, rfl⟩ | ⟨a0, rfl, hl, hi⟩
  · exact ⟨[], .inl ⟨rfl, rfl⟩, fun st hs => (by cases hs)⟩
  · have ha : a0 ∈ A := hA a0 (by simp [addrsV])
    have hex : ∀ i, ∃ s : Int × Int × Int × Int × Value, i < len → a0.spot = none ∧ StepAt w a0.block (a0.off + i * 5) s := fun i => by
      by_cases hlt : i < len
      · obtain ⟨h1, s, h2⟩ := hi i hlt
        exact ⟨s, fun _ => ⟨h1, h2⟩⟩
      · exact ⟨(0, 0, 0, 0, undef), fun h => absurd h hlt⟩
    obtain ⟨U, hU⟩ := Classical.skolem.1 hex
    have hlen : ((List.range len).map fun i => ((U i).1, (U i).2.1, (U i).2.2.1, (U i).2.2.2.1, absV A (U i).2.2.2.2) : List S5).length = len := by simp
    refine ⟨(List.range len).map fun i => ((U i).1, (U i).2.1, (U i).2.2.1, (U i).2.2.2.1, absV A (U i).2.2.2.2), .inr ⟨A.idxOf a0, 0, false, cap, 0, by rw [hlen]; rfl, List.idxOf_lt_length_of_mem ha, fun k x hx => ?_⟩, fun st hs => ?_⟩
    · have hkl : k < len := by
        have := (List.getElem?_eq_some_iff.1 hx).1
        rwa [hlen] at this
      rw [List.getElem?_map, List.getElem?_range hkl] at hx
      have hx := (Option.some.inj hx).symm
      subst hx
      obtain ⟨h1, e0, e1, e2, e3, e4, _⟩ := hU k hkl
      rw [Nat.zero_add]
      have r : Row1 (hpA A w) (A.idxOf a0) (k * 5) (c5 ((U k).1, (U k).2.1, (U k).2.2.1, (U k).2.2.2.1, absV A (U k).2.2.2.2)) := fun j y hy => by
        match j, hy with
        | 0, hy => cases hy; exact load_A ha h1 e0
        | 1, hy => cases hy; exact load_A (k := k * 5 + 1) ha h1 (by rw [← Nat.add_assoc]; exact e1)
        | 2, hy => cases hy; exact load_A (k := k * 5 + 2) ha h1 (by rw [← Nat.add_assoc]; exact e2)
        | 3, hy => cases hy; exact load_A (k := k * 5 + 3) ha h1 (by rw [← Nat.add_assoc]; exact e3)
        | 4, hy => cases hy; exact load_A (k := k * 5 + 4) ha h1 (by rw [← Nat.add_assoc]; exact e4)
        | j + 5, hy => simp [c5] at hy
      exact row_load r
    · obtain ⟨i, hir, rfl⟩ := List.mem_map.1 hs
      obtain ⟨h1, _, _, _, _, e4, h5, h6⟩ := hU i (List.mem_range.1 hir)
      refine ⟨h5, ?_⟩
      obtain ⟨a2, len2, cap2, he, g2⟩ := h6
      have hv2 : ∀ x ∈ addrsV (.slice a2 len2 cap2), x ∈ A := fun x hx => hW x (addrsW_mem (by rw [he] at e4; exact e4) hx)
      obtain ⟨us, _, p1, _, l1⟩ := g2.list hv2
      obtain ⟨xs, e9, _⟩ := ints_A p1 A
      rw [e9] at l1
      refine ⟨xs, ?_⟩
      show Lc false (hpA A w) (absV A (U i).2.2.2.2) (xs.map I)
      rw [he]
      exact l1
theorem walk6 (w : World) (v1 : Value) (z0 : Bool) (h1 : PSl PU8 w v1) (a2 : Option Addr) (len2 cap2 : Nat) (h2 : InT w a2 len2 cap2) :
    Calls Try.prog 6 #[.agg #[v1, .bool z0], .slice a2 len2 cap2] w fun e w' => e = .returned (.bool true) ∧ Below w.heap.size w w' := by
  obtain ⟨A, rfl⟩ : ∃ A, A = addrsV v1 ++ (addrsV (.slice a2 len2 cap2) ++ addrsW w) := ⟨_, rfl⟩
  have hW : ∀ x ∈ addrsW w, x ∈ addrsV v1 ++ (addrsV (.slice a2 len2 cap2) ++ addrsW w) := fun x hx => List.mem_append_right _ (List.mem_append_right _ hx)
  have hv1 : ∀ x ∈ addrsV v1, x ∈ addrsV v1 ++ (addrsV (.slice a2 len2 cap2) ++ addrsW w) := fun x hx => List.mem_append_left _ hx
  have hv2 : ∀ x ∈ addrsV (.slice a2 len2 cap2), x ∈ addrsV v1 ++ (addrsV (.slice a2 len2 cap2) ++ addrsW w) := fun x hx => List.mem_append_right _ (List.mem_append_left _ hx)
  generalize addrsV v1 ++ (addrsV (.slice a2 len2 cap2) ++ addrsW w) = A at hW hv1 hv2
  obtain ⟨a1, len1, cap1, rfl, g1⟩ := h1
  obtain ⟨us, _, p1, _, l1⟩ := g1.list hv1
  obtain ⟨xs, e1, b1⟩ := u8s_A p1 A
  rw [e1] at l1
  obtain ⟨sts, r2, s2⟩ := h2.list hv2 hW
  have c1 := absV_conc hv1
  have c2 := absV_conc hv2
  have ho : oks (sgA A) A.length [.agg [absV A (.slice a1 len1 cap1), Bo z0], absV A (.slice a2 len2 cap2)] := ⟨⟨absV_ok hv1, trivial, trivial⟩, absV_ok hv2, trivial⟩
  have k := true_calls calls6 (f := 6) (gam_A A w hW) ho (fun fn h => by rw [Try.func6] at h; cases h; rfl) (script_law0 _ _ xs z0 _ sts l1.isL b1 r2 s2)
  have e : (concs (sgA A) [.agg [absV A (.slice a1 len1 cap1), Bo z0], absV A (.slice a2 len2 cap2)]).toArray = #[.agg #[.slice a1 len1 cap1, .bool z0], .slice a2 len2 cap2] := by
    simp [concs, conc, c1, c2]
  rw [e] at k
  exact k

namespace ropesScriptDone
theorem own : ownKnob Try.prog.godebug = none := by kernel_rfl
theorem laidOut : laidOutB Try.prog = true := by kernel_rfl
theorem openI3 {W : World} {base : Nat} {v : Value} (hv : Value.okWide Try.prog W .any base 3 v) : ∃ z : Int, v = .int .i64 z ∧ In z := by
  simp only [Value.okWide, Try.underlying3, Cell.okWide, Cell.ok] at hv
  cases v <;> simp_all
  rename_i k z
  exact hv.2
theorem openedS {H : Type} {enc : TypeId × Value → H} {W : World} {fuel : Nat} {y : Value} {x : DataW H × List MemPlace} (hf : DataW.trod enc Try.prog W 0 (fun _ => true) true fuel 22 [y] = some x) : PSl PInt W y := by
  rcases open_slice1 Try.underlying22 (by kernel_rfl) hf with ⟨hcs, _⟩ | ⟨a, len, cap, m, n, V, D, Pl, hcs, _, hl, hm, hmm, _, hi⟩
  · exact ⟨none, 0, 0, List.singleton_inj.1 hcs, .inl ⟨rfl, rfl, rfl⟩⟩
  · refine ⟨some a, len, cap, List.singleton_inj.1 hcs, .inr ⟨a, rfl, hl, fun i hil => ?_⟩⟩
    have h0 := (hi 0 (by simp at hmm; omega)).1
    obtain ⟨hc0, ht0⟩ := hi i (by simp at hmm; omega)
    obtain ⟨n0, e0, q0, q1⟩ := DataW.trod_int Try.underlying2 ht0
    obtain ⟨s1, s2⟩ := add_spot ⟨_, h0⟩ hc0
    rw [List.singleton_inj.1 e0] at s2
    simp only [Lit.wf, Bool.and_eq_true, decide_eq_true_eq] at q1
    exact ⟨s1, _, s2, n0, rfl, q1.1, by have := q1.2; simpa using this⟩
theorem openedU {H : Type} {enc : TypeId × Value → H} {W : World} {fuel : Nat} {y : Value} {x : DataW H × List MemPlace} (hf : DataW.trod enc Try.prog W 0 (fun _ => true) true fuel 33 [y] = some x) : PSl PU8 W y := by
  rcases open_slice1 Try.underlying33 (by kernel_rfl) hf with ⟨hcs, _⟩ | ⟨a, len, cap, m, n, V, D, Pl, hcs, _, hl, hm, hmm, _, hi⟩
  · exact ⟨none, 0, 0, List.singleton_inj.1 hcs, .inl ⟨rfl, rfl, rfl⟩⟩
  · refine ⟨some a, len, cap, List.singleton_inj.1 hcs, .inr ⟨a, rfl, hl, fun i hil => ?_⟩⟩
    have h0 := (hi 0 (by simp at hmm; omega)).1
    obtain ⟨hc0, ht0⟩ := hi i (by simp at hmm; omega)
    obtain ⟨n0, e0, q0, q1⟩ := DataW.trod_int Try.underlying5 ht0
    obtain ⟨s1, s2⟩ := add_spot ⟨_, h0⟩ hc0
    rw [List.singleton_inj.1 e0] at s2
    simp only [Lit.wf, Bool.and_eq_true, decide_eq_true_eq] at q1
    exact ⟨s1, _, s2, n0, rfl, q1.1, Int.lt_of_le_of_lt q1.2 (by decide)⟩
theorem openedR {H : Type} {enc : TypeId × Value → H} {W : World} {base : Nat} {v : Value} {d : DataW H} {p : List MemPlace} (hv : Value.okWide Try.prog W .any base 35 v)
    (h0 : DataW.Trod enc Try.prog W 0 (fun _ => true) true 35 v d p) : ∃ x z, v = .agg #[x, .bool z] ∧ PSl PU8 W x := by
  simp only [Value.okWide, Try.underlying35] at hv
  obtain ⟨cs, rfl, hsz, ts, hts, _, hall⟩ := hv
  have hA : Try.prog.cellTypes Try.prog.depth 35 = some [33, 4] := by kernel_rfl
  have hB : Try.prog.cellsOf 35 = 2 := by kernel_rfl
  rw [hA] at hts
  cases hts
  rw [hB] at hsz
  obtain ⟨l⟩ := cs
  match l, hsz with
  | [x, y], _ =>
    obtain ⟨u1, hu1, hc1⟩ := hall 1 y rfl
    cases hu1
    obtain ⟨fuel, hf⟩ := h0
    obtain ⟨y0, y1, n, _, _, hf1, hf2⟩ := trod_struct2 Try.underlying35 hf
    have hca : Try.prog.cellsOf 33 = 1 := by kernel_rfl
    have hf3 : DataW.trod enc Try.prog W 0 (fun _ => true) true n 33 [x] = some y0 := by simpa [Value.cells, hca] using hf1
    obtain ⟨z, rfl⟩ : ∃ z, y = .bool z := by
      simp only [Cell.okWide, Try.underlying4, Cell.ok] at hc1
      cases y <;> simp_all
    exact ⟨x, z, rfl, openedU hf3⟩
theorem trod5 {H : Type} {enc : TypeId × Value → H} {P : Program} {w : World} {base : Nat} {spare : Nat → Bool} {held : Bool} {t : TypeId} {f0 f1 f2 f3 f4 : Field} {fuel : Nat} {cs : List Value} {x : DataW H × List MemPlace} (ht : P.underlying t = some (.struct #[f0, f1, f2, f3, f4])) (h : DataW.trod enc P w base spare held fuel t cs = some x) :
    ∃ y0 y1 y2 y3 y4 n, DataW.trod enc P w base spare held n f0.type ((cs.drop f0.offset).take (P.cellsOf f0.type)) = some y0 ∧
      DataW.trod enc P w base spare held n f1.type ((cs.drop f1.offset).take (P.cellsOf f1.type)) = some y1 ∧ DataW.trod enc P w base spare held n f2.type ((cs.drop f2.offset).take (P.cellsOf f2.type)) = some y2 ∧
      DataW.trod enc P w base spare held n f3.type ((cs.drop f3.offset).take (P.cellsOf f3.type)) = some y3 ∧ DataW.trod enc P w base spare held n f4.type ((cs.drop f4.offset).take (P.cellsOf f4.type)) = some y4 := by
  obtain ⟨xs, n, _, rfl, hl, hlen, hf⟩ := DataW.trod_struct ht h
  match xs, hlen with
  | [y0, y1, y2, y3, y4], _ => exact ⟨y0, y1, y2, y3, y4, n, by simpa using hf 0 f0 rfl, by simpa using hf 1 f1 rfl, by simpa using hf 2 f2 rfl, by simpa using hf 3 f3 rfl, by simpa using hf 4 f4 rfl⟩
theorem openedT {H : Type} {enc : TypeId × Value → H} {W : World} {base : Nat} {v : Value} {d : DataW H} {p : List MemPlace} (hv0 : Value.okWide Try.prog W .any base 54 v)
    (h0 : DataW.Trod enc Try.prog W 0 (fun _ => true) true 54 v d p) : ∃ a len cap, v = .slice a len cap ∧ InT W a len cap := by
  obtain ⟨a9, len9, cap9, rfl⟩ := okWide_slice Try.underlying54 hv0
  obtain ⟨fuel, hf⟩ := h0
  have hv : Cell.okWide Try.prog W .any base 54 (.slice a9 len9 cap9) := by simpa only [Value.okWide, Try.underlying54] using hv0
  have hf2 : DataW.trod enc Try.prog W 0 (fun _ => true) true fuel 54 [.slice a9 len9 cap9] = some (d, p) := by simpa [Value.cells] using hf
  have ce : Try.prog.cellsOf 56 = 5 := by kernel_rfl
  have k5 : Try.prog.cellsOf 5 = 1 := by kernel_rfl
  have k3 : Try.prog.cellsOf 3 = 1 := by kernel_rfl
  have k22 : Try.prog.cellsOf 22 = 1 := by kernel_rfl
  rcases open_slice Try.underlying54 hf2 with ⟨hcs, _⟩ | ⟨a, len, cap, m, n, D, Pl, hcs, _, hl, hm, hmm, _, hi⟩
  · have hy := List.singleton_inj.1 hcs
    cases hy
    exact ⟨none, 0, 0, rfl, .inl ⟨rfl, rfl, rfl⟩⟩
  · have hy := List.singleton_inj.1 hcs
    cases hy
    simp only [Cell.okWide, Try.underlying54, Cell.ok, World.has] at hv
    obtain ⟨_, _, _, hspot, _⟩ := hv
    obtain ⟨b, o, s⟩ := a
    simp only at hspot
    subst hspot
    refine ⟨_, len9, cap9, rfl, .inr ⟨_, rfl, hl, fun i hil => ⟨rfl, ?_⟩⟩⟩
    obtain ⟨cs', h1, h2⟩ := hi i (by simp at hmm; omega)
    rw [ce] at h1
    obtain ⟨_, hlen, hcell⟩ := World.cells?_some h1
    obtain ⟨y0, y1, y2, y3, y4, n, t0, t1, t2, t3, t4⟩ := trod5 Try.underlying56 h2
    match cs', hlen with
    | [v0, v1, v2, v3, v4], _ =>
      have g : ∀ (v : Value) (z : DataW H × List MemPlace), DataW.trod enc Try.prog W 0 (fun _ => true) true n 3 [v] = some z → ∃ z : Int, v = .int .i64 z := fun v z hh => by
        obtain ⟨n0, e0, _, q1⟩ := DataW.trod_int Try.underlying3 hh
        exact ⟨n0, List.singleton_inj.1 e0⟩
      obtain ⟨z0, rfl, b0⟩ : ∃ z : Int, v0 = .int .u8 z ∧ 0 ≤ z := by
        obtain ⟨n0, e0, _, q1⟩ := DataW.trod_int Try.underlying5 (show DataW.trod enc Try.prog W 0 (fun _ => true) true n 5 [v0] = some y0 by simpa [k5] using t0)
        simp only [Lit.wf, Bool.and_eq_true, decide_eq_true_eq] at q1
        exact ⟨n0, List.singleton_inj.1 e0, q1.1⟩
      obtain ⟨z1, rfl⟩ := g v1 y1 (by simpa [k3] using t1)
      obtain ⟨z2, rfl⟩ := g v2 y2 (by simpa [k3] using t2)
      obtain ⟨z3, rfl⟩ := g v3 y3 (by simpa [k3] using t3)
      have u4 := openedS (show DataW.trod enc Try.prog W 0 (fun _ => true) true n 22 [v4] = some y4 by simpa [k22] using t4)
      have e0 := hcell 0 (by omega)
      have e1 := hcell 1 (by omega)
      have e2 := hcell 2 (by omega)
      have e3 := hcell 3 (by omega)
      have e4 := hcell 4 (by omega)
      rw [add_add, add_at] at e0 e1 e2 e3 e4
      exact ⟨(z0, z1, z2, z3, v4), by simpa using e0, by simpa [Nat.add_assoc] using e1, by simpa [Nat.add_assoc] using e2, by simpa [Nat.add_assoc] using e3, by simpa [Nat.add_assoc] using e4, b0, u4⟩
set_option maxRecDepth 100000 in
theorem lifted (os : Os) (started : os.Started) (H : Type) (enc : TypeId × Value → H) :
    ReturnsInHanded {} Try.checked os 6 .any (Rows.ropesScriptSpec.pre6 enc Try.prog Try.f6 Rows.ropesScriptRow.domain false) (Rows.ropesScriptSpec.post enc Try.prog Try.f6 false true false false) := by
  refine returnsInHanded_of_change (C := Try.checked) own started (by kernel_rfl) Try.func6
    (ChangeSpec.witness6 (enc := enc) (C := Try.checked) false ⟨#[], #[.agg #[.slice none 0 0, .bool false], .slice none 0 0], []⟩ 8 (by kernel_rfl) (by kernel_rfl) (by kernel_rfl) (by kernel_rfl)) ?_
  intro W base args ds gs before hval0 hW hcnd _
  have hval : ∀ (j : Nat) t v, Try.f6.params[j]? = some t → args[j]? = some v → Value.okWide Try.prog W .any base t v := hval0
  have hW' := hW
  obtain ⟨p, q, hA0, hV, rfl, hfz, hnd⟩ := hW
  have hA : DataW.TrodAll enc Try.prog W 0 (fun _ => true) true Try.f6.params.toList args.toList ds p := hA0
  rw [Try.params6] at hA hval
  obtain ⟨v0, vs0, d0, ds0, p0, q0, hargs, rfl, rfl, h0, s0⟩ := trodAll_cons hA
  obtain ⟨v1, vs1, d1, ds1, p1, q1, rfl, rfl, rfl, h1, s1⟩ := trodAll_cons s0
  obtain ⟨rfl, rfl, rfl⟩ := trodAll_nil s1
  obtain rfl : args = #[v0, v1] := by cases args; simp_all
  obtain ⟨rfl, rfl⟩ := trodVars_none hV
  have hv0 := hval 0 35 v0 rfl rfl
  have lt0 : ∀ x ∈ p0, x.block < W.heap.size := by obtain ⟨m, hm⟩ := h0; exact DataW.trod_lt m _ _ _ hm
  obtain ⟨x0, z0, rfl, u0⟩ := openedR hv0 h0
  have hv1 := hval 1 54 v1 rfl rfl
  have lt1 : ∀ x ∈ p1, x.block < W.heap.size := by obtain ⟨m, hm⟩ := h1; exact DataW.trod_lt m _ _ _ hm
  obtain ⟨a1, len1, cap1, rfl, u1⟩ := openedT hv1 h1
  clear hA0 hval0
  refine (walk6 W x0 z0 u0 a1 len1 cap1 u1).mono fun e W' ⟨he, bel⟩ => ?_
  subst he
  exact ⟨_, rfl, _, _, _, [], _, [], hW', trodAll_mk1 (shut_bool Try.underlying4 _), (trodAll_cons_mk (Below.trod laidOut (by kernel_rfl) (of_decide_eq_true (by kernel_rfl)) h0 bel lt0) (trodAll_cons_mk (Below.trod laidOut (by kernel_rfl) (of_decide_eq_true (by kernel_rfl)) h1 bel lt1) trodAll_mk0)), rfl, bel.frame _, fun h => by cases h⟩

theorem over : Rows.ropesScriptRow.holds Try.pinned (OpenSpec.ofChange Rows.ropesScriptSpec) :=
  OpenClaim.holds_of_wide 6 Try.f6 rfl rfl rfl rfl rfl rfl rfl ⟨rfl, rfl, rfl, rfl, rfl⟩ rfl rfl rfl rfl rfl (by kernel_rfl) Try.func6 (by kernel_rfl)
    (of_decide_eq_true (by kernel_rfl)) (by unfold Func.isWrapper; first | (rw [if_pos (by decide +kernel)]; kernel_rfl) | (rw [if_neg (by decide +kernel)]; exact ⟨rfl, rfl⟩))
    (fun os started H enc _ => lifted os started H enc)
end ropesScriptDone
/-- THE STATEMENT -/
theorem ropesScript_proved : Rows.RopesScriptSaid := ropesScriptDone.over
#print axioms ropesScript_proved
end Go.Proofs.Ytpioenfglmimgaa
