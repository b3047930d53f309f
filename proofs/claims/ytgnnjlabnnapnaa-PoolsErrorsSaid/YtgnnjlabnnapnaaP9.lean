/-
  The law PoolsErrors returns true, whatever pools and two numbers it is given.
  There are no conditions.
-/
import Derived.Test.YtgnnjlabnnapnaaRows
import Derived.Test.YtgnnjlabnnapnaaLz
import Derived.Test.YtgnnjlabnnapnaaGF
import Derived.Test.YtgnnjlabnnapnaaLives
import Derived.WalkKit
import Derived.ProofKit
import Derived.OpenShut
import Derived.ShutString
import Derived.ChangeOld
import Derived.Below
import Derived.Deep.SlicePairs
import Derived.Deep.Grids
import Derived.Deep.Strs
namespace Go.Proofs.Ytgnnjlabnnapnaa
open Go Go.Proofs Go.Proofs.Abs
open Go.ChangeShapes Go.WideShapes Go.ChangeAt Go.RowKit Go.Deep
set_option linter.unusedSimpArgs false
set_option linter.unusedVariables false

theorem calls5 : CallOk Try.prog (fun f args h => funA ctx all8 5000 args h (ctx.funs.get f)) :=
  run_step tysOk funsOk mixed 5000 (plus_ok (fun f hf => by
    have h9 : f = 20 := Nat.eq_of_beq_eq_true hf
    subst h9
    have hfo := funsOk 20 Try.f20 (by kernel_rfl)
    exact ⟨⟨Try.f20, hfo.at_, rfl, hfo.name⟩, lives_true⟩) (run_ok tysOk funsOk mixed 5000 8))
theorem walk5 (w : World) (v1 v2 : Value) (h1 : PSl PInt w v1) (h2 : PSl (PSl PInt w) w v2) (z1 : Int) (r1 : In z1) (z2 : Int) (r2 : In z2) :
    Calls Try.prog 5 #[.agg #[v1, v2], .int .i64 z1, .int .i64 z2] w fun e w' => e = .returned (.bool true) ∧ Below w.heap.size w w' := by
  obtain ⟨A, rfl⟩ : ∃ A, A = addrsV v1 ++ (addrsV v2 ++ addrsW w) := ⟨_, rfl⟩
  have hW : ∀ x ∈ addrsW w, x ∈ addrsV v1 ++ (addrsV v2 ++ addrsW w) := fun x hx => List.mem_append_right _ (List.mem_append_right _ hx)
  have hv1 : ∀ x ∈ addrsV v1, x ∈ addrsV v1 ++ (addrsV v2 ++ addrsW w) := fun x hx => List.mem_append_left _ hx
  have hv2 : ∀ x ∈ addrsV v2, x ∈ addrsV v1 ++ (addrsV v2 ++ addrsW w) := fun x hx => List.mem_append_right _ (List.mem_append_left _ hx)
  generalize addrsV v1 ++ (addrsV v2 ++ addrsW w) = A at hW hv1 hv2
  obtain ⟨a1, len1, cap1, rfl, g1⟩ := h1
  obtain ⟨a2, len2, cap2, rfl, g2⟩ := h2
  obtain ⟨us, _, p1, _, l1⟩ := g1.list hv1
  obtain ⟨xs, e1, _⟩ := ints_A p1 A
  rw [e1] at l1
  obtain ⟨ws, _, p2, q2, l2⟩ := g2.list hv2
  obtain ⟨xss, l3⟩ := rows_A p2 (A := A) (fun u hu x hx => by
    obtain ⟨i, hi⟩ := List.getElem?_of_mem hu
    obtain ⟨b, hb⟩ := q2 i u hi
    exact hW x (addrsW_mem hb hx))
  have c1 := absV_conc hv1
  have c2 := absV_conc hv2
  have ho : oks (sgA A) A.length [.agg [absV A (.slice a1 len1 cap1), absV A (.slice a2 len2 cap2)], I z1, I z2] := ⟨⟨absV_ok hv1, absV_ok hv2, trivial⟩, trivial, trivial, trivial⟩
  have k := true_calls calls5 (f := 5) (gam_A A w hW) ho (fun fn h => by rw [Try.func5] at h; cases h; rfl) (err_law _ _ _ _ _ _ z1 z2 ⟨l1, l2, l3⟩ r1 r2)
  have e : (concs (sgA A) [.agg [absV A (.slice a1 len1 cap1), absV A (.slice a2 len2 cap2)], I z1, I z2]).toArray = #[.agg #[.slice a1 len1 cap1, .slice a2 len2 cap2], .int .i64 z1, .int .i64 z2] := by
    simp [concs, conc, c1, c2]
  rw [e] at k
  exact k

namespace poolsErrorsDone
theorem own : ownKnob Try.prog.godebug = none := by kernel_rfl
theorem laidOut : laidOutB Try.prog = true := by kernel_rfl
theorem openI3 {W : World} {base : Nat} {v : Value} (hv : Value.okWide Try.prog W .any base 3 v) : ∃ z : Int, v = .int .i64 z ∧ In z := by
  simp only [Value.okWide, Try.underlying3, Cell.okWide, Cell.ok] at hv
  cases v <;> simp_all
  rename_i k z
  exact hv.2
theorem opened26 {H : Type} {enc : TypeId × Value → H} {W : World} {fuel : Nat} {y : Value} {x : DataW H × List MemPlace} (hf : DataW.trod enc Try.prog W 0 (fun _ => true) true fuel 26 [y] = some x) : PSl PInt W y := by
  rcases open_slice1 Try.underlying26 (by kernel_rfl) hf with ⟨hcs, _⟩ | ⟨a, len, cap, m, n, V, D, Pl, hcs, _, hl, hm, hmm, _, hi⟩
  · exact ⟨none, 0, 0, List.singleton_inj.1 hcs, .inl ⟨rfl, rfl, rfl⟩⟩
  · refine ⟨some a, len, cap, List.singleton_inj.1 hcs, .inr ⟨a, rfl, hl, fun i hil => ?_⟩⟩
    have h0 := (hi 0 (by simp at hmm; omega)).1
    obtain ⟨hc0, ht0⟩ := hi i (by simp at hmm; omega)
    obtain ⟨n0, e0, q0, q1⟩ := DataW.trod_int Try.underlying3 ht0
    obtain ⟨s1, s2⟩ := add_spot ⟨_, h0⟩ hc0
    rw [List.singleton_inj.1 e0] at s2
    simp only [Lit.wf, Bool.and_eq_true, decide_eq_true_eq] at q1
    exact ⟨s1, _, s2, n0, rfl, q1.1, by have := q1.2; simpa using this⟩
theorem opened27 {H : Type} {enc : TypeId × Value → H} {W : World} {fuel : Nat} {y : Value} {x : DataW H × List MemPlace} (hf : DataW.trod enc Try.prog W 0 (fun _ => true) true fuel 27 [y] = some x) : PSl (PSl PInt W) W y := by
  rcases open_slice1 Try.underlying27 (by kernel_rfl) hf with ⟨hcs, _⟩ | ⟨a, len, cap, m, n, V, D, Pl, hcs, _, hl, hm, hmm, _, hi⟩
  · exact ⟨none, 0, 0, List.singleton_inj.1 hcs, .inl ⟨rfl, rfl, rfl⟩⟩
  · refine ⟨some a, len, cap, List.singleton_inj.1 hcs, .inr ⟨a, rfl, hl, fun i hil => ?_⟩⟩
    have h0 := (hi 0 (by simp at hmm; omega)).1
    obtain ⟨hc0, ht0⟩ := hi i (by simp at hmm; omega)
    obtain ⟨s1, s2⟩ := add_spot ⟨_, h0⟩ hc0
    exact ⟨s1, _, s2, opened26 ht0⟩
theorem opened29 {H : Type} {enc : TypeId × Value → H} {W : World} {base : Nat} {v : Value} {d : DataW H} {p : List MemPlace} (hv : Value.okWide Try.prog W .any base 29 v)
    (h0 : DataW.Trod enc Try.prog W 0 (fun _ => true) true 29 v d p) : ∃ x y, v = .agg #[x, y] ∧ PSl PInt W x ∧ PSl (PSl PInt W) W y := by
  simp only [Value.okWide, Try.underlying29] at hv
  obtain ⟨cs, rfl, hsz, ts, hts, _, hall⟩ := hv
  have hB : Try.prog.cellsOf 29 = 2 := by kernel_rfl
  rw [hB] at hsz
  obtain ⟨l⟩ := cs
  match l, hsz with
  | [x, y], _ =>
    obtain ⟨fuel, hf⟩ := h0
    obtain ⟨y0, y1, n, _, _, hf1, hf2⟩ := trod_struct2 Try.underlying29 hf
    have hc1 : Try.prog.cellsOf 26 = 1 := by kernel_rfl
    have hcc : Try.prog.cellsOf 27 = 1 := by kernel_rfl
    have hf3 : DataW.trod enc Try.prog W 0 (fun _ => true) true n 27 [y] = some y1 := by simpa [Value.cells, hcc] using hf2
    have hf4 : DataW.trod enc Try.prog W 0 (fun _ => true) true n 26 [x] = some y0 := by simpa [Value.cells, hc1] using hf1
    exact ⟨x, y, rfl, opened26 hf4, opened27 hf3⟩
set_option maxRecDepth 100000 in
theorem lifted (os : Os) (started : os.Started) (H : Type) (enc : TypeId × Value → H) :
    ReturnsInHanded {} Try.checked os 5 .any (Rows.poolsErrorsSpec.pre6 enc Try.prog Try.f5 Rows.poolsErrorsRow.domain false) (Rows.poolsErrorsSpec.post enc Try.prog Try.f5 false true false false) := by
  refine returnsInHanded_of_change (C := Try.checked) own started (by kernel_rfl) Try.func5
    (ChangeSpec.witness6 (enc := enc) (C := Try.checked) false ⟨#[], #[.agg #[.slice none 0 0, .slice none 0 0], .int .i64 0, .int .i64 0], []⟩ 8 (by kernel_rfl) (by kernel_rfl) (by kernel_rfl) (by kernel_rfl)) ?_
  intro W base args ds gs before hval0 hW hcnd _
  have hval : ∀ (j : Nat) t v, Try.f5.params[j]? = some t → args[j]? = some v → Value.okWide Try.prog W .any base t v := hval0
  have hW' := hW
  obtain ⟨p, q, hA0, hV, rfl, hfz, hnd⟩ := hW
  have hA : DataW.TrodAll enc Try.prog W 0 (fun _ => true) true Try.f5.params.toList args.toList ds p := hA0
  rw [Try.params5] at hA hval
  obtain ⟨v0, vs0, d0, ds0, p0, q0, hargs, rfl, rfl, h0, s0⟩ := trodAll_cons hA
  obtain ⟨v1, vs1, d1, ds1, p1, q1, rfl, rfl, rfl, h1, s1⟩ := trodAll_cons s0
  obtain ⟨v2, vs2, d2, ds2, p2, q2, rfl, rfl, rfl, h2, s2⟩ := trodAll_cons s1
  obtain ⟨rfl, rfl, rfl⟩ := trodAll_nil s2
  obtain rfl : args = #[v0, v1, v2] := by cases args; simp_all
  obtain ⟨rfl, rfl⟩ := trodVars_none hV
  have hv0 := hval 0 29 v0 rfl rfl
  have lt0 : ∀ x ∈ p0, x.block < W.heap.size := by obtain ⟨m, hm⟩ := h0; exact DataW.trod_lt m _ _ _ hm
  obtain ⟨x0, y0, rfl, u0, u1⟩ := opened29 hv0 h0
  have hv1 := hval 1 3 v1 rfl rfl
  have lt1 : ∀ x ∈ p1, x.block < W.heap.size := by obtain ⟨m, hm⟩ := h1; exact DataW.trod_lt m _ _ _ hm
  obtain ⟨z1, rfl, r1⟩ := openI3 hv1
  have hv2 := hval 2 3 v2 rfl rfl
  have lt2 : ∀ x ∈ p2, x.block < W.heap.size := by obtain ⟨m, hm⟩ := h2; exact DataW.trod_lt m _ _ _ hm
  obtain ⟨z2, rfl, r2⟩ := openI3 hv2
  clear hA0 hval0
  refine (walk5 W x0 y0 u0 u1 z1 r1 z2 r2).mono fun e W' ⟨he, bel⟩ => ?_
  subst he
  exact ⟨_, rfl, _, _, _, [], _, [], hW', trodAll_mk1 (shut_bool Try.underlying4 _), (trodAll_cons_mk (Below.trod laidOut (by kernel_rfl) (of_decide_eq_true (by kernel_rfl)) h0 bel lt0) (trodAll_cons_mk (Below.trod laidOut (by kernel_rfl) (of_decide_eq_true (by kernel_rfl)) h1 bel lt1) (trodAll_cons_mk (Below.trod laidOut (by kernel_rfl) (of_decide_eq_true (by kernel_rfl)) h2 bel lt2) trodAll_mk0))), rfl, bel.frame _, fun h => by cases h⟩

theorem over : Rows.poolsErrorsRow.holds Try.pinned (OpenSpec.ofChange Rows.poolsErrorsSpec) :=
  OpenClaim.holds_of_wide 5 Try.f5 rfl rfl rfl rfl rfl rfl rfl ⟨rfl, rfl, rfl, rfl, rfl⟩ rfl rfl rfl rfl rfl (by kernel_rfl) Try.func5 (by kernel_rfl)
    (of_decide_eq_true (by kernel_rfl)) (by unfold Func.isWrapper; first | (rw [if_pos (by decide +kernel)]; kernel_rfl) | (rw [if_neg (by decide +kernel)]; exact ⟨rfl, rfl⟩))
    (fun os started H enc _ => lifted os started H enc)
end poolsErrorsDone
/-- THE STATEMENT -/
theorem poolsErrors_proved : Rows.PoolsErrorsSaid := poolsErrorsDone.over
#print axioms poolsErrors_proved
end Go.Proofs.Ytgnnjlabnnapnaa
