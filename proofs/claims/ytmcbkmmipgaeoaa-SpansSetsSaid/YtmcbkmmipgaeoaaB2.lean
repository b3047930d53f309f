import Derived.Test.YtmcbkmmipgaeoaaB1
import Derived.KernelRfl
namespace Go.Proofs.Ytmcbkmmipgaeoaa
open Go Go.Proofs Go.RowKit
set_option linter.unusedSimpArgs false
set_option linter.unusedVariables false
open Go.Proofs.Abs
/-- the set of the first k marks -/
def spK (ms : List Bool) : Nat → List (Int × Int)
  | 0 => []
  | k + 1 => if ms[k]? = some true then jn (spK ms k) (k : Int) ((k : Int) + 1) else spK ms k
structure SpOk (ms : List Bool) (k : Nat) : Prop where
  chk0 : chk (-1) (spK ms k) = 0
  lto0 : 0 < k → lto (-1) (spK ms k) ≤ (k : Int)
  len0 : (spK ms k).length ≤ k
  mem0 : ∀ x, mem x (spK ms k) ↔ ∃ j : Nat, j < k ∧ x = (j : Int) ∧ ms[j]? = some true
  last0 : ∀ j, k = j + 1 → (ms[j]? = some true → ∃ ys a, spK ms k = ys ++ [(a, (k : Int))]) ∧ (ms[j]? ≠ some true → lto (-1) (spK ms k) < (k : Int))
theorem spK_lto0 {ms : List Bool} {k : Nat} (h : SpOk ms k) : lto (-1) (spK ms k) ≤ (k : Int) := by
  cases k with
  | zero => show lto (-1) [] ≤ _; simp [lto]
  | succ k => exact h.lto0 (by omega)
theorem sp_ok {ms : List Bool} : ∀ k, k ≤ 1000000 → SpOk ms k := by
  intro k
  induction k with
  | zero => intro _; exact ⟨rfl, fun h => absurd h (by omega), Nat.le_refl _, fun x => ⟨fun h => h.elim, fun ⟨j, h, _⟩ => absurd h (by omega)⟩, fun j h => absurd h (by omega)⟩
  | succ k ih =>
    intro hk
    have i := ih (by omega)
    have il := spK_lto0 i
    by_cases hm : ms[k]? = some true
    · have e : spK ms (k + 1) = jn (spK ms k) (k : Int) ((k : Int) + 1) := by rw [spK, if_pos hm]
      obtain ⟨g1, g2, g3, g4⟩ := jn_good (s := spK ms k) (f := (k : Int)) (t := (k : Int) + 1) i.chk0 (fun _ => il) (fun _ => by omega) (by omega)
      rw [if_neg (by omega)] at g2
      have gl := jn_length (spK ms k) (k : Int) ((k : Int) + 1)
      refine ⟨by rw [e]; exact g1, fun _ => by rw [e, g2]; omega, by rw [e]; have := i.len0; omega, fun x => ?_, fun j hj => ?_⟩
      · rw [e, g4, i.mem0]
        constructor
        · rintro (⟨j, h1, h2, h3⟩ | h1)
          · exact ⟨j, by omega, h2, h3⟩
          · exact ⟨k, by omega, by omega, hm⟩
        · rintro ⟨j, h1, h2, h3⟩
          by_cases hjk : j = k
          · exact .inr (by omega)
          · exact .inl ⟨j, by omega, h2, h3⟩
      · obtain rfl : j = k := by omega
        refine ⟨fun _ => ?_, fun h => absurd hm h⟩
        rw [e]
        rcases snoc_cases (spK ms j) with h0 | ⟨ys, a, b, h0⟩
        · rw [h0, jn_nil (by omega)]
          exact ⟨[], _, rfl⟩
        · rw [h0, jn_snoc _ _ _ _ _ (by omega)]
          have hb : b ≤ (j : Int) := by rw [h0, lto_snoc] at il; exact il
          by_cases hf : (j : Int) ≤ b
          · rw [if_pos hf]
            exact ⟨ys, a, by rw [show max b ((j : Int) + 1) = ((j + 1 : Nat) : Int) by omega]⟩
          · rw [if_neg hf]
            exact ⟨ys ++ [(a, b)], (j : Int), rfl⟩
    · have e : spK ms (k + 1) = spK ms k := by rw [spK, if_neg hm]
      refine ⟨by rw [e]; exact i.chk0, fun _ => by rw [e]; omega, by rw [e]; have := i.len0; omega, fun x => ?_, fun j hj => ?_⟩
      · rw [e, i.mem0]
        constructor
        · rintro ⟨j, h1, h2⟩
          exact ⟨j, by omega, h2⟩
        · rintro ⟨j, h1, h2, h3⟩
          by_cases hjk : j = k
          · subst hjk; exact absurd h3 hm
          · exact ⟨j, by omega, h2, h3⟩
      · obtain rfl : j = k := by omega
        exact ⟨fun h => absurd h hm, fun _ => by rw [e]; omega⟩
def sp (ms : List Bool) : List (Int × Int) := spK ms ms.length
theorem ia25 {nm n j c z : Nat} {r : Bool} (hj : j < n) : indexAddrA ctx 25 (.slice nm 0 n r c z) (I (Int.ofNat j)) = some (.ptr nm (j * 2)) := by
  have hs : ti51.size = 2 := rfl
  simp only [indexAddrA, ty25, ti25, ty51, hs]
  rw [show Nat.blt j n = true from by simpa using hj, Nat.zero_add]
  rfl
theorem ia51 (nm o : Nat) : indexAddrA ctx 51 (.ptr nm o) (I 1) = some (.ptr nm (o + 1)) := by kernel_rfl
theorem ia51' (nm o : Nat) : indexAddrA ctx 51 (.ptr nm o) (I 0) = some (.ptr nm o) := by kernel_rfl
theorem lw1 (n2 off c2 z2 : Nat) (r2 : Bool) : lenA (.slice n2 off 1 r2 c2 z2) = some 1 := rfl
theorem elems2 (h : Hp) (a b : Int) (e g : Nat) : elemsA (newBlk h [I a, I b] e g) 2 1 (.slice h.c 0 1 false 1 0) = some [I a, I b] := load_new2 _ _ _ _
theorem app51 {h : Hp} {v : AV} {ps : List (Int × Int)} (g : Gr 51 2 h v (flat ps) ps.length) (a b : Int) (hl : ps.length ≤ 5000) : ∃ v' h', builtinA ctx (newBlk h [I a, I b] 51 0) .append [25, 25] [v, .slice h.c 0 1 false 1 0] = some (v', h') ∧ Gr 51 2 h' v' (flat (ps ++ [(a, b)])) (ps ++ [(a, b)]).length ∧
    Fr (fun n => nmO v = some n) h h' ∧ (nmO v' = nmO v ∨ ∃ n, nmO v' = some n ∧ h.c ≤ n) := by
  have nb := new_cells h [I a, I b] 51 0
  obtain ⟨v', h', h1, h2, h3, h4⟩ := app_gr (C := ctx) ty25 rfl ty51 (show ti51.size = 2 from rfl) (by omega) rfl (g.ext nb.1) (lw1 h.c 0 1 0 false) (elems2 h a b 51 0) rfl rfl (by omega)
  refine ⟨v', h', h1, ?_, (nb.1.fr _).trans h3, h4.imp id fun h5 => ⟨_, h5, by rw [nb.2.1]; omega⟩⟩
  rw [flat_app, List.length_append]
  exact h2
set_option maxHeartbeats 4000000 in
theorem c23 (d : Nat) (h : Hp) (v : AV) (ms : List Bool) (hv : IsB h v ms) (hn : ms.length ≤ 1000) : Wv (runA ctx 5000 (d + 1) 23 [v] h) (fun r h' => Ext h h' ∧ Gr 51 2 h' r (flat (sp ms)) (sp ms).length ∧ ∀ n, nmO r = some n → h.c ≤ n) := by
  have hl := len39 hv
  refine wv_run fn23 rfl ?_
  have a0 : (enterEnv [v] Try.f23.ntmps).get 0 = some (v) := enter_get1 _ _ _
  generalize enterEnv [v] Try.f23.ntmps = e at a0 ⊢
  unfold Try.f23
  dsimp only
  repeat' (first
    | refine wc_seq ?_
    | (refine wc_region rfl ?_; simp only [oUn_not, beq_self_eq_true, eq_self, pv_mul, List.toList_toArray, opsA_cons, opsA_nil, wantedA, guardA, yieldA, stepA_t, stepA_f, callA, calleeA, targetA, runOp_c, runOp_n, opA, ev, evs, evo, consO, consOO, withH, pickA, afterA_s, putA, T.get_put, Nat.reduceEqDiff, reduceIte, List.getElem?_toArray, List.getElem?_cons_zero, List.getElem?_cons_succ, oBuiltin, oBin, binA, binG, binL, aggO, litA, intA, ltF_eq, eqF_eq, oIndexAddr, cond_true, cond_false, Bool.not_true, Bool.not_false, decide_true, decide_false, blt_eq, tt_beq, tf_beq, ft_beq, ff_beq, Bool.and_true, Bool.true_and, Option.some.injEq, I, Bo, addI, subI, oExtract, Bool.not_eq_true', fieldAddrA, oFieldAddr, oStore, isAggD, aggH, oneH, skipH, Nat.add_eq_left, Nat.left_eq_add, Nat.succ_ne_self, fieldA, partA, cellsOf, List.length_cons, List.length_nil, Nat.reduceAdd, Nat.zero_add, Nat.add_zero, Nat.mul_one, Nat.reduceMul, nbeq_self, onesA_cons', onesA_nil, oneA, Value.oneCell', Nat.reduceLT, ty3, ti3, ty4, ti4, ty25, ti25, ty39, ti39, ty51, ti51, a0, hl]; refine ⟨_, _, rfl, ?_⟩)
    | (refine wc_cond (by simp only [oUn_not, beq_self_eq_true, eq_self, pv_mul, List.toList_toArray, opsA_cons, opsA_nil, wantedA, guardA, yieldA, stepA_t, stepA_f, callA, calleeA, targetA, runOp_c, runOp_n, opA, ev, evs, evo, consO, consOO, withH, pickA, afterA_s, putA, T.get_put, Nat.reduceEqDiff, reduceIte, List.getElem?_toArray, List.getElem?_cons_zero, List.getElem?_cons_succ, oBuiltin, oBin, binA, binG, binL, aggO, litA, intA, ltF_eq, eqF_eq, oIndexAddr, cond_true, cond_false, Bool.not_true, Bool.not_false, decide_true, decide_false, blt_eq, tt_beq, tf_beq, ft_beq, ff_beq, Bool.and_true, Bool.true_and, Option.some.injEq, I, Bo, addI, subI, oExtract, Bool.not_eq_true', fieldAddrA, oFieldAddr, oStore, isAggD, aggH, oneH, skipH, Nat.add_eq_left, Nat.left_eq_add, Nat.succ_ne_self, fieldA, partA, cellsOf, List.length_cons, List.length_nil, Nat.reduceAdd, Nat.zero_add, Nat.add_zero, Nat.mul_one, Nat.reduceMul, nbeq_self, onesA_cons', onesA_nil, oneA, Value.oneCell', Nat.reduceLT, ty3, ti3, ty4, ti4, ty25, ti25, ty39, ti39, ty51, ti51, a0, hl]; rfl) ?_ ?_ <;> intro hb <;> first | (exfalso; exact Bool.noConfusion hb) | skip)
    | refine wc_block ?_
    | refine wc_skip ?_
    | refine wc_scope (by decide) ?_
    | refine wc_label ?_
    | refine wc_exit ?_
    | refine wc_ret ?_
    | refine wv_ret (by simp only [resA, resOne]; simp only [oUn_not, beq_self_eq_true, eq_self, pv_mul, List.toList_toArray, opsA_cons, opsA_nil, wantedA, guardA, yieldA, stepA_t, stepA_f, callA, calleeA, targetA, runOp_c, runOp_n, opA, ev, evs, evo, consO, consOO, withH, pickA, afterA_s, putA, T.get_put, Nat.reduceEqDiff, reduceIte, List.getElem?_toArray, List.getElem?_cons_zero, List.getElem?_cons_succ, oBuiltin, oBin, binA, binG, binL, aggO, litA, intA, ltF_eq, eqF_eq, oIndexAddr, cond_true, cond_false, Bool.not_true, Bool.not_false, decide_true, decide_false, blt_eq, tt_beq, tf_beq, ft_beq, ff_beq, Bool.and_true, Bool.true_and, Option.some.injEq, I, Bo, addI, subI, oExtract, Bool.not_eq_true', fieldAddrA, oFieldAddr, oStore, isAggD, aggH, oneH, skipH, Nat.add_eq_left, Nat.left_eq_add, Nat.succ_ne_self, fieldA, partA, cellsOf, List.length_cons, List.length_nil, Nat.reduceAdd, Nat.zero_add, Nat.add_zero, Nat.mul_one, Nat.reduceMul, nbeq_self, onesA_cons', onesA_nil, oneA, Value.oneCell', Nat.reduceLT, ty3, ti3, ty4, ti4, ty25, ti25, ty39, ti39, ty51, ti51, a0, hl]; rfl) ?_)
  refine wc_loop (fun m e h' => ∃ k u, m = ms.length - k ∧ k ≤ ms.length ∧ e.get 0 = some v ∧ e.get 3 = some u ∧ e.get 4 = some (I (Int.ofNat k)) ∧ Ext h h' ∧ Gr 51 2 h' u (flat (spK ms k)) (spK ms k).length ∧ ∀ n, nmO u = some n → h.c ≤ n) ms.length ?_ ⟨0, nilS, ?_⟩ ?_
  · omega
  · refine ⟨rfl, Nat.zero_le _, ?_, ?_, ?_, Ext.refl _, Gr.nil 51 2 h, fun n hn => (by cases hn)⟩
    all_goals simp only [oUn_not, beq_self_eq_true, eq_self, pv_mul, List.toList_toArray, opsA_cons, opsA_nil, wantedA, guardA, yieldA, stepA_t, stepA_f, callA, calleeA, targetA, runOp_c, runOp_n, opA, ev, evs, evo, consO, consOO, withH, pickA, afterA_s, putA, T.get_put, Nat.reduceEqDiff, reduceIte, List.getElem?_toArray, List.getElem?_cons_zero, List.getElem?_cons_succ, oBuiltin, oBin, binA, binG, binL, aggO, litA, intA, ltF_eq, eqF_eq, oIndexAddr, cond_true, cond_false, Bool.not_true, Bool.not_false, decide_true, decide_false, blt_eq, tt_beq, tf_beq, ft_beq, ff_beq, Bool.and_true, Bool.true_and, Option.some.injEq, I, Bo, addI, subI, oExtract, Bool.not_eq_true', fieldAddrA, oFieldAddr, oStore, isAggD, aggH, oneH, skipH, Nat.add_eq_left, Nat.left_eq_add, Nat.succ_ne_self, fieldA, partA, cellsOf, List.length_cons, List.length_nil, Nat.reduceAdd, Nat.zero_add, Nat.add_zero, Nat.mul_one, Nat.reduceMul, nbeq_self, onesA_cons', onesA_nil, oneA, Value.oneCell', Nat.reduceLT, ty3, ti3, ty4, ti4, ty25, ti25, ty39, ti39, ty51, ti51, a0, hl]; try rfl
  · rintro m e h' ⟨k, u, rfl, hk, e0, e3, e4, hx, hg, hu⟩
    by_cases hlt : k < ms.length
    · have c0 : decide (Int.ofNat k < (ms.length : Int)) = true := by simp; omega
      have hk1 : IntKind.wrap .i64 (Int.ofNat k + 1) = Int.ofNat (k + 1) := inc (by omega)
      obtain ⟨b, hb⟩ := at_some hlt
      obtain ⟨p, hp, hld⟩ := at39 hv hb
      have hld := hld h' hx
      simp only [ti4] at hld
      have ok := sp_ok (ms := ms) k (by omega)
      have okl := ok.len0
      have il := spK_lto0 ok
      cases b with
      | false =>
        have e9 : spK ms (k + 1) = spK ms k := by rw [spK, if_neg (by rw [hb]; decide)]
        repeat' (first
          | refine wc_seq ?_
          | (refine wc_region rfl ?_; simp only [oUn_not, beq_self_eq_true, eq_self, pv_mul, List.toList_toArray, opsA_cons, opsA_nil, wantedA, guardA, yieldA, stepA_t, stepA_f, callA, calleeA, targetA, runOp_c, runOp_n, opA, ev, evs, evo, consO, consOO, withH, pickA, afterA_s, putA, T.get_put, Nat.reduceEqDiff, reduceIte, List.getElem?_toArray, List.getElem?_cons_zero, List.getElem?_cons_succ, oBuiltin, oBin, binA, binG, binL, aggO, litA, intA, ltF_eq, eqF_eq, oIndexAddr, cond_true, cond_false, Bool.not_true, Bool.not_false, decide_true, decide_false, blt_eq, tt_beq, tf_beq, ft_beq, ff_beq, Bool.and_true, Bool.true_and, Option.some.injEq, I, Bo, addI, subI, oExtract, Bool.not_eq_true', fieldAddrA, oFieldAddr, oStore, isAggD, aggH, oneH, skipH, Nat.add_eq_left, Nat.left_eq_add, Nat.succ_ne_self, fieldA, partA, cellsOf, List.length_cons, List.length_nil, Nat.reduceAdd, Nat.zero_add, Nat.add_zero, Nat.mul_one, Nat.reduceMul, nbeq_self, onesA_cons', onesA_nil, oneA, Value.oneCell', Nat.reduceLT, ty3, ti3, ty4, ti4, ty25, ti25, ty39, ti39, ty51, ti51, e0, e3, e4, hl, c0, hk1, hp, hld]; refine ⟨_, _, rfl, ?_⟩)
          | (refine wc_cond (by simp only [oUn_not, beq_self_eq_true, eq_self, pv_mul, List.toList_toArray, opsA_cons, opsA_nil, wantedA, guardA, yieldA, stepA_t, stepA_f, callA, calleeA, targetA, runOp_c, runOp_n, opA, ev, evs, evo, consO, consOO, withH, pickA, afterA_s, putA, T.get_put, Nat.reduceEqDiff, reduceIte, List.getElem?_toArray, List.getElem?_cons_zero, List.getElem?_cons_succ, oBuiltin, oBin, binA, binG, binL, aggO, litA, intA, ltF_eq, eqF_eq, oIndexAddr, cond_true, cond_false, Bool.not_true, Bool.not_false, decide_true, decide_false, blt_eq, tt_beq, tf_beq, ft_beq, ff_beq, Bool.and_true, Bool.true_and, Option.some.injEq, I, Bo, addI, subI, oExtract, Bool.not_eq_true', fieldAddrA, oFieldAddr, oStore, isAggD, aggH, oneH, skipH, Nat.add_eq_left, Nat.left_eq_add, Nat.succ_ne_self, fieldA, partA, cellsOf, List.length_cons, List.length_nil, Nat.reduceAdd, Nat.zero_add, Nat.add_zero, Nat.mul_one, Nat.reduceMul, nbeq_self, onesA_cons', onesA_nil, oneA, Value.oneCell', Nat.reduceLT, ty3, ti3, ty4, ti4, ty25, ti25, ty39, ti39, ty51, ti51, e0, e3, e4, hl, c0, hk1, hp, hld]; rfl) ?_ ?_ <;> intro hb <;> first | (exfalso; exact Bool.noConfusion hb) | skip)
          | refine wc_block ?_
          | refine wc_skip ?_
          | refine wc_scope (by decide) ?_
          | refine wc_label ?_
          | refine wc_exit ?_
          | refine wc_ret ?_
          | refine wv_ret (by simp only [resA, resOne]; simp only [oUn_not, beq_self_eq_true, eq_self, pv_mul, List.toList_toArray, opsA_cons, opsA_nil, wantedA, guardA, yieldA, stepA_t, stepA_f, callA, calleeA, targetA, runOp_c, runOp_n, opA, ev, evs, evo, consO, consOO, withH, pickA, afterA_s, putA, T.get_put, Nat.reduceEqDiff, reduceIte, List.getElem?_toArray, List.getElem?_cons_zero, List.getElem?_cons_succ, oBuiltin, oBin, binA, binG, binL, aggO, litA, intA, ltF_eq, eqF_eq, oIndexAddr, cond_true, cond_false, Bool.not_true, Bool.not_false, decide_true, decide_false, blt_eq, tt_beq, tf_beq, ft_beq, ff_beq, Bool.and_true, Bool.true_and, Option.some.injEq, I, Bo, addI, subI, oExtract, Bool.not_eq_true', fieldAddrA, oFieldAddr, oStore, isAggD, aggH, oneH, skipH, Nat.add_eq_left, Nat.left_eq_add, Nat.succ_ne_self, fieldA, partA, cellsOf, List.length_cons, List.length_nil, Nat.reduceAdd, Nat.zero_add, Nat.add_zero, Nat.mul_one, Nat.reduceMul, nbeq_self, onesA_cons', onesA_nil, oneA, Value.oneCell', Nat.reduceLT, ty3, ti3, ty4, ti4, ty25, ti25, ty39, ti39, ty51, ti51, e0, e3, e4, hl, c0, hk1, hp, hld]; rfl) ?_)
        all_goals ((first | refine nx_exit (bx_hit rfl ?_) | refine bx_hit rfl ?_ | refine bx_normal ?_ | skip); refine nx_next (ms.length - (k + 1)) (by omega) ⟨k + 1, u, rfl, hlt, ?_, ?_, ?_, hx, by rw [e9]; exact hg, hu⟩ <;> simp only [oUn_not, beq_self_eq_true, eq_self, pv_mul, List.toList_toArray, opsA_cons, opsA_nil, wantedA, guardA, yieldA, stepA_t, stepA_f, callA, calleeA, targetA, runOp_c, runOp_n, opA, ev, evs, evo, consO, consOO, withH, pickA, afterA_s, putA, T.get_put, Nat.reduceEqDiff, reduceIte, List.getElem?_toArray, List.getElem?_cons_zero, List.getElem?_cons_succ, oBuiltin, oBin, binA, binG, binL, aggO, litA, intA, ltF_eq, eqF_eq, oIndexAddr, cond_true, cond_false, Bool.not_true, Bool.not_false, decide_true, decide_false, blt_eq, tt_beq, tf_beq, ft_beq, ff_beq, Bool.and_true, Bool.true_and, Option.some.injEq, I, Bo, addI, subI, oExtract, Bool.not_eq_true', fieldAddrA, oFieldAddr, oStore, isAggD, aggH, oneH, skipH, Nat.add_eq_left, Nat.left_eq_add, Nat.succ_ne_self, fieldA, partA, cellsOf, List.length_cons, List.length_nil, Nat.reduceAdd, Nat.zero_add, Nat.add_zero, Nat.mul_one, Nat.reduceMul, nbeq_self, onesA_cons', onesA_nil, oneA, Value.oneCell', Nat.reduceLT, ty3, ti3, ty4, ti4, ty25, ti25, ty39, ti39, ty51, ti51, e0, e3, e4, hl, c0, hk1, hp, hld])
      | true =>
        have e9 : spK ms (k + 1) = jn (spK ms k) (k : Int) ((k : Int) + 1) := by rw [spK, if_pos hb]
        by_cases hj : ∃ j, k = j + 1 ∧ ms[j]? = some true
        · obtain ⟨j, rfl, hm⟩ := hj
          obtain ⟨ys, a, hys⟩ := (ok.last0 j rfl).1 hm
          obtain ⟨p2, hp2, hld2⟩ := at39 hv hm
          have hld2 := hld2 h' hx
          simp only [ti4] at hld2
          have z0 : decide (0 < Int.ofNat (j + 1)) = true := by simp
          have w0 := dec (k := j) (by omega)
          rw [hys] at hg
          rcases hg.is with ⟨_, h0⟩ | ⟨nm, r, rfl, hn1, ⟨h0, _⟩ | ⟨_, rfl⟩⟩
          · simp at h0
          · simp at h0
          have hyl : (ys ++ [(a, ((j + 1 : Nat) : Int))]).length = ys.length + 1 := by simp
          have hll : ∀ h', builtinA ctx h' .len [25] [.slice nm 0 (ys ++ [(a, ((j + 1 : Nat) : Int))]).length true 0 0] = some (I (Int.ofNat (ys.length + 1)), h') := fun h' => by
            rw [hyl]
            simp only [builtinA, ty25, ti25]
            rfl
          have wl := dec (k := ys.length) (by have : ys.length + 1 ≤ j + 1 := by rw [hys, hyl] at okl; exact okl
                                              omega)
          have ix := ia25 (nm := nm) (n := (ys ++ [(a, ((j + 1 : Nat) : Int))]).length) (j := ys.length) (c := 0) (z := 0) (r := true) (by rw [hyl]; omega)
          have iy := ia51 nm (ys.length * 2)
          obtain ⟨h2, hst, hg2, ho2⟩ := gr_store (k := ys.length * 2 + 1) (x := I ((j + 1 : Nat) : Int)) (w := I (Int.ofNat (j + 1 + 1))) hg (flat_at (by rw [List.getElem?_append_right (Nat.le_refl _), Nat.sub_self]; rfl)).2 rfl
          rw [flat_set] at hg2
          have e8 : spK ms (j + 1 + 1) = ys ++ [(a, Int.ofNat (j + 1 + 1))] := by
            rw [e9, hys, jn_snoc _ _ _ _ _ (by omega), if_pos (Int.le_refl _), show max ((j + 1 : Nat) : Int) (((j + 1 : Nat) : Int) + 1) = Int.ofNat (j + 1 + 1) by simp; omega]
          have hx2 : Ext h h2 := Fr.from hx (ho2.fr (P := fun n => n = nm) rfl) (fun n hn => by rw [hn]; exact hu nm rfl)
          repeat' (first
            | refine wc_seq ?_
            | (refine wc_region rfl ?_; simp only [oUn_not, beq_self_eq_true, eq_self, pv_mul, List.toList_toArray, opsA_cons, opsA_nil, wantedA, guardA, yieldA, stepA_t, stepA_f, callA, calleeA, targetA, runOp_c, runOp_n, opA, ev, evs, evo, consO, consOO, withH, pickA, afterA_s, putA, T.get_put, Nat.reduceEqDiff, reduceIte, List.getElem?_toArray, List.getElem?_cons_zero, List.getElem?_cons_succ, oBuiltin, oBin, binA, binG, binL, aggO, litA, intA, ltF_eq, eqF_eq, oIndexAddr, cond_true, cond_false, Bool.not_true, Bool.not_false, decide_true, decide_false, blt_eq, tt_beq, tf_beq, ft_beq, ff_beq, Bool.and_true, Bool.true_and, Option.some.injEq, I, Bo, addI, subI, oExtract, Bool.not_eq_true', fieldAddrA, oFieldAddr, oStore, isAggD, aggH, oneH, skipH, Nat.add_eq_left, Nat.left_eq_add, Nat.succ_ne_self, fieldA, partA, cellsOf, List.length_cons, List.length_nil, Nat.reduceAdd, Nat.zero_add, Nat.add_zero, Nat.mul_one, Nat.reduceMul, nbeq_self, onesA_cons', onesA_nil, oneA, Value.oneCell', Nat.reduceLT, ty3, ti3, ty4, ti4, ty25, ti25, ty39, ti39, ty51, ti51, e0, e3, e4, hl, c0, hk1, hp, hld, hp2, hld2, z0, w0, hll, wl, ix, iy, hst]; refine ⟨_, _, rfl, ?_⟩)
            | (refine wc_cond (by simp only [oUn_not, beq_self_eq_true, eq_self, pv_mul, List.toList_toArray, opsA_cons, opsA_nil, wantedA, guardA, yieldA, stepA_t, stepA_f, callA, calleeA, targetA, runOp_c, runOp_n, opA, ev, evs, evo, consO, consOO, withH, pickA, afterA_s, putA, T.get_put, Nat.reduceEqDiff, reduceIte, List.getElem?_toArray, List.getElem?_cons_zero, List.getElem?_cons_succ, oBuiltin, oBin, binA, binG, binL, aggO, litA, intA, ltF_eq, eqF_eq, oIndexAddr, cond_true, cond_false, Bool.not_true, Bool.not_false, decide_true, decide_false, blt_eq, tt_beq, tf_beq, ft_beq, ff_beq, Bool.and_true, Bool.true_and, Option.some.injEq, I, Bo, addI, subI, oExtract, Bool.not_eq_true', fieldAddrA, oFieldAddr, oStore, isAggD, aggH, oneH, skipH, Nat.add_eq_left, Nat.left_eq_add, Nat.succ_ne_self, fieldA, partA, cellsOf, List.length_cons, List.length_nil, Nat.reduceAdd, Nat.zero_add, Nat.add_zero, Nat.mul_one, Nat.reduceMul, nbeq_self, onesA_cons', onesA_nil, oneA, Value.oneCell', Nat.reduceLT, ty3, ti3, ty4, ti4, ty25, ti25, ty39, ti39, ty51, ti51, e0, e3, e4, hl, c0, hk1, hp, hld, hp2, hld2, z0, w0, hll, wl, ix, iy, hst]; rfl) ?_ ?_ <;> intro hb <;> first | (exfalso; exact Bool.noConfusion hb) | skip)
            | refine wc_block ?_
            | refine wc_skip ?_
            | refine wc_scope (by decide) ?_
            | refine wc_label ?_
            | refine wc_exit ?_
            | refine wc_ret ?_
            | refine wv_ret (by simp only [resA, resOne]; simp only [oUn_not, beq_self_eq_true, eq_self, pv_mul, List.toList_toArray, opsA_cons, opsA_nil, wantedA, guardA, yieldA, stepA_t, stepA_f, callA, calleeA, targetA, runOp_c, runOp_n, opA, ev, evs, evo, consO, consOO, withH, pickA, afterA_s, putA, T.get_put, Nat.reduceEqDiff, reduceIte, List.getElem?_toArray, List.getElem?_cons_zero, List.getElem?_cons_succ, oBuiltin, oBin, binA, binG, binL, aggO, litA, intA, ltF_eq, eqF_eq, oIndexAddr, cond_true, cond_false, Bool.not_true, Bool.not_false, decide_true, decide_false, blt_eq, tt_beq, tf_beq, ft_beq, ff_beq, Bool.and_true, Bool.true_and, Option.some.injEq, I, Bo, addI, subI, oExtract, Bool.not_eq_true', fieldAddrA, oFieldAddr, oStore, isAggD, aggH, oneH, skipH, Nat.add_eq_left, Nat.left_eq_add, Nat.succ_ne_self, fieldA, partA, cellsOf, List.length_cons, List.length_nil, Nat.reduceAdd, Nat.zero_add, Nat.add_zero, Nat.mul_one, Nat.reduceMul, nbeq_self, onesA_cons', onesA_nil, oneA, Value.oneCell', Nat.reduceLT, ty3, ti3, ty4, ti4, ty25, ti25, ty39, ti39, ty51, ti51, e0, e3, e4, hl, c0, hk1, hp, hld, hp2, hld2, z0, w0, hll, wl, ix, iy, hst]; rfl) ?_)
          all_goals ((first | refine nx_exit (bx_hit rfl ?_) | refine bx_hit rfl ?_ | refine bx_normal ?_ | skip); refine nx_next (ms.length - (j + 1 + 1)) (by omega) ⟨j + 1 + 1, .slice nm 0 (ys ++ [(a, ((j + 1 : Nat) : Int))]).length true 0 0, rfl, hlt, ?_, ?_, ?_, hx2, by rw [e8]; rw [show (ys ++ [(a, Int.ofNat (j + 1 + 1))]).length = (ys ++ [(a, ((j + 1 : Nat) : Int))]).length by simp]; exact hg2, hu⟩ <;> simp only [oUn_not, beq_self_eq_true, eq_self, pv_mul, List.toList_toArray, opsA_cons, opsA_nil, wantedA, guardA, yieldA, stepA_t, stepA_f, callA, calleeA, targetA, runOp_c, runOp_n, opA, ev, evs, evo, consO, consOO, withH, pickA, afterA_s, putA, T.get_put, Nat.reduceEqDiff, reduceIte, List.getElem?_toArray, List.getElem?_cons_zero, List.getElem?_cons_succ, oBuiltin, oBin, binA, binG, binL, aggO, litA, intA, ltF_eq, eqF_eq, oIndexAddr, cond_true, cond_false, Bool.not_true, Bool.not_false, decide_true, decide_false, blt_eq, tt_beq, tf_beq, ft_beq, ff_beq, Bool.and_true, Bool.true_and, Option.some.injEq, I, Bo, addI, subI, oExtract, Bool.not_eq_true', fieldAddrA, oFieldAddr, oStore, isAggD, aggH, oneH, skipH, Nat.add_eq_left, Nat.left_eq_add, Nat.succ_ne_self, fieldA, partA, cellsOf, List.length_cons, List.length_nil, Nat.reduceAdd, Nat.zero_add, Nat.add_zero, Nat.mul_one, Nat.reduceMul, nbeq_self, onesA_cons', onesA_nil, oneA, Value.oneCell', Nat.reduceLT, ty3, ti3, ty4, ti4, ty25, ti25, ty39, ti39, ty51, ti51, e0, e3, e4, hl, c0, hk1, hp, hld, hp2, hld2, z0, w0, hll, wl, ix, iy, hst])
        · have e8 : spK ms (k + 1) = spK ms k ++ [(Int.ofNat k, Int.ofNat (k + 1))] := by
            rw [e9]
            rcases snoc_cases (spK ms k) with h0 | ⟨ys, a, b, h0⟩
            · rw [h0, jn_nil (by omega)]
              rfl
            · rw [h0, jn_snoc _ _ _ _ _ (by omega)]
              have hb2 : b < (k : Int) := by
                cases k with
                | zero => exfalso; have := ok.len0; rw [h0] at this; simp at this
                | succ j =>
                  have := (ok.last0 j rfl).2 (fun h9 => hj ⟨j, rfl, h9⟩)
                  rw [h0, lto_snoc] at this
                  exact this
              rw [if_neg (by omega)]
              rfl
          have hb1 := build51 (Int.ofNat k) (Int.ofNat (k + 1))
          have hb2 := bs25 h' (Int.ofNat k) (Int.ofNat (k + 1))
          obtain ⟨u2, h2, hap, hg2, hf2, hn2⟩ := app51 hg (Int.ofNat k) (Int.ofNat (k + 1)) (by omega)
          rw [← e8] at hg2
          have hx2 : Ext h h2 := Fr.from hx hf2 (fun n hn => hu n hn)
          have hu2 : ∀ n, nmO u2 = some n → h.c ≤ n := fun n hn => by
            rcases hn2 with h5 | ⟨n', h5, h6⟩
            · exact hu n (by rw [← h5]; exact hn)
            · rw [h5] at hn; cases hn; have := hx.c; omega
          cases k with
          | zero =>
            have z0 : decide (0 < Int.ofNat 0) = false := rfl
            repeat' (first
              | refine wc_seq ?_
              | (refine wc_region rfl ?_; simp only [oUn_not, beq_self_eq_true, eq_self, pv_mul, List.toList_toArray, opsA_cons, opsA_nil, wantedA, guardA, yieldA, stepA_t, stepA_f, callA, calleeA, targetA, runOp_c, runOp_n, opA, ev, evs, evo, consO, consOO, withH, pickA, afterA_s, putA, T.get_put, Nat.reduceEqDiff, reduceIte, List.getElem?_toArray, List.getElem?_cons_zero, List.getElem?_cons_succ, oBuiltin, oBin, binA, binG, binL, aggO, litA, intA, ltF_eq, eqF_eq, oIndexAddr, cond_true, cond_false, Bool.not_true, Bool.not_false, decide_true, decide_false, blt_eq, tt_beq, tf_beq, ft_beq, ff_beq, Bool.and_true, Bool.true_and, Option.some.injEq, I, Bo, addI, subI, oExtract, Bool.not_eq_true', fieldAddrA, oFieldAddr, oStore, isAggD, aggH, oneH, skipH, Nat.add_eq_left, Nat.left_eq_add, Nat.succ_ne_self, fieldA, partA, cellsOf, List.length_cons, List.length_nil, Nat.reduceAdd, Nat.zero_add, Nat.add_zero, Nat.mul_one, Nat.reduceMul, nbeq_self, onesA_cons', onesA_nil, oneA, Value.oneCell', Nat.reduceLT, ty3, ti3, ty4, ti4, ty25, ti25, ty39, ti39, ty51, ti51, e0, e3, e4, hl, c0, hk1, hp, hld, z0, hb1, hb2, hap, oBuild, oBuildSlice, evParts, consP]; refine ⟨_, _, rfl, ?_⟩)
              | (refine wc_cond (by simp only [oUn_not, beq_self_eq_true, eq_self, pv_mul, List.toList_toArray, opsA_cons, opsA_nil, wantedA, guardA, yieldA, stepA_t, stepA_f, callA, calleeA, targetA, runOp_c, runOp_n, opA, ev, evs, evo, consO, consOO, withH, pickA, afterA_s, putA, T.get_put, Nat.reduceEqDiff, reduceIte, List.getElem?_toArray, List.getElem?_cons_zero, List.getElem?_cons_succ, oBuiltin, oBin, binA, binG, binL, aggO, litA, intA, ltF_eq, eqF_eq, oIndexAddr, cond_true, cond_false, Bool.not_true, Bool.not_false, decide_true, decide_false, blt_eq, tt_beq, tf_beq, ft_beq, ff_beq, Bool.and_true, Bool.true_and, Option.some.injEq, I, Bo, addI, subI, oExtract, Bool.not_eq_true', fieldAddrA, oFieldAddr, oStore, isAggD, aggH, oneH, skipH, Nat.add_eq_left, Nat.left_eq_add, Nat.succ_ne_self, fieldA, partA, cellsOf, List.length_cons, List.length_nil, Nat.reduceAdd, Nat.zero_add, Nat.add_zero, Nat.mul_one, Nat.reduceMul, nbeq_self, onesA_cons', onesA_nil, oneA, Value.oneCell', Nat.reduceLT, ty3, ti3, ty4, ti4, ty25, ti25, ty39, ti39, ty51, ti51, e0, e3, e4, hl, c0, hk1, hp, hld, z0, hb1, hb2, hap, oBuild, oBuildSlice, evParts, consP]; rfl) ?_ ?_ <;> intro hb <;> first | (exfalso; exact Bool.noConfusion hb) | skip)
              | refine wc_block ?_
              | refine wc_skip ?_
              | refine wc_scope (by decide) ?_
              | refine wc_label ?_
              | refine wc_exit ?_
              | refine wc_ret ?_
              | refine wv_ret (by simp only [resA, resOne]; simp only [oUn_not, beq_self_eq_true, eq_self, pv_mul, List.toList_toArray, opsA_cons, opsA_nil, wantedA, guardA, yieldA, stepA_t, stepA_f, callA, calleeA, targetA, runOp_c, runOp_n, opA, ev, evs, evo, consO, consOO, withH, pickA, afterA_s, putA, T.get_put, Nat.reduceEqDiff, reduceIte, List.getElem?_toArray, List.getElem?_cons_zero, List.getElem?_cons_succ, oBuiltin, oBin, binA, binG, binL, aggO, litA, intA, ltF_eq, eqF_eq, oIndexAddr, cond_true, cond_false, Bool.not_true, Bool.not_false, decide_true, decide_false, blt_eq, tt_beq, tf_beq, ft_beq, ff_beq, Bool.and_true, Bool.true_and, Option.some.injEq, I, Bo, addI, subI, oExtract, Bool.not_eq_true', fieldAddrA, oFieldAddr, oStore, isAggD, aggH, oneH, skipH, Nat.add_eq_left, Nat.left_eq_add, Nat.succ_ne_self, fieldA, partA, cellsOf, List.length_cons, List.length_nil, Nat.reduceAdd, Nat.zero_add, Nat.add_zero, Nat.mul_one, Nat.reduceMul, nbeq_self, onesA_cons', onesA_nil, oneA, Value.oneCell', Nat.reduceLT, ty3, ti3, ty4, ti4, ty25, ti25, ty39, ti39, ty51, ti51, e0, e3, e4, hl, c0, hk1, hp, hld, z0, hb1, hb2, hap, oBuild, oBuildSlice, evParts, consP]; rfl) ?_)
            all_goals ((first | refine nx_exit (bx_hit rfl ?_) | refine bx_hit rfl ?_ | refine bx_normal ?_ | skip); refine nx_next (ms.length - (0 + 1)) (by omega) ⟨0 + 1, u2, rfl, hlt, ?_, ?_, ?_, hx2, hg2, hu2⟩ <;> simp only [oUn_not, beq_self_eq_true, eq_self, pv_mul, List.toList_toArray, opsA_cons, opsA_nil, wantedA, guardA, yieldA, stepA_t, stepA_f, callA, calleeA, targetA, runOp_c, runOp_n, opA, ev, evs, evo, consO, consOO, withH, pickA, afterA_s, putA, T.get_put, Nat.reduceEqDiff, reduceIte, List.getElem?_toArray, List.getElem?_cons_zero, List.getElem?_cons_succ, oBuiltin, oBin, binA, binG, binL, aggO, litA, intA, ltF_eq, eqF_eq, oIndexAddr, cond_true, cond_false, Bool.not_true, Bool.not_false, decide_true, decide_false, blt_eq, tt_beq, tf_beq, ft_beq, ff_beq, Bool.and_true, Bool.true_and, Option.some.injEq, I, Bo, addI, subI, oExtract, Bool.not_eq_true', fieldAddrA, oFieldAddr, oStore, isAggD, aggH, oneH, skipH, Nat.add_eq_left, Nat.left_eq_add, Nat.succ_ne_self, fieldA, partA, cellsOf, List.length_cons, List.length_nil, Nat.reduceAdd, Nat.zero_add, Nat.add_zero, Nat.mul_one, Nat.reduceMul, nbeq_self, onesA_cons', onesA_nil, oneA, Value.oneCell', Nat.reduceLT, ty3, ti3, ty4, ti4, ty25, ti25, ty39, ti39, ty51, ti51, e0, e3, e4, hl, c0, hk1, hp, hld, z0, hb1, hb2, hap, oBuild, oBuildSlice, evParts, consP])
          | succ j =>
            have z0 : decide (0 < Int.ofNat (j + 1)) = true := by simp
            have w0 := dec (k := j) (by omega)
            obtain ⟨b2, hbb⟩ := at_some (show j < ms.length by omega)
            have hbf : b2 = false := by
              cases b2 with
              | false => rfl
              | true => exact absurd ⟨j, rfl, hbb⟩ hj
            subst hbf
            obtain ⟨p2, hp2, hld2⟩ := at39 hv hbb
            have hld2 := hld2 h' hx
            simp only [ti4] at hld2
            repeat' (first
              | refine wc_seq ?_
              | (refine wc_region rfl ?_; simp only [oUn_not, beq_self_eq_true, eq_self, pv_mul, List.toList_toArray, opsA_cons, opsA_nil, wantedA, guardA, yieldA, stepA_t, stepA_f, callA, calleeA, targetA, runOp_c, runOp_n, opA, ev, evs, evo, consO, consOO, withH, pickA, afterA_s, putA, T.get_put, Nat.reduceEqDiff, reduceIte, List.getElem?_toArray, List.getElem?_cons_zero, List.getElem?_cons_succ, oBuiltin, oBin, binA, binG, binL, aggO, litA, intA, ltF_eq, eqF_eq, oIndexAddr, cond_true, cond_false, Bool.not_true, Bool.not_false, decide_true, decide_false, blt_eq, tt_beq, tf_beq, ft_beq, ff_beq, Bool.and_true, Bool.true_and, Option.some.injEq, I, Bo, addI, subI, oExtract, Bool.not_eq_true', fieldAddrA, oFieldAddr, oStore, isAggD, aggH, oneH, skipH, Nat.add_eq_left, Nat.left_eq_add, Nat.succ_ne_self, fieldA, partA, cellsOf, List.length_cons, List.length_nil, Nat.reduceAdd, Nat.zero_add, Nat.add_zero, Nat.mul_one, Nat.reduceMul, nbeq_self, onesA_cons', onesA_nil, oneA, Value.oneCell', Nat.reduceLT, ty3, ti3, ty4, ti4, ty25, ti25, ty39, ti39, ty51, ti51, e0, e3, e4, hl, c0, hk1, hp, hld, z0, w0, hp2, hld2, hb1, hb2, hap, oBuild, oBuildSlice, evParts, consP]; refine ⟨_, _, rfl, ?_⟩)
              | (refine wc_cond (by simp only [oUn_not, beq_self_eq_true, eq_self, pv_mul, List.toList_toArray, opsA_cons, opsA_nil, wantedA, guardA, yieldA, stepA_t, stepA_f, callA, calleeA, targetA, runOp_c, runOp_n, opA, ev, evs, evo, consO, consOO, withH, pickA, afterA_s, putA, T.get_put, Nat.reduceEqDiff, reduceIte, List.getElem?_toArray, List.getElem?_cons_zero, List.getElem?_cons_succ, oBuiltin, oBin, binA, binG, binL, aggO, litA, intA, ltF_eq, eqF_eq, oIndexAddr, cond_true, cond_false, Bool.not_true, Bool.not_false, decide_true, decide_false, blt_eq, tt_beq, tf_beq, ft_beq, ff_beq, Bool.and_true, Bool.true_and, Option.some.injEq, I, Bo, addI, subI, oExtract, Bool.not_eq_true', fieldAddrA, oFieldAddr, oStore, isAggD, aggH, oneH, skipH, Nat.add_eq_left, Nat.left_eq_add, Nat.succ_ne_self, fieldA, partA, cellsOf, List.length_cons, List.length_nil, Nat.reduceAdd, Nat.zero_add, Nat.add_zero, Nat.mul_one, Nat.reduceMul, nbeq_self, onesA_cons', onesA_nil, oneA, Value.oneCell', Nat.reduceLT, ty3, ti3, ty4, ti4, ty25, ti25, ty39, ti39, ty51, ti51, e0, e3, e4, hl, c0, hk1, hp, hld, z0, w0, hp2, hld2, hb1, hb2, hap, oBuild, oBuildSlice, evParts, consP]; rfl) ?_ ?_ <;> intro hb <;> first | (exfalso; exact Bool.noConfusion hb) | skip)
              | refine wc_block ?_
              | refine wc_skip ?_
              | refine wc_scope (by decide) ?_
              | refine wc_label ?_
              | refine wc_exit ?_
              | refine wc_ret ?_
              | refine wv_ret (by simp only [resA, resOne]; simp only [oUn_not, beq_self_eq_true, eq_self, pv_mul, List.toList_toArray, opsA_cons, opsA_nil, wantedA, guardA, yieldA, stepA_t, stepA_f, callA, calleeA, targetA, runOp_c, runOp_n, opA, ev, evs, evo, consO, consOO, withH, pickA, afterA_s, putA, T.get_put, Nat.reduceEqDiff, reduceIte, List.getElem?_toArray, List.getElem?_cons_zero, List.getElem?_cons_succ, oBuiltin, oBin, binA, binG, binL, aggO, litA, intA, ltF_eq, eqF_eq, oIndexAddr, cond_true, cond_false, Bool.not_true, Bool.not_false, decide_true, decide_false, blt_eq, tt_beq, tf_beq, ft_beq, ff_beq, Bool.and_true, Bool.true_and, Option.some.injEq, I, Bo, addI, subI, oExtract, Bool.not_eq_true', fieldAddrA, oFieldAddr, oStore, isAggD, aggH, oneH, skipH, Nat.add_eq_left, Nat.left_eq_add, Nat.succ_ne_self, fieldA, partA, cellsOf, List.length_cons, List.length_nil, Nat.reduceAdd, Nat.zero_add, Nat.add_zero, Nat.mul_one, Nat.reduceMul, nbeq_self, onesA_cons', onesA_nil, oneA, Value.oneCell', Nat.reduceLT, ty3, ti3, ty4, ti4, ty25, ti25, ty39, ti39, ty51, ti51, e0, e3, e4, hl, c0, hk1, hp, hld, z0, w0, hp2, hld2, hb1, hb2, hap, oBuild, oBuildSlice, evParts, consP]; rfl) ?_)
            all_goals ((first | refine nx_exit (bx_hit rfl ?_) | refine bx_hit rfl ?_ | refine bx_normal ?_ | skip); refine nx_next (ms.length - ((j + 1) + 1)) (by omega) ⟨j + 1 + 1, u2, rfl, hlt, ?_, ?_, ?_, hx2, hg2, hu2⟩ <;> simp only [oUn_not, beq_self_eq_true, eq_self, pv_mul, List.toList_toArray, opsA_cons, opsA_nil, wantedA, guardA, yieldA, stepA_t, stepA_f, callA, calleeA, targetA, runOp_c, runOp_n, opA, ev, evs, evo, consO, consOO, withH, pickA, afterA_s, putA, T.get_put, Nat.reduceEqDiff, reduceIte, List.getElem?_toArray, List.getElem?_cons_zero, List.getElem?_cons_succ, oBuiltin, oBin, binA, binG, binL, aggO, litA, intA, ltF_eq, eqF_eq, oIndexAddr, cond_true, cond_false, Bool.not_true, Bool.not_false, decide_true, decide_false, blt_eq, tt_beq, tf_beq, ft_beq, ff_beq, Bool.and_true, Bool.true_and, Option.some.injEq, I, Bo, addI, subI, oExtract, Bool.not_eq_true', fieldAddrA, oFieldAddr, oStore, isAggD, aggH, oneH, skipH, Nat.add_eq_left, Nat.left_eq_add, Nat.succ_ne_self, fieldA, partA, cellsOf, List.length_cons, List.length_nil, Nat.reduceAdd, Nat.zero_add, Nat.add_zero, Nat.mul_one, Nat.reduceMul, nbeq_self, onesA_cons', onesA_nil, oneA, Value.oneCell', Nat.reduceLT, ty3, ti3, ty4, ti4, ty25, ti25, ty39, ti39, ty51, ti51, e0, e3, e4, hl, c0, hk1, hp, hld, z0, w0, hp2, hld2, hb1, hb2, hap, oBuild, oBuildSlice, evParts, consP])
    · have c0 : decide (Int.ofNat k < (ms.length : Int)) = false := by simp; omega
      obtain rfl : k = ms.length := by omega
      repeat' (first
        | refine wc_seq ?_
        | (refine wc_region rfl ?_; simp only [oUn_not, beq_self_eq_true, eq_self, pv_mul, List.toList_toArray, opsA_cons, opsA_nil, wantedA, guardA, yieldA, stepA_t, stepA_f, callA, calleeA, targetA, runOp_c, runOp_n, opA, ev, evs, evo, consO, consOO, withH, pickA, afterA_s, putA, T.get_put, Nat.reduceEqDiff, reduceIte, List.getElem?_toArray, List.getElem?_cons_zero, List.getElem?_cons_succ, oBuiltin, oBin, binA, binG, binL, aggO, litA, intA, ltF_eq, eqF_eq, oIndexAddr, cond_true, cond_false, Bool.not_true, Bool.not_false, decide_true, decide_false, blt_eq, tt_beq, tf_beq, ft_beq, ff_beq, Bool.and_true, Bool.true_and, Option.some.injEq, I, Bo, addI, subI, oExtract, Bool.not_eq_true', fieldAddrA, oFieldAddr, oStore, isAggD, aggH, oneH, skipH, Nat.add_eq_left, Nat.left_eq_add, Nat.succ_ne_self, fieldA, partA, cellsOf, List.length_cons, List.length_nil, Nat.reduceAdd, Nat.zero_add, Nat.add_zero, Nat.mul_one, Nat.reduceMul, nbeq_self, onesA_cons', onesA_nil, oneA, Value.oneCell', Nat.reduceLT, ty3, ti3, ty4, ti4, ty25, ti25, ty39, ti39, ty51, ti51, e0, e3, e4, hl, c0]; refine ⟨_, _, rfl, ?_⟩)
        | (refine wc_cond (by simp only [oUn_not, beq_self_eq_true, eq_self, pv_mul, List.toList_toArray, opsA_cons, opsA_nil, wantedA, guardA, yieldA, stepA_t, stepA_f, callA, calleeA, targetA, runOp_c, runOp_n, opA, ev, evs, evo, consO, consOO, withH, pickA, afterA_s, putA, T.get_put, Nat.reduceEqDiff, reduceIte, List.getElem?_toArray, List.getElem?_cons_zero, List.getElem?_cons_succ, oBuiltin, oBin, binA, binG, binL, aggO, litA, intA, ltF_eq, eqF_eq, oIndexAddr, cond_true, cond_false, Bool.not_true, Bool.not_false, decide_true, decide_false, blt_eq, tt_beq, tf_beq, ft_beq, ff_beq, Bool.and_true, Bool.true_and, Option.some.injEq, I, Bo, addI, subI, oExtract, Bool.not_eq_true', fieldAddrA, oFieldAddr, oStore, isAggD, aggH, oneH, skipH, Nat.add_eq_left, Nat.left_eq_add, Nat.succ_ne_self, fieldA, partA, cellsOf, List.length_cons, List.length_nil, Nat.reduceAdd, Nat.zero_add, Nat.add_zero, Nat.mul_one, Nat.reduceMul, nbeq_self, onesA_cons', onesA_nil, oneA, Value.oneCell', Nat.reduceLT, ty3, ti3, ty4, ti4, ty25, ti25, ty39, ti39, ty51, ti51, e0, e3, e4, hl, c0]; rfl) ?_ ?_ <;> intro hb <;> first | (exfalso; exact Bool.noConfusion hb) | skip)
        | refine wc_block ?_
        | refine wc_skip ?_
        | refine wc_scope (by decide) ?_
        | refine wc_label ?_
        | refine wc_exit ?_
        | refine wc_ret ?_
        | refine wv_ret (by simp only [resA, resOne]; simp only [oUn_not, beq_self_eq_true, eq_self, pv_mul, List.toList_toArray, opsA_cons, opsA_nil, wantedA, guardA, yieldA, stepA_t, stepA_f, callA, calleeA, targetA, runOp_c, runOp_n, opA, ev, evs, evo, consO, consOO, withH, pickA, afterA_s, putA, T.get_put, Nat.reduceEqDiff, reduceIte, List.getElem?_toArray, List.getElem?_cons_zero, List.getElem?_cons_succ, oBuiltin, oBin, binA, binG, binL, aggO, litA, intA, ltF_eq, eqF_eq, oIndexAddr, cond_true, cond_false, Bool.not_true, Bool.not_false, decide_true, decide_false, blt_eq, tt_beq, tf_beq, ft_beq, ff_beq, Bool.and_true, Bool.true_and, Option.some.injEq, I, Bo, addI, subI, oExtract, Bool.not_eq_true', fieldAddrA, oFieldAddr, oStore, isAggD, aggH, oneH, skipH, Nat.add_eq_left, Nat.left_eq_add, Nat.succ_ne_self, fieldA, partA, cellsOf, List.length_cons, List.length_nil, Nat.reduceAdd, Nat.zero_add, Nat.add_zero, Nat.mul_one, Nat.reduceMul, nbeq_self, onesA_cons', onesA_nil, oneA, Value.oneCell', Nat.reduceLT, ty3, ti3, ty4, ti4, ty25, ti25, ty39, ti39, ty51, ti51, e0, e3, e4, hl, c0]; rfl) ?_)
      all_goals exact ⟨hx, hg, hu⟩
end Go.Proofs.Ytmcbkmmipgaeoaa
