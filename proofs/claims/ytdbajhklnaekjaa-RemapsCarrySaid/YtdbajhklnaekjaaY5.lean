import Derived.Test.YtdbajhklnaekjaaY4
import Derived.KernelRfl
namespace Go.Proofs.Ytdbajhklnaekjaa
open Go Go.Proofs Go.RowKit
set_option linter.unusedSimpArgs false
set_option linter.unusedVariables false
open Go.Proofs.Abs
abbrev GL (h : Hp) (v : AV) (xs : List Int) : Prop := Gr 3 1 h v (xs.map I) xs.length
theorem lw1 (n : Nat) (o k c : Nat) (r : Bool) : lenA (.slice n o k r c 0) = some k := rfl
theorem app1 {h : Hp} {v : AV} {xs : List Int} (g : GL h v xs) (x : Int) (hl : xs.length ≤ 9000) : ∃ v' h', builtinA ctx (newBlk h [I x] 3 0) .append [22, 22] [v, .slice h.c 0 1 false 1 0] = some (v', h') ∧ GL h' v' (xs ++ [x]) ∧
    Fr (fun n => nmO v = some n) h h' ∧ (nmO v' = nmO v ∨ ∃ n, nmO v' = some n ∧ h.c ≤ n) := by
  have nb := new_cells h [I x] 3 0
  obtain ⟨v', h', h1, h2, h3, h4⟩ := app_gr (C := ctx) ty22 rfl ty3 (show ti3.size = 1 from rfl) (by omega) rfl (g.ext nb.1) (lw1 h.c 0 1 1 false) (show elemsA (newBlk h [I x] 3 0) 1 1 (.slice h.c 0 1 false 1 0) = some [I x] from (nb.2.2 0 (I x) rfl).load) rfl rfl (by omega)
  refine ⟨v', h', h1, ?_, (nb.1.fr _).trans h3, h4.imp id fun h5 => ⟨_, h5, by rw [nb.2.1]; omega⟩⟩
  have h2' : Gr 3 1 h' v' (xs.map I ++ [I x]) (xs.length + 1) := h2
  show Gr 3 1 h' v' ((xs ++ [x]).map I) (xs ++ [x]).length
  rw [List.map_append, List.length_append]
  exact h2'
theorem bs1 (h : Hp) (x : Int) : buildSliceA ctx h 22 1 [(0, .lit (.int .i64 x))] = some (.slice h.c 0 1 false 1 0, newBlk h [I x] 3 0) := by kernel_rfl
theorem bs0 (h : Hp) : buildSliceA ctx h 22 0 [] = some (.slice h.c 0 0 false 0 0, newBlk h [] 3 0) := by kernel_rfl
/-- append of a part -/
theorem appP {h h1 : Hp} {u v w : AV} {xs cs : List Int} {i k : Nat} (gu : GL h1 u xs) (s : Src h v (cs.map I) i k w) (hk : i + k ≤ cs.length) (hx : ∀ n, nmO v = some n → h1.m.get n = h.m.get n) (hl : xs.length + k ≤ 100000) :
    ∃ v' h', builtinA ctx h1 .append [22, 22] [u, w] = some (v', h') ∧ GL h' v' (xs ++ (cs.drop i).take k) ∧ Fr (fun n => nmO u = some n) h1 h' ∧ (nmO v' = nmO u ∨ nmO v' = some h1.c) := by
  obtain ⟨v', h', q1, q2, q3, q4⟩ := app_src (C := ctx) ty22 rfl ty3 (show ti3.size = 1 from rfl) rfl (len := 0) gu s hk hx hl
  refine ⟨v', h', q1, ?_, q3, q4⟩
  have e : (xs ++ (cs.drop i).take k).length = xs.length + k := by rw [List.length_append, List.length_take, List.length_drop]; omega
  show Gr 3 1 h' v' ((xs ++ (cs.drop i).take k).map I) (xs ++ (cs.drop i).take k).length
  rw [e]
  exact q2
theorem pTo {h : Hp} {v : AV} {xs : List Int} (g : GL h v xs) {k : Nat} (hk : k ≤ xs.length) : ∃ w, (∀ h', sliceA ctx h' 22 v none (some (I (Int.ofNat k))) none = some (w, h')) ∧ Src h v (xs.map I) 0 k w := part_to (C := ctx) ty22 rfl ty3 rfl g hk
theorem pFrom {h : Hp} {v : AV} {xs : List Int} (g : GL h v xs) {k : Nat} (hk : k ≤ xs.length) : ∃ w, (∀ h', sliceA ctx h' 22 v (some (I (Int.ofNat k))) none none = some (w, h')) ∧ Src h v (xs.map I) k (xs.length - k) w := part_from (C := ctx) ty22 rfl ty3 rfl g hk
theorem pMid {h : Hp} {v : AV} {xs : List Int} (g : GL h v xs) {i j : Nat} (hij : i ≤ j) (hj : j ≤ xs.length) : ∃ w, (∀ h', sliceA ctx h' 22 v (some (I (Int.ofNat i))) (some (I (Int.ofNat j))) none = some (w, h')) ∧ Src h v (xs.map I) i (j - i) w := part_mid (C := ctx) ty22 rfl ty3 rfl g hij hj
structure ResL (h h' : Hp) (r : AV) (ys : List Int) (code : Int) : Prop where
  x : Ext h h'
  s : ∃ s, r = .tup [s, I code] ∧ GL h' s ys ∧ ∀ n, nmO s = some n → h.c ≤ n
def upto (n : Nat) : List Int := (List.range n).map fun (i : Nat) => (i : Int)
theorem upto_len (n : Nat) : (upto n).length = n := by simp [upto]
theorem upto_succ (n : Nat) : upto (n + 1) = upto n ++ [Int.ofNat n] := by simp [upto, List.range_succ]
set_option maxHeartbeats 4000000 in
theorem c25 (d : Nat) (h : Hp) (n : Nat) (hn : n ≤ 4096) : Wv (runA ctx 5000 (d + 1) 25 [I (Int.ofNat n)] h) (fun r h' => Ext h h' ∧ GL h' r (upto n) ∧ ∀ k, nmO r = some k → h.c ≤ k) := by
  refine wv_run fn25 rfl ?_
  have a0 : (enterEnv [I (Int.ofNat n)] Try.f25.ntmps).get 0 = some (I (Int.ofNat n)) := enter_get1 _ _ _
  generalize enterEnv [I (Int.ofNat n)] Try.f25.ntmps = e at a0 ⊢
  unfold Try.f25
  dsimp only
  repeat' (first
    | refine wc_seq ?_
    | (refine wc_region rfl ?_; simp only [oUn_not, beq_self_eq_true, eq_self, pv_mul, List.toList_toArray, opsA_cons, opsA_nil, wantedA, guardA, yieldA, stepA_t, stepA_f, callA, calleeA, targetA, runOp_c, runOp_n, opA, ev, evs, evo, consO, consOO, withH, pickA, afterA_s, putA, T.get_put, Nat.reduceEqDiff, reduceIte, List.getElem?_toArray, List.getElem?_cons_zero, List.getElem?_cons_succ, oBuiltin, oBin, binA, binG, binL, aggO, litA, intA, ltF_eq, eqF_eq, oIndexAddr, cond_true, cond_false, Bool.not_true, Bool.not_false, decide_true, decide_false, blt_eq, tt_beq, tf_beq, ft_beq, ff_beq, Bool.and_true, Bool.true_and, Option.some.injEq, I, Bo, addI, subI, oExtract, Bool.not_eq_true', fieldAddrA, oFieldAddr, oLoad, oStore, isAggD, aggH, oneH, skipH, Nat.add_eq_left, Nat.left_eq_add, Nat.succ_ne_self, fieldA, partA, cellsOf, List.length_cons, List.length_nil, Nat.reduceAdd, Nat.zero_add, Nat.add_zero, Nat.mul_one, Nat.reduceMul, nbeq_self, onesA_cons', onesA_nil, oneA, Value.oneCell', Nat.reduceLT, ty3, ti3, ty22, ti22, a0]; refine ⟨_, _, rfl, ?_⟩)
    | (refine wc_cond (by simp only [oUn_not, beq_self_eq_true, eq_self, pv_mul, List.toList_toArray, opsA_cons, opsA_nil, wantedA, guardA, yieldA, stepA_t, stepA_f, callA, calleeA, targetA, runOp_c, runOp_n, opA, ev, evs, evo, consO, consOO, withH, pickA, afterA_s, putA, T.get_put, Nat.reduceEqDiff, reduceIte, List.getElem?_toArray, List.getElem?_cons_zero, List.getElem?_cons_succ, oBuiltin, oBin, binA, binG, binL, aggO, litA, intA, ltF_eq, eqF_eq, oIndexAddr, cond_true, cond_false, Bool.not_true, Bool.not_false, decide_true, decide_false, blt_eq, tt_beq, tf_beq, ft_beq, ff_beq, Bool.and_true, Bool.true_and, Option.some.injEq, I, Bo, addI, subI, oExtract, Bool.not_eq_true', fieldAddrA, oFieldAddr, oLoad, oStore, isAggD, aggH, oneH, skipH, Nat.add_eq_left, Nat.left_eq_add, Nat.succ_ne_self, fieldA, partA, cellsOf, List.length_cons, List.length_nil, Nat.reduceAdd, Nat.zero_add, Nat.add_zero, Nat.mul_one, Nat.reduceMul, nbeq_self, onesA_cons', onesA_nil, oneA, Value.oneCell', Nat.reduceLT, ty3, ti3, ty22, ti22, a0]; rfl) ?_ ?_ <;> intro hb <;> first | (exfalso; exact Bool.noConfusion hb) | skip)
    | refine wc_block ?_
    | refine wc_skip ?_
    | refine wc_scope (by decide) ?_
    | refine wc_label ?_
    | refine wc_exit ?_
    | refine wc_ret ?_
    | refine wv_ret (by simp only [resA, resOne]; simp only [oUn_not, beq_self_eq_true, eq_self, pv_mul, List.toList_toArray, opsA_cons, opsA_nil, wantedA, guardA, yieldA, stepA_t, stepA_f, callA, calleeA, targetA, runOp_c, runOp_n, opA, ev, evs, evo, consO, consOO, withH, pickA, afterA_s, putA, T.get_put, Nat.reduceEqDiff, reduceIte, List.getElem?_toArray, List.getElem?_cons_zero, List.getElem?_cons_succ, oBuiltin, oBin, binA, binG, binL, aggO, litA, intA, ltF_eq, eqF_eq, oIndexAddr, cond_true, cond_false, Bool.not_true, Bool.not_false, decide_true, decide_false, blt_eq, tt_beq, tf_beq, ft_beq, ff_beq, Bool.and_true, Bool.true_and, Option.some.injEq, I, Bo, addI, subI, oExtract, Bool.not_eq_true', fieldAddrA, oFieldAddr, oLoad, oStore, isAggD, aggH, oneH, skipH, Nat.add_eq_left, Nat.left_eq_add, Nat.succ_ne_self, fieldA, partA, cellsOf, List.length_cons, List.length_nil, Nat.reduceAdd, Nat.zero_add, Nat.add_zero, Nat.mul_one, Nat.reduceMul, nbeq_self, onesA_cons', onesA_nil, oneA, Value.oneCell', Nat.reduceLT, ty3, ti3, ty22, ti22, a0]; rfl) ?_)
  refine wc_loop (fun m e h' => ∃ k u, m = n - k ∧ k ≤ n ∧ e.get 0 = some (I (Int.ofNat n)) ∧ e.get 3 = some u ∧ e.get 4 = some (I (Int.ofNat k)) ∧ Ext h h' ∧ GL h' u (upto k) ∧ (∀ n, nmO u = some n → h.c ≤ n)) n ?_ ⟨0, nilS, ?_⟩ ?_
  · omega
  · refine ⟨rfl, Nat.zero_le _, ?_, ?_, ?_, Ext.refl _, Gr.nil 3 1 h, fun n hn => (by cases hn)⟩
    all_goals simp only [oUn_not, beq_self_eq_true, eq_self, pv_mul, List.toList_toArray, opsA_cons, opsA_nil, wantedA, guardA, yieldA, stepA_t, stepA_f, callA, calleeA, targetA, runOp_c, runOp_n, opA, ev, evs, evo, consO, consOO, withH, pickA, afterA_s, putA, T.get_put, Nat.reduceEqDiff, reduceIte, List.getElem?_toArray, List.getElem?_cons_zero, List.getElem?_cons_succ, oBuiltin, oBin, binA, binG, binL, aggO, litA, intA, ltF_eq, eqF_eq, oIndexAddr, cond_true, cond_false, Bool.not_true, Bool.not_false, decide_true, decide_false, blt_eq, tt_beq, tf_beq, ft_beq, ff_beq, Bool.and_true, Bool.true_and, Option.some.injEq, I, Bo, addI, subI, oExtract, Bool.not_eq_true', fieldAddrA, oFieldAddr, oLoad, oStore, isAggD, aggH, oneH, skipH, Nat.add_eq_left, Nat.left_eq_add, Nat.succ_ne_self, fieldA, partA, cellsOf, List.length_cons, List.length_nil, Nat.reduceAdd, Nat.zero_add, Nat.add_zero, Nat.mul_one, Nat.reduceMul, nbeq_self, onesA_cons', onesA_nil, oneA, Value.oneCell', Nat.reduceLT, ty3, ti3, ty22, ti22, a0]; try rfl
  · rintro m e h' ⟨k, u, rfl, hk, e0, e3, e4, hx, hg, hu⟩
    by_cases hlt : k < n
    · have c0 : decide (Int.ofNat k < Int.ofNat n) = true := by simp; omega
      have hk1 : IntKind.wrap .i64 (Int.ofNat k + 1) = Int.ofNat (k + 1) := inc (by omega)
      have hb2 := bs1 h' (Int.ofNat k)
      obtain ⟨u2, h2, hap, hg2, hf2, hn2⟩ := app1 hg (Int.ofNat k) (by rw [upto_len]; omega)
      rw [← upto_succ] at hg2
      have hx2 : Ext h h2 := Fr.from hx hf2 (fun n hn => hu n hn)
      have hu2 : ∀ n, nmO u2 = some n → h.c ≤ n := fun n hn => by
        rcases hn2 with h5 | ⟨n', h5, h6⟩
        · exact hu n (by rw [← h5]; exact hn)
        · rw [h5] at hn; cases hn; have := hx.c; omega
      repeat' (first
        | refine wc_seq ?_
        | (refine wc_region rfl ?_; simp only [oUn_not, beq_self_eq_true, eq_self, pv_mul, List.toList_toArray, opsA_cons, opsA_nil, wantedA, guardA, yieldA, stepA_t, stepA_f, callA, calleeA, targetA, runOp_c, runOp_n, opA, ev, evs, evo, consO, consOO, withH, pickA, afterA_s, putA, T.get_put, Nat.reduceEqDiff, reduceIte, List.getElem?_toArray, List.getElem?_cons_zero, List.getElem?_cons_succ, oBuiltin, oBin, binA, binG, binL, aggO, litA, intA, ltF_eq, eqF_eq, oIndexAddr, cond_true, cond_false, Bool.not_true, Bool.not_false, decide_true, decide_false, blt_eq, tt_beq, tf_beq, ft_beq, ff_beq, Bool.and_true, Bool.true_and, Option.some.injEq, I, Bo, addI, subI, oExtract, Bool.not_eq_true', fieldAddrA, oFieldAddr, oLoad, oStore, isAggD, aggH, oneH, skipH, Nat.add_eq_left, Nat.left_eq_add, Nat.succ_ne_self, fieldA, partA, cellsOf, List.length_cons, List.length_nil, Nat.reduceAdd, Nat.zero_add, Nat.add_zero, Nat.mul_one, Nat.reduceMul, nbeq_self, onesA_cons', onesA_nil, oneA, Value.oneCell', Nat.reduceLT, ty3, ti3, ty22, ti22, e0, e3, e4, c0, hk1, hb2, hap, oBuild, oBuildSlice, evParts, consP]; refine ⟨_, _, rfl, ?_⟩)
        | (refine wc_cond (by simp only [oUn_not, beq_self_eq_true, eq_self, pv_mul, List.toList_toArray, opsA_cons, opsA_nil, wantedA, guardA, yieldA, stepA_t, stepA_f, callA, calleeA, targetA, runOp_c, runOp_n, opA, ev, evs, evo, consO, consOO, withH, pickA, afterA_s, putA, T.get_put, Nat.reduceEqDiff, reduceIte, List.getElem?_toArray, List.getElem?_cons_zero, List.getElem?_cons_succ, oBuiltin, oBin, binA, binG, binL, aggO, litA, intA, ltF_eq, eqF_eq, oIndexAddr, cond_true, cond_false, Bool.not_true, Bool.not_false, decide_true, decide_false, blt_eq, tt_beq, tf_beq, ft_beq, ff_beq, Bool.and_true, Bool.true_and, Option.some.injEq, I, Bo, addI, subI, oExtract, Bool.not_eq_true', fieldAddrA, oFieldAddr, oLoad, oStore, isAggD, aggH, oneH, skipH, Nat.add_eq_left, Nat.left_eq_add, Nat.succ_ne_self, fieldA, partA, cellsOf, List.length_cons, List.length_nil, Nat.reduceAdd, Nat.zero_add, Nat.add_zero, Nat.mul_one, Nat.reduceMul, nbeq_self, onesA_cons', onesA_nil, oneA, Value.oneCell', Nat.reduceLT, ty3, ti3, ty22, ti22, e0, e3, e4, c0, hk1, hb2, hap, oBuild, oBuildSlice, evParts, consP]; rfl) ?_ ?_ <;> intro hb <;> first | (exfalso; exact Bool.noConfusion hb) | skip)
        | refine wc_block ?_
        | refine wc_skip ?_
        | refine wc_scope (by decide) ?_
        | refine wc_label ?_
        | refine wc_exit ?_
        | refine wc_ret ?_
        | refine wv_ret (by simp only [resA, resOne]; simp only [oUn_not, beq_self_eq_true, eq_self, pv_mul, List.toList_toArray, opsA_cons, opsA_nil, wantedA, guardA, yieldA, stepA_t, stepA_f, callA, calleeA, targetA, runOp_c, runOp_n, opA, ev, evs, evo, consO, consOO, withH, pickA, afterA_s, putA, T.get_put, Nat.reduceEqDiff, reduceIte, List.getElem?_toArray, List.getElem?_cons_zero, List.getElem?_cons_succ, oBuiltin, oBin, binA, binG, binL, aggO, litA, intA, ltF_eq, eqF_eq, oIndexAddr, cond_true, cond_false, Bool.not_true, Bool.not_false, decide_true, decide_false, blt_eq, tt_beq, tf_beq, ft_beq, ff_beq, Bool.and_true, Bool.true_and, Option.some.injEq, I, Bo, addI, subI, oExtract, Bool.not_eq_true', fieldAddrA, oFieldAddr, oLoad, oStore, isAggD, aggH, oneH, skipH, Nat.add_eq_left, Nat.left_eq_add, Nat.succ_ne_self, fieldA, partA, cellsOf, List.length_cons, List.length_nil, Nat.reduceAdd, Nat.zero_add, Nat.add_zero, Nat.mul_one, Nat.reduceMul, nbeq_self, onesA_cons', onesA_nil, oneA, Value.oneCell', Nat.reduceLT, ty3, ti3, ty22, ti22, e0, e3, e4, c0, hk1, hb2, hap, oBuild, oBuildSlice, evParts, consP]; rfl) ?_)
      refine nx_next (n - (k + 1)) (by omega) ⟨k + 1, u2, rfl, hlt, ?_, ?_, ?_, hx2, hg2, hu2⟩ <;> simp only [oUn_not, beq_self_eq_true, eq_self, pv_mul, List.toList_toArray, opsA_cons, opsA_nil, wantedA, guardA, yieldA, stepA_t, stepA_f, callA, calleeA, targetA, runOp_c, runOp_n, opA, ev, evs, evo, consO, consOO, withH, pickA, afterA_s, putA, T.get_put, Nat.reduceEqDiff, reduceIte, List.getElem?_toArray, List.getElem?_cons_zero, List.getElem?_cons_succ, oBuiltin, oBin, binA, binG, binL, aggO, litA, intA, ltF_eq, eqF_eq, oIndexAddr, cond_true, cond_false, Bool.not_true, Bool.not_false, decide_true, decide_false, blt_eq, tt_beq, tf_beq, ft_beq, ff_beq, Bool.and_true, Bool.true_and, Option.some.injEq, I, Bo, addI, subI, oExtract, Bool.not_eq_true', fieldAddrA, oFieldAddr, oLoad, oStore, isAggD, aggH, oneH, skipH, Nat.add_eq_left, Nat.left_eq_add, Nat.succ_ne_self, fieldA, partA, cellsOf, List.length_cons, List.length_nil, Nat.reduceAdd, Nat.zero_add, Nat.add_zero, Nat.mul_one, Nat.reduceMul, nbeq_self, onesA_cons', onesA_nil, oneA, Value.oneCell', Nat.reduceLT, ty3, ti3, ty22, ti22, e0, e3, e4, c0, hk1, hb2, hap, oBuild, oBuildSlice, evParts, consP]
    · have c0 : decide (Int.ofNat k < Int.ofNat n) = false := by simp; omega
      obtain rfl : k = n := by omega
      repeat' (first
        | refine wc_seq ?_
        | (refine wc_region rfl ?_; simp only [oUn_not, beq_self_eq_true, eq_self, pv_mul, List.toList_toArray, opsA_cons, opsA_nil, wantedA, guardA, yieldA, stepA_t, stepA_f, callA, calleeA, targetA, runOp_c, runOp_n, opA, ev, evs, evo, consO, consOO, withH, pickA, afterA_s, putA, T.get_put, Nat.reduceEqDiff, reduceIte, List.getElem?_toArray, List.getElem?_cons_zero, List.getElem?_cons_succ, oBuiltin, oBin, binA, binG, binL, aggO, litA, intA, ltF_eq, eqF_eq, oIndexAddr, cond_true, cond_false, Bool.not_true, Bool.not_false, decide_true, decide_false, blt_eq, tt_beq, tf_beq, ft_beq, ff_beq, Bool.and_true, Bool.true_and, Option.some.injEq, I, Bo, addI, subI, oExtract, Bool.not_eq_true', fieldAddrA, oFieldAddr, oLoad, oStore, isAggD, aggH, oneH, skipH, Nat.add_eq_left, Nat.left_eq_add, Nat.succ_ne_self, fieldA, partA, cellsOf, List.length_cons, List.length_nil, Nat.reduceAdd, Nat.zero_add, Nat.add_zero, Nat.mul_one, Nat.reduceMul, nbeq_self, onesA_cons', onesA_nil, oneA, Value.oneCell', Nat.reduceLT, ty3, ti3, ty22, ti22, e0, e3, e4, c0]; refine ⟨_, _, rfl, ?_⟩)
        | (refine wc_cond (by simp only [oUn_not, beq_self_eq_true, eq_self, pv_mul, List.toList_toArray, opsA_cons, opsA_nil, wantedA, guardA, yieldA, stepA_t, stepA_f, callA, calleeA, targetA, runOp_c, runOp_n, opA, ev, evs, evo, consO, consOO, withH, pickA, afterA_s, putA, T.get_put, Nat.reduceEqDiff, reduceIte, List.getElem?_toArray, List.getElem?_cons_zero, List.getElem?_cons_succ, oBuiltin, oBin, binA, binG, binL, aggO, litA, intA, ltF_eq, eqF_eq, oIndexAddr, cond_true, cond_false, Bool.not_true, Bool.not_false, decide_true, decide_false, blt_eq, tt_beq, tf_beq, ft_beq, ff_beq, Bool.and_true, Bool.true_and, Option.some.injEq, I, Bo, addI, subI, oExtract, Bool.not_eq_true', fieldAddrA, oFieldAddr, oLoad, oStore, isAggD, aggH, oneH, skipH, Nat.add_eq_left, Nat.left_eq_add, Nat.succ_ne_self, fieldA, partA, cellsOf, List.length_cons, List.length_nil, Nat.reduceAdd, Nat.zero_add, Nat.add_zero, Nat.mul_one, Nat.reduceMul, nbeq_self, onesA_cons', onesA_nil, oneA, Value.oneCell', Nat.reduceLT, ty3, ti3, ty22, ti22, e0, e3, e4, c0]; rfl) ?_ ?_ <;> intro hb <;> first | (exfalso; exact Bool.noConfusion hb) | skip)
        | refine wc_block ?_
        | refine wc_skip ?_
        | refine wc_scope (by decide) ?_
        | refine wc_label ?_
        | refine wc_exit ?_
        | refine wc_ret ?_
        | refine wv_ret (by simp only [resA, resOne]; simp only [oUn_not, beq_self_eq_true, eq_self, pv_mul, List.toList_toArray, opsA_cons, opsA_nil, wantedA, guardA, yieldA, stepA_t, stepA_f, callA, calleeA, targetA, runOp_c, runOp_n, opA, ev, evs, evo, consO, consOO, withH, pickA, afterA_s, putA, T.get_put, Nat.reduceEqDiff, reduceIte, List.getElem?_toArray, List.getElem?_cons_zero, List.getElem?_cons_succ, oBuiltin, oBin, binA, binG, binL, aggO, litA, intA, ltF_eq, eqF_eq, oIndexAddr, cond_true, cond_false, Bool.not_true, Bool.not_false, decide_true, decide_false, blt_eq, tt_beq, tf_beq, ft_beq, ff_beq, Bool.and_true, Bool.true_and, Option.some.injEq, I, Bo, addI, subI, oExtract, Bool.not_eq_true', fieldAddrA, oFieldAddr, oLoad, oStore, isAggD, aggH, oneH, skipH, Nat.add_eq_left, Nat.left_eq_add, Nat.succ_ne_self, fieldA, partA, cellsOf, List.length_cons, List.length_nil, Nat.reduceAdd, Nat.zero_add, Nat.add_zero, Nat.mul_one, Nat.reduceMul, nbeq_self, onesA_cons', onesA_nil, oneA, Value.oneCell', Nat.reduceLT, ty3, ti3, ty22, ti22, e0, e3, e4, c0]; rfl) ?_)
      all_goals exact ⟨hx, hg, hu⟩
set_option maxHeartbeats 4000000 in
theorem c26 (d : Nat) (h : Hp) (v : AV) (xs : List Int) (a m : Nat) (hv : GL h v xs) (ha : a ≤ xs.length) (hm : xs.length + m ≤ 4096) : Wv (runA ctx 5000 (d + 1) 26 [v, I (Int.ofNat a), I (Int.ofNat m)] h) (fun r h' => ResL h h' r (xs.take a ++ List.replicate m (-1) ++ xs.drop a) 0) := by
  have hl := lenL (gr_isL hv)
  have z1 : decide (Int.ofNat a < 0) = false := by simp
  have z2 : decide ((xs.length : Int) < Int.ofNat a) = false := by simp; omega
  have z3 : decide (Int.ofNat m < 0) = false := by simp
  have w1 : IntKind.wrap .i64 (4096 - (xs.length : Int)) = 4096 - (xs.length : Int) := by rw [IntKind.wrap_i64]; omega
  have z4 : decide (4096 - (xs.length : Int) < Int.ofNat m) = false := by simp; omega
  have nb := new_cells h [] 3 0
  have ge : GL (newBlk h [] 3 0) (.slice h.c 0 0 false 0 0) [] := Gr.empty 3 1 h 3 0
  obtain ⟨wa, hsa, sa⟩ := pTo hv ha
  obtain ⟨u1, h1, hap1, g1, f1, n1⟩ := appP ge sa (by omega) (fun n hn => nb.1.m n (Gr.lt hv hn)) (by simp; omega)
  simp only [List.drop_zero, List.nil_append] at g1
  obtain ⟨wb, hsb, sb⟩ := pFrom hv ha
  have x1 : Ext h h1 := Fr.from nb.1 f1 (fun n hn => by cases hn; exact Nat.le_refl _)
  have u1c : ∀ n, nmO u1 = some n → h.c ≤ n := fun n hn => by
    have := nb.2.1
    rcases n1 with h5 | h5
    · rw [h5] at hn; cases hn; exact Nat.le_refl _
    · rw [h5] at hn; cases hn; omega
  have b0 := bs0 h
  refine wv_run fn26 rfl ?_
  have a0 : (enterEnv [v, I (Int.ofNat a), I (Int.ofNat m)] Try.f26.ntmps).get 0 = some (v) := enter_get1 _ _ _
  have a1 : (enterEnv [v, I (Int.ofNat a), I (Int.ofNat m)] Try.f26.ntmps).get 1 = some (I (Int.ofNat a)) := enter_get2 _ _ _ _
  have a2 : (enterEnv [v, I (Int.ofNat a), I (Int.ofNat m)] Try.f26.ntmps).get 2 = some (I (Int.ofNat m)) := enter_get3 _ _ _ _ _
  generalize enterEnv [v, I (Int.ofNat a), I (Int.ofNat m)] Try.f26.ntmps = e at a0 a1 a2 ⊢
  unfold Try.f26
  dsimp only
  repeat' (first
    | refine wc_seq ?_
    | (refine wc_region rfl ?_; simp only [oUn_not, beq_self_eq_true, eq_self, pv_mul, List.toList_toArray, opsA_cons, opsA_nil, wantedA, guardA, yieldA, stepA_t, stepA_f, callA, calleeA, targetA, runOp_c, runOp_n, opA, ev, evs, evo, consO, consOO, withH, pickA, afterA_s, putA, T.get_put, Nat.reduceEqDiff, reduceIte, List.getElem?_toArray, List.getElem?_cons_zero, List.getElem?_cons_succ, oBuiltin, oBin, binA, binG, binL, aggO, litA, intA, ltF_eq, eqF_eq, oIndexAddr, cond_true, cond_false, Bool.not_true, Bool.not_false, decide_true, decide_false, blt_eq, tt_beq, tf_beq, ft_beq, ff_beq, Bool.and_true, Bool.true_and, Option.some.injEq, I, Bo, addI, subI, oExtract, Bool.not_eq_true', fieldAddrA, oFieldAddr, oLoad, oStore, isAggD, aggH, oneH, skipH, Nat.add_eq_left, Nat.left_eq_add, Nat.succ_ne_self, fieldA, partA, cellsOf, List.length_cons, List.length_nil, Nat.reduceAdd, Nat.zero_add, Nat.add_zero, Nat.mul_one, Nat.reduceMul, nbeq_self, onesA_cons', onesA_nil, oneA, Value.oneCell', Nat.reduceLT, ty3, ti3, ty22, ti22, a0, a1, a2, hl, z1, z2, z3, w1, z4, uv, b0, hsa, hap1, oSlice, oBuild, oBuildSlice, evParts, consP]; refine ⟨_, _, rfl, ?_⟩)
    | (refine wc_cond (by simp only [oUn_not, beq_self_eq_true, eq_self, pv_mul, List.toList_toArray, opsA_cons, opsA_nil, wantedA, guardA, yieldA, stepA_t, stepA_f, callA, calleeA, targetA, runOp_c, runOp_n, opA, ev, evs, evo, consO, consOO, withH, pickA, afterA_s, putA, T.get_put, Nat.reduceEqDiff, reduceIte, List.getElem?_toArray, List.getElem?_cons_zero, List.getElem?_cons_succ, oBuiltin, oBin, binA, binG, binL, aggO, litA, intA, ltF_eq, eqF_eq, oIndexAddr, cond_true, cond_false, Bool.not_true, Bool.not_false, decide_true, decide_false, blt_eq, tt_beq, tf_beq, ft_beq, ff_beq, Bool.and_true, Bool.true_and, Option.some.injEq, I, Bo, addI, subI, oExtract, Bool.not_eq_true', fieldAddrA, oFieldAddr, oLoad, oStore, isAggD, aggH, oneH, skipH, Nat.add_eq_left, Nat.left_eq_add, Nat.succ_ne_self, fieldA, partA, cellsOf, List.length_cons, List.length_nil, Nat.reduceAdd, Nat.zero_add, Nat.add_zero, Nat.mul_one, Nat.reduceMul, nbeq_self, onesA_cons', onesA_nil, oneA, Value.oneCell', Nat.reduceLT, ty3, ti3, ty22, ti22, a0, a1, a2, hl, z1, z2, z3, w1, z4, uv, b0, hsa, hap1, oSlice, oBuild, oBuildSlice, evParts, consP]; rfl) ?_ ?_ <;> intro hb <;> first | (exfalso; exact Bool.noConfusion hb) | skip)
    | refine wc_block ?_
    | refine wc_skip ?_
    | refine wc_scope (by decide) ?_
    | refine wc_label ?_
    | refine wc_exit ?_
    | refine wc_ret ?_
    | refine wv_ret (by simp only [resA, resOne]; simp only [oUn_not, beq_self_eq_true, eq_self, pv_mul, List.toList_toArray, opsA_cons, opsA_nil, wantedA, guardA, yieldA, stepA_t, stepA_f, callA, calleeA, targetA, runOp_c, runOp_n, opA, ev, evs, evo, consO, consOO, withH, pickA, afterA_s, putA, T.get_put, Nat.reduceEqDiff, reduceIte, List.getElem?_toArray, List.getElem?_cons_zero, List.getElem?_cons_succ, oBuiltin, oBin, binA, binG, binL, aggO, litA, intA, ltF_eq, eqF_eq, oIndexAddr, cond_true, cond_false, Bool.not_true, Bool.not_false, decide_true, decide_false, blt_eq, tt_beq, tf_beq, ft_beq, ff_beq, Bool.and_true, Bool.true_and, Option.some.injEq, I, Bo, addI, subI, oExtract, Bool.not_eq_true', fieldAddrA, oFieldAddr, oLoad, oStore, isAggD, aggH, oneH, skipH, Nat.add_eq_left, Nat.left_eq_add, Nat.succ_ne_self, fieldA, partA, cellsOf, List.length_cons, List.length_nil, Nat.reduceAdd, Nat.zero_add, Nat.add_zero, Nat.mul_one, Nat.reduceMul, nbeq_self, onesA_cons', onesA_nil, oneA, Value.oneCell', Nat.reduceLT, ty3, ti3, ty22, ti22, a0, a1, a2, hl, z1, z2, z3, w1, z4, uv, b0, hsa, hap1, oSlice, oBuild, oBuildSlice, evParts, consP]; rfl) ?_)
  refine wc_loop (fun n e h' => ∃ k u, n = m - k ∧ k ≤ m ∧ e.get 0 = some v ∧ e.get 1 = some (I (Int.ofNat a)) ∧ e.get 2 = some (I (Int.ofNat m)) ∧ e.get 8 = some u ∧ e.get 9 = some (I (Int.ofNat k)) ∧ Ext h h' ∧ GL h' u (xs.take a ++ List.replicate k (-1)) ∧ (∀ n, nmO u = some n → h.c ≤ n)) m ?_ ⟨0, u1, ?_⟩ ?_
  · omega
  · refine ⟨rfl, Nat.zero_le _, ?_, ?_, ?_, ?_, ?_, x1, by simpa using g1, u1c⟩
    all_goals simp only [oUn_not, beq_self_eq_true, eq_self, pv_mul, List.toList_toArray, opsA_cons, opsA_nil, wantedA, guardA, yieldA, stepA_t, stepA_f, callA, calleeA, targetA, runOp_c, runOp_n, opA, ev, evs, evo, consO, consOO, withH, pickA, afterA_s, putA, T.get_put, Nat.reduceEqDiff, reduceIte, List.getElem?_toArray, List.getElem?_cons_zero, List.getElem?_cons_succ, oBuiltin, oBin, binA, binG, binL, aggO, litA, intA, ltF_eq, eqF_eq, oIndexAddr, cond_true, cond_false, Bool.not_true, Bool.not_false, decide_true, decide_false, blt_eq, tt_beq, tf_beq, ft_beq, ff_beq, Bool.and_true, Bool.true_and, Option.some.injEq, I, Bo, addI, subI, oExtract, Bool.not_eq_true', fieldAddrA, oFieldAddr, oLoad, oStore, isAggD, aggH, oneH, skipH, Nat.add_eq_left, Nat.left_eq_add, Nat.succ_ne_self, fieldA, partA, cellsOf, List.length_cons, List.length_nil, Nat.reduceAdd, Nat.zero_add, Nat.add_zero, Nat.mul_one, Nat.reduceMul, nbeq_self, onesA_cons', onesA_nil, oneA, Value.oneCell', Nat.reduceLT, ty3, ti3, ty22, ti22, a0, a1, a2, hl, z1, z2, z3, w1, z4, uv, b0, hsa, hap1, oSlice, oBuild, oBuildSlice, evParts, consP]; try rfl
  · rintro n e h' ⟨k, u, rfl, hk, e0, e1, e2, e8, e9, hx, hg, hu⟩
    by_cases hlt : k < m
    · have c0 : decide (Int.ofNat k < Int.ofNat m) = true := by simp; omega
      have hk1 : IntKind.wrap .i64 (Int.ofNat k + 1) = Int.ofNat (k + 1) := inc (by omega)
      have hb2 := bs1 h' (-1)
      obtain ⟨u2, h2, hap, hg2, hf2, hn2⟩ := app1 hg (-1) (by simp; omega)
      rw [List.append_assoc, ← List.replicate_succ'] at hg2
      have hx2 : Ext h h2 := Fr.from hx hf2 (fun n hn => hu n hn)
      have hu2 : ∀ n, nmO u2 = some n → h.c ≤ n := fun n hn => by
        rcases hn2 with h5 | ⟨n', h5, h6⟩
        · exact hu n (by rw [← h5]; exact hn)
        · rw [h5] at hn; cases hn; have := hx.c; omega
      repeat' (first
        | refine wc_seq ?_
        | (refine wc_region rfl ?_; simp only [oUn_not, beq_self_eq_true, eq_self, pv_mul, List.toList_toArray, opsA_cons, opsA_nil, wantedA, guardA, yieldA, stepA_t, stepA_f, callA, calleeA, targetA, runOp_c, runOp_n, opA, ev, evs, evo, consO, consOO, withH, pickA, afterA_s, putA, T.get_put, Nat.reduceEqDiff, reduceIte, List.getElem?_toArray, List.getElem?_cons_zero, List.getElem?_cons_succ, oBuiltin, oBin, binA, binG, binL, aggO, litA, intA, ltF_eq, eqF_eq, oIndexAddr, cond_true, cond_false, Bool.not_true, Bool.not_false, decide_true, decide_false, blt_eq, tt_beq, tf_beq, ft_beq, ff_beq, Bool.and_true, Bool.true_and, Option.some.injEq, I, Bo, addI, subI, oExtract, Bool.not_eq_true', fieldAddrA, oFieldAddr, oLoad, oStore, isAggD, aggH, oneH, skipH, Nat.add_eq_left, Nat.left_eq_add, Nat.succ_ne_self, fieldA, partA, cellsOf, List.length_cons, List.length_nil, Nat.reduceAdd, Nat.zero_add, Nat.add_zero, Nat.mul_one, Nat.reduceMul, nbeq_self, onesA_cons', onesA_nil, oneA, Value.oneCell', Nat.reduceLT, ty3, ti3, ty22, ti22, e0, e1, e2, e8, e9, c0, hk1, hb2, hap, oBuild, oBuildSlice, evParts, consP]; refine ⟨_, _, rfl, ?_⟩)
        | (refine wc_cond (by simp only [oUn_not, beq_self_eq_true, eq_self, pv_mul, List.toList_toArray, opsA_cons, opsA_nil, wantedA, guardA, yieldA, stepA_t, stepA_f, callA, calleeA, targetA, runOp_c, runOp_n, opA, ev, evs, evo, consO, consOO, withH, pickA, afterA_s, putA, T.get_put, Nat.reduceEqDiff, reduceIte, List.getElem?_toArray, List.getElem?_cons_zero, List.getElem?_cons_succ, oBuiltin, oBin, binA, binG, binL, aggO, litA, intA, ltF_eq, eqF_eq, oIndexAddr, cond_true, cond_false, Bool.not_true, Bool.not_false, decide_true, decide_false, blt_eq, tt_beq, tf_beq, ft_beq, ff_beq, Bool.and_true, Bool.true_and, Option.some.injEq, I, Bo, addI, subI, oExtract, Bool.not_eq_true', fieldAddrA, oFieldAddr, oLoad, oStore, isAggD, aggH, oneH, skipH, Nat.add_eq_left, Nat.left_eq_add, Nat.succ_ne_self, fieldA, partA, cellsOf, List.length_cons, List.length_nil, Nat.reduceAdd, Nat.zero_add, Nat.add_zero, Nat.mul_one, Nat.reduceMul, nbeq_self, onesA_cons', onesA_nil, oneA, Value.oneCell', Nat.reduceLT, ty3, ti3, ty22, ti22, e0, e1, e2, e8, e9, c0, hk1, hb2, hap, oBuild, oBuildSlice, evParts, consP]; rfl) ?_ ?_ <;> intro hb <;> first | (exfalso; exact Bool.noConfusion hb) | skip)
        | refine wc_block ?_
        | refine wc_skip ?_
        | refine wc_scope (by decide) ?_
        | refine wc_label ?_
        | refine wc_exit ?_
        | refine wc_ret ?_
        | refine wv_ret (by simp only [resA, resOne]; simp only [oUn_not, beq_self_eq_true, eq_self, pv_mul, List.toList_toArray, opsA_cons, opsA_nil, wantedA, guardA, yieldA, stepA_t, stepA_f, callA, calleeA, targetA, runOp_c, runOp_n, opA, ev, evs, evo, consO, consOO, withH, pickA, afterA_s, putA, T.get_put, Nat.reduceEqDiff, reduceIte, List.getElem?_toArray, List.getElem?_cons_zero, List.getElem?_cons_succ, oBuiltin, oBin, binA, binG, binL, aggO, litA, intA, ltF_eq, eqF_eq, oIndexAddr, cond_true, cond_false, Bool.not_true, Bool.not_false, decide_true, decide_false, blt_eq, tt_beq, tf_beq, ft_beq, ff_beq, Bool.and_true, Bool.true_and, Option.some.injEq, I, Bo, addI, subI, oExtract, Bool.not_eq_true', fieldAddrA, oFieldAddr, oLoad, oStore, isAggD, aggH, oneH, skipH, Nat.add_eq_left, Nat.left_eq_add, Nat.succ_ne_self, fieldA, partA, cellsOf, List.length_cons, List.length_nil, Nat.reduceAdd, Nat.zero_add, Nat.add_zero, Nat.mul_one, Nat.reduceMul, nbeq_self, onesA_cons', onesA_nil, oneA, Value.oneCell', Nat.reduceLT, ty3, ti3, ty22, ti22, e0, e1, e2, e8, e9, c0, hk1, hb2, hap, oBuild, oBuildSlice, evParts, consP]; rfl) ?_)
      refine nx_next (m - (k + 1)) (by omega) ⟨k + 1, u2, rfl, hlt, ?_, ?_, ?_, ?_, ?_, hx2, hg2, hu2⟩ <;> simp only [oUn_not, beq_self_eq_true, eq_self, pv_mul, List.toList_toArray, opsA_cons, opsA_nil, wantedA, guardA, yieldA, stepA_t, stepA_f, callA, calleeA, targetA, runOp_c, runOp_n, opA, ev, evs, evo, consO, consOO, withH, pickA, afterA_s, putA, T.get_put, Nat.reduceEqDiff, reduceIte, List.getElem?_toArray, List.getElem?_cons_zero, List.getElem?_cons_succ, oBuiltin, oBin, binA, binG, binL, aggO, litA, intA, ltF_eq, eqF_eq, oIndexAddr, cond_true, cond_false, Bool.not_true, Bool.not_false, decide_true, decide_false, blt_eq, tt_beq, tf_beq, ft_beq, ff_beq, Bool.and_true, Bool.true_and, Option.some.injEq, I, Bo, addI, subI, oExtract, Bool.not_eq_true', fieldAddrA, oFieldAddr, oLoad, oStore, isAggD, aggH, oneH, skipH, Nat.add_eq_left, Nat.left_eq_add, Nat.succ_ne_self, fieldA, partA, cellsOf, List.length_cons, List.length_nil, Nat.reduceAdd, Nat.zero_add, Nat.add_zero, Nat.mul_one, Nat.reduceMul, nbeq_self, onesA_cons', onesA_nil, oneA, Value.oneCell', Nat.reduceLT, ty3, ti3, ty22, ti22, e0, e1, e2, e8, e9, c0, hk1, hb2, hap, oBuild, oBuildSlice, evParts, consP]
    · have c0 : decide (Int.ofNat k < Int.ofNat m) = false := by simp; omega
      obtain rfl : k = m := by omega
      obtain ⟨u2, h2, hap2, g2, f2, n2⟩ := appP hg sb (by omega) (fun n hn => hx.m n (Gr.lt hv hn)) (by simp; omega)
      have x2 : Ext h h2 := Fr.from hx f2 (fun n hn => hu n hn)
      have e9' : (xs.drop a).take (xs.length - a) = xs.drop a := List.take_of_length_le (by rw [List.length_drop]; omega)
      rw [e9'] at g2
      have u2c : ∀ n, nmO u2 = some n → h.c ≤ n := fun n hn => by
        rcases n2 with h5 | h5
        · exact hu n (by rw [← h5]; exact hn)
        · rw [h5] at hn; cases hn; exact hx.c
      repeat' (first
        | refine wc_seq ?_
        | (refine wc_region rfl ?_; simp only [oUn_not, beq_self_eq_true, eq_self, pv_mul, List.toList_toArray, opsA_cons, opsA_nil, wantedA, guardA, yieldA, stepA_t, stepA_f, callA, calleeA, targetA, runOp_c, runOp_n, opA, ev, evs, evo, consO, consOO, withH, pickA, afterA_s, putA, T.get_put, Nat.reduceEqDiff, reduceIte, List.getElem?_toArray, List.getElem?_cons_zero, List.getElem?_cons_succ, oBuiltin, oBin, binA, binG, binL, aggO, litA, intA, ltF_eq, eqF_eq, oIndexAddr, cond_true, cond_false, Bool.not_true, Bool.not_false, decide_true, decide_false, blt_eq, tt_beq, tf_beq, ft_beq, ff_beq, Bool.and_true, Bool.true_and, Option.some.injEq, I, Bo, addI, subI, oExtract, Bool.not_eq_true', fieldAddrA, oFieldAddr, oLoad, oStore, isAggD, aggH, oneH, skipH, Nat.add_eq_left, Nat.left_eq_add, Nat.succ_ne_self, fieldA, partA, cellsOf, List.length_cons, List.length_nil, Nat.reduceAdd, Nat.zero_add, Nat.add_zero, Nat.mul_one, Nat.reduceMul, nbeq_self, onesA_cons', onesA_nil, oneA, Value.oneCell', Nat.reduceLT, ty3, ti3, ty22, ti22, e0, e1, e2, e8, e9, c0, hsb, hap2, oSlice]; refine ⟨_, _, rfl, ?_⟩)
        | (refine wc_cond (by simp only [oUn_not, beq_self_eq_true, eq_self, pv_mul, List.toList_toArray, opsA_cons, opsA_nil, wantedA, guardA, yieldA, stepA_t, stepA_f, callA, calleeA, targetA, runOp_c, runOp_n, opA, ev, evs, evo, consO, consOO, withH, pickA, afterA_s, putA, T.get_put, Nat.reduceEqDiff, reduceIte, List.getElem?_toArray, List.getElem?_cons_zero, List.getElem?_cons_succ, oBuiltin, oBin, binA, binG, binL, aggO, litA, intA, ltF_eq, eqF_eq, oIndexAddr, cond_true, cond_false, Bool.not_true, Bool.not_false, decide_true, decide_false, blt_eq, tt_beq, tf_beq, ft_beq, ff_beq, Bool.and_true, Bool.true_and, Option.some.injEq, I, Bo, addI, subI, oExtract, Bool.not_eq_true', fieldAddrA, oFieldAddr, oLoad, oStore, isAggD, aggH, oneH, skipH, Nat.add_eq_left, Nat.left_eq_add, Nat.succ_ne_self, fieldA, partA, cellsOf, List.length_cons, List.length_nil, Nat.reduceAdd, Nat.zero_add, Nat.add_zero, Nat.mul_one, Nat.reduceMul, nbeq_self, onesA_cons', onesA_nil, oneA, Value.oneCell', Nat.reduceLT, ty3, ti3, ty22, ti22, e0, e1, e2, e8, e9, c0, hsb, hap2, oSlice]; rfl) ?_ ?_ <;> intro hb <;> first | (exfalso; exact Bool.noConfusion hb) | skip)
        | refine wc_block ?_
        | refine wc_skip ?_
        | refine wc_scope (by decide) ?_
        | refine wc_label ?_
        | refine wc_exit ?_
        | refine wc_ret ?_
        | refine wv_ret (by simp only [resA, resOne]; simp only [oUn_not, beq_self_eq_true, eq_self, pv_mul, List.toList_toArray, opsA_cons, opsA_nil, wantedA, guardA, yieldA, stepA_t, stepA_f, callA, calleeA, targetA, runOp_c, runOp_n, opA, ev, evs, evo, consO, consOO, withH, pickA, afterA_s, putA, T.get_put, Nat.reduceEqDiff, reduceIte, List.getElem?_toArray, List.getElem?_cons_zero, List.getElem?_cons_succ, oBuiltin, oBin, binA, binG, binL, aggO, litA, intA, ltF_eq, eqF_eq, oIndexAddr, cond_true, cond_false, Bool.not_true, Bool.not_false, decide_true, decide_false, blt_eq, tt_beq, tf_beq, ft_beq, ff_beq, Bool.and_true, Bool.true_and, Option.some.injEq, I, Bo, addI, subI, oExtract, Bool.not_eq_true', fieldAddrA, oFieldAddr, oLoad, oStore, isAggD, aggH, oneH, skipH, Nat.add_eq_left, Nat.left_eq_add, Nat.succ_ne_self, fieldA, partA, cellsOf, List.length_cons, List.length_nil, Nat.reduceAdd, Nat.zero_add, Nat.add_zero, Nat.mul_one, Nat.reduceMul, nbeq_self, onesA_cons', onesA_nil, oneA, Value.oneCell', Nat.reduceLT, ty3, ti3, ty22, ti22, e0, e1, e2, e8, e9, c0, hsb, hap2, oSlice]; rfl) ?_)
      all_goals exact ⟨x2, u2, rfl, g2, u2c⟩
set_option maxHeartbeats 4000000 in
theorem c27 (d : Nat) (h : Hp) (v : AV) (xs : List Int) (a m : Nat) (hv : GL h v xs) (hn : xs.length ≤ 4096) (ha : a + m ≤ xs.length) : Wv (runA ctx 5000 (d + 1) 27 [v, I (Int.ofNat a), I (Int.ofNat m)] h) (fun r h' => ResL h h' r (xs.take a ++ xs.drop (a + m)) 0) := by
  have hl := lenL (gr_isL hv)
  have z1 : decide (Int.ofNat a < 0) = false := by simp
  have z2 : decide (Int.ofNat m < 0) = false := by simp
  have z3 : decide ((xs.length : Int) < Int.ofNat a) = false := by simp; omega
  have w1 : IntKind.wrap .i64 ((xs.length : Int) - Int.ofNat a) = (xs.length : Int) - Int.ofNat a := by rw [IntKind.wrap_i64]; simp only [Int.ofNat_eq_natCast]; omega
  have z4 : decide ((xs.length : Int) - Int.ofNat a < Int.ofNat m) = false := by simp; omega
  have w2 : IntKind.wrap .i64 (Int.ofNat a + Int.ofNat m) = Int.ofNat (a + m) := by rw [IntKind.wrap_i64]; simp only [Int.ofNat_eq_natCast]; omega
  have nb := new_cells h [] 3 0
  have ge : GL (newBlk h [] 3 0) (.slice h.c 0 0 false 0 0) [] := Gr.empty 3 1 h 3 0
  obtain ⟨wa, hsa, sa⟩ := pTo hv (k := a) (by omega)
  obtain ⟨u1, h1, hap1, g1, f1, n1⟩ := appP ge sa (by omega) (fun n hn => nb.1.m n (Gr.lt hv hn)) (by simp; omega)
  simp only [List.drop_zero, List.nil_append] at g1
  obtain ⟨wb, hsb, sb⟩ := pFrom hv ha
  have x1 : Ext h h1 := Fr.from nb.1 f1 (fun n hn => by cases hn; exact Nat.le_refl _)
  have u1c : ∀ n, nmO u1 = some n → h.c ≤ n := fun n hn => by
    have := nb.2.1
    rcases n1 with h5 | h5
    · rw [h5] at hn; cases hn; exact Nat.le_refl _
    · rw [h5] at hn; cases hn; omega
  have b0 := bs0 h
  obtain ⟨u2, h2, hap2, g2, f2, n2⟩ := appP g1 sb (by omega) (fun n hn => x1.m n (Gr.lt hv hn)) (by simp; omega)
  have x2 : Ext h h2 := Fr.from x1 f2 (fun n hn => u1c n hn)
  have e9' : (xs.drop (a + m)).take (xs.length - (a + m)) = xs.drop (a + m) := List.take_of_length_le (by rw [List.length_drop]; omega)
  rw [e9'] at g2
  have u2c : ∀ n, nmO u2 = some n → h.c ≤ n := fun n hn => by
    rcases n2 with h5 | h5
    · exact u1c n (by rw [← h5]; exact hn)
    · rw [h5] at hn; cases hn; exact x1.c
  refine wv_run fn27 rfl ?_
  have a0 : (enterEnv [v, I (Int.ofNat a), I (Int.ofNat m)] Try.f27.ntmps).get 0 = some (v) := enter_get1 _ _ _
  have a1 : (enterEnv [v, I (Int.ofNat a), I (Int.ofNat m)] Try.f27.ntmps).get 1 = some (I (Int.ofNat a)) := enter_get2 _ _ _ _
  have a2 : (enterEnv [v, I (Int.ofNat a), I (Int.ofNat m)] Try.f27.ntmps).get 2 = some (I (Int.ofNat m)) := enter_get3 _ _ _ _ _
  generalize enterEnv [v, I (Int.ofNat a), I (Int.ofNat m)] Try.f27.ntmps = e at a0 a1 a2 ⊢
  unfold Try.f27
  dsimp only
  repeat' (first
    | refine wc_seq ?_
    | (refine wc_region rfl ?_; simp only [oUn_not, beq_self_eq_true, eq_self, pv_mul, List.toList_toArray, opsA_cons, opsA_nil, wantedA, guardA, yieldA, stepA_t, stepA_f, callA, calleeA, targetA, runOp_c, runOp_n, opA, ev, evs, evo, consO, consOO, withH, pickA, afterA_s, putA, T.get_put, Nat.reduceEqDiff, reduceIte, List.getElem?_toArray, List.getElem?_cons_zero, List.getElem?_cons_succ, oBuiltin, oBin, binA, binG, binL, aggO, litA, intA, ltF_eq, eqF_eq, oIndexAddr, cond_true, cond_false, Bool.not_true, Bool.not_false, decide_true, decide_false, blt_eq, tt_beq, tf_beq, ft_beq, ff_beq, Bool.and_true, Bool.true_and, Option.some.injEq, I, Bo, addI, subI, oExtract, Bool.not_eq_true', fieldAddrA, oFieldAddr, oLoad, oStore, isAggD, aggH, oneH, skipH, Nat.add_eq_left, Nat.left_eq_add, Nat.succ_ne_self, fieldA, partA, cellsOf, List.length_cons, List.length_nil, Nat.reduceAdd, Nat.zero_add, Nat.add_zero, Nat.mul_one, Nat.reduceMul, nbeq_self, onesA_cons', onesA_nil, oneA, Value.oneCell', Nat.reduceLT, ty3, ti3, ty22, ti22, a0, a1, a2, hl, z1, z2, z3, w1, z4, w2, uv, b0, hsa, hap1, hsb, hap2, oSlice, oBuild, oBuildSlice, evParts, consP]; refine ⟨_, _, rfl, ?_⟩)
    | (refine wc_cond (by simp only [oUn_not, beq_self_eq_true, eq_self, pv_mul, List.toList_toArray, opsA_cons, opsA_nil, wantedA, guardA, yieldA, stepA_t, stepA_f, callA, calleeA, targetA, runOp_c, runOp_n, opA, ev, evs, evo, consO, consOO, withH, pickA, afterA_s, putA, T.get_put, Nat.reduceEqDiff, reduceIte, List.getElem?_toArray, List.getElem?_cons_zero, List.getElem?_cons_succ, oBuiltin, oBin, binA, binG, binL, aggO, litA, intA, ltF_eq, eqF_eq, oIndexAddr, cond_true, cond_false, Bool.not_true, Bool.not_false, decide_true, decide_false, blt_eq, tt_beq, tf_beq, ft_beq, ff_beq, Bool.and_true, Bool.true_and, Option.some.injEq, I, Bo, addI, subI, oExtract, Bool.not_eq_true', fieldAddrA, oFieldAddr, oLoad, oStore, isAggD, aggH, oneH, skipH, Nat.add_eq_left, Nat.left_eq_add, Nat.succ_ne_self, fieldA, partA, cellsOf, List.length_cons, List.length_nil, Nat.reduceAdd, Nat.zero_add, Nat.add_zero, Nat.mul_one, Nat.reduceMul, nbeq_self, onesA_cons', onesA_nil, oneA, Value.oneCell', Nat.reduceLT, ty3, ti3, ty22, ti22, a0, a1, a2, hl, z1, z2, z3, w1, z4, w2, uv, b0, hsa, hap1, hsb, hap2, oSlice, oBuild, oBuildSlice, evParts, consP]; rfl) ?_ ?_ <;> intro hb <;> first | (exfalso; exact Bool.noConfusion hb) | skip)
    | refine wc_block ?_
    | refine wc_skip ?_
    | refine wc_scope (by decide) ?_
    | refine wc_label ?_
    | refine wc_exit ?_
    | refine wc_ret ?_
    | refine wv_ret (by simp only [resA, resOne]; simp only [oUn_not, beq_self_eq_true, eq_self, pv_mul, List.toList_toArray, opsA_cons, opsA_nil, wantedA, guardA, yieldA, stepA_t, stepA_f, callA, calleeA, targetA, runOp_c, runOp_n, opA, ev, evs, evo, consO, consOO, withH, pickA, afterA_s, putA, T.get_put, Nat.reduceEqDiff, reduceIte, List.getElem?_toArray, List.getElem?_cons_zero, List.getElem?_cons_succ, oBuiltin, oBin, binA, binG, binL, aggO, litA, intA, ltF_eq, eqF_eq, oIndexAddr, cond_true, cond_false, Bool.not_true, Bool.not_false, decide_true, decide_false, blt_eq, tt_beq, tf_beq, ft_beq, ff_beq, Bool.and_true, Bool.true_and, Option.some.injEq, I, Bo, addI, subI, oExtract, Bool.not_eq_true', fieldAddrA, oFieldAddr, oLoad, oStore, isAggD, aggH, oneH, skipH, Nat.add_eq_left, Nat.left_eq_add, Nat.succ_ne_self, fieldA, partA, cellsOf, List.length_cons, List.length_nil, Nat.reduceAdd, Nat.zero_add, Nat.add_zero, Nat.mul_one, Nat.reduceMul, nbeq_self, onesA_cons', onesA_nil, oneA, Value.oneCell', Nat.reduceLT, ty3, ti3, ty22, ti22, a0, a1, a2, hl, z1, z2, z3, w1, z4, w2, uv, b0, hsa, hap1, hsb, hap2, oSlice, oBuild, oBuildSlice, evParts, consP]; rfl) ?_)
  all_goals exact ⟨x2, u2, rfl, g2, u2c⟩
set_option maxHeartbeats 4000000 in
theorem c28 (d : Nat) (h : Hp) (v : AV) (xs : List Int) (a m t : Nat) (hv : GL h v xs) (hn : xs.length ≤ 4096) (ha : a + m ≤ xs.length) (ht : t + m ≤ xs.length) : Wv (runA ctx 5000 (d + 2) 28 [v, I (Int.ofNat a), I (Int.ofNat m), I (Int.ofNat t)] h) (fun r h' => ResL h h' r ((xs.take a ++ xs.drop (a + m)).take t ++ (xs.drop a).take m ++ (xs.take a ++ xs.drop (a + m)).drop t) 0) := by
  have q27 := c27 d h v xs a m hv hn ha
  refine wv_run fn28 rfl ?_
  have a0 : (enterEnv [v, I (Int.ofNat a), I (Int.ofNat m), I (Int.ofNat t)] Try.f28.ntmps).get 0 = some (v) := enter_get1 _ _ _
  have a1 : (enterEnv [v, I (Int.ofNat a), I (Int.ofNat m), I (Int.ofNat t)] Try.f28.ntmps).get 1 = some (I (Int.ofNat a)) := enter_get2 _ _ _ _
  have a2 : (enterEnv [v, I (Int.ofNat a), I (Int.ofNat m), I (Int.ofNat t)] Try.f28.ntmps).get 2 = some (I (Int.ofNat m)) := enter_get3 _ _ _ _ _
  have a3 : (enterEnv [v, I (Int.ofNat a), I (Int.ofNat m), I (Int.ofNat t)] Try.f28.ntmps).get 3 = some (I (Int.ofNat t)) := enter_get4 _ _ _ _ _ _
  generalize enterEnv [v, I (Int.ofNat a), I (Int.ofNat m), I (Int.ofNat t)] Try.f28.ntmps = e at a0 a1 a2 a3 ⊢
  unfold Try.f28
  dsimp only
  refine wc_seq ?_
  (refine wc_region rfl ?_; simp only [oUn_not, beq_self_eq_true, eq_self, pv_mul, List.toList_toArray, opsA_cons, opsA_nil, wantedA, guardA, yieldA, stepA_t, stepA_f, callA, calleeA, targetA, runOp_c, runOp_n, opA, ev, evs, evo, consO, consOO, withH, pickA, afterA_s, putA, T.get_put, Nat.reduceEqDiff, reduceIte, List.getElem?_toArray, List.getElem?_cons_zero, List.getElem?_cons_succ, oBuiltin, oBin, binA, binG, binL, aggO, litA, intA, ltF_eq, eqF_eq, oIndexAddr, cond_true, cond_false, Bool.not_true, Bool.not_false, decide_true, decide_false, blt_eq, tt_beq, tf_beq, ft_beq, ff_beq, Bool.and_true, Bool.true_and, Option.some.injEq, I, Bo, addI, subI, oExtract, Bool.not_eq_true', fieldAddrA, oFieldAddr, oLoad, oStore, isAggD, aggH, oneH, skipH, Nat.add_eq_left, Nat.left_eq_add, Nat.succ_ne_self, fieldA, partA, cellsOf, List.length_cons, List.length_nil, Nat.reduceAdd, Nat.zero_add, Nat.add_zero, Nat.mul_one, Nat.reduceMul, nbeq_self, onesA_cons', onesA_nil, oneA, Value.oneCell', Nat.reduceLT, ty3, ti3, ty22, ti22, a0, a1, a2, a3]; refine ⟨_, _, rfl, ?_⟩)
  refine wc_seq ?_
  (refine wc_region rfl ?_; simp only [oUn_not, beq_self_eq_true, eq_self, pv_mul, List.toList_toArray, opsA_cons, opsA_nil, wantedA, guardA, yieldA, stepA_t, stepA_f, callA, calleeA, targetA, runOp_c, runOp_n, opA, ev, evs, evo, consO, consOO, withH, pickA, afterA_s, putA, T.get_put, Nat.reduceEqDiff, reduceIte, List.getElem?_toArray, List.getElem?_cons_zero, List.getElem?_cons_succ, oBuiltin, oBin, binA, binG, binL, aggO, litA, intA, ltF_eq, eqF_eq, oIndexAddr, cond_true, cond_false, Bool.not_true, Bool.not_false, decide_true, decide_false, blt_eq, tt_beq, tf_beq, ft_beq, ff_beq, Bool.and_true, Bool.true_and, Option.some.injEq, I, Bo, addI, subI, oExtract, Bool.not_eq_true', fieldAddrA, oFieldAddr, oLoad, oStore, isAggD, aggH, oneH, skipH, Nat.add_eq_left, Nat.left_eq_add, Nat.succ_ne_self, fieldA, partA, cellsOf, List.length_cons, List.length_nil, Nat.reduceAdd, Nat.zero_add, Nat.add_zero, Nat.mul_one, Nat.reduceMul, nbeq_self, onesA_cons', onesA_nil, oneA, Value.oneCell', Nat.reduceLT, ty3, ti3, ty22, ti22, a0, a1, a2, a3]; refine wo_call (q27) ?_; rintro _ h1 ⟨x1, rs, rfl, gr, rc⟩; simp only [oUn_not, beq_self_eq_true, eq_self, pv_mul, List.toList_toArray, opsA_cons, opsA_nil, wantedA, guardA, yieldA, stepA_t, stepA_f, callA, calleeA, targetA, runOp_c, runOp_n, opA, ev, evs, evo, consO, consOO, withH, pickA, afterA_s, putA, T.get_put, Nat.reduceEqDiff, reduceIte, List.getElem?_toArray, List.getElem?_cons_zero, List.getElem?_cons_succ, oBuiltin, oBin, binA, binG, binL, aggO, litA, intA, ltF_eq, eqF_eq, oIndexAddr, cond_true, cond_false, Bool.not_true, Bool.not_false, decide_true, decide_false, blt_eq, tt_beq, tf_beq, ft_beq, ff_beq, Bool.and_true, Bool.true_and, Option.some.injEq, I, Bo, addI, subI, oExtract, Bool.not_eq_true', fieldAddrA, oFieldAddr, oLoad, oStore, isAggD, aggH, oneH, skipH, Nat.add_eq_left, Nat.left_eq_add, Nat.succ_ne_self, fieldA, partA, cellsOf, List.length_cons, List.length_nil, Nat.reduceAdd, Nat.zero_add, Nat.add_zero, Nat.mul_one, Nat.reduceMul, nbeq_self, onesA_cons', onesA_nil, oneA, Value.oneCell', Nat.reduceLT, ty3, ti3, ty22, ti22, a0, a1, a2, a3]; refine ⟨_, _, rfl, ?_⟩)
  have hlr : (xs.take a ++ xs.drop (a + m)).length = xs.length - m := by rw [List.length_append, List.length_take, List.length_drop]; omega
  have hl := lenL (gr_isL gr)
  have z1 : decide (Int.ofNat t < 0) = false := by simp
  have z2 : decide (((xs.take a ++ xs.drop (a + m)).length : Int) < Int.ofNat t) = false := by rw [hlr]; simp; omega
  have w2 : IntKind.wrap .i64 (Int.ofNat a + Int.ofNat m) = Int.ofNat (a + m) := by rw [IntKind.wrap_i64]; simp only [Int.ofNat_eq_natCast]; omega
  have hv1 : GL h1 v xs := Gr.ext hv x1
  have nb := new_cells h1 [] 3 0
  have ge : GL (newBlk h1 [] 3 0) (.slice h1.c 0 0 false 0 0) [] := Gr.empty 3 1 h1 3 0
  obtain ⟨wa, hsa, sa⟩ := pTo gr (k := t) (by omega)
  obtain ⟨u1, h2, hap1, g1, f1, n1⟩ := appP ge sa (by omega) (fun n hn => nb.1.m n (Gr.lt gr hn)) (by simp; omega)
  simp only [List.drop_zero, List.nil_append] at g1
  obtain ⟨wb, hsb, sb⟩ := pMid hv1 (i := a) (j := a + m) (by omega) ha
  have x2 : Ext h1 h2 := Fr.from nb.1 f1 (fun n hn => by cases hn; exact Nat.le_refl _)
  have u1c : ∀ n, nmO u1 = some n → h1.c ≤ n := fun n hn => by
    have := nb.2.1
    rcases n1 with h5 | h5
    · rw [h5] at hn; cases hn; exact Nat.le_refl _
    · rw [h5] at hn; cases hn; omega
  have b0 := bs0 h1
  obtain ⟨u2, h3, hap2, g2, f2, n2⟩ := appP g1 sb (by omega) (fun n hn => x2.m n (Gr.lt hv1 hn)) (by rw [List.length_take]; omega)
  have x3 : Ext h1 h3 := Fr.from x2 f2 (fun n hn => u1c n hn)
  rw [show a + m - a = m by omega] at g2
  have u2c : ∀ n, nmO u2 = some n → h1.c ≤ n := fun n hn => by
    rcases n2 with h5 | h5
    · exact u1c n (by rw [← h5]; exact hn)
    · rw [h5] at hn; cases hn; exact x2.c
  obtain ⟨wc, hsc, sc⟩ := pFrom gr (k := t) (by omega)
  obtain ⟨u3, h4, hap3, g3, f3, n3⟩ := appP g2 sc (by omega) (fun n hn => x3.m n (Gr.lt gr hn)) (by rw [List.length_append, List.length_take, List.length_take]; omega)
  have x4 : Ext h1 h4 := Fr.from x3 f3 (fun n hn => u2c n hn)
  have e9' : ((xs.take a ++ xs.drop (a + m)).drop t).take ((xs.take a ++ xs.drop (a + m)).length - t) = (xs.take a ++ xs.drop (a + m)).drop t := List.take_of_length_le (by rw [List.length_drop]; omega)
  rw [e9'] at g3
  have u3c : ∀ n, nmO u3 = some n → h.c ≤ n := fun n hn => by
    have := x1.c
    have := x3.c
    rcases n3 with h5 | h5
    · have := u2c n (by rw [← h5]; exact hn); omega
    · rw [h5] at hn; cases hn; omega
  repeat' (first
    | refine wc_seq ?_
    | (refine wc_region rfl ?_; simp only [oUn_not, beq_self_eq_true, eq_self, pv_mul, List.toList_toArray, opsA_cons, opsA_nil, wantedA, guardA, yieldA, stepA_t, stepA_f, callA, calleeA, targetA, runOp_c, runOp_n, opA, ev, evs, evo, consO, consOO, withH, pickA, afterA_s, putA, T.get_put, Nat.reduceEqDiff, reduceIte, List.getElem?_toArray, List.getElem?_cons_zero, List.getElem?_cons_succ, oBuiltin, oBin, binA, binG, binL, aggO, litA, intA, ltF_eq, eqF_eq, oIndexAddr, cond_true, cond_false, Bool.not_true, Bool.not_false, decide_true, decide_false, blt_eq, tt_beq, tf_beq, ft_beq, ff_beq, Bool.and_true, Bool.true_and, Option.some.injEq, I, Bo, addI, subI, oExtract, Bool.not_eq_true', fieldAddrA, oFieldAddr, oLoad, oStore, isAggD, aggH, oneH, skipH, Nat.add_eq_left, Nat.left_eq_add, Nat.succ_ne_self, fieldA, partA, cellsOf, List.length_cons, List.length_nil, Nat.reduceAdd, Nat.zero_add, Nat.add_zero, Nat.mul_one, Nat.reduceMul, nbeq_self, onesA_cons', onesA_nil, oneA, Value.oneCell', Nat.reduceLT, ty3, ti3, ty22, ti22, a0, a1, a2, a3, hl, z1, z2, w2, uv, b0, hsa, hap1, hsb, hap2, hsc, hap3, oSlice, eqA, eqD, eqOp, nilCheckA, oBuild, oBuildSlice, evParts, consP]; refine ⟨_, _, rfl, ?_⟩)
    | (refine wc_cond (by simp only [oUn_not, beq_self_eq_true, eq_self, pv_mul, List.toList_toArray, opsA_cons, opsA_nil, wantedA, guardA, yieldA, stepA_t, stepA_f, callA, calleeA, targetA, runOp_c, runOp_n, opA, ev, evs, evo, consO, consOO, withH, pickA, afterA_s, putA, T.get_put, Nat.reduceEqDiff, reduceIte, List.getElem?_toArray, List.getElem?_cons_zero, List.getElem?_cons_succ, oBuiltin, oBin, binA, binG, binL, aggO, litA, intA, ltF_eq, eqF_eq, oIndexAddr, cond_true, cond_false, Bool.not_true, Bool.not_false, decide_true, decide_false, blt_eq, tt_beq, tf_beq, ft_beq, ff_beq, Bool.and_true, Bool.true_and, Option.some.injEq, I, Bo, addI, subI, oExtract, Bool.not_eq_true', fieldAddrA, oFieldAddr, oLoad, oStore, isAggD, aggH, oneH, skipH, Nat.add_eq_left, Nat.left_eq_add, Nat.succ_ne_self, fieldA, partA, cellsOf, List.length_cons, List.length_nil, Nat.reduceAdd, Nat.zero_add, Nat.add_zero, Nat.mul_one, Nat.reduceMul, nbeq_self, onesA_cons', onesA_nil, oneA, Value.oneCell', Nat.reduceLT, ty3, ti3, ty22, ti22, a0, a1, a2, a3, hl, z1, z2, w2, uv, b0, hsa, hap1, hsb, hap2, hsc, hap3, oSlice, eqA, eqD, eqOp, nilCheckA, oBuild, oBuildSlice, evParts, consP]; rfl) ?_ ?_ <;> intro hb <;> first | (exfalso; exact Bool.noConfusion hb) | skip)
    | refine wc_block ?_
    | refine wc_skip ?_
    | refine wc_scope (by decide) ?_
    | refine wc_label ?_
    | refine wc_exit ?_
    | refine wc_ret ?_
    | refine wv_ret (by simp only [resA, resOne]; simp only [oUn_not, beq_self_eq_true, eq_self, pv_mul, List.toList_toArray, opsA_cons, opsA_nil, wantedA, guardA, yieldA, stepA_t, stepA_f, callA, calleeA, targetA, runOp_c, runOp_n, opA, ev, evs, evo, consO, consOO, withH, pickA, afterA_s, putA, T.get_put, Nat.reduceEqDiff, reduceIte, List.getElem?_toArray, List.getElem?_cons_zero, List.getElem?_cons_succ, oBuiltin, oBin, binA, binG, binL, aggO, litA, intA, ltF_eq, eqF_eq, oIndexAddr, cond_true, cond_false, Bool.not_true, Bool.not_false, decide_true, decide_false, blt_eq, tt_beq, tf_beq, ft_beq, ff_beq, Bool.and_true, Bool.true_and, Option.some.injEq, I, Bo, addI, subI, oExtract, Bool.not_eq_true', fieldAddrA, oFieldAddr, oLoad, oStore, isAggD, aggH, oneH, skipH, Nat.add_eq_left, Nat.left_eq_add, Nat.succ_ne_self, fieldA, partA, cellsOf, List.length_cons, List.length_nil, Nat.reduceAdd, Nat.zero_add, Nat.add_zero, Nat.mul_one, Nat.reduceMul, nbeq_self, onesA_cons', onesA_nil, oneA, Value.oneCell', Nat.reduceLT, ty3, ti3, ty22, ti22, a0, a1, a2, a3, hl, z1, z2, w2, uv, b0, hsa, hap1, hsb, hap2, hsc, hap3, oSlice, eqA, eqD, eqOp, nilCheckA, oBuild, oBuildSlice, evParts, consP]; rfl) ?_)
  all_goals exact ⟨x1.trans x4, u3, rfl, g3, u3c⟩
end Go.Proofs.Ytdbajhklnaekjaa
