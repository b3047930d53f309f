import Derived.Test.YtdbajhklnaekjaaJ4
import Derived.KernelRfl
namespace Go.Proofs.Ytdbajhklnaekjaa
open Go Go.Proofs Go.RowKit Go.Proofs.Abs
set_option linter.unusedSimpArgs false
set_option linter.unusedVariables false
open Go.Proofs.Abs
def goneL (xs : List Int) (k : Nat) : List Int := ((List.range k).filter fun (j : Nat) => atF (j : Int) xs 0 == -1).map fun (j : Nat) => (j : Int)
set_option maxHeartbeats 4000000 in
theorem c17o (d : Nat) (h : Hp) (N : Nat) (s w : AV) (xs ys : List Int) (hs : IsL h s (xs.map I)) (hw : IsL h w (ys.map I)) (he : chkM (Int.ofNat N) xs = 0) (ok : Ok N xs) (hne : ys.length ≠ N) : Wv (runA ctx 5000 (d + 2) 17 [.agg [I (Int.ofNat N), s], w] h) (fun r h' => r = .tup [nilS, I 16] ∧ Ext h h') := by
  obtain ⟨h1, hb1, x1, k1, b1⟩ := box_new h 24 (.agg [I (Int.ofNat N), s])
  have c0 := b1 0 (I (Int.ofNat N)) rfl
  have c1 := b1 1 s rfl
  have l := load2 c0.load c1.load
  obtain ⟨_, h3, r16, rfl, x3⟩ := c16 d h1 (Int.ofNat N) s xs (hs.ext x1)
  have z : (chkM (Int.ofNat N) xs == 0) = true := by simpa using he
  have kx3 := x3.c
  have lb := load2 (x3.cell (by omega) c0).load (x3.cell (by omega) c1).load
  have m0 := (x3.cell (by omega) c0).load
  have hlw := lenL hw
  have z2 : ((ys.length : Int) == Int.ofNat N) = false := by rw [beq_eq_false_iff_ne]; simp only [Int.ofNat_eq_natCast]; omega
  refine wv_run fn17 rfl ?_
  have a0 : (enterEnv [.agg [I (Int.ofNat N), s], w] Try.f17.ntmps).get 0 = some (.agg [I (Int.ofNat N), s]) := enter_get1 _ _ _
  have a1 : (enterEnv [.agg [I (Int.ofNat N), s], w] Try.f17.ntmps).get 1 = some (w) := enter_get2 _ _ _ _
  generalize enterEnv [.agg [I (Int.ofNat N), s], w] Try.f17.ntmps = e at a0 a1 ⊢
  unfold Try.f17
  dsimp only
  repeat' (first
    | refine wc_seq ?_
    | (refine wc_region rfl ?_; simp only [oUn_not, beq_self_eq_true, eq_self, pv_mul, List.toList_toArray, opsA_cons, opsA_nil, wantedA, guardA, yieldA, stepA_t, stepA_f, callA, calleeA, targetA, runOp_c, runOp_n, opA, ev, evs, evo, consO, consOO, withH, pickA, afterA_s, putA, T.get_put, Nat.reduceEqDiff, reduceIte, List.getElem?_toArray, List.getElem?_cons_zero, List.getElem?_cons_succ, oBuiltin, oBin, binA, binG, binL, aggO, litA, intA, ltF_eq, eqF_eq, oIndexAddr, cond_true, cond_false, Bool.not_true, Bool.not_false, decide_true, decide_false, blt_eq, tt_beq, tf_beq, ft_beq, ff_beq, Bool.and_true, Bool.true_and, Option.some.injEq, I, Bo, addI, subI, oExtract, Bool.not_eq_true', fieldAddrA, oFieldAddr, oLoad, oStore, isAggD, aggH, oneH, skipH, Nat.add_eq_left, Nat.left_eq_add, Nat.succ_ne_self, fieldA, partA, cellsOf, List.length_cons, List.length_nil, Nat.reduceAdd, Nat.zero_add, Nat.add_zero, Nat.mul_one, Nat.reduceMul, nbeq_self, onesA_cons', onesA_nil, oneA, Value.oneCell', Nat.reduceLT, ty3, ti3, ty22, ti22, ty24, ti24, ty28, ti28, a0, a1, hb1, l, r16, z, m0, hlw, z2, eqA, eqD, eqOp, nilCheckA]; refine ⟨_, _, rfl, ?_⟩)
    | (refine wc_cond (by simp only [oUn_not, beq_self_eq_true, eq_self, pv_mul, List.toList_toArray, opsA_cons, opsA_nil, wantedA, guardA, yieldA, stepA_t, stepA_f, callA, calleeA, targetA, runOp_c, runOp_n, opA, ev, evs, evo, consO, consOO, withH, pickA, afterA_s, putA, T.get_put, Nat.reduceEqDiff, reduceIte, List.getElem?_toArray, List.getElem?_cons_zero, List.getElem?_cons_succ, oBuiltin, oBin, binA, binG, binL, aggO, litA, intA, ltF_eq, eqF_eq, oIndexAddr, cond_true, cond_false, Bool.not_true, Bool.not_false, decide_true, decide_false, blt_eq, tt_beq, tf_beq, ft_beq, ff_beq, Bool.and_true, Bool.true_and, Option.some.injEq, I, Bo, addI, subI, oExtract, Bool.not_eq_true', fieldAddrA, oFieldAddr, oLoad, oStore, isAggD, aggH, oneH, skipH, Nat.add_eq_left, Nat.left_eq_add, Nat.succ_ne_self, fieldA, partA, cellsOf, List.length_cons, List.length_nil, Nat.reduceAdd, Nat.zero_add, Nat.add_zero, Nat.mul_one, Nat.reduceMul, nbeq_self, onesA_cons', onesA_nil, oneA, Value.oneCell', Nat.reduceLT, ty3, ti3, ty22, ti22, ty24, ti24, ty28, ti28, a0, a1, hb1, l, r16, z, m0, hlw, z2, eqA, eqD, eqOp, nilCheckA]; rfl) ?_ ?_ <;> intro hb <;> first | (exfalso; exact Bool.noConfusion hb) | skip)
    | refine wc_block ?_
    | refine wc_skip ?_
    | refine wc_scope (by decide) ?_
    | refine wc_label ?_
    | refine wc_exit ?_
    | refine wc_ret ?_
    | refine wv_ret (by simp only [resA, resOne]; simp only [oUn_not, beq_self_eq_true, eq_self, pv_mul, List.toList_toArray, opsA_cons, opsA_nil, wantedA, guardA, yieldA, stepA_t, stepA_f, callA, calleeA, targetA, runOp_c, runOp_n, opA, ev, evs, evo, consO, consOO, withH, pickA, afterA_s, putA, T.get_put, Nat.reduceEqDiff, reduceIte, List.getElem?_toArray, List.getElem?_cons_zero, List.getElem?_cons_succ, oBuiltin, oBin, binA, binG, binL, aggO, litA, intA, ltF_eq, eqF_eq, oIndexAddr, cond_true, cond_false, Bool.not_true, Bool.not_false, decide_true, decide_false, blt_eq, tt_beq, tf_beq, ft_beq, ff_beq, Bool.and_true, Bool.true_and, Option.some.injEq, I, Bo, addI, subI, oExtract, Bool.not_eq_true', fieldAddrA, oFieldAddr, oLoad, oStore, isAggD, aggH, oneH, skipH, Nat.add_eq_left, Nat.left_eq_add, Nat.succ_ne_self, fieldA, partA, cellsOf, List.length_cons, List.length_nil, Nat.reduceAdd, Nat.zero_add, Nat.add_zero, Nat.mul_one, Nat.reduceMul, nbeq_self, onesA_cons', onesA_nil, oneA, Value.oneCell', Nat.reduceLT, ty3, ti3, ty22, ti22, ty24, ti24, ty28, ti28, a0, a1, hb1, l, r16, z, m0, hlw, z2, eqA, eqD, eqOp, nilCheckA]; rfl) ?_)
  all_goals exact ⟨rfl, x1.trans x3⟩
end Go.Proofs.Ytdbajhklnaekjaa
