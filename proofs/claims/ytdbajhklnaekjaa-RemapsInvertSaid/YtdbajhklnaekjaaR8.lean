import Derived.Test.YtdbajhklnaekjaaR7
import Derived.KernelRfl
namespace Go.Proofs.Ytdbajhklnaekjaa
open Go Go.Proofs Go.RowKit Go.Proofs.Abs
set_option linter.unusedSimpArgs false
set_option linter.unusedVariables false
/-- a part of a text -/
def subC : List Bool → Code → Code
  | [], c => c
  | b :: l, .seq x y => subC l (cond b y x)
  | b :: l, .cond _ x y => subC l (cond b y x)
  | _ :: l, .block _ x => subC l x
  | _ :: l, .loop x => subC l x
  | _ :: l, .scope x => subC l x
  | _, c => c
def bodyC (fn : Func) : Code := fn.body.getD .skip
theorem q25 (h : Hp) (n : Nat) (hn : n ≤ 4096) : Wv (all8 25 [I (Int.ofNat n)] h) (fun r h' => Ext h h' ∧ GL h' r (upto n) ∧ ∀ k, nmO r = some k → h.c ≤ k) := by
  rw [all_run rfl]; exact c25 7 h n hn
theorem ty58' : ctx.tys.get 58 = some ti58 := by kernel_rfl
theorem ia58_0 (n : Nat) : indexAddrA ctx 58 (.ptr n 0) (.lit (.int .i64 0)) = some (.ptr n 0) := by kernel_rfl
theorem ia58_1 (n : Nat) : indexAddrA ctx 58 (.ptr n 0) (.lit (.int .i64 1)) = some (.ptr n 1) := by kernel_rfl
theorem ia58_2 (n : Nat) : indexAddrA ctx 58 (.ptr n 0) (.lit (.int .i64 2)) = some (.ptr n 2) := by kernel_rfl
theorem avO {h : Hp} {o : Int} {s : AV} {xs : List Int} (w : OwnS h s xs) : avB 4 (.agg [I o, s]) (.agg [I o, s]) = true := avM w.isL
theorem atF_bd (j : Int) : ∀ (xs : List Int) (i : Nat), -1 ≤ atF j xs i ∧ atF j xs i < (i : Int) + xs.length + 1
  | [], i => by simp [atF]; omega
  | x :: xs, i => by
    unfold atF
    have := atF_bd j xs (i + 1)
    split
    · simp; omega
    · simp only [List.length_cons]; omega
theorem plc_succ (k : Nat) (xs : List Int) : plc (k + 1) xs = plc k xs ++ [atF (k : Int) xs 0] := by
  unfold plc
  rw [List.range_succ, List.map_append]
  rfl
theorem plc_len (k : Nat) (xs : List Int) : (plc k xs).length = k := by simp [plc]
set_option maxRecDepth 100000 in
set_option maxHeartbeats 8000000 in
theorem inv_end (h : Hp) (e : Env) (p5 p20 p21 p23 n a m t : Nat) (w5 s20 s21 s23 : AV) (B5 : Blks id h p5 [I (n : Int), w5]) (B20 : Blks id h p20 [I (n : Int), s20]) (B21 : Blks id h p21 [I (n : Int), s21]) (B23 : Blks id h p23 [I (n : Int), s23]) (O20 : OwnS h s20 (mvl n t m a)) (O21 : OwnS h s21 (upto n)) (O23 : OwnS h s23 (mvl n t m a)) (hn : n ≤ 4096) (v5 : e.get 5 = some (.ptr p5 0)) (v7 : e.get 7 = some (I 0)) (v9 : e.get 9 = some (I 0)) (v20 : e.get 20 = some (.ptr p20 0)) (v21 : e.get 21 = some (.ptr p21 0)) (v22 : e.get 22 = some (I 0)) (v23 : e.get 23 = some (.ptr p23 0)) (v24 : e.get 24 = some (I 0)) : Wc (codeA ctx (all8) 5000 4985 (subC [true, true, true, true, true, true, true, true, true, true, true, true, true, true, false] (bodyC Try.f6)) e h) (Nx (fun e h => Wc (codeA ctx (all8) 5000 4985 (subC [true, true, true, true, true, true, true, true, true, true, true, true, true, true, true] (bodyC Try.f6)) e h) (fun x e h => Wv (returnA ctx Try.f6.results.toList (some (x, e, h))) (fun v _ => v = Bo true))) (fun x e h => Wv (returnA ctx Try.f6.results.toList (some (x, e, h))) (fun v _ => v = Bo true))) := by
  obtain ⟨_, h1, r18, rfl, x1⟩ := k18 h s23 s20 n 0 (mvl n t m a) O23 O20.isL (by simp; omega)
  obtain ⟨w, h2, r25, x2, g2, _⟩ := q25 h1 n hn
  obtain ⟨_, h3, r18b, rfl, x3⟩ := k18 h2 s21 w n 0 (upto n) (O21.ext (x1.trans x2)) (gr_isL g2) (by simp [upto]; omega)
  have q := q9 h3
  have x02 := x1.trans x2
  have x03 := x02.trans x3
  have av21 := avO (o := (n : Int)) O21
  have a5_0 := (B5.cell (k := 0) rfl).load
  have b5_0 := (B5.cell (k := 1) rfl).load
  have l5_0 := load2 (B5.cell (k := 0) rfl).load (B5.cell (k := 1) rfl).load
  have a5_1 := (x1.cell B5.lt (B5.cell (k := 0) rfl)).load
  have b5_1 := (x1.cell B5.lt (B5.cell (k := 1) rfl)).load
  have l5_1 := load2 (x1.cell B5.lt (B5.cell (k := 0) rfl)).load (x1.cell B5.lt (B5.cell (k := 1) rfl)).load
  have a5_2 := (x02.cell B5.lt (B5.cell (k := 0) rfl)).load
  have b5_2 := (x02.cell B5.lt (B5.cell (k := 1) rfl)).load
  have l5_2 := load2 (x02.cell B5.lt (B5.cell (k := 0) rfl)).load (x02.cell B5.lt (B5.cell (k := 1) rfl)).load
  have a5_3 := (x03.cell B5.lt (B5.cell (k := 0) rfl)).load
  have b5_3 := (x03.cell B5.lt (B5.cell (k := 1) rfl)).load
  have l5_3 := load2 (x03.cell B5.lt (B5.cell (k := 0) rfl)).load (x03.cell B5.lt (B5.cell (k := 1) rfl)).load
  have a20_0 := (B20.cell (k := 0) rfl).load
  have b20_0 := (B20.cell (k := 1) rfl).load
  have l20_0 := load2 (B20.cell (k := 0) rfl).load (B20.cell (k := 1) rfl).load
  have a20_1 := (x1.cell B20.lt (B20.cell (k := 0) rfl)).load
  have b20_1 := (x1.cell B20.lt (B20.cell (k := 1) rfl)).load
  have l20_1 := load2 (x1.cell B20.lt (B20.cell (k := 0) rfl)).load (x1.cell B20.lt (B20.cell (k := 1) rfl)).load
  have a20_2 := (x02.cell B20.lt (B20.cell (k := 0) rfl)).load
  have b20_2 := (x02.cell B20.lt (B20.cell (k := 1) rfl)).load
  have l20_2 := load2 (x02.cell B20.lt (B20.cell (k := 0) rfl)).load (x02.cell B20.lt (B20.cell (k := 1) rfl)).load
  have a20_3 := (x03.cell B20.lt (B20.cell (k := 0) rfl)).load
  have b20_3 := (x03.cell B20.lt (B20.cell (k := 1) rfl)).load
  have l20_3 := load2 (x03.cell B20.lt (B20.cell (k := 0) rfl)).load (x03.cell B20.lt (B20.cell (k := 1) rfl)).load
  have a21_0 := (B21.cell (k := 0) rfl).load
  have b21_0 := (B21.cell (k := 1) rfl).load
  have l21_0 := load2 (B21.cell (k := 0) rfl).load (B21.cell (k := 1) rfl).load
  have a21_1 := (x1.cell B21.lt (B21.cell (k := 0) rfl)).load
  have b21_1 := (x1.cell B21.lt (B21.cell (k := 1) rfl)).load
  have l21_1 := load2 (x1.cell B21.lt (B21.cell (k := 0) rfl)).load (x1.cell B21.lt (B21.cell (k := 1) rfl)).load
  have a21_2 := (x02.cell B21.lt (B21.cell (k := 0) rfl)).load
  have b21_2 := (x02.cell B21.lt (B21.cell (k := 1) rfl)).load
  have l21_2 := load2 (x02.cell B21.lt (B21.cell (k := 0) rfl)).load (x02.cell B21.lt (B21.cell (k := 1) rfl)).load
  have a21_3 := (x03.cell B21.lt (B21.cell (k := 0) rfl)).load
  have b21_3 := (x03.cell B21.lt (B21.cell (k := 1) rfl)).load
  have l21_3 := load2 (x03.cell B21.lt (B21.cell (k := 0) rfl)).load (x03.cell B21.lt (B21.cell (k := 1) rfl)).load
  have a23_0 := (B23.cell (k := 0) rfl).load
  have b23_0 := (B23.cell (k := 1) rfl).load
  have l23_0 := load2 (B23.cell (k := 0) rfl).load (B23.cell (k := 1) rfl).load
  have a23_1 := (x1.cell B23.lt (B23.cell (k := 0) rfl)).load
  have b23_1 := (x1.cell B23.lt (B23.cell (k := 1) rfl)).load
  have l23_1 := load2 (x1.cell B23.lt (B23.cell (k := 0) rfl)).load (x1.cell B23.lt (B23.cell (k := 1) rfl)).load
  have a23_2 := (x02.cell B23.lt (B23.cell (k := 0) rfl)).load
  have b23_2 := (x02.cell B23.lt (B23.cell (k := 1) rfl)).load
  have l23_2 := load2 (x02.cell B23.lt (B23.cell (k := 0) rfl)).load (x02.cell B23.lt (B23.cell (k := 1) rfl)).load
  have a23_3 := (x03.cell B23.lt (B23.cell (k := 0) rfl)).load
  have b23_3 := (x03.cell B23.lt (B23.cell (k := 1) rfl)).load
  have l23_3 := load2 (x03.cell B23.lt (B23.cell (k := 0) rfl)).load (x03.cell B23.lt (B23.cell (k := 1) rfl)).load
  simp only [id_eq, Int.ofNat_eq_natCast] at *
  unfold bodyC Try.f6
  dsimp only [subC, Option.getD, cond]
  refine wc_dyn (p := (16, 23)) (ps := [(19, 23)]) (by kernel_rfl) (by simp only [oUn_not, beq_self_eq_true, eq_self, pv_mul, List.toList_toArray, opsA_cons, opsA_nil, wantedA, guardA, yieldA, stepA_t, stepA_f, callA, calleeA, targetA, runOp_c, runOp_n, opA, ev, evs, evo, consO, consOO, withH, pickA, afterA_s, putA, T.get_put, Nat.reduceEqDiff, reduceIte, List.getElem?_toArray, List.getElem?_cons_zero, List.getElem?_cons_succ, oBuiltin, oBin, binA, binG, binL, aggO, litA, intA, ltF_eq, eqF_eq, oIndexAddr, cond_true, cond_false, Bool.not_true, Bool.not_false, decide_true, decide_false, blt_eq, tt_beq, tf_beq, ft_beq, ff_beq, Bool.and_true, Bool.true_and, Option.some.injEq, I, Bo, addI, subI, oExtract, Bool.not_eq_true', fieldAddrA, oFieldAddr, oLoad, oStore, isAggD, aggH, oneH, skipH, Nat.add_eq_left, Nat.left_eq_add, Nat.succ_ne_self, fieldA, partA, cellsOf, List.length_cons, List.length_nil, Nat.reduceAdd, Nat.zero_add, Nat.add_zero, Nat.mul_one, Nat.reduceMul, nbeq_self, onesA_cons', onesA_nil, oneA, Value.oneCell', Nat.reduceLT, ty3, ti3, ty5, ti5, ty22, ti22, ty24, ti24, ty28, ti28, ty54, ti54, ty58, ti58, v5, v7, v9, v20, v21, v22, v23, v24, r18, r25, r18b, q, av21, a5_0, b5_0, l5_0, a5_1, b5_1, l5_1, a5_2, b5_2, l5_2, a5_3, b5_3, l5_3, a20_0, b20_0, l20_0, a20_1, b20_1, l20_1, a20_2, b20_2, l20_2, a20_3, b20_3, l20_3, a21_0, b21_0, l21_0, a21_1, b21_1, l21_1, a21_2, b21_2, l21_2, a21_3, b21_3, l21_3, a23_0, b23_0, l23_0, a23_1, b23_1, l23_1, a23_2, b23_2, l23_2, a23_3, b23_3, l23_3, eqA, eqD, eqOp, nilCheckA, trA_nil, trA_cons, nextT, preA]; rfl) (by simp only [oUn_not, beq_self_eq_true, eq_self, pv_mul, List.toList_toArray, opsA_cons, opsA_nil, wantedA, guardA, yieldA, stepA_t, stepA_f, callA, calleeA, targetA, runOp_c, runOp_n, opA, ev, evs, evo, consO, consOO, withH, pickA, afterA_s, putA, T.get_put, Nat.reduceEqDiff, reduceIte, List.getElem?_toArray, List.getElem?_cons_zero, List.getElem?_cons_succ, oBuiltin, oBin, binA, binG, binL, aggO, litA, intA, ltF_eq, eqF_eq, oIndexAddr, cond_true, cond_false, Bool.not_true, Bool.not_false, decide_true, decide_false, blt_eq, tt_beq, tf_beq, ft_beq, ff_beq, Bool.and_true, Bool.true_and, Option.some.injEq, I, Bo, addI, subI, oExtract, Bool.not_eq_true', fieldAddrA, oFieldAddr, oLoad, oStore, isAggD, aggH, oneH, skipH, Nat.add_eq_left, Nat.left_eq_add, Nat.succ_ne_self, fieldA, partA, cellsOf, List.length_cons, List.length_nil, Nat.reduceAdd, Nat.zero_add, Nat.add_zero, Nat.mul_one, Nat.reduceMul, nbeq_self, onesA_cons', onesA_nil, oneA, Value.oneCell', Nat.reduceLT, ty3, ti3, ty5, ti5, ty22, ti22, ty24, ti24, ty28, ti28, ty54, ti54, ty58, ti58, v5, v7, v9, v20, v21, v22, v23, v24, r18, r25, r18b, q, av21, a5_0, b5_0, l5_0, a5_1, b5_1, l5_1, a5_2, b5_2, l5_2, a5_3, b5_3, l5_3, a20_0, b20_0, l20_0, a20_1, b20_1, l20_1, a20_2, b20_2, l20_2, a20_3, b20_3, l20_3, a21_0, b21_0, l21_0, a21_1, b21_1, l21_1, a21_2, b21_2, l21_2, a21_3, b21_3, l21_3, a23_0, b23_0, l23_0, a23_1, b23_1, l23_1, a23_2, b23_2, l23_2, a23_3, b23_3, l23_3, eqA, eqD, eqOp, nilCheckA, checksD_nil, checksD_cons, checkD, checkG, sameR, avB_int]) rfl ?_
  repeat' (first
    | refine wc_seq ?_
    | (refine wc_region rfl ?_; simp only [oUn_not, beq_self_eq_true, eq_self, pv_mul, List.toList_toArray, opsA_cons, opsA_nil, wantedA, guardA, yieldA, stepA_t, stepA_f, callA, calleeA, targetA, runOp_c, runOp_n, opA, ev, evs, evo, consO, consOO, withH, pickA, afterA_s, putA, T.get_put, Nat.reduceEqDiff, reduceIte, List.getElem?_toArray, List.getElem?_cons_zero, List.getElem?_cons_succ, oBuiltin, oBin, binA, binG, binL, aggO, litA, intA, ltF_eq, eqF_eq, oIndexAddr, cond_true, cond_false, Bool.not_true, Bool.not_false, decide_true, decide_false, blt_eq, tt_beq, tf_beq, ft_beq, ff_beq, Bool.and_true, Bool.true_and, Option.some.injEq, I, Bo, addI, subI, oExtract, Bool.not_eq_true', fieldAddrA, oFieldAddr, oLoad, oStore, isAggD, aggH, oneH, skipH, Nat.add_eq_left, Nat.left_eq_add, Nat.succ_ne_self, fieldA, partA, cellsOf, List.length_cons, List.length_nil, Nat.reduceAdd, Nat.zero_add, Nat.add_zero, Nat.mul_one, Nat.reduceMul, nbeq_self, onesA_cons', onesA_nil, oneA, Value.oneCell', Nat.reduceLT, ty3, ti3, ty5, ti5, ty22, ti22, ty24, ti24, ty28, ti28, ty54, ti54, ty58, ti58, v5, v7, v9, v20, v21, v22, v23, v24, r18, r25, r18b, q, av21, a5_0, b5_0, l5_0, a5_1, b5_1, l5_1, a5_2, b5_2, l5_2, a5_3, b5_3, l5_3, a20_0, b20_0, l20_0, a20_1, b20_1, l20_1, a20_2, b20_2, l20_2, a20_3, b20_3, l20_3, a21_0, b21_0, l21_0, a21_1, b21_1, l21_1, a21_2, b21_2, l21_2, a21_3, b21_3, l21_3, a23_0, b23_0, l23_0, a23_1, b23_1, l23_1, a23_2, b23_2, l23_2, a23_3, b23_3, l23_3, eqA, eqD, eqOp, nilCheckA]; refine ⟨_, _, rfl, ?_⟩)
    | (refine wc_cond (by simp only [oUn_not, beq_self_eq_true, eq_self, pv_mul, List.toList_toArray, opsA_cons, opsA_nil, wantedA, guardA, yieldA, stepA_t, stepA_f, callA, calleeA, targetA, runOp_c, runOp_n, opA, ev, evs, evo, consO, consOO, withH, pickA, afterA_s, putA, T.get_put, Nat.reduceEqDiff, reduceIte, List.getElem?_toArray, List.getElem?_cons_zero, List.getElem?_cons_succ, oBuiltin, oBin, binA, binG, binL, aggO, litA, intA, ltF_eq, eqF_eq, oIndexAddr, cond_true, cond_false, Bool.not_true, Bool.not_false, decide_true, decide_false, blt_eq, tt_beq, tf_beq, ft_beq, ff_beq, Bool.and_true, Bool.true_and, Option.some.injEq, I, Bo, addI, subI, oExtract, Bool.not_eq_true', fieldAddrA, oFieldAddr, oLoad, oStore, isAggD, aggH, oneH, skipH, Nat.add_eq_left, Nat.left_eq_add, Nat.succ_ne_self, fieldA, partA, cellsOf, List.length_cons, List.length_nil, Nat.reduceAdd, Nat.zero_add, Nat.add_zero, Nat.mul_one, Nat.reduceMul, nbeq_self, onesA_cons', onesA_nil, oneA, Value.oneCell', Nat.reduceLT, ty3, ti3, ty5, ti5, ty22, ti22, ty24, ti24, ty28, ti28, ty54, ti54, ty58, ti58, v5, v7, v9, v20, v21, v22, v23, v24, r18, r25, r18b, q, av21, a5_0, b5_0, l5_0, a5_1, b5_1, l5_1, a5_2, b5_2, l5_2, a5_3, b5_3, l5_3, a20_0, b20_0, l20_0, a20_1, b20_1, l20_1, a20_2, b20_2, l20_2, a20_3, b20_3, l20_3, a21_0, b21_0, l21_0, a21_1, b21_1, l21_1, a21_2, b21_2, l21_2, a21_3, b21_3, l21_3, a23_0, b23_0, l23_0, a23_1, b23_1, l23_1, a23_2, b23_2, l23_2, a23_3, b23_3, l23_3, eqA, eqD, eqOp, nilCheckA]; rfl) ?_ ?_ <;> intro hb <;> first | (exfalso; exact Bool.noConfusion hb) | skip)
    | refine wc_block ?_
    | refine wc_skip ?_
    | refine wc_scope (by decide) ?_
    | refine wc_label ?_
    | refine wc_exit ?_
    | refine wc_ret ?_
    | refine wv_ret (by simp only [resA, resOne]; simp only [oUn_not, beq_self_eq_true, eq_self, pv_mul, List.toList_toArray, opsA_cons, opsA_nil, wantedA, guardA, yieldA, stepA_t, stepA_f, callA, calleeA, targetA, runOp_c, runOp_n, opA, ev, evs, evo, consO, consOO, withH, pickA, afterA_s, putA, T.get_put, Nat.reduceEqDiff, reduceIte, List.getElem?_toArray, List.getElem?_cons_zero, List.getElem?_cons_succ, oBuiltin, oBin, binA, binG, binL, aggO, litA, intA, ltF_eq, eqF_eq, oIndexAddr, cond_true, cond_false, Bool.not_true, Bool.not_false, decide_true, decide_false, blt_eq, tt_beq, tf_beq, ft_beq, ff_beq, Bool.and_true, Bool.true_and, Option.some.injEq, I, Bo, addI, subI, oExtract, Bool.not_eq_true', fieldAddrA, oFieldAddr, oLoad, oStore, isAggD, aggH, oneH, skipH, Nat.add_eq_left, Nat.left_eq_add, Nat.succ_ne_self, fieldA, partA, cellsOf, List.length_cons, List.length_nil, Nat.reduceAdd, Nat.zero_add, Nat.add_zero, Nat.mul_one, Nat.reduceMul, nbeq_self, onesA_cons', onesA_nil, oneA, Value.oneCell', Nat.reduceLT, ty3, ti3, ty5, ti5, ty22, ti22, ty24, ti24, ty28, ti28, ty54, ti54, ty58, ti58, v5, v7, v9, v20, v21, v22, v23, v24, r18, r25, r18b, q, av21, a5_0, b5_0, l5_0, a5_1, b5_1, l5_1, a5_2, b5_2, l5_2, a5_3, b5_3, l5_3, a20_0, b20_0, l20_0, a20_1, b20_1, l20_1, a20_2, b20_2, l20_2, a20_3, b20_3, l20_3, a21_0, b21_0, l21_0, a21_1, b21_1, l21_1, a21_2, b21_2, l21_2, a21_3, b21_3, l21_3, a23_0, b23_0, l23_0, a23_1, b23_1, l23_1, a23_2, b23_2, l23_2, a23_3, b23_3, l23_3, eqA, eqD, eqOp, nilCheckA]; rfl) ?_)
  all_goals exact rfl

end Go.Proofs.Ytdbajhklnaekjaa
