import Derived.Test.YtalnccmejboibaaQ4
import Derived.KernelRfl
namespace Go.Proofs.Ytalnccmejboibaa
open Go Go.Proofs Go.RowKit
set_option linter.unusedSimpArgs false
set_option linter.unusedVariables false
open Go.Proofs.Abs
theorem fn7 : ctx.funs.get 7 = some Try.f7 := by kernel_rfl
theorem fn8 : ctx.funs.get 8 = some Try.f8 := by kernel_rfl
theorem fn23 : ctx.funs.get 23 = some Try.f23 := by kernel_rfl
theorem fn24 : ctx.funs.get 24 = some Try.f24 := by kernel_rfl
theorem fn25 : ctx.funs.get 25 = some Try.f25 := by kernel_rfl
theorem fn26 : ctx.funs.get 26 = some Try.f26 := by kernel_rfl
theorem fn30 : ctx.funs.get 30 = some Try.f30 := by kernel_rfl
theorem fn32 : ctx.funs.get 32 = some Try.f32 := by kernel_rfl
theorem fn33 : ctx.funs.get 33 = some Try.f33 := by kernel_rfl
theorem ty4 : ctx.tys.get 4 = some ti4 := by kernel_rfl
theorem ty47 : ctx.tys.get 47 = some ti47 := by kernel_rfl
abbrev Fl (n : Int) : AV := .lit (.float .f64 (fl n))
abbrev Cx (a b : Int) : AV := .lit (.complex .f64 (fl a) (fl b))
theorem fl0 : fl 0 = 0 := by decide
theorem cmp_ge {m : Nat} (h : m < 9007199254740992) : pureV (binOp .geq 47 (.float .f64 (fl (m : Int))) (.float .f64 0)) = some (Bo true) := by
  have e : FloatKind.f64.format.order (fl (m : Int)) 0 = some (compare (m : Int) ((0 : Nat) : Int)) := by
    have := ord h (show 0 < 9007199254740992 by omega)
    rwa [show ((0 : Nat) : Int) = 0 from rfl, fl0] at this
  show pureV (Op.floatCmp .geq .f64 (fl (m : Int)) 0) = _
  unfold Op.floatCmp
  rw [e]
  rcases Nat.eq_zero_or_pos m with h0 | h0
  · subst h0
    rfl
  · rw [Int.compare_eq_gt.2 (by omega)]
    rfl
theorem cmp_lt {m : Nat} (h : m < 9007199254740992) : pureV (binOp .lss 47 (.float .f64 (fl (m : Int))) (.float .f64 4845873199050653696)) = some (Bo true) := by
  have e : FloatKind.f64.format.order (fl (m : Int)) 4845873199050653696 = some .lt := ord53 h
  show pureV (Op.floatCmp .lss .f64 (fl (m : Int)) 4845873199050653696) = _
  unfold Op.floatCmp
  rw [e]
  rfl
theorem ord_self {m : Nat} (h : m < 9007199254740992) : FloatKind.f64.format.order (fl (m : Int)) (fl (m : Int)) = some .eq := by
  have := ord h h
  rw [Int.compare_eq_eq.2 rfl] at this
  exact this
theorem cmp_eq {m : Nat} (h : m < 9007199254740992) : pureV (binOp .eql 47 (.float .f64 (fl (m : Int))) (.float .f64 (fl (m : Int)))) = some (Bo true) := by
  show pureV (Op.floatCmp .eql .f64 (fl (m : Int)) (fl (m : Int))) = _
  unfold Op.floatCmp
  rw [ord_self h]
  rfl
theorem cx_ne {a b : Nat} (ha : a < 9007199254740992) (hb : b < 9007199254740992) : pureV (binOp .neq 46 (.complex .f64 (fl (a : Int)) (fl (b : Int))) (.complex .f64 (fl (a : Int)) (fl (b : Int)))) = some (Bo false) := by
  have e1 : Op.Complex.cmp .eql .f64 (fl (a : Int)) (fl (a : Int)) = pure true := by
    unfold Op.Complex.cmp Op.floatCmp
    rw [ord_self ha]
    rfl
  have e2 : Op.Complex.cmp .eql .f64 (fl (b : Int)) (fl (b : Int)) = pure true := by
    unfold Op.Complex.cmp Op.floatCmp
    rw [ord_self hb]
    rfl
  show pureV (Op.complexOp .neq .f64 (fl (a : Int)) (fl (b : Int)) (fl (a : Int)) (fl (b : Int))) = _
  show pureV (do pure (Value.bool (!((← Op.Complex.cmp .eql .f64 (fl (a : Int)) (fl (a : Int))) && (← Op.Complex.cmp .eql .f64 (fl (b : Int)) (fl (b : Int))))))) = _
  rw [e1, e2]
  rfl
theorem cv_f (n : Int) : convA ctx 47 (I n) = some (Fl n) := rfl
theorem cv_i {m : Nat} (h : m < 9007199254740992) : convA ctx 2 (Fl (m : Int)) = some (I (m : Int)) := by
  have e := f2i h
  show pureV (Conv.floatToInt .f64 (fl (m : Int)) .i64) = _
  exact e
theorem cx_mk (h : Hp) (a b : Nat) (ts : List TypeId) : builtinA ctx h .complex ts [.lit (.float .f64 a), .lit (.float .f64 b)] = some (.lit (.complex .f64 a b), h) := rfl
theorem cx_re (h : Hp) (a b : Nat) (ts : List TypeId) : builtinA ctx h .real ts [.lit (.complex .f64 a b)] = some (.lit (.float .f64 a), h) := rfl
theorem cx_im (h : Hp) (a b : Nat) (ts : List TypeId) : builtinA ctx h .imag ts [.lit (.complex .f64 a b)] = some (.lit (.float .f64 b), h) := rfl
theorem ext34 : extK Try.f34.name = some .trunc := by kernel_rfl
theorem fn34' : ctx.funs.get 34 = some Try.f34 := by kernel_rfl
theorem c34 (d : Nat) (h : Hp) {m : Nat} (hm : m < 9007199254740992) : runA ctx 5000 (d + 1) 34 [Fl (m : Int)] h = some (Fl (m : Int), h) := by
  show funA ctx (runA ctx 5000 d) 5000 [Fl (m : Int)] h (ctx.funs.get 34) = _
  rw [fn34']
  show extA h (extK Try.f34.name) [Fl (m : Int)] = _
  rw [ext34]
  have e := trunc_fl hm
  show (match pureV (Extern.MathFloor.toIntegral "math.archTrunc" .zero #[.float .f64 (fl (m : Int))]) with
    | some v => some (v, h)
    | none => none) = _
  rw [e]
set_option maxHeartbeats 2000000 in
theorem c33 (d : Nat) (h : Hp) (m : Nat) (hm : m < 9007199254740992) : runA ctx 5000 (d + 2) 33 [Fl (m : Int)] h = some (Fl (m : Int), h) := by
  have q34 := fun h => c34 d h hm
  refine wv_eq ?_
  refine wv_run fn33 rfl ?_
  have a0 : (enterEnv [Fl (m : Int)] Try.f33.ntmps).get 0 = some (Fl (m : Int)) := enter_get1 _ _ _
  generalize enterEnv [Fl (m : Int)] Try.f33.ntmps = e at a0 ⊢
  unfold Try.f33
  dsimp only
  repeat' (first
    | refine wc_seq ?_
    | (refine wc_region rfl ?_; simp only [oUn_not, beq_self_eq_true, eq_self, pv_mul, List.toList_toArray, opsA_cons, opsA_nil, wantedA, guardA, yieldA, stepA_t, stepA_f, callA, calleeA, targetA, runOp_c, runOp_n, opA, ev, evs, evo, consO, consOO, withH, pickA, afterA_s, putA, T.get_put, Nat.reduceEqDiff, reduceIte, List.getElem?_toArray, List.getElem?_cons_zero, List.getElem?_cons_succ, oBuiltin, oBin, binA, binG, binL, aggO, litA, intA, ltF_eq, eqF_eq, oIndexAddr, cond_true, cond_false, Bool.not_true, Bool.not_false, decide_true, decide_false, blt_eq, tt_beq, tf_beq, ft_beq, ff_beq, Bool.and_true, Bool.true_and, Option.some.injEq, I, Bo, addI, subI, oExtract, Bool.not_eq_true', fieldAddrA, oFieldAddr, oLoad, oStore, isAggD, aggH, oneH, skipH, Nat.add_eq_left, Nat.left_eq_add, Nat.succ_ne_self, fieldA, partA, cellsOf, List.length_cons, List.length_nil, Nat.reduceAdd, Nat.zero_add, Nat.add_zero, Nat.mul_one, Nat.reduceMul, nbeq_self, onesA_cons', onesA_nil, oneA, Value.oneCell', Nat.reduceLT, ty47, ti47, a0, q34]; refine ⟨_, _, rfl, ?_⟩)
    | (refine wc_cond (by simp only [oUn_not, beq_self_eq_true, eq_self, pv_mul, List.toList_toArray, opsA_cons, opsA_nil, wantedA, guardA, yieldA, stepA_t, stepA_f, callA, calleeA, targetA, runOp_c, runOp_n, opA, ev, evs, evo, consO, consOO, withH, pickA, afterA_s, putA, T.get_put, Nat.reduceEqDiff, reduceIte, List.getElem?_toArray, List.getElem?_cons_zero, List.getElem?_cons_succ, oBuiltin, oBin, binA, binG, binL, aggO, litA, intA, ltF_eq, eqF_eq, oIndexAddr, cond_true, cond_false, Bool.not_true, Bool.not_false, decide_true, decide_false, blt_eq, tt_beq, tf_beq, ft_beq, ff_beq, Bool.and_true, Bool.true_and, Option.some.injEq, I, Bo, addI, subI, oExtract, Bool.not_eq_true', fieldAddrA, oFieldAddr, oLoad, oStore, isAggD, aggH, oneH, skipH, Nat.add_eq_left, Nat.left_eq_add, Nat.succ_ne_self, fieldA, partA, cellsOf, List.length_cons, List.length_nil, Nat.reduceAdd, Nat.zero_add, Nat.add_zero, Nat.mul_one, Nat.reduceMul, nbeq_self, onesA_cons', onesA_nil, oneA, Value.oneCell', Nat.reduceLT, ty47, ti47, a0, q34]; rfl) ?_ ?_ <;> intro hb <;> first | (exfalso; exact Bool.noConfusion hb) | skip)
    | refine wc_block ?_
    | refine wc_skip ?_
    | refine wc_scope (by decide) ?_
    | refine wc_label ?_
    | refine wc_exit ?_
    | refine wc_ret ?_
    | refine wv_ret (by simp only [resA, resOne]; simp only [oUn_not, beq_self_eq_true, eq_self, pv_mul, List.toList_toArray, opsA_cons, opsA_nil, wantedA, guardA, yieldA, stepA_t, stepA_f, callA, calleeA, targetA, runOp_c, runOp_n, opA, ev, evs, evo, consO, consOO, withH, pickA, afterA_s, putA, T.get_put, Nat.reduceEqDiff, reduceIte, List.getElem?_toArray, List.getElem?_cons_zero, List.getElem?_cons_succ, oBuiltin, oBin, binA, binG, binL, aggO, litA, intA, ltF_eq, eqF_eq, oIndexAddr, cond_true, cond_false, Bool.not_true, Bool.not_false, decide_true, decide_false, blt_eq, tt_beq, tf_beq, ft_beq, ff_beq, Bool.and_true, Bool.true_and, Option.some.injEq, I, Bo, addI, subI, oExtract, Bool.not_eq_true', fieldAddrA, oFieldAddr, oLoad, oStore, isAggD, aggH, oneH, skipH, Nat.add_eq_left, Nat.left_eq_add, Nat.succ_ne_self, fieldA, partA, cellsOf, List.length_cons, List.length_nil, Nat.reduceAdd, Nat.zero_add, Nat.add_zero, Nat.mul_one, Nat.reduceMul, nbeq_self, onesA_cons', onesA_nil, oneA, Value.oneCell', Nat.reduceLT, ty47, ti47, a0, q34]; rfl) ?_)
  all_goals exact ⟨rfl, rfl⟩
set_option maxHeartbeats 2000000 in
theorem c32 (d : Nat) (h : Hp) (m : Nat) (hm : m < 9007199254740992) : runA ctx 5000 (d + 3) 32 [Fl (m : Int)] h = some (Bo true, h) := by
  have q33 := fun h => c33 d h m hm
  have k1 := cmp_ge hm
  have k2 := cmp_lt hm
  have k3 := cmp_eq hm
  refine wv_eq ?_
  refine wv_run fn32 rfl ?_
  have a0 : (enterEnv [Fl (m : Int)] Try.f32.ntmps).get 0 = some (Fl (m : Int)) := enter_get1 _ _ _
  generalize enterEnv [Fl (m : Int)] Try.f32.ntmps = e at a0 ⊢
  unfold Try.f32
  dsimp only
  repeat' (first
    | refine wc_seq ?_
    | (refine wc_region rfl ?_; simp only [oUn_not, beq_self_eq_true, eq_self, pv_mul, List.toList_toArray, opsA_cons, opsA_nil, wantedA, guardA, yieldA, stepA_t, stepA_f, callA, calleeA, targetA, runOp_c, runOp_n, opA, ev, evs, evo, consO, consOO, withH, pickA, afterA_s, putA, T.get_put, Nat.reduceEqDiff, reduceIte, List.getElem?_toArray, List.getElem?_cons_zero, List.getElem?_cons_succ, oBuiltin, oBin, binA, binG, binL, aggO, litA, intA, ltF_eq, eqF_eq, oIndexAddr, cond_true, cond_false, Bool.not_true, Bool.not_false, decide_true, decide_false, blt_eq, tt_beq, tf_beq, ft_beq, ff_beq, Bool.and_true, Bool.true_and, Option.some.injEq, I, Bo, addI, subI, oExtract, Bool.not_eq_true', fieldAddrA, oFieldAddr, oLoad, oStore, isAggD, aggH, oneH, skipH, Nat.add_eq_left, Nat.left_eq_add, Nat.succ_ne_self, fieldA, partA, cellsOf, List.length_cons, List.length_nil, Nat.reduceAdd, Nat.zero_add, Nat.add_zero, Nat.mul_one, Nat.reduceMul, nbeq_self, onesA_cons', onesA_nil, oneA, Value.oneCell', Nat.reduceLT, ty47, ti47, a0, q33, k1, k2, k3]; refine ⟨_, _, rfl, ?_⟩)
    | (refine wc_cond (by simp only [oUn_not, beq_self_eq_true, eq_self, pv_mul, List.toList_toArray, opsA_cons, opsA_nil, wantedA, guardA, yieldA, stepA_t, stepA_f, callA, calleeA, targetA, runOp_c, runOp_n, opA, ev, evs, evo, consO, consOO, withH, pickA, afterA_s, putA, T.get_put, Nat.reduceEqDiff, reduceIte, List.getElem?_toArray, List.getElem?_cons_zero, List.getElem?_cons_succ, oBuiltin, oBin, binA, binG, binL, aggO, litA, intA, ltF_eq, eqF_eq, oIndexAddr, cond_true, cond_false, Bool.not_true, Bool.not_false, decide_true, decide_false, blt_eq, tt_beq, tf_beq, ft_beq, ff_beq, Bool.and_true, Bool.true_and, Option.some.injEq, I, Bo, addI, subI, oExtract, Bool.not_eq_true', fieldAddrA, oFieldAddr, oLoad, oStore, isAggD, aggH, oneH, skipH, Nat.add_eq_left, Nat.left_eq_add, Nat.succ_ne_self, fieldA, partA, cellsOf, List.length_cons, List.length_nil, Nat.reduceAdd, Nat.zero_add, Nat.add_zero, Nat.mul_one, Nat.reduceMul, nbeq_self, onesA_cons', onesA_nil, oneA, Value.oneCell', Nat.reduceLT, ty47, ti47, a0, q33, k1, k2, k3]; rfl) ?_ ?_ <;> intro hb <;> first | (exfalso; exact Bool.noConfusion hb) | skip)
    | refine wc_block ?_
    | refine wc_skip ?_
    | refine wc_scope (by decide) ?_
    | refine wc_label ?_
    | refine wc_exit ?_
    | refine wc_ret ?_
    | refine wv_ret (by simp only [resA, resOne]; simp only [oUn_not, beq_self_eq_true, eq_self, pv_mul, List.toList_toArray, opsA_cons, opsA_nil, wantedA, guardA, yieldA, stepA_t, stepA_f, callA, calleeA, targetA, runOp_c, runOp_n, opA, ev, evs, evo, consO, consOO, withH, pickA, afterA_s, putA, T.get_put, Nat.reduceEqDiff, reduceIte, List.getElem?_toArray, List.getElem?_cons_zero, List.getElem?_cons_succ, oBuiltin, oBin, binA, binG, binL, aggO, litA, intA, ltF_eq, eqF_eq, oIndexAddr, cond_true, cond_false, Bool.not_true, Bool.not_false, decide_true, decide_false, blt_eq, tt_beq, tf_beq, ft_beq, ff_beq, Bool.and_true, Bool.true_and, Option.some.injEq, I, Bo, addI, subI, oExtract, Bool.not_eq_true', fieldAddrA, oFieldAddr, oLoad, oStore, isAggD, aggH, oneH, skipH, Nat.add_eq_left, Nat.left_eq_add, Nat.succ_ne_self, fieldA, partA, cellsOf, List.length_cons, List.length_nil, Nat.reduceAdd, Nat.zero_add, Nat.add_zero, Nat.mul_one, Nat.reduceMul, nbeq_self, onesA_cons', onesA_nil, oneA, Value.oneCell', Nat.reduceLT, ty47, ti47, a0, q33, k1, k2, k3]; rfl) ?_)
  all_goals exact ⟨rfl, rfl⟩
set_option maxHeartbeats 2000000 in
theorem c30 (d : Nat) (h : Hp) (a b : Nat) (ha : a < 9007199254740992) (hb : b < 9007199254740992) : runA ctx 5000 (d + 4) 30 [Cx (a : Int) (b : Int)] h = some (.tup [I (a : Int), I (b : Int), Bo true], h) := by
  have q1 := fun h => c32 d h a ha
  have q2 := fun h => c32 d h b hb
  have v1 := cv_i ha
  have v2 := cv_i hb
  refine wv_eq ?_
  refine wv_run fn30 rfl ?_
  have a0 : (enterEnv [Cx (a : Int) (b : Int)] Try.f30.ntmps).get 0 = some (Cx (a : Int) (b : Int)) := enter_get1 _ _ _
  generalize enterEnv [Cx (a : Int) (b : Int)] Try.f30.ntmps = e at a0 ⊢
  unfold Try.f30
  dsimp only
  repeat' (first
    | refine wc_seq ?_
    | (refine wc_region rfl ?_; simp only [oUn_not, beq_self_eq_true, eq_self, pv_mul, List.toList_toArray, opsA_cons, opsA_nil, wantedA, guardA, yieldA, stepA_t, stepA_f, callA, calleeA, targetA, runOp_c, runOp_n, opA, ev, evs, evo, consO, consOO, withH, pickA, afterA_s, putA, T.get_put, Nat.reduceEqDiff, reduceIte, List.getElem?_toArray, List.getElem?_cons_zero, List.getElem?_cons_succ, oBuiltin, oBin, binA, binG, binL, aggO, litA, intA, ltF_eq, eqF_eq, oIndexAddr, cond_true, cond_false, Bool.not_true, Bool.not_false, decide_true, decide_false, blt_eq, tt_beq, tf_beq, ft_beq, ff_beq, Bool.and_true, Bool.true_and, Option.some.injEq, I, Bo, addI, subI, oExtract, Bool.not_eq_true', fieldAddrA, oFieldAddr, oLoad, oStore, isAggD, aggH, oneH, skipH, Nat.add_eq_left, Nat.left_eq_add, Nat.succ_ne_self, fieldA, partA, cellsOf, List.length_cons, List.length_nil, Nat.reduceAdd, Nat.zero_add, Nat.add_zero, Nat.mul_one, Nat.reduceMul, nbeq_self, onesA_cons', onesA_nil, oneA, Value.oneCell', Nat.reduceLT, ty2, ti2, ty46, ti46, ty47, ti47, a0, q1, q2, v1, v2, cx_re, cx_im, oConv]; refine ⟨_, _, rfl, ?_⟩)
    | (refine wc_cond (by simp only [oUn_not, beq_self_eq_true, eq_self, pv_mul, List.toList_toArray, opsA_cons, opsA_nil, wantedA, guardA, yieldA, stepA_t, stepA_f, callA, calleeA, targetA, runOp_c, runOp_n, opA, ev, evs, evo, consO, consOO, withH, pickA, afterA_s, putA, T.get_put, Nat.reduceEqDiff, reduceIte, List.getElem?_toArray, List.getElem?_cons_zero, List.getElem?_cons_succ, oBuiltin, oBin, binA, binG, binL, aggO, litA, intA, ltF_eq, eqF_eq, oIndexAddr, cond_true, cond_false, Bool.not_true, Bool.not_false, decide_true, decide_false, blt_eq, tt_beq, tf_beq, ft_beq, ff_beq, Bool.and_true, Bool.true_and, Option.some.injEq, I, Bo, addI, subI, oExtract, Bool.not_eq_true', fieldAddrA, oFieldAddr, oLoad, oStore, isAggD, aggH, oneH, skipH, Nat.add_eq_left, Nat.left_eq_add, Nat.succ_ne_self, fieldA, partA, cellsOf, List.length_cons, List.length_nil, Nat.reduceAdd, Nat.zero_add, Nat.add_zero, Nat.mul_one, Nat.reduceMul, nbeq_self, onesA_cons', onesA_nil, oneA, Value.oneCell', Nat.reduceLT, ty2, ti2, ty46, ti46, ty47, ti47, a0, q1, q2, v1, v2, cx_re, cx_im, oConv]; rfl) ?_ ?_ <;> intro hb <;> first | (exfalso; exact Bool.noConfusion hb) | skip)
    | refine wc_block ?_
    | refine wc_skip ?_
    | refine wc_scope (by decide) ?_
    | refine wc_label ?_
    | refine wc_exit ?_
    | refine wc_ret ?_
    | refine wv_ret (by simp only [resA, resOne]; simp only [oUn_not, beq_self_eq_true, eq_self, pv_mul, List.toList_toArray, opsA_cons, opsA_nil, wantedA, guardA, yieldA, stepA_t, stepA_f, callA, calleeA, targetA, runOp_c, runOp_n, opA, ev, evs, evo, consO, consOO, withH, pickA, afterA_s, putA, T.get_put, Nat.reduceEqDiff, reduceIte, List.getElem?_toArray, List.getElem?_cons_zero, List.getElem?_cons_succ, oBuiltin, oBin, binA, binG, binL, aggO, litA, intA, ltF_eq, eqF_eq, oIndexAddr, cond_true, cond_false, Bool.not_true, Bool.not_false, decide_true, decide_false, blt_eq, tt_beq, tf_beq, ft_beq, ff_beq, Bool.and_true, Bool.true_and, Option.some.injEq, I, Bo, addI, subI, oExtract, Bool.not_eq_true', fieldAddrA, oFieldAddr, oLoad, oStore, isAggD, aggH, oneH, skipH, Nat.add_eq_left, Nat.left_eq_add, Nat.succ_ne_self, fieldA, partA, cellsOf, List.length_cons, List.length_nil, Nat.reduceAdd, Nat.zero_add, Nat.add_zero, Nat.mul_one, Nat.reduceMul, nbeq_self, onesA_cons', onesA_nil, oneA, Value.oneCell', Nat.reduceLT, ty2, ti2, ty46, ti46, ty47, ti47, a0, q1, q2, v1, v2, cx_re, cx_im, oConv]; rfl) ?_)
  all_goals exact ⟨rfl, rfl⟩
end Go.Proofs.Ytalnccmejboibaa
