import Derived.Test.YtlajgfnfclpneaaK4
import Derived.KernelRfl
namespace Go.Proofs.Ytlajgfnfclpneaa
open Go Go.Proofs Go.RowKit
set_option linter.unusedSimpArgs false
set_option linter.unusedVariables false
open Go.Proofs.Abs
theorem p9 (h : Hp) : all8 9 [] h = some (Bo true, h) := plus_lit rfl
set_option maxRecDepth 100000 in
theorem q12a (n : Nat) (v : Int) : all8 12 [.ptr (nm n v) 0, W (Int.ofNat (n + 1))] (hpOf (s7 n v)) = some (Bo false, hpOf (s7 n v)) := by kernel_rfl
set_option maxRecDepth 100000 in
theorem g7 (n : Nat) (v : Int) : (envOf (s7 n v)).get 6 = some (.ptr (nm n v) 0) ∧ (envOf (s7 n v)).get 0 = some (W (Int.ofNat (n + 1))) ∧ (envOf (s7 n v)).get 1 = some (I v) ∧ (envOf (s7 n v)).get 10 = some (Bo false) ∧ (envOf (s7 n v)).get 11 = some (I 0) := ⟨by kernel_rfl, by kernel_rfl, by kernel_rfl, by kernel_rfl, by kernel_rfl⟩
set_option maxHeartbeats 4000000 in
theorem last7 (e : Env) (h h2 h3 : Hp) (nm : Nat) (k v : Int) (e6 : e.get 6 = some (.ptr nm 0)) (e0 : e.get 0 = some (W k)) (e1 : e.get 1 = some (I v)) (e10 : e.get 10 = some (Bo false)) (e11 : e.get 11 = some (I 0))
    (qa : all8 12 [.ptr nm 0, W k] h = some (Bo false, h)) (qp : all8 14 [.ptr nm 0, W k, I v] h = some (I 0, h2)) (qb : all8 12 [.ptr nm 0, W k] h2 = some (Bo true, h3))
    (bn : pureV (binOp .neq 27 (.int .u64 k) (.int .u64 0)) = some (.lit (.bool true))) :
    Wc (codeA ctx all8 5000 4991 (restC 9 (bodyOf Try.f7)) e h) fun x e h => Wv (returnA ctx Try.f7.results.toList (some (x, e, h))) fun v _ => v = Bo true := by
  have p := p9
  simp only [W, I, Bo] at qa qp qb e6 e0 e1 e10 e11 p
  unfold bodyOf Try.f7
  dsimp only [restC]
  repeat' (first
    | refine wc_seq ?_
    | (refine wc_region rfl ?_; simp only [oUn_not, beq_self_eq_true, eq_self, pv_mul, List.toList_toArray, opsA_cons, opsA_nil, wantedA, guardA, yieldA, stepA_t, stepA_f, callA, calleeA, targetA, runOp_c, runOp_n, opA, ev, evs, evo, consO, consOO, withH, pickA, afterA_s, putA, T.get_put, Nat.reduceEqDiff, reduceIte, List.getElem?_toArray, List.getElem?_cons_zero, List.getElem?_cons_succ, oBuiltin, oBin, binA, binG, binL, aggO, litA, intA, ltF_eq, eqF_eq, oIndexAddr, cond_true, cond_false, Bool.not_true, Bool.not_false, decide_true, decide_false, blt_eq, tt_beq, tf_beq, ft_beq, ff_beq, Bool.and_true, Bool.true_and, Option.some.injEq, I, Bo, addI, subI, oExtract, Bool.not_eq_true', ite_true, ite_false, fieldAddrA, oFieldAddr, oLoad, oStore, allocA, boxA, isAggD, aggH, oneH, skipH, newBlk, load_mk, store_h, ldO_s, ldO_h, stO_s, Nat.add_eq_left, Nat.left_eq_add, Nat.succ_ne_self, fieldA, partA, setCells_cons, setCells_nil, cellsOf, litCells_cons, litCells_nil, List.length_cons, List.length_nil, Nat.reduceAdd, Nat.zero_add, Nat.add_zero, Nat.mul_one, Nat.reduceMul, nbeq_self, known_s, known_zero, getCells1, getCells2, onesA_cons', onesA_nil, oneA, Value.oneCell', Nat.reduceLT, ty3, ti3, ty4, ti4, ty24, ti24, ty27, ti27, ty35, ti35, ty48, ti48, ty54, ti54, e6, e0, e1, e10, e11, qa, qp, qb, bn, p, W, eqA, eqD, eqOp]; refine ⟨_, _, rfl, ?_⟩)
    | (refine wc_cond (by simp only [oUn_not, beq_self_eq_true, eq_self, pv_mul, List.toList_toArray, opsA_cons, opsA_nil, wantedA, guardA, yieldA, stepA_t, stepA_f, callA, calleeA, targetA, runOp_c, runOp_n, opA, ev, evs, evo, consO, consOO, withH, pickA, afterA_s, putA, T.get_put, Nat.reduceEqDiff, reduceIte, List.getElem?_toArray, List.getElem?_cons_zero, List.getElem?_cons_succ, oBuiltin, oBin, binA, binG, binL, aggO, litA, intA, ltF_eq, eqF_eq, oIndexAddr, cond_true, cond_false, Bool.not_true, Bool.not_false, decide_true, decide_false, blt_eq, tt_beq, tf_beq, ft_beq, ff_beq, Bool.and_true, Bool.true_and, Option.some.injEq, I, Bo, addI, subI, oExtract, Bool.not_eq_true', ite_true, ite_false, fieldAddrA, oFieldAddr, oLoad, oStore, allocA, boxA, isAggD, aggH, oneH, skipH, newBlk, load_mk, store_h, ldO_s, ldO_h, stO_s, Nat.add_eq_left, Nat.left_eq_add, Nat.succ_ne_self, fieldA, partA, setCells_cons, setCells_nil, cellsOf, litCells_cons, litCells_nil, List.length_cons, List.length_nil, Nat.reduceAdd, Nat.zero_add, Nat.add_zero, Nat.mul_one, Nat.reduceMul, nbeq_self, known_s, known_zero, getCells1, getCells2, onesA_cons', onesA_nil, oneA, Value.oneCell', Nat.reduceLT, ty3, ti3, ty4, ti4, ty24, ti24, ty27, ti27, ty35, ti35, ty48, ti48, ty54, ti54, e6, e0, e1, e10, e11, qa, qp, qb, bn, p, W, eqA, eqD, eqOp]; rfl) ?_ ?_ <;> intro hb <;> first | (exfalso; exact Bool.noConfusion hb) | skip)
    | refine wc_block ?_
    | refine wc_skip ?_
    | refine wc_scope (by decide) ?_
    | refine wc_label ?_
    | refine wc_exit ?_
    | refine wc_ret ?_
    | refine wv_ret (by simp only [resA, resOne]; simp only [oUn_not, beq_self_eq_true, eq_self, pv_mul, List.toList_toArray, opsA_cons, opsA_nil, wantedA, guardA, yieldA, stepA_t, stepA_f, callA, calleeA, targetA, runOp_c, runOp_n, opA, ev, evs, evo, consO, consOO, withH, pickA, afterA_s, putA, T.get_put, Nat.reduceEqDiff, reduceIte, List.getElem?_toArray, List.getElem?_cons_zero, List.getElem?_cons_succ, oBuiltin, oBin, binA, binG, binL, aggO, litA, intA, ltF_eq, eqF_eq, oIndexAddr, cond_true, cond_false, Bool.not_true, Bool.not_false, decide_true, decide_false, blt_eq, tt_beq, tf_beq, ft_beq, ff_beq, Bool.and_true, Bool.true_and, Option.some.injEq, I, Bo, addI, subI, oExtract, Bool.not_eq_true', ite_true, ite_false, fieldAddrA, oFieldAddr, oLoad, oStore, allocA, boxA, isAggD, aggH, oneH, skipH, newBlk, load_mk, store_h, ldO_s, ldO_h, stO_s, Nat.add_eq_left, Nat.left_eq_add, Nat.succ_ne_self, fieldA, partA, setCells_cons, setCells_nil, cellsOf, litCells_cons, litCells_nil, List.length_cons, List.length_nil, Nat.reduceAdd, Nat.zero_add, Nat.add_zero, Nat.mul_one, Nat.reduceMul, nbeq_self, known_s, known_zero, getCells1, getCells2, onesA_cons', onesA_nil, oneA, Value.oneCell', Nat.reduceLT, ty3, ti3, ty4, ti4, ty24, ti24, ty27, ti27, ty35, ti35, ty48, ti48, ty54, ti54, e6, e0, e1, e10, e11, qa, qp, qb, bn, p, W, eqA, eqD, eqOp]; rfl) ?_)
  all_goals rfl
def In (a : Int) : Prop := -9223372036854775808 ≤ a ∧ a ≤ 9223372036854775807
def Inq (a : Int) : Prop := 0 ≤ a ∧ a ≤ 18446744073709551615
theorem e14 (args : List AV) (h : Hp) : all8 14 args h = runA ctx 5000 8 14 args h := rfl
theorem e12 (args : List AV) (h : Hp) : all8 12 args h = runA ctx 5000 8 12 args h := rfl
theorem wv_t {r : Option (AV × Hp)} (h : Wv r fun v _ => v = Bo true) : ∃ h3, r = some (Bo true, h3) := by
  obtain ⟨v, h', hr, rfl⟩ := h
  exact ⟨h', hr⟩
theorem nil_on (n : Nat) (v : Int) (h2 h3 : Hp) (qp : all8 14 [.ptr (nm n v) 0, W (Int.ofNat (n + 1)), I v] (hpOf (s7 n v)) = some (I 0, h2)) (qb : all8 12 [.ptr (nm n v) 0, W (Int.ofNat (n + 1))] h2 = some (Bo true, h3)) :
    Wv (funA ctx all8 5000 [W (Int.ofNat (n + 1)), I v] h0 (ctx.funs.get 7)) (fun v _ => v = Bo true) :=
  wv_fun fn7 rfl (wc_cutk 9 4991 _ _ _ _ _ (p7 n v) (last7 _ _ _ _ _ _ _ (g7 n v).1 (g7 n v).2.1 (g7 n v).2.2.1 (g7 n v).2.2.2.1 (g7 n v).2.2.2.2 (q12a n v) qp qb (bn n)))
theorem nil_succ (n : Nat) (v : Int) (j : Nat) (hj : j < 8) (hJ : J (Int.ofNat (n + 1)) = (j : Int)) : Wv (funA ctx all8 5000 [W (Int.ofNat (n + 1)), I v] h0 (ctx.funs.get 7)) (fun v _ => v = Bo true) :=
  (wv_t (c12 n v j hj hJ)).elim fun h3 hd => nil_on n v _ h3 ((e14 _ _).trans (wv_eq (c14 n v j hj hJ))) ((e12 _ _).trans hd)
set_option maxRecDepth 100000 in
theorem nil_law (k v : Int) (rk : Inq k) (rv : In v) : Wv (funA ctx all8 5000 [W k, I v] h0 (ctx.funs.get 7)) (fun v _ => v = Bo true) := by
  obtain ⟨rk, _⟩ := rk
  cases k with
  | negSucc n => omega
  | ofNat n =>
    cases n with
    | zero =>
      obtain ⟨h', h⟩ := isTrue_some (z7 v)
      exact ⟨_, h', h, rfl⟩
    | succ n =>
      have hJ0 := J_lt (Int.ofNat (n + 1))
      generalize hJ : J (Int.ofNat (n + 1)) = x at hJ0
      obtain ⟨j, hj, rfl⟩ := hJ0
      exact nil_succ n v j hj hJ
end Go.Proofs.Ytlajgfnfclpneaa
