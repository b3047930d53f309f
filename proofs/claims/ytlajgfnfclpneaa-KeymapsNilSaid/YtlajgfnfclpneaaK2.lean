import Derived.Test.YtlajgfnfclpneaaK1
import Derived.KernelRfl
namespace Go.Proofs.Ytlajgfnfclpneaa
open Go Go.Proofs Go.RowKit
set_option linter.unusedSimpArgs false
set_option linter.unusedVariables false
open Go.Proofs.Abs
theorem ty3 : ctx.tys.get 3 = some ti3 := by kernel_rfl
theorem ty4 : ctx.tys.get 4 = some ti4 := by kernel_rfl
theorem ty5 : ctx.tys.get 5 = some ti5 := by kernel_rfl
theorem ty24 : ctx.tys.get 24 = some ti24 := by kernel_rfl
theorem ty27 : ctx.tys.get 27 = some ti27 := by kernel_rfl
theorem ty35 : ctx.tys.get 35 = some ti35 := by kernel_rfl
theorem ty48 : ctx.tys.get 48 = some ti48 := by kernel_rfl
theorem ty52 : ctx.tys.get 52 = some ti52 := by kernel_rfl
theorem ty54 : ctx.tys.get 54 = some ti54 := by kernel_rfl
theorem ty58 : ctx.tys.get 58 = some ti58 := by kernel_rfl

noncomputable def E28 (nm : Nat) (k v : Int) (j : Nat) : Env := ((((enterEnv [.ptr nm 0, W k, I v] Try.f28.ntmps).put 7 (some (.ptr nm 0))).put 8 (some (W k))).put 9 (some (I (Int.ofNat j)))).put 6 (some (I (Int.ofNat j)))
theorem add_first (nm : Nat) (k v : Int) (j : Nat) (h h' : Hp) (e' : Env) (q : runA ctx 5000 6 31 [.ptr nm 0, W k] h = some (I (Int.ofNat j), h))
    (p : codeA ctx (runA ctx 5000 6) 5000 4999 (restC 1 (bodyOf Try.f28)) (E28 nm k v j) h = some (.normal, e', h')) :
    Wv (runA ctx 5000 7 28 [.ptr nm 0, W k, I v] h) (fun _ h2 => h2 = h') := by
  unfold E28 at p
  simp only [W, I] at q p
  refine wv_run fn28 rfl ?_
  have a0 : (enterEnv [.ptr nm 0, W k, I v] Try.f28.ntmps).get 0 = some (.ptr nm 0) := enter_get1 _ _ _
  have a1 : (enterEnv [.ptr nm 0, W k, I v] Try.f28.ntmps).get 1 = some (W k) := enter_get2 _ _ _ _
  have a2 : (enterEnv [.ptr nm 0, W k, I v] Try.f28.ntmps).get 2 = some (I v) := enter_get3 _ _ _ _ _
  simp only [W, I] at a0 a1 a2 ⊢
  generalize enterEnv [.ptr nm 0, .lit (.int .u64 k), .lit (.int .i64 v)] Try.f28.ntmps = e at a0 a1 a2 p ⊢
  unfold bodyOf at p
  unfold Try.f28 at p ⊢
  dsimp only [restC] at p
  dsimp only
  refine wc_seq ?_
  (refine wc_region rfl ?_; simp only [oUn_not, beq_self_eq_true, eq_self, pv_mul, List.toList_toArray, opsA_cons, opsA_nil, wantedA, guardA, yieldA, stepA_t, stepA_f, callA, calleeA, targetA, runOp_c, runOp_n, opA, ev, evs, evo, consO, consOO, withH, pickA, afterA_s, putA, T.get_put, Nat.reduceEqDiff, reduceIte, List.getElem?_toArray, List.getElem?_cons_zero, List.getElem?_cons_succ, oBuiltin, oBin, binA, binG, binL, aggO, litA, intA, ltF_eq, eqF_eq, oIndexAddr, cond_true, cond_false, Bool.not_true, Bool.not_false, decide_true, decide_false, blt_eq, tt_beq, tf_beq, ft_beq, ff_beq, Bool.and_true, Bool.true_and, Option.some.injEq, I, Bo, addI, subI, oExtract, Bool.not_eq_true', ite_true, ite_false, fieldAddrA, oFieldAddr, oLoad, oStore, allocA, boxA, isAggD, aggH, oneH, skipH, newBlk, load_mk, store_h, ldO_s, ldO_h, stO_s, Nat.add_eq_left, Nat.left_eq_add, Nat.succ_ne_self, fieldA, partA, setCells_cons, setCells_nil, cellsOf, litCells_cons, litCells_nil, List.length_cons, List.length_nil, Nat.reduceAdd, Nat.zero_add, Nat.add_zero, Nat.mul_one, Nat.reduceMul, nbeq_self, known_s, known_zero, getCells1, getCells2, onesA_cons', onesA_nil, oneA, Value.oneCell', Nat.reduceLT, ty3, ti3, ty5, ti5, ty24, ti24, ty27, ti27, ty52, ti52, ty54, ti54, ty58, ti58, a0, a1, q, W]; refine ⟨_, _, rfl, ?_⟩)
  refine ⟨_, _, _, p, ?_⟩
  exact ⟨_, _, rfl, rfl⟩
/-- add, behind the search -/
noncomputable def s28 (n : Nat) (v : Int) (j : Nat) : Option (AEx × Env × Hp) := codeA ctx (runA ctx 5000 6) 5000 4999 (restC 1 (bodyOf Try.f28)) (E28 (nm n v) (Int.ofNat (n + 1)) v j) (hpOf (s14 n v))
set_option maxRecDepth 100000 in
theorem p28_0 (n : Nat) (v : Int) : s28 n v 0 = some (.normal, envOf (s28 n v 0), hpOf (s28 n v 0)) := by kernel_rfl
set_option maxRecDepth 100000 in
theorem p28_1 (n : Nat) (v : Int) : s28 n v 1 = some (.normal, envOf (s28 n v 1), hpOf (s28 n v 1)) := by kernel_rfl
set_option maxRecDepth 100000 in
theorem p28_2 (n : Nat) (v : Int) : s28 n v 2 = some (.normal, envOf (s28 n v 2), hpOf (s28 n v 2)) := by kernel_rfl
set_option maxRecDepth 100000 in
theorem p28_3 (n : Nat) (v : Int) : s28 n v 3 = some (.normal, envOf (s28 n v 3), hpOf (s28 n v 3)) := by kernel_rfl
set_option maxRecDepth 100000 in
theorem p28_4 (n : Nat) (v : Int) : s28 n v 4 = some (.normal, envOf (s28 n v 4), hpOf (s28 n v 4)) := by kernel_rfl
set_option maxRecDepth 100000 in
theorem p28_5 (n : Nat) (v : Int) : s28 n v 5 = some (.normal, envOf (s28 n v 5), hpOf (s28 n v 5)) := by kernel_rfl
set_option maxRecDepth 100000 in
theorem p28_6 (n : Nat) (v : Int) : s28 n v 6 = some (.normal, envOf (s28 n v 6), hpOf (s28 n v 6)) := by kernel_rfl
set_option maxRecDepth 100000 in
theorem p28_7 (n : Nat) (v : Int) : s28 n v 7 = some (.normal, envOf (s28 n v 7), hpOf (s28 n v 7)) := by kernel_rfl
theorem p28 (n : Nat) (v : Int) (j : Nat) (hj : j < 8) : s28 n v j = some (.normal, envOf (s28 n v j), hpOf (s28 n v j)) :=
  match j, hj with
  | 0, _ => p28_0 n v
  | 1, _ => p28_1 n v
  | 2, _ => p28_2 n v
  | 3, _ => p28_3 n v
  | 4, _ => p28_4 n v
  | 5, _ => p28_5 n v
  | 6, _ => p28_6 n v
  | 7, _ => p28_7 n v

theorem c28 (n : Nat) (v : Int) (j : Nat) (hj : j < 8) (hJ : J (Int.ofNat (n + 1)) = Int.ofNat j) : Wv (runA ctx 5000 7 28 [.ptr (nm n v) 0, W (Int.ofNat (n + 1)), I v] (hpOf (s14 n v))) (fun _ h' => h' = hpOf (s28 n v j)) :=
  add_first _ _ _ j _ _ _ (by rw [q31 n v, hJ]) (p28 n v j hj)
end Go.Proofs.Ytlajgfnfclpneaa
