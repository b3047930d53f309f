import Derived.Test.YtmebdebnigoapaaCtx
import Derived.Test.YtmebdebnigoapaaW4
import Derived.KernelRfl
namespace Go.Proofs.Ytmebdebnigoapaa
open Go Go.Proofs Go.RowKit
set_option linter.unusedSimpArgs false
set_option linter.unusedVariables false
open Go.Proofs.Abs
theorem fn5 : ctx.funs.get 5 = some Try.f5 := by kernel_rfl
theorem ty3 : ctx.tys.get 3 = some ti3 := by kernel_rfl
theorem ty22 : ctx.tys.get 22 = some ti22 := by kernel_rfl
theorem ty25 : ctx.tys.get 25 = some ti25 := by kernel_rfl
theorem ty26 : ctx.tys.get 26 = some ti26 := by kernel_rfl
theorem ty39 : ctx.tys.get 39 = some ti39 := by kernel_rfl

def In (a : Int) : Prop := -9223372036854775808 ≤ a ∧ a ≤ 9223372036854775807
/-- the function that is known already -/
def isLives (f : Nat) : Bool := Nat.beq f 7
noncomputable def all8 : CallF := plus isLives (runA ctx 5000 8)
def bodyOf (f : Func) : Code := match f.body with | some c => c | none => .skip
/-- all but the last region -/
noncomputable def r5 (i k : Int) : Option (AEx × Env × Hp) := codeA ctx all8 5000 (4992 + 8) (cutC 8 (bodyOf Try.f5)) (enterEnv [I i, I k] Try.f5.ntmps) h0
theorem p7 (h : Hp) : all8 7 [] h = some (Bo true, h) := plus_lit rfl

theorem e5a (n : Nat) (k : Int) : codeA ctx all8 5000 (4992 + 8) (cutC 8 (bodyOf Try.f5)) (enterEnv [I (Int.negSucc n), I k] Try.f5.ntmps) h0 = some (.normal, envOf (r5 (Int.negSucc n) k), hpOf (r5 (Int.negSucc n) k)) := by kernel_rfl
theorem g5a (n : Nat) (k : Int) : (envOf (r5 (Int.negSucc n) k)).get 11 = some (I k) ∧ (envOf (r5 (Int.negSucc n) k)).get 1 = some (I k) ∧ (envOf (r5 (Int.negSucc n) k)).get 12 = some (I 0) ∧ (envOf (r5 (Int.negSucc n) k)).get 8 = some (avOf ((envOf (r5 (Int.negSucc n) k)).get 8)) := ⟨by kernel_rfl, by kernel_rfl, by kernel_rfl, by kernel_rfl⟩
theorem q5a (n : Nat) (k : Int) : all8 11 [avOf ((envOf (r5 (Int.negSucc n) k)).get 8)] (hpOf (r5 (Int.negSucc n) k)) = some (I 1, hpOf (r5 (Int.negSucc n) k)) ∧ all8 16 [avOf ((envOf (r5 (Int.negSucc n) k)).get 8)] (hpOf (r5 (Int.negSucc n) k)) = some (I 1, hpOf (r5 (Int.negSucc n) k)) := ⟨by kernel_rfl, by kernel_rfl⟩
theorem e5b (k : Int) : codeA ctx all8 5000 (4992 + 8) (cutC 8 (bodyOf Try.f5)) (enterEnv [I (Int.ofNat 0), I k] Try.f5.ntmps) h0 = some (.normal, envOf (r5 (Int.ofNat 0) k), hpOf (r5 (Int.ofNat 0) k)) := by kernel_rfl
theorem g5b (k : Int) : (envOf (r5 (Int.ofNat 0) k)).get 11 = some (I k) ∧ (envOf (r5 (Int.ofNat 0) k)).get 1 = some (I k) ∧ (envOf (r5 (Int.ofNat 0) k)).get 12 = some (I 0) ∧ (envOf (r5 (Int.ofNat 0) k)).get 8 = some (avOf ((envOf (r5 (Int.ofNat 0) k)).get 8)) := ⟨by kernel_rfl, by kernel_rfl, by kernel_rfl, by kernel_rfl⟩
theorem q5b (k : Int) : all8 11 [avOf ((envOf (r5 (Int.ofNat 0) k)).get 8)] (hpOf (r5 (Int.ofNat 0) k)) = some (I 1, hpOf (r5 (Int.ofNat 0) k)) ∧ all8 16 [avOf ((envOf (r5 (Int.ofNat 0) k)).get 8)] (hpOf (r5 (Int.ofNat 0) k)) = some (I 1, hpOf (r5 (Int.ofNat 0) k)) := ⟨by kernel_rfl, by kernel_rfl⟩
theorem e5c (n : Nat) (k : Int) : codeA ctx all8 5000 (4992 + 8) (cutC 8 (bodyOf Try.f5)) (enterEnv [I (Int.ofNat (n + 1)), I k] Try.f5.ntmps) h0 = some (.normal, envOf (r5 (Int.ofNat (n + 1)) k), hpOf (r5 (Int.ofNat (n + 1)) k)) := by kernel_rfl
theorem g5c (n : Nat) (k : Int) : (envOf (r5 (Int.ofNat (n + 1)) k)).get 11 = some (I k) ∧ (envOf (r5 (Int.ofNat (n + 1)) k)).get 1 = some (I k) ∧ (envOf (r5 (Int.ofNat (n + 1)) k)).get 12 = some (I 0) ∧ (envOf (r5 (Int.ofNat (n + 1)) k)).get 8 = some (avOf ((envOf (r5 (Int.ofNat (n + 1)) k)).get 8)) := ⟨by kernel_rfl, by kernel_rfl, by kernel_rfl, by kernel_rfl⟩
theorem q5c (n : Nat) (k : Int) : all8 11 [avOf ((envOf (r5 (Int.ofNat (n + 1)) k)).get 8)] (hpOf (r5 (Int.ofNat (n + 1)) k)) = some (I 1, hpOf (r5 (Int.ofNat (n + 1)) k)) ∧ all8 16 [avOf ((envOf (r5 (Int.ofNat (n + 1)) k)).get 8)] (hpOf (r5 (Int.ofNat (n + 1)) k)) = some (I 1, hpOf (r5 (Int.ofNat (n + 1)) k)) := ⟨by kernel_rfl, by kernel_rfl⟩
set_option maxHeartbeats 4000000 in
theorem last5 (e : Env) (h : Hp) (k : Int) (v : AV) (a11 : e.get 11 = some (I k)) (a1 : e.get 1 = some (I k)) (a12 : e.get 12 = some (I 0)) (a8 : e.get 8 = some v) (q1 : all8 11 [v] h = some (I 1, h)) (q2 : all8 16 [v] h = some (I 1, h)) :
    Wc (codeA ctx all8 5000 4992 (restC 8 (bodyOf Try.f5)) e h) fun x e h => Wv (returnA ctx Try.f5.results.toList (some (x, e, h))) fun v _ => v = Bo true := by
  unfold bodyOf Try.f5
  dsimp only [restC]
  repeat' (first
    | refine wc_seq ?_
    | (refine wc_region rfl ?_; simp only [oUn_not, beq_self_eq_true, eq_self, pv_mul, List.toList_toArray, opsA_cons, opsA_nil, wantedA, guardA, yieldA, stepA_t, stepA_f, callA, calleeA, targetA, runOp_c, runOp_n, opA, ev, evs, evo, consO, consOO, withH, pickA, afterA_s, putA, T.get_put, Nat.reduceEqDiff, reduceIte, List.getElem?_toArray, List.getElem?_cons_zero, List.getElem?_cons_succ, oBuiltin, oBin, binA, litA, intA, ltF_eq, eqF_eq, oIndexAddr, cond_true, cond_false, Bool.not_true, Bool.not_false, decide_true, decide_false, blt_eq, tt_beq, tf_beq, ft_beq, ff_beq, Bool.and_true, Bool.true_and, Option.some.injEq, I, Bo, addI, subI, oExtract, Bool.not_eq_true', ite_true, ite_false, fieldAddrA, oFieldAddr, oLoad, oStore, allocA, boxA, isAggD, aggH, oneH, skipH, newBlk, load_mk, store_h, ldO_s, ldO_h, stO_s, Nat.add_eq_left, Nat.left_eq_add, Nat.succ_ne_self, fieldA, partA, setCells_cons, setCells_nil, cellsOf, litCells_cons, litCells_nil, List.length_cons, List.length_nil, Nat.reduceAdd, Nat.zero_add, Nat.add_zero, Nat.mul_one, Nat.reduceMul, nbeq_self, known_s, known_zero, getCells1, getCells2, onesA_cons', onesA_nil, oneA, Value.oneCell', Nat.reduceLT, ty3, ti3, ty22, ti22, ty25, ti25, ty26, ti26, ty39, ti39, a11, a1, a12, a8, q1, q2, p7]; refine ⟨_, _, rfl, ?_⟩)
    | (refine wc_cond (by simp only [oUn_not, beq_self_eq_true, eq_self, pv_mul, List.toList_toArray, opsA_cons, opsA_nil, wantedA, guardA, yieldA, stepA_t, stepA_f, callA, calleeA, targetA, runOp_c, runOp_n, opA, ev, evs, evo, consO, consOO, withH, pickA, afterA_s, putA, T.get_put, Nat.reduceEqDiff, reduceIte, List.getElem?_toArray, List.getElem?_cons_zero, List.getElem?_cons_succ, oBuiltin, oBin, binA, litA, intA, ltF_eq, eqF_eq, oIndexAddr, cond_true, cond_false, Bool.not_true, Bool.not_false, decide_true, decide_false, blt_eq, tt_beq, tf_beq, ft_beq, ff_beq, Bool.and_true, Bool.true_and, Option.some.injEq, I, Bo, addI, subI, oExtract, Bool.not_eq_true', ite_true, ite_false, fieldAddrA, oFieldAddr, oLoad, oStore, allocA, boxA, isAggD, aggH, oneH, skipH, newBlk, load_mk, store_h, ldO_s, ldO_h, stO_s, Nat.add_eq_left, Nat.left_eq_add, Nat.succ_ne_self, fieldA, partA, setCells_cons, setCells_nil, cellsOf, litCells_cons, litCells_nil, List.length_cons, List.length_nil, Nat.reduceAdd, Nat.zero_add, Nat.add_zero, Nat.mul_one, Nat.reduceMul, nbeq_self, known_s, known_zero, getCells1, getCells2, onesA_cons', onesA_nil, oneA, Value.oneCell', Nat.reduceLT, ty3, ti3, ty22, ti22, ty25, ti25, ty26, ti26, ty39, ti39, a11, a1, a12, a8, q1, q2, p7]; rfl) ?_ ?_ <;> intro hb <;> first | (exfalso; exact Bool.noConfusion hb) | skip)
    | refine wc_block ?_
    | refine wc_skip ?_
    | refine wc_scope (by decide) ?_
    | refine wc_label ?_
    | refine wc_exit ?_
    | refine wc_ret ?_
    | refine wv_ret (by simp only [resA, resOne]; simp only [oUn_not, beq_self_eq_true, eq_self, pv_mul, List.toList_toArray, opsA_cons, opsA_nil, wantedA, guardA, yieldA, stepA_t, stepA_f, callA, calleeA, targetA, runOp_c, runOp_n, opA, ev, evs, evo, consO, consOO, withH, pickA, afterA_s, putA, T.get_put, Nat.reduceEqDiff, reduceIte, List.getElem?_toArray, List.getElem?_cons_zero, List.getElem?_cons_succ, oBuiltin, oBin, binA, litA, intA, ltF_eq, eqF_eq, oIndexAddr, cond_true, cond_false, Bool.not_true, Bool.not_false, decide_true, decide_false, blt_eq, tt_beq, tf_beq, ft_beq, ff_beq, Bool.and_true, Bool.true_and, Option.some.injEq, I, Bo, addI, subI, oExtract, Bool.not_eq_true', ite_true, ite_false, fieldAddrA, oFieldAddr, oLoad, oStore, allocA, boxA, isAggD, aggH, oneH, skipH, newBlk, load_mk, store_h, ldO_s, ldO_h, stO_s, Nat.add_eq_left, Nat.left_eq_add, Nat.succ_ne_self, fieldA, partA, setCells_cons, setCells_nil, cellsOf, litCells_cons, litCells_nil, List.length_cons, List.length_nil, Nat.reduceAdd, Nat.zero_add, Nat.add_zero, Nat.mul_one, Nat.reduceMul, nbeq_self, known_s, known_zero, getCells1, getCells2, onesA_cons', onesA_nil, oneA, Value.oneCell', Nat.reduceLT, ty3, ti3, ty22, ti22, ty25, ti25, ty26, ti26, ty39, ti39, a11, a1, a12, a8, q1, q2, p7]; rfl) ?_)
  all_goals rfl
theorem nil_law (i k : Int) (hi : In i) (hk : In k) : Wv (funA ctx all8 5000 [I i, I k] h0 (ctx.funs.get 5)) (fun v _ => v = Bo true) := by
  refine wv_fun fn5 rfl ?_
  have key : codeA ctx all8 5000 (4992 + 8) (cutC 8 (bodyOf Try.f5)) (enterEnv [I i, I k] Try.f5.ntmps) h0 = some (.normal, envOf (r5 i k), hpOf (r5 i k)) ∧
      ((envOf (r5 i k)).get 11 = some (I k) ∧ (envOf (r5 i k)).get 1 = some (I k) ∧ (envOf (r5 i k)).get 12 = some (I 0) ∧ (envOf (r5 i k)).get 8 = some (avOf ((envOf (r5 i k)).get 8))) ∧
      all8 11 [avOf ((envOf (r5 i k)).get 8)] (hpOf (r5 i k)) = some (I 1, hpOf (r5 i k)) ∧ all8 16 [avOf ((envOf (r5 i k)).get 8)] (hpOf (r5 i k)) = some (I 1, hpOf (r5 i k)) := by
    rcases i with n | n
    · cases n with
      | zero => exact ⟨e5b k, g5b k, q5b k⟩
      | succ n => exact ⟨e5c n k, g5c n k, q5c n k⟩
    · exact ⟨e5a n k, g5a n k, q5a n k⟩
  obtain ⟨k1, ⟨k2, k3, k4, k5⟩, k6, k7⟩ := key
  exact wc_cutk 8 4992 _ _ _ _ _ k1 (last5 _ _ k _ k2 k3 k4 k5 k6 k7)
end Go.Proofs.Ytmebdebnigoapaa
