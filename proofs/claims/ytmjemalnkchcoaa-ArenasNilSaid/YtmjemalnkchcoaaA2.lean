import Derived.Test.YtmjemalnkchcoaaA1
import Derived.KernelRfl
namespace Go.Proofs.Ytmjemalnkchcoaa
open Go Go.Proofs Go.RowKit
set_option linter.unusedSimpArgs false
set_option linter.unusedVariables false
open Go.Proofs.Abs
theorem fn7 : ctx.funs.get 7 = some Try.f7 := by kernel_rfl
/-- the function that is known already -/
def isLives (f : Nat) : Bool := Nat.beq f 12
noncomputable def all8 : CallF := plus isLives (runA ctx 5000 8)
def bodyOf (f : Func) : Code := match f.body with | some c => c | none => .skip
theorem bx_load (h : Hp) (a b : Int) (n o k : Nat) (hn : n < h.c) : Abs.load (bx h a b) n o k = Abs.load h n o k := by
  unfold bx
  rw [load_mk, T.get_put, if_neg (by omega), ldO_h]
theorem bx_c (h : Hp) (a b : Int) : (bx h a b).c = h.c + 1 := rfl
noncomputable def e7 (e : Env) (a b : Int) : Env := (((((((((e.put 86 (some (.agg [U a, U b]))).put 87 (some (.tup [I 0, I 11]))).put 85 (some (.tup [I 0, I 11]))).put 88 (some (I 0))).put 89 (some (I 11))).put 11 (some (I 0))).put 12 (some (I 11))).put 90 (some (.agg [U a, U b]))).put 91 (some (I 10))).put 13 (some (I 10))
noncomputable def h7 (h : Hp) (a b : Int) : Hp := bx (bx (bx h a b) a b) a b
set_option maxHeartbeats 2000000 in
theorem mid7 {Q : AEx → Env → Hp → Prop} (e : Env) (h : Hp) (nm n1 : Nat) (a b : Int) (ha : 0 ≤ a) (ha' : a < 4294967296) (e1 : e.get 1 = some (.ptr n1 0)) (e10 : e.get 10 = some (.ptr nm 0))
    (hl : nm < h.c) (hn : n1 < h.c) (hm : h.m.get nm = some zarena) (hl1 : Abs.load h n1 0 2 = some [U a, U b])
    (hk : Wc (codeA ctx all8 5000 4990 (restC 10 (bodyOf Try.f7)) (e7 e a b) (h7 h a b)) Q) :
    Wc (codeA ctx all8 5000 4992 (restC 8 (bodyOf Try.f7)) e h) Q := by
  have q26 : all8 26 [.ptr nm 0, .agg [U a, U b]] h = some (.tup [I 0, I 11], bx (bx h a b) a b) := c26 6 h nm a b hl hm ha ha'
  have l1 : nm < (bx h a b).c := by rw [bx_c]; omega
  have l2 : nm < (bx (bx h a b) a b).c := by rw [bx_c, bx_c]; omega
  have m2 := bx_get _ nm a b l1 (bx_get h nm a b hl hm)
  have q17 : all8 17 [.ptr nm 0, .agg [U a, U b], I 1] (bx (bx h a b) a b) = some (I 10, bx (bx (bx h a b) a b) a b) := c17 7 _ nm a b l2 m2 1 ha ha'
  have hl2 : Abs.load (bx (bx h a b) a b) n1 0 2 = some [U a, U b] := by
    rw [bx_load _ _ _ _ _ _ (by rw [bx_c]; omega), bx_load _ _ _ _ _ _ hn, hl1]
  simp only [U, I] at q26 q17 hl1 hl2
  unfold bodyOf Try.f7
  dsimp only [restC]
  refine wc_seq ?_
  (refine wc_region rfl ?_; simp only [oUn_not, beq_self_eq_true, eq_self, pv_mul, List.toList_toArray, opsA_cons, opsA_nil, wantedA, guardA, yieldA, stepA_t, stepA_f, callA, calleeA, targetA, runOp_c, runOp_n, opA, ev, evs, evo, consO, consOO, withH, pickA, afterA_s, putA, T.get_put, Nat.reduceEqDiff, reduceIte, List.getElem?_toArray, List.getElem?_cons_zero, List.getElem?_cons_succ, oBuiltin, oBin, binA, binG, binL, aggO, litA, intA, ltF_eq, eqF_eq, oIndexAddr, cond_true, cond_false, Bool.not_true, Bool.not_false, decide_true, decide_false, blt_eq, tt_beq, tf_beq, ft_beq, ff_beq, Bool.and_true, Bool.true_and, Option.some.injEq, I, Bo, addI, subI, oExtract, Bool.not_eq_true', ite_true, ite_false, fieldAddrA, oFieldAddr, oLoad, oStore, allocA, boxA, isAggD, aggH, oneH, skipH, newBlk, load_mk, store_h, ldO_s, ldO_h, stO_s, Nat.add_eq_left, Nat.left_eq_add, Nat.succ_ne_self, fieldA, partA, setCells_cons, setCells_nil, cellsOf, litCells_cons, litCells_nil, List.length_cons, List.length_nil, Nat.reduceAdd, Nat.zero_add, Nat.add_zero, Nat.mul_one, Nat.reduceMul, nbeq_self, known_s, known_zero, getCells1, getCells2, onesA_cons', onesA_nil, oneA, Value.oneCell', Nat.reduceLT, ty2, ti2, ty3, ti3, ty4, ti4, ty5, ti5, ty24, ti24, ty40, ti40, ty42, ti42, ty47, ti47, ty58, ti58, ty60, ti60, ty77, ti77, e1, e10, q26, q17, hl1, hl2, U, oConv, convA, eqA, eqD, eqOp, nilCheckA]; refine ⟨_, _, rfl, ?_⟩)
  refine wc_seq ?_
  (refine wc_region rfl ?_; simp only [oUn_not, beq_self_eq_true, eq_self, pv_mul, List.toList_toArray, opsA_cons, opsA_nil, wantedA, guardA, yieldA, stepA_t, stepA_f, callA, calleeA, targetA, runOp_c, runOp_n, opA, ev, evs, evo, consO, consOO, withH, pickA, afterA_s, putA, T.get_put, Nat.reduceEqDiff, reduceIte, List.getElem?_toArray, List.getElem?_cons_zero, List.getElem?_cons_succ, oBuiltin, oBin, binA, binG, binL, aggO, litA, intA, ltF_eq, eqF_eq, oIndexAddr, cond_true, cond_false, Bool.not_true, Bool.not_false, decide_true, decide_false, blt_eq, tt_beq, tf_beq, ft_beq, ff_beq, Bool.and_true, Bool.true_and, Option.some.injEq, I, Bo, addI, subI, oExtract, Bool.not_eq_true', ite_true, ite_false, fieldAddrA, oFieldAddr, oLoad, oStore, allocA, boxA, isAggD, aggH, oneH, skipH, newBlk, load_mk, store_h, ldO_s, ldO_h, stO_s, Nat.add_eq_left, Nat.left_eq_add, Nat.succ_ne_self, fieldA, partA, setCells_cons, setCells_nil, cellsOf, litCells_cons, litCells_nil, List.length_cons, List.length_nil, Nat.reduceAdd, Nat.zero_add, Nat.add_zero, Nat.mul_one, Nat.reduceMul, nbeq_self, known_s, known_zero, getCells1, getCells2, onesA_cons', onesA_nil, oneA, Value.oneCell', Nat.reduceLT, ty2, ti2, ty3, ti3, ty4, ti4, ty5, ti5, ty24, ti24, ty40, ti40, ty42, ti42, ty47, ti47, ty58, ti58, ty60, ti60, ty77, ti77, e1, e10, q26, q17, hl1, hl2, U, oConv, convA, eqA, eqD, eqOp, nilCheckA]; refine ⟨_, _, rfl, ?_⟩)
  exact hk
/-- all but the last four regions -/
noncomputable def r7 (a b : Int) : Option (AEx × Env × Hp) := codeA ctx all8 5000 (4992 + 8) (cutC 8 (bodyOf Try.f7)) (enterEnv [.agg [U a, U b]] Try.f7.ntmps) h0
set_option maxRecDepth 100000 in
theorem p7 (a b : Int) : r7 a b = some (.normal, envOf (r7 a b), hpOf (r7 a b)) := by kernel_rfl
def nOf : Option AV → Nat
  | some (.ptr n _) => n
  | _ => 0
noncomputable def nmA (a b : Int) : Nat := nOf ((envOf (r7 a b)).get 10)
noncomputable def n1A (a b : Int) : Nat := nOf ((envOf (r7 a b)).get 1)
set_option maxRecDepth 100000 in
theorem g7 (a b : Int) : (envOf (r7 a b)).get 1 = some (.ptr (n1A a b) 0) ∧ (envOf (r7 a b)).get 10 = some (.ptr (nmA a b) 0) ∧ Nat.blt (nmA a b) (hpOf (r7 a b)).c = true ∧ Nat.blt (n1A a b) (hpOf (r7 a b)).c = true ∧
    (hpOf (r7 a b)).m.get (nmA a b) = some zarena ∧ Abs.load (hpOf (r7 a b)) (n1A a b) 0 2 = some [U a, U b] :=
  ⟨by kernel_rfl, by kernel_rfl, by kernel_rfl, by kernel_rfl, by kernel_rfl, by kernel_rfl⟩
set_option maxRecDepth 100000 in
theorem k7 (a b : Int) : isTrue (returnA ctx Try.f7.results.toList (codeA ctx all8 5000 4990 (restC 10 (bodyOf Try.f7)) (e7 (envOf (r7 a b)) a b) (h7 (hpOf (r7 a b)) a b))) = true := by kernel_rfl
theorem wc_true {rs : List ResultVar} {c : Option (AEx × Env × Hp)} (h : isTrue (returnA ctx rs c) = true) : Wc c fun x e h => Wv (returnA ctx rs (some (x, e, h))) fun v _ => v = Bo true := by
  cases c with
  | none => cases h
  | some q =>
    obtain ⟨x, e, h2⟩ := q
    obtain ⟨h', hh⟩ := isTrue_some h
    exact ⟨x, e, h2, rfl, _, h', hh, rfl⟩
def Inu (a : Int) : Prop := 0 ≤ a ∧ a ≤ 4294967295
theorem nil_law (a b : Int) (ra : Inu a) (rb : Inu b) : Wv (funA ctx all8 5000 [.agg [U a, U b]] h0 (ctx.funs.get 7)) (fun v _ => v = Bo true) := by
  refine wv_fun fn7 rfl ?_
  obtain ⟨g1, g2, g3, g4, g5, g6⟩ := g7 a b
  obtain ⟨ra1, ra2⟩ := ra
  exact wc_cutk 8 4992 _ _ _ _ _ (p7 a b) (mid7 _ _ _ _ a b ra1 (by omega) g1 g2 (Nat.blt_eq.mp g3) (Nat.blt_eq.mp g4) g5 g6 (wc_true (k7 a b)))

end Go.Proofs.Ytmjemalnkchcoaa
