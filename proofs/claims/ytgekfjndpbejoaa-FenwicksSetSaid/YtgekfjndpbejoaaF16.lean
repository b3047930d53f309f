import Derived.Test.YtgekfjndpbejoaaF15
import Derived.KernelRfl
namespace Go.Proofs.Ytgekfjndpbejoaa
open Go Go.Proofs Go.RowKit
set_option linter.unusedSimpArgs false
set_option linter.unusedVariables false
open Go.Proofs.Abs
/-- a part of a text -/
def subC : List Bool → Code → Code
  | [], c => c
  | b :: l, .seq x y => subC l (cond b y x)
  | b :: l, .cond _ x y => subC l (cond b y x)
  | _ :: l, .block _ x => subC l x
  | _ :: l, .loop x => subC l x
  | _ :: l, .scope x => subC l x
  | _, c => c
def bodyC (fn : Func) : Code := fn.body.getD .skip
/-- a slice of pairs of numbers -/
def IsP (h : Hp) (v : AV) (ps : List (Int × Int)) : Prop := (v = nilS ∧ ps = []) ∨ ∃ nm off rest cap z, v = .slice nm off ps.length rest cap z ∧ nm < h.c ∧ ∀ (k : Nat) p, ps[k]? = some p → Abs.load h nm (off + k * 2) 1 = some [I p.1] ∧ Abs.load h nm (off + k * 2 + 1) 1 = some [I p.2]
theorem lenP {h : Hp} {v : AV} {ps : List (Int × Int)} (r : IsP h v ps) (h' : Hp) : builtinA ctx h' .len [44] [v] = some (I (ps.length : Int), h') := by
  rcases r with ⟨rfl, rfl⟩ | ⟨nm, off, rest, cap, z, rfl, _⟩
  · simp only [builtinA, ty44, ti44]
    rfl
  · simp only [builtinA, ty44, ti44]
theorem atP {h : Hp} {v : AV} {ps : List (Int × Int)} (r : IsP h v ps) {k : Nat} {p : Int × Int} (hp : ps[k]? = some p) :
    ∃ nm o, indexAddrA ctx 44 v (I (Int.ofNat k)) = some (.ptr nm o) ∧ ∀ h', Ext h h' → Abs.load h' nm o 1 = some [I p.1] ∧ Abs.load h' nm (o + 1) 1 = some [I p.2] := by
  rcases r with ⟨rfl, rfl⟩ | ⟨nm, off, rest, cap, z, rfl, h2, h3⟩
  · cases hp
  · have hk := (List.getElem?_eq_some_iff.1 hp).1
    refine ⟨nm, off + k * 2, ?_, fun h' a => ?_⟩
    · have hs : ti48.size = 2 := rfl
      simp only [indexAddrA, ty44, ti44, ty48, hs]
      rw [show Nat.blt k ps.length = true from by simpa using hk]
      rfl
    · rw [load_ext a h2, load_ext a h2]
      exact h3 k p hp
theorem IsL_lt {h : Hp} {v : AV} {xs : List AV} (r : IsL h v xs) {n : Nat} (hn : nmO v = some n) : n < h.c := by
  rcases r with ⟨rfl, _⟩ | ⟨nm, off, rest, cap, z, rfl, h2, _⟩
  · cases hn
  · cases hn; exact h2
/-- the state of the law's loop -/
def Inv6 (h : Hp) (u : AV) (ps : List (Int × Int)) (nm na nb len : Nat) (m : Nat) (e : Env) (h' : Hp) : Prop := ∃ k w cur, m = ps.length - k ∧ k ≤ ps.length ∧ e.get 1 = some u ∧ e.get 5 = some (.ptr nm 0) ∧ e.get 7 = some w ∧ e.get 8 = some (I (Int.ofNat k)) ∧
  Ext h h' ∧ Tr h' nm na nb cur ∧ V cur ∧ cur.length = len ∧ IsL h' w (cur.map I) ∧ ∀ n, nmO w = some n → ¬ Of nm na nb n
theorem p22 (h : Hp) (v : AV) (xs : List Int) (i y : Int) (hv : IsL h v (xs.map I)) (hV : V xs) (hn : xs.length ≤ 4096) : Wv (all8 22 [v, I i, I y] h) (fun r h' => ∃ w, r = .tup [w, I (setE xs i y)] ∧ Ext h h' ∧ IsL h' w ((setL xs i y).map I) ∧ (w = v ∨ ∃ n, nmO w = some n ∧ h.c ≤ n)) := by
  unfold all8
  rw [plus_not rfl]
  refine (c22 6 h v xs i y hv hV hn).mono fun r h' hq => ?_
  obtain ⟨hx, w, hr, h1⟩ := hq
  exact ⟨w, hr, hx, h1⟩
theorem p23 (h : Hp) (nm na nb : Nat) (xs : List Int) (i y : Int) (t : Tr h nm na nb xs) (v : V xs) (hn : xs.length ≤ 128) : Wv (all8 23 [.ptr nm 0, I i, I y] h) (fun r h' => r = I (setE xs i y) ∧ Tr h' nm na nb (setL xs i y) ∧ Fr (Of nm na nb) h h') := by
  unfold all8
  rw [plus_not rfl]
  exact c23 4 h nm na nb xs i y t v hn
theorem rem_n {k n : Nat} : pureV (binOp .rem 3 (.int .i64 (Int.ofNat k)) (.int .i64 ((n + 1 : Nat) : Int))) = some (I (Int.ofNat (k % (n + 1)))) := by
  rw [pv_rem 3 (by omega)]
  rfl
set_option maxHeartbeats 4000000 in
theorem set_round (h h' : Hp) (u : AV) (ps : List (Int × Int)) (nm na nb len k : Nat) (e : Env) (hu : IsP h u ps) (hlen : len ≤ 40) (hps : ps.length ≤ 40) (hb1 : h.c ≤ nm ∧ h.c ≤ na ∧ h.c ≤ nb) (hinv : Inv6 h u ps nm na nb len (ps.length - k) e h') (hlt : k < ps.length) (e8 : e.get 8 = some (I (Int.ofNat k))) :
    Wc (codeA ctx (all8) 5000 4991 (subC [true, true, true, true, true, false, true, false, false] (bodyC Try.f6)) e h') (fun x e h2 => x = .normal ∧ ∃ m, m < ps.length - k ∧ Inv6 h u ps nm na nb len m e h2) := by
  obtain ⟨k', w, cur, hk', hk, e1, e5, e7, e8', hxh, t, hV, hcl, hw, hnw⟩ := hinv
  obtain rfl : k' = k := by omega
  clear e8'
  have hl := lenP hu
  have c0 : decide (Int.ofNat k' < (ps.length : Int)) = true := by simp; omega
  have hk1 : IntKind.wrap .i64 (Int.ofNat k' + 1) = Int.ofNat (k' + 1) := inc (by omega)
  obtain ⟨p, hp⟩ := at_some hlt
  obtain ⟨pn, po, hix, hld⟩ := atP hu hp
  have l1 := (hld h' hxh).1
  have l2 := (hld h' hxh).2
  have q22 := p22 h' w cur p.1 p.2 hw hV (by omega)
  unfold bodyC Try.f6
  dsimp only [subC, Option.getD, cond]
  repeat' (first
    | refine wc_seq ?_
    | (refine wc_region rfl ?_; simp only [oUn_not, beq_self_eq_true, eq_self, pv_mul, List.toList_toArray, opsA_cons, opsA_nil, wantedA, guardA, yieldA, stepA_t, stepA_f, callA, calleeA, targetA, runOp_c, runOp_n, opA, ev, evs, evo, consO, consOO, withH, pickA, afterA_s, putA, T.get_put, Nat.reduceEqDiff, reduceIte, List.getElem?_toArray, List.getElem?_cons_zero, List.getElem?_cons_succ, oBuiltin, oBin, binA, binG, binL, aggO, litA, intA, ltF_eq, eqF_eq, oIndexAddr, cond_true, cond_false, Bool.not_true, Bool.not_false, decide_true, decide_false, blt_eq, tt_beq, tf_beq, ft_beq, ff_beq, Bool.and_true, Bool.true_and, Option.some.injEq, I, Bo, addI, subI, oExtract, Bool.not_eq_true', fieldAddrA, oFieldAddr, oLoad, oStore, isAggD, aggH, oneH, skipH, Nat.add_eq_left, Nat.left_eq_add, Nat.succ_ne_self, fieldA, partA, cellsOf, List.length_cons, List.length_nil, Nat.reduceAdd, Nat.zero_add, Nat.add_zero, Nat.mul_one, Nat.reduceMul, nbeq_self, onesA_cons', onesA_nil, oneA, Value.oneCell', Nat.reduceLT, ty2, ti2, ty3, ti3, ty22, ti22, ty25, ti25, ty26, ti26, ty44, ti44, ty48, ti48, e1, e5, e7, e8, hl, c0, hk1, hix, l1, l2, eqA, eqD, eqOp, nilCheckA]; refine ⟨_, _, rfl, ?_⟩)
    | (refine wc_cond (by simp only [oUn_not, beq_self_eq_true, eq_self, pv_mul, List.toList_toArray, opsA_cons, opsA_nil, wantedA, guardA, yieldA, stepA_t, stepA_f, callA, calleeA, targetA, runOp_c, runOp_n, opA, ev, evs, evo, consO, consOO, withH, pickA, afterA_s, putA, T.get_put, Nat.reduceEqDiff, reduceIte, List.getElem?_toArray, List.getElem?_cons_zero, List.getElem?_cons_succ, oBuiltin, oBin, binA, binG, binL, aggO, litA, intA, ltF_eq, eqF_eq, oIndexAddr, cond_true, cond_false, Bool.not_true, Bool.not_false, decide_true, decide_false, blt_eq, tt_beq, tf_beq, ft_beq, ff_beq, Bool.and_true, Bool.true_and, Option.some.injEq, I, Bo, addI, subI, oExtract, Bool.not_eq_true', fieldAddrA, oFieldAddr, oLoad, oStore, isAggD, aggH, oneH, skipH, Nat.add_eq_left, Nat.left_eq_add, Nat.succ_ne_self, fieldA, partA, cellsOf, List.length_cons, List.length_nil, Nat.reduceAdd, Nat.zero_add, Nat.add_zero, Nat.mul_one, Nat.reduceMul, nbeq_self, onesA_cons', onesA_nil, oneA, Value.oneCell', Nat.reduceLT, ty2, ti2, ty3, ti3, ty22, ti22, ty25, ti25, ty26, ti26, ty44, ti44, ty48, ti48, e1, e5, e7, e8, hl, c0, hk1, hix, l1, l2, eqA, eqD, eqOp, nilCheckA]; rfl) ?_ ?_ <;> intro hb <;> first | (exfalso; exact Bool.noConfusion hb) | skip)
    | refine wc_block ?_
    | refine wc_skip ?_
    | refine wc_scope (by decide) ?_
    | refine wc_label ?_
    | refine wc_exit ?_
    | refine wc_ret ?_
    | refine wv_ret (by simp only [resA, resOne]; simp only [oUn_not, beq_self_eq_true, eq_self, pv_mul, List.toList_toArray, opsA_cons, opsA_nil, wantedA, guardA, yieldA, stepA_t, stepA_f, callA, calleeA, targetA, runOp_c, runOp_n, opA, ev, evs, evo, consO, consOO, withH, pickA, afterA_s, putA, T.get_put, Nat.reduceEqDiff, reduceIte, List.getElem?_toArray, List.getElem?_cons_zero, List.getElem?_cons_succ, oBuiltin, oBin, binA, binG, binL, aggO, litA, intA, ltF_eq, eqF_eq, oIndexAddr, cond_true, cond_false, Bool.not_true, Bool.not_false, decide_true, decide_false, blt_eq, tt_beq, tf_beq, ft_beq, ff_beq, Bool.and_true, Bool.true_and, Option.some.injEq, I, Bo, addI, subI, oExtract, Bool.not_eq_true', fieldAddrA, oFieldAddr, oLoad, oStore, isAggD, aggH, oneH, skipH, Nat.add_eq_left, Nat.left_eq_add, Nat.succ_ne_self, fieldA, partA, cellsOf, List.length_cons, List.length_nil, Nat.reduceAdd, Nat.zero_add, Nat.add_zero, Nat.mul_one, Nat.reduceMul, nbeq_self, onesA_cons', onesA_nil, oneA, Value.oneCell', Nat.reduceLT, ty2, ti2, ty3, ti3, ty22, ti22, ty25, ti25, ty26, ti26, ty44, ti44, ty48, ti48, e1, e5, e7, e8, hl, c0, hk1, hix, l1, l2, eqA, eqD, eqOp, nilCheckA]; rfl) ?_)
  (refine wc_region rfl ?_; simp only [oUn_not, beq_self_eq_true, eq_self, pv_mul, List.toList_toArray, opsA_cons, opsA_nil, wantedA, guardA, yieldA, stepA_t, stepA_f, callA, calleeA, targetA, runOp_c, runOp_n, opA, ev, evs, evo, consO, consOO, withH, pickA, afterA_s, putA, T.get_put, Nat.reduceEqDiff, reduceIte, List.getElem?_toArray, List.getElem?_cons_zero, List.getElem?_cons_succ, oBuiltin, oBin, binA, binG, binL, aggO, litA, intA, ltF_eq, eqF_eq, oIndexAddr, cond_true, cond_false, Bool.not_true, Bool.not_false, decide_true, decide_false, blt_eq, tt_beq, tf_beq, ft_beq, ff_beq, Bool.and_true, Bool.true_and, Option.some.injEq, I, Bo, addI, subI, oExtract, Bool.not_eq_true', fieldAddrA, oFieldAddr, oLoad, oStore, isAggD, aggH, oneH, skipH, Nat.add_eq_left, Nat.left_eq_add, Nat.succ_ne_self, fieldA, partA, cellsOf, List.length_cons, List.length_nil, Nat.reduceAdd, Nat.zero_add, Nat.add_zero, Nat.mul_one, Nat.reduceMul, nbeq_self, onesA_cons', onesA_nil, oneA, Value.oneCell', Nat.reduceLT, ty2, ti2, ty3, ti3, ty22, ti22, ty25, ti25, ty26, ti26, ty44, ti44, ty48, ti48, e1, e5, e7, e8, hl, c0, hk1, hix, l1, l2, eqA, eqD, eqOp, nilCheckA]; refine wo_call (q22) ?_; rintro _ h2 ⟨w2, rfl, hx2, hw2, hww⟩; simp only [oUn_not, beq_self_eq_true, eq_self, pv_mul, List.toList_toArray, opsA_cons, opsA_nil, wantedA, guardA, yieldA, stepA_t, stepA_f, callA, calleeA, targetA, runOp_c, runOp_n, opA, ev, evs, evo, consO, consOO, withH, pickA, afterA_s, putA, T.get_put, Nat.reduceEqDiff, reduceIte, List.getElem?_toArray, List.getElem?_cons_zero, List.getElem?_cons_succ, oBuiltin, oBin, binA, binG, binL, aggO, litA, intA, ltF_eq, eqF_eq, oIndexAddr, cond_true, cond_false, Bool.not_true, Bool.not_false, decide_true, decide_false, blt_eq, tt_beq, tf_beq, ft_beq, ff_beq, Bool.and_true, Bool.true_and, Option.some.injEq, I, Bo, addI, subI, oExtract, Bool.not_eq_true', fieldAddrA, oFieldAddr, oLoad, oStore, isAggD, aggH, oneH, skipH, Nat.add_eq_left, Nat.left_eq_add, Nat.succ_ne_self, fieldA, partA, cellsOf, List.length_cons, List.length_nil, Nat.reduceAdd, Nat.zero_add, Nat.add_zero, Nat.mul_one, Nat.reduceMul, nbeq_self, onesA_cons', onesA_nil, oneA, Value.oneCell', Nat.reduceLT, ty2, ti2, ty3, ti3, ty22, ti22, ty25, ti25, ty26, ti26, ty44, ti44, ty48, ti48, e1, e5, e7, e8, hl, c0, hk1, hix, l1, l2, eqA, eqD, eqOp, nilCheckA]; refine ⟨_, _, rfl, ?_⟩)
  have l3 := (hld h2 (hxh.trans hx2)).1
  have l4 := (hld h2 (hxh.trans hx2)).2
  have t2 := t.ext hx2
  have q23 := p23 h2 nm na nb cur p.1 p.2 t2 hV (by omega)
  have hnw2 : ∀ n, nmO w2 = some n → ¬ Of nm na nb n := by
    rcases hww with rfl | ⟨n, hn, hn2⟩
    · exact hnw
    · intro n' hn' ho
      rw [hn] at hn'
      cases hn'
      have a1 := t.lm
      have a2 := t.la
      have a3 := t.lb
      rcases ho with h1 | h1 | h1 <;> omega
  repeat' (first
    | refine wc_seq ?_
    | (refine wc_region rfl ?_; simp only [oUn_not, beq_self_eq_true, eq_self, pv_mul, List.toList_toArray, opsA_cons, opsA_nil, wantedA, guardA, yieldA, stepA_t, stepA_f, callA, calleeA, targetA, runOp_c, runOp_n, opA, ev, evs, evo, consO, consOO, withH, pickA, afterA_s, putA, T.get_put, Nat.reduceEqDiff, reduceIte, List.getElem?_toArray, List.getElem?_cons_zero, List.getElem?_cons_succ, oBuiltin, oBin, binA, binG, binL, aggO, litA, intA, ltF_eq, eqF_eq, oIndexAddr, cond_true, cond_false, Bool.not_true, Bool.not_false, decide_true, decide_false, blt_eq, tt_beq, tf_beq, ft_beq, ff_beq, Bool.and_true, Bool.true_and, Option.some.injEq, I, Bo, addI, subI, oExtract, Bool.not_eq_true', fieldAddrA, oFieldAddr, oLoad, oStore, isAggD, aggH, oneH, skipH, Nat.add_eq_left, Nat.left_eq_add, Nat.succ_ne_self, fieldA, partA, cellsOf, List.length_cons, List.length_nil, Nat.reduceAdd, Nat.zero_add, Nat.add_zero, Nat.mul_one, Nat.reduceMul, nbeq_self, onesA_cons', onesA_nil, oneA, Value.oneCell', Nat.reduceLT, ty2, ti2, ty3, ti3, ty22, ti22, ty25, ti25, ty26, ti26, ty44, ti44, ty48, ti48, e1, e5, e7, e8, hl, c0, hk1, hix, l3, l4, eqA, eqD, eqOp, nilCheckA]; refine ⟨_, _, rfl, ?_⟩)
    | (refine wc_cond (by simp only [oUn_not, beq_self_eq_true, eq_self, pv_mul, List.toList_toArray, opsA_cons, opsA_nil, wantedA, guardA, yieldA, stepA_t, stepA_f, callA, calleeA, targetA, runOp_c, runOp_n, opA, ev, evs, evo, consO, consOO, withH, pickA, afterA_s, putA, T.get_put, Nat.reduceEqDiff, reduceIte, List.getElem?_toArray, List.getElem?_cons_zero, List.getElem?_cons_succ, oBuiltin, oBin, binA, binG, binL, aggO, litA, intA, ltF_eq, eqF_eq, oIndexAddr, cond_true, cond_false, Bool.not_true, Bool.not_false, decide_true, decide_false, blt_eq, tt_beq, tf_beq, ft_beq, ff_beq, Bool.and_true, Bool.true_and, Option.some.injEq, I, Bo, addI, subI, oExtract, Bool.not_eq_true', fieldAddrA, oFieldAddr, oLoad, oStore, isAggD, aggH, oneH, skipH, Nat.add_eq_left, Nat.left_eq_add, Nat.succ_ne_self, fieldA, partA, cellsOf, List.length_cons, List.length_nil, Nat.reduceAdd, Nat.zero_add, Nat.add_zero, Nat.mul_one, Nat.reduceMul, nbeq_self, onesA_cons', onesA_nil, oneA, Value.oneCell', Nat.reduceLT, ty2, ti2, ty3, ti3, ty22, ti22, ty25, ti25, ty26, ti26, ty44, ti44, ty48, ti48, e1, e5, e7, e8, hl, c0, hk1, hix, l3, l4, eqA, eqD, eqOp, nilCheckA]; rfl) ?_ ?_ <;> intro hb <;> first | (exfalso; exact Bool.noConfusion hb) | skip)
    | refine wc_block ?_
    | refine wc_skip ?_
    | refine wc_scope (by decide) ?_
    | refine wc_label ?_
    | refine wc_exit ?_
    | refine wc_ret ?_
    | refine wv_ret (by simp only [resA, resOne]; simp only [oUn_not, beq_self_eq_true, eq_self, pv_mul, List.toList_toArray, opsA_cons, opsA_nil, wantedA, guardA, yieldA, stepA_t, stepA_f, callA, calleeA, targetA, runOp_c, runOp_n, opA, ev, evs, evo, consO, consOO, withH, pickA, afterA_s, putA, T.get_put, Nat.reduceEqDiff, reduceIte, List.getElem?_toArray, List.getElem?_cons_zero, List.getElem?_cons_succ, oBuiltin, oBin, binA, binG, binL, aggO, litA, intA, ltF_eq, eqF_eq, oIndexAddr, cond_true, cond_false, Bool.not_true, Bool.not_false, decide_true, decide_false, blt_eq, tt_beq, tf_beq, ft_beq, ff_beq, Bool.and_true, Bool.true_and, Option.some.injEq, I, Bo, addI, subI, oExtract, Bool.not_eq_true', fieldAddrA, oFieldAddr, oLoad, oStore, isAggD, aggH, oneH, skipH, Nat.add_eq_left, Nat.left_eq_add, Nat.succ_ne_self, fieldA, partA, cellsOf, List.length_cons, List.length_nil, Nat.reduceAdd, Nat.zero_add, Nat.add_zero, Nat.mul_one, Nat.reduceMul, nbeq_self, onesA_cons', onesA_nil, oneA, Value.oneCell', Nat.reduceLT, ty2, ti2, ty3, ti3, ty22, ti22, ty25, ti25, ty26, ti26, ty44, ti44, ty48, ti48, e1, e5, e7, e8, hl, c0, hk1, hix, l3, l4, eqA, eqD, eqOp, nilCheckA]; rfl) ?_)
  (refine wc_region rfl ?_; simp only [oUn_not, beq_self_eq_true, eq_self, pv_mul, List.toList_toArray, opsA_cons, opsA_nil, wantedA, guardA, yieldA, stepA_t, stepA_f, callA, calleeA, targetA, runOp_c, runOp_n, opA, ev, evs, evo, consO, consOO, withH, pickA, afterA_s, putA, T.get_put, Nat.reduceEqDiff, reduceIte, List.getElem?_toArray, List.getElem?_cons_zero, List.getElem?_cons_succ, oBuiltin, oBin, binA, binG, binL, aggO, litA, intA, ltF_eq, eqF_eq, oIndexAddr, cond_true, cond_false, Bool.not_true, Bool.not_false, decide_true, decide_false, blt_eq, tt_beq, tf_beq, ft_beq, ff_beq, Bool.and_true, Bool.true_and, Option.some.injEq, I, Bo, addI, subI, oExtract, Bool.not_eq_true', fieldAddrA, oFieldAddr, oLoad, oStore, isAggD, aggH, oneH, skipH, Nat.add_eq_left, Nat.left_eq_add, Nat.succ_ne_self, fieldA, partA, cellsOf, List.length_cons, List.length_nil, Nat.reduceAdd, Nat.zero_add, Nat.add_zero, Nat.mul_one, Nat.reduceMul, nbeq_self, onesA_cons', onesA_nil, oneA, Value.oneCell', Nat.reduceLT, ty2, ti2, ty3, ti3, ty22, ti22, ty25, ti25, ty26, ti26, ty44, ti44, ty48, ti48, e1, e5, e7, e8, hl, c0, hk1, hix, l3, l4, eqA, eqD, eqOp, nilCheckA]; refine wo_call (q23) ?_; rintro _ h3 ⟨rfl, t3, f3⟩; simp only [oUn_not, beq_self_eq_true, eq_self, pv_mul, List.toList_toArray, opsA_cons, opsA_nil, wantedA, guardA, yieldA, stepA_t, stepA_f, callA, calleeA, targetA, runOp_c, runOp_n, opA, ev, evs, evo, consO, consOO, withH, pickA, afterA_s, putA, T.get_put, Nat.reduceEqDiff, reduceIte, List.getElem?_toArray, List.getElem?_cons_zero, List.getElem?_cons_succ, oBuiltin, oBin, binA, binG, binL, aggO, litA, intA, ltF_eq, eqF_eq, oIndexAddr, cond_true, cond_false, Bool.not_true, Bool.not_false, decide_true, decide_false, blt_eq, tt_beq, tf_beq, ft_beq, ff_beq, Bool.and_true, Bool.true_and, Option.some.injEq, I, Bo, addI, subI, oExtract, Bool.not_eq_true', fieldAddrA, oFieldAddr, oLoad, oStore, isAggD, aggH, oneH, skipH, Nat.add_eq_left, Nat.left_eq_add, Nat.succ_ne_self, fieldA, partA, cellsOf, List.length_cons, List.length_nil, Nat.reduceAdd, Nat.zero_add, Nat.add_zero, Nat.mul_one, Nat.reduceMul, nbeq_self, onesA_cons', onesA_nil, oneA, Value.oneCell', Nat.reduceLT, ty2, ti2, ty3, ti3, ty22, ti22, ty25, ti25, ty26, ti26, ty44, ti44, ty48, ti48, e1, e5, e7, e8, hl, c0, hk1, hix, l3, l4, eqA, eqD, eqOp, nilCheckA]; refine ⟨_, _, rfl, ?_⟩)
  have hx3 : Ext h h3 := Fr.from (hxh.trans hx2) f3 (fun n ho => by rcases ho with h1 | h1 | h1 <;> omega)
  have hw3 := IsL_fr hw2 f3 hnw2
  have hV3 := setL_v (i := p.1) (y := p.2) hV
  have hc3 := setL_len cur p.1 p.2
  have hlw := lenL hw3
  rw [hc3, hcl] at hlw
  have hm : k' % (len + 1) ≤ len := by have := Nat.mod_lt k' (show 0 < len + 1 by omega); omega
  have wl : IntKind.wrap .i64 ((len : Int) + 1) = ((len + 1 : Nat) : Int) := by rw [IntKind.wrap_i64]; omega
  have rm := rem_n (k := k') (n := len)
  have q18 : all8 18 [.ptr nm 0, I (Int.ofNat (k' % (len + 1)))] h3 = some (.tup [I (pre (setL cur p.1 p.2) (k' % (len + 1))), I 0], h3) := p18 h3 nm na nb _ (Int.ofNat (k' % (len + 1))) t3 (Int.natCast_nonneg _) (by rw [hc3, hcl]; exact Int.ofNat_le.2 hm) hV3 (by omega)
  have q15 : all8 15 [w2, I (Int.ofNat (k' % (len + 1)))] h3 = some (I (pre (setL cur p.1 p.2) (k' % (len + 1))), h3) := p15 h3 w2 _ (k' % (len + 1)) hw3 (by omega) hV3 (by omega)
  have q15b : all8 15 [w2, I (len : Int)] h3 = some (I (sm (setL cur p.1 p.2)), h3) := by
    have := p15 h3 w2 _ len hw3 (by omega) hV3 (by omega)
    rwa [pre_all (by omega)] at this
  have q14 := p14 h3 nm na nb _ t3
  repeat' (first
    | refine wc_seq ?_
    | (refine wc_region rfl ?_; simp only [oUn_not, beq_self_eq_true, eq_self, pv_mul, List.toList_toArray, opsA_cons, opsA_nil, wantedA, guardA, yieldA, stepA_t, stepA_f, callA, calleeA, targetA, runOp_c, runOp_n, opA, ev, evs, evo, consO, consOO, withH, pickA, afterA_s, putA, T.get_put, Nat.reduceEqDiff, reduceIte, List.getElem?_toArray, List.getElem?_cons_zero, List.getElem?_cons_succ, oBuiltin, oBin, binA, binG, binL, aggO, litA, intA, ltF_eq, eqF_eq, oIndexAddr, cond_true, cond_false, Bool.not_true, Bool.not_false, decide_true, decide_false, blt_eq, tt_beq, tf_beq, ft_beq, ff_beq, Bool.and_true, Bool.true_and, Option.some.injEq, I, Bo, addI, subI, oExtract, Bool.not_eq_true', fieldAddrA, oFieldAddr, oLoad, oStore, isAggD, aggH, oneH, skipH, Nat.add_eq_left, Nat.left_eq_add, Nat.succ_ne_self, fieldA, partA, cellsOf, List.length_cons, List.length_nil, Nat.reduceAdd, Nat.zero_add, Nat.add_zero, Nat.mul_one, Nat.reduceMul, nbeq_self, onesA_cons', onesA_nil, oneA, Value.oneCell', Nat.reduceLT, ty2, ti2, ty3, ti3, ty22, ti22, ty25, ti25, ty26, ti26, ty44, ti44, ty48, ti48, e1, e5, e8, hl, c0, hk1, hlw, wl, rm, q18, q15, q15b, q14, eqA, eqD, eqOp, nilCheckA]; refine ⟨_, _, rfl, ?_⟩)
    | (refine wc_cond (by simp only [oUn_not, beq_self_eq_true, eq_self, pv_mul, List.toList_toArray, opsA_cons, opsA_nil, wantedA, guardA, yieldA, stepA_t, stepA_f, callA, calleeA, targetA, runOp_c, runOp_n, opA, ev, evs, evo, consO, consOO, withH, pickA, afterA_s, putA, T.get_put, Nat.reduceEqDiff, reduceIte, List.getElem?_toArray, List.getElem?_cons_zero, List.getElem?_cons_succ, oBuiltin, oBin, binA, binG, binL, aggO, litA, intA, ltF_eq, eqF_eq, oIndexAddr, cond_true, cond_false, Bool.not_true, Bool.not_false, decide_true, decide_false, blt_eq, tt_beq, tf_beq, ft_beq, ff_beq, Bool.and_true, Bool.true_and, Option.some.injEq, I, Bo, addI, subI, oExtract, Bool.not_eq_true', fieldAddrA, oFieldAddr, oLoad, oStore, isAggD, aggH, oneH, skipH, Nat.add_eq_left, Nat.left_eq_add, Nat.succ_ne_self, fieldA, partA, cellsOf, List.length_cons, List.length_nil, Nat.reduceAdd, Nat.zero_add, Nat.add_zero, Nat.mul_one, Nat.reduceMul, nbeq_self, onesA_cons', onesA_nil, oneA, Value.oneCell', Nat.reduceLT, ty2, ti2, ty3, ti3, ty22, ti22, ty25, ti25, ty26, ti26, ty44, ti44, ty48, ti48, e1, e5, e8, hl, c0, hk1, hlw, wl, rm, q18, q15, q15b, q14, eqA, eqD, eqOp, nilCheckA]; rfl) ?_ ?_ <;> intro hb <;> first | (exfalso; exact Bool.noConfusion hb) | skip)
    | refine wc_block ?_
    | refine wc_skip ?_
    | refine wc_scope (by decide) ?_
    | refine wc_label ?_
    | refine wc_exit ?_
    | refine wc_ret ?_
    | refine wv_ret (by simp only [resA, resOne]; simp only [oUn_not, beq_self_eq_true, eq_self, pv_mul, List.toList_toArray, opsA_cons, opsA_nil, wantedA, guardA, yieldA, stepA_t, stepA_f, callA, calleeA, targetA, runOp_c, runOp_n, opA, ev, evs, evo, consO, consOO, withH, pickA, afterA_s, putA, T.get_put, Nat.reduceEqDiff, reduceIte, List.getElem?_toArray, List.getElem?_cons_zero, List.getElem?_cons_succ, oBuiltin, oBin, binA, binG, binL, aggO, litA, intA, ltF_eq, eqF_eq, oIndexAddr, cond_true, cond_false, Bool.not_true, Bool.not_false, decide_true, decide_false, blt_eq, tt_beq, tf_beq, ft_beq, ff_beq, Bool.and_true, Bool.true_and, Option.some.injEq, I, Bo, addI, subI, oExtract, Bool.not_eq_true', fieldAddrA, oFieldAddr, oLoad, oStore, isAggD, aggH, oneH, skipH, Nat.add_eq_left, Nat.left_eq_add, Nat.succ_ne_self, fieldA, partA, cellsOf, List.length_cons, List.length_nil, Nat.reduceAdd, Nat.zero_add, Nat.add_zero, Nat.mul_one, Nat.reduceMul, nbeq_self, onesA_cons', onesA_nil, oneA, Value.oneCell', Nat.reduceLT, ty2, ti2, ty3, ti3, ty22, ti22, ty25, ti25, ty26, ti26, ty44, ti44, ty48, ti48, e1, e5, e8, hl, c0, hk1, hlw, wl, rm, q18, q15, q15b, q14, eqA, eqD, eqOp, nilCheckA]; rfl) ?_)
  refine ⟨by trivial, ps.length - (k' + 1), by omega, k' + 1, w2, setL cur p.1 p.2, rfl, hlt, ?_, ?_, ?_, ?_, hx3, t3, hV3, by omega, hw3, hnw2⟩ <;> simp only [oUn_not, beq_self_eq_true, eq_self, pv_mul, List.toList_toArray, opsA_cons, opsA_nil, wantedA, guardA, yieldA, stepA_t, stepA_f, callA, calleeA, targetA, runOp_c, runOp_n, opA, ev, evs, evo, consO, consOO, withH, pickA, afterA_s, putA, T.get_put, Nat.reduceEqDiff, reduceIte, List.getElem?_toArray, List.getElem?_cons_zero, List.getElem?_cons_succ, oBuiltin, oBin, binA, binG, binL, aggO, litA, intA, ltF_eq, eqF_eq, oIndexAddr, cond_true, cond_false, Bool.not_true, Bool.not_false, decide_true, decide_false, blt_eq, tt_beq, tf_beq, ft_beq, ff_beq, Bool.and_true, Bool.true_and, Option.some.injEq, I, Bo, addI, subI, oExtract, Bool.not_eq_true', fieldAddrA, oFieldAddr, oLoad, oStore, isAggD, aggH, oneH, skipH, Nat.add_eq_left, Nat.left_eq_add, Nat.succ_ne_self, fieldA, partA, cellsOf, List.length_cons, List.length_nil, Nat.reduceAdd, Nat.zero_add, Nat.add_zero, Nat.mul_one, Nat.reduceMul, nbeq_self, onesA_cons', onesA_nil, oneA, Value.oneCell', Nat.reduceLT, ty2, ti2, ty3, ti3, ty22, ti22, ty25, ti25, ty26, ti26, ty44, ti44, ty48, ti48, e1, e5, e8, hl, c0, hk1, hlw, wl, rm, q18, q15, q15b, q14, eqA, eqD, eqOp, nilCheckA]
end Go.Proofs.Ytgekfjndpbejoaa
