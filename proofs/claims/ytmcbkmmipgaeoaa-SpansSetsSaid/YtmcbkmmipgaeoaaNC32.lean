import Derived.Test.YtmcbkmmipgaeoaaNC11
import Derived.KernelRfl
namespace Go.Proofs.Ytmcbkmmipgaeoaa
open Go Go.Proofs Go.RowKit
set_option linter.unusedSimpArgs false
set_option linter.unusedVariables false
open Go.Proofs.Abs
theorem maxI (a b : Int) : pureV (Builtin.max_ #[] 0 #[.int .i64 a, .int .i64 b]) = some (I (max a b)) := by
  show some (I (if a < b then b else a)) = _
  by_cases h : a < b
  · rw [if_pos h, Int.max_eq_right (by omega)]
  · rw [if_neg h, Int.max_eq_left (by omega)]
theorem minI (a b : Int) : pureV (Builtin.min_ #[] 0 #[.int .i64 a, .int .i64 b]) = some (I (min a b)) := by
  show some (I (if b < a then b else a)) = _
  by_cases h : b < a
  · rw [if_pos h, Int.min_eq_right (by omega)]
  · rw [if_neg h, Int.min_eq_left (by omega)]
theorem build28 (a b : Int) : buildA ctx 28 [(0, I a), (1, I b)] = some (.agg [I a, I b]) := by kernel_rfl
theorem bs22 (h : Hp) (a b : Int) : buildSliceA ctx h 22 1 [(0, .agg [I a, I b])] = some (.slice h.c 0 1 false 1 0, newBlk h [I a, I b] 28 0) := by kernel_rfl
theorem sap0 (h : Hp) (a b : Int) : appendA ctx (newBlk h [I a, I b] 28 0) 22 22 nilS (.slice h.c 0 1 false 1 0) =
    some (.slice (h.c + 1) 0 1 true 0 0, newBlk (newBlk h [I a, I b] 28 0) [I a, I b] 28 2) :=
  append_nil ty22 rfl ty22 rfl ty28 rfl rfl rfl rfl (load_new2 _ _ _ _)
theorem sapk {h : Hp} (a b : Int) {n1 k : Nat} {bk : Blk} (hn : n1 < h.c) (hg : h.m.get n1 = some bk) (h1 : bk.grow = 2) (h2 : bk.n = k * 2) (h3 : bk.elem = 28) (hk : k + 1 ≤ 1048576) :
    appendA ctx (newBlk h [I a, I b] 28 0) 22 22 (.slice n1 0 k true 0 0) (.slice h.c 0 1 false 1 0) =
    some (.slice (h.c + 1) 0 (k + 1) true 0 0, ⟨((newBlk h [I a, I b] 28 0).m.put n1 none).put (h.c + 1) (some ⟨setCells bk.cells bk.n [I a, I b], bk.n + 2, 28, 2⟩), h.c + 1 + 1, h.ro⟩) :=
  append_more ty22 rfl ty22 rfl ty28 rfl rfl rfl rfl (load_new2 _ _ _ _)
    (by show (h.m.put h.c _).get n1 = _; rw [T.get_put, if_neg (by omega)]; exact hg) h1 h2 h3 hk rfl
/-- a set that is being put together: it has memory of its own -/
def Own (h : Hp) (v : AV) (xs : List (Int × Int)) : Prop :=
  (v = nilS ∧ xs = []) ∨ ∃ nm bk, 0 < xs.length ∧ v = .slice nm 0 xs.length true 0 0 ∧ nm < h.c ∧ h.m.get nm = some bk ∧ bk.grow = 2 ∧ bk.elem = 28 ∧ bk.n = xs.length * 2 ∧
    ∀ i a b, xs[i]? = some (a, b) → bk.cells.get (i * 2) = some (I a) ∧ bk.cells.get (i * 2 + 1) = some (I b)
/-- the block of a slice -/
def isAt (n : Nat) : AV → Prop
  | .slice m _ _ _ _ _ => m = n
  | _ => False
/-- what was there, but for the memory of v, is as it was -/
structure ExtB (v : AV) (h h' : Hp) : Prop where
  c : h.c ≤ h'.c
  ro : h'.ro = h.ro
  m : ∀ n, n < h.c → ¬ isAt n v → h'.m.get n = h.m.get n
theorem ExtB.of {v : AV} {h h' : Hp} (a : Ext h h') : ExtB v h h' := ⟨a.c, a.ro, fun n hn _ => a.m n hn⟩
/-- places are added to a set -/
def jn (xs : List (Int × Int)) (f t : Int) : List (Int × Int) :=
  if t ≤ f then xs else match xs.getLast? with
    | none => [(f, t)]
    | some (a, b) => if f ≤ b then xs.dropLast ++ [(a, max b t)] else xs ++ [(f, t)]
theorem jn_snoc (ys : List (Int × Int)) (a b f t : Int) (h : ¬ t ≤ f) : jn (ys ++ [(a, b)]) f t = if f ≤ b then ys ++ [(a, max b t)] else ys ++ [(a, b)] ++ [(f, t)] := by
  unfold jn
  rw [if_neg h]
  simp
theorem fn32 : ctx.funs.get 32 = some Try.f32 := by kernel_rfl
set_option maxHeartbeats 1000000 in
/-- spans.join -/
theorem join_any (d : Nat) (h : Hp) (v : AV) (xs : List (Int × Int)) (f t : Int) (hv : Own h v xs) (hlen : xs.length < 1048576) :
    Wv (runA ctx 5000 (d + 1) 32 [v, I f, I t] h) (fun r h' => Own h' r (jn xs f t) ∧ ExtB v h h' ∧ (r = v ∨ ∀ n, n < h.c → ¬ isAt n r)) := by
  refine wv_run fn32 rfl ?_
  have a0 : (enterEnv [v, I f, I t] Try.f32.ntmps).get 0 = some v := enter_get1 _ _ _
  have a1 : (enterEnv [v, I f, I t] Try.f32.ntmps).get 1 = some (I f) := enter_get2 _ _ _ _
  have a2 : (enterEnv [v, I f, I t] Try.f32.ntmps).get 2 = some (I t) := enter_get3 _ _ _ _ _
  generalize enterEnv _ _ = e at a0 a1 a2 ⊢
  unfold Try.f32
  dsimp only
  by_cases h1 : t ≤ f
  · have h1' : ¬ f < t := by omega
    rw [show jn xs f t = xs from by unfold jn; rw [if_pos h1]]
    repeat' (first
      | refine wc_seq ?_
      | (refine wc_region rfl ?_; simp only [List.toList_toArray, opsA_cons, opsA_nil, wantedA, guardA, yieldA, stepA_t, stepA_f, callA, calleeA, targetA, runOp_c, runOp_n, opA, ev, evs, evo, consO, consOO, withH, pickA, afterA_s, putA, T.get_put, Nat.reduceEqDiff, reduceIte, List.getElem?_toArray, List.getElem?_cons_zero, List.getElem?_cons_succ, oBuiltin, builtinA, oBin, binA, binG, binL, aggO, litA, intA, ltF_eq, eqF_eq, indexAddrA, oIndexAddr, fieldAddrA, oFieldAddr, oLoad, oStore, allocA, isAggD, aggH, oneH, skipH, cond_true, cond_false, ty22, ty25, ty51, ty3, ty4, ty28, ty29, ti22, ti25, ti51, ti3, ti4, ti28, ti29, Bool.not_true, Bool.not_false, decide_true, decide_false, blt_eq, tt_beq, tf_beq, ft_beq, ff_beq, cellsOf, litCells_cons, litCells_nil, List.length_cons, List.length_nil, Nat.reduceAdd, Nat.zero_add, Nat.add_zero, Nat.mul_one, Nat.reduceMul, nbeq_self, known_s, known_zero, getCells1, getCells2, onesA_cons', onesA_nil, oneA, Value.oneCell', Bool.and_true, Bool.true_and, Nat.reduceLT, Option.some.injEq, I, oBuild, oBuildSlice, evParts, consP, build28, bs22, maxI, minI, a0, a1, a2, h1']; refine ⟨_, _, rfl, ?_⟩)
      | (refine wc_cond (by simp only [List.toList_toArray, opsA_cons, opsA_nil, wantedA, guardA, yieldA, stepA_t, stepA_f, callA, calleeA, targetA, runOp_c, runOp_n, opA, ev, evs, evo, consO, consOO, withH, pickA, afterA_s, putA, T.get_put, Nat.reduceEqDiff, reduceIte, List.getElem?_toArray, List.getElem?_cons_zero, List.getElem?_cons_succ, oBuiltin, builtinA, oBin, binA, binG, binL, aggO, litA, intA, ltF_eq, eqF_eq, indexAddrA, oIndexAddr, fieldAddrA, oFieldAddr, oLoad, oStore, allocA, isAggD, aggH, oneH, skipH, cond_true, cond_false, ty22, ty25, ty51, ty3, ty4, ty28, ty29, ti22, ti25, ti51, ti3, ti4, ti28, ti29, Bool.not_true, Bool.not_false, decide_true, decide_false, blt_eq, tt_beq, tf_beq, ft_beq, ff_beq, cellsOf, litCells_cons, litCells_nil, List.length_cons, List.length_nil, Nat.reduceAdd, Nat.zero_add, Nat.add_zero, Nat.mul_one, Nat.reduceMul, nbeq_self, known_s, known_zero, getCells1, getCells2, onesA_cons', onesA_nil, oneA, Value.oneCell', Bool.and_true, Bool.true_and, Nat.reduceLT, Option.some.injEq, I, oBuild, oBuildSlice, evParts, consP, build28, bs22, maxI, minI, a0, a1, a2, h1']; rfl) ?_ ?_ <;> intro hb <;> first | (exfalso; exact Bool.noConfusion hb) | skip)
      | refine wc_block ?_
      | refine wc_skip ?_
      | refine wc_scope (by decide) ?_
      | refine wc_label ?_
      | refine wc_exit ?_
      | refine wc_ret ?_
      | refine wv_ret (by simp only [resA, resOne]; simp only [List.toList_toArray, opsA_cons, opsA_nil, wantedA, guardA, yieldA, stepA_t, stepA_f, callA, calleeA, targetA, runOp_c, runOp_n, opA, ev, evs, evo, consO, consOO, withH, pickA, afterA_s, putA, T.get_put, Nat.reduceEqDiff, reduceIte, List.getElem?_toArray, List.getElem?_cons_zero, List.getElem?_cons_succ, oBuiltin, builtinA, oBin, binA, binG, binL, aggO, litA, intA, ltF_eq, eqF_eq, indexAddrA, oIndexAddr, fieldAddrA, oFieldAddr, oLoad, oStore, allocA, isAggD, aggH, oneH, skipH, cond_true, cond_false, ty22, ty25, ty51, ty3, ty4, ty28, ty29, ti22, ti25, ti51, ti3, ti4, ti28, ti29, Bool.not_true, Bool.not_false, decide_true, decide_false, blt_eq, tt_beq, tf_beq, ft_beq, ff_beq, cellsOf, litCells_cons, litCells_nil, List.length_cons, List.length_nil, Nat.reduceAdd, Nat.zero_add, Nat.add_zero, Nat.mul_one, Nat.reduceMul, nbeq_self, known_s, known_zero, getCells1, getCells2, onesA_cons', onesA_nil, oneA, Value.oneCell', Bool.and_true, Bool.true_and, Nat.reduceLT, Option.some.injEq, I, oBuild, oBuildSlice, evParts, consP, build28, bs22, maxI, minI, a0, a1, a2, h1']; rfl) ?_)
    exact ⟨hv, .of (Ext.refl _), .inl rfl⟩
  have h1' : f < t := by omega
  rcases hv with ⟨rfl, rfl⟩ | ⟨nm, bk, hl0, rfl, hnm, hg, g1, g2, g3, g4⟩
  · have hp := sap0 h f t
    have c0 : decide ((0 : Int) < 0) = false := by decide
    repeat' (first
      | refine wc_seq ?_
      | (refine wc_region rfl ?_; simp only [List.toList_toArray, opsA_cons, opsA_nil, wantedA, guardA, yieldA, stepA_t, stepA_f, callA, calleeA, targetA, runOp_c, runOp_n, opA, ev, evs, evo, consO, consOO, withH, pickA, afterA_s, putA, T.get_put, Nat.reduceEqDiff, reduceIte, List.getElem?_toArray, List.getElem?_cons_zero, List.getElem?_cons_succ, oBuiltin, builtinA, oBin, binA, binG, binL, aggO, litA, intA, ltF_eq, eqF_eq, indexAddrA, oIndexAddr, fieldAddrA, oFieldAddr, oLoad, oStore, allocA, isAggD, aggH, oneH, skipH, cond_true, cond_false, ty22, ty25, ty51, ty3, ty4, ty28, ty29, ti22, ti25, ti51, ti3, ti4, ti28, ti29, Bool.not_true, Bool.not_false, decide_true, decide_false, blt_eq, tt_beq, tf_beq, ft_beq, ff_beq, cellsOf, litCells_cons, litCells_nil, List.length_cons, List.length_nil, Nat.reduceAdd, Nat.zero_add, Nat.add_zero, Nat.mul_one, Nat.reduceMul, nbeq_self, known_s, known_zero, getCells1, getCells2, onesA_cons', onesA_nil, oneA, Value.oneCell', Bool.and_true, Bool.true_and, Nat.reduceLT, Option.some.injEq, I, oBuild, oBuildSlice, evParts, consP, build28, bs22, maxI, minI, a0, a1, a2, h1', hp, c0, ty28]; refine ⟨_, _, rfl, ?_⟩)
      | (refine wc_cond (by simp only [List.toList_toArray, opsA_cons, opsA_nil, wantedA, guardA, yieldA, stepA_t, stepA_f, callA, calleeA, targetA, runOp_c, runOp_n, opA, ev, evs, evo, consO, consOO, withH, pickA, afterA_s, putA, T.get_put, Nat.reduceEqDiff, reduceIte, List.getElem?_toArray, List.getElem?_cons_zero, List.getElem?_cons_succ, oBuiltin, builtinA, oBin, binA, binG, binL, aggO, litA, intA, ltF_eq, eqF_eq, indexAddrA, oIndexAddr, fieldAddrA, oFieldAddr, oLoad, oStore, allocA, isAggD, aggH, oneH, skipH, cond_true, cond_false, ty22, ty25, ty51, ty3, ty4, ty28, ty29, ti22, ti25, ti51, ti3, ti4, ti28, ti29, Bool.not_true, Bool.not_false, decide_true, decide_false, blt_eq, tt_beq, tf_beq, ft_beq, ff_beq, cellsOf, litCells_cons, litCells_nil, List.length_cons, List.length_nil, Nat.reduceAdd, Nat.zero_add, Nat.add_zero, Nat.mul_one, Nat.reduceMul, nbeq_self, known_s, known_zero, getCells1, getCells2, onesA_cons', onesA_nil, oneA, Value.oneCell', Bool.and_true, Bool.true_and, Nat.reduceLT, Option.some.injEq, I, oBuild, oBuildSlice, evParts, consP, build28, bs22, maxI, minI, a0, a1, a2, h1', hp, c0, ty28]; rfl) ?_ ?_ <;> intro hb <;> first | (exfalso; exact Bool.noConfusion hb) | skip)
      | refine wc_block ?_
      | refine wc_skip ?_
      | refine wc_scope (by decide) ?_
      | refine wc_label ?_
      | refine wc_exit ?_
      | refine wc_ret ?_
      | refine wv_ret (by simp only [resA, resOne]; simp only [List.toList_toArray, opsA_cons, opsA_nil, wantedA, guardA, yieldA, stepA_t, stepA_f, callA, calleeA, targetA, runOp_c, runOp_n, opA, ev, evs, evo, consO, consOO, withH, pickA, afterA_s, putA, T.get_put, Nat.reduceEqDiff, reduceIte, List.getElem?_toArray, List.getElem?_cons_zero, List.getElem?_cons_succ, oBuiltin, builtinA, oBin, binA, binG, binL, aggO, litA, intA, ltF_eq, eqF_eq, indexAddrA, oIndexAddr, fieldAddrA, oFieldAddr, oLoad, oStore, allocA, isAggD, aggH, oneH, skipH, cond_true, cond_false, ty22, ty25, ty51, ty3, ty4, ty28, ty29, ti22, ti25, ti51, ti3, ti4, ti28, ti29, Bool.not_true, Bool.not_false, decide_true, decide_false, blt_eq, tt_beq, tf_beq, ft_beq, ff_beq, cellsOf, litCells_cons, litCells_nil, List.length_cons, List.length_nil, Nat.reduceAdd, Nat.zero_add, Nat.add_zero, Nat.mul_one, Nat.reduceMul, nbeq_self, known_s, known_zero, getCells1, getCells2, onesA_cons', onesA_nil, oneA, Value.oneCell', Bool.and_true, Bool.true_and, Nat.reduceLT, Option.some.injEq, I, oBuild, oBuildSlice, evParts, consP, build28, bs22, maxI, minI, a0, a1, a2, h1', hp, c0, ty28]; rfl) ?_)
    refine ⟨.inr ⟨h.c + 1, ⟨setCells .leaf 0 [I f, I t], 2, 28, 2⟩, ?_, ?_, Nat.lt_succ_self _, ?_, rfl, rfl, ?_, ?_⟩, .of (((Ext.refl h).newBlk _ _ _).newBlk _ _ _), .inr fun n hn he => ?_⟩
    · rw [show jn [] f t = [(f, t)] from by unfold jn; rw [if_neg h1]; rfl]; exact Nat.zero_lt_one
    · rw [show jn [] f t = [(f, t)] from by unfold jn; rw [if_neg h1]; rfl]; rfl
    · show ((newBlk h [I f, I t] 28 0).m.put (h.c + 1) _).get (h.c + 1) = _
      rw [T.get_put, if_pos rfl]
      rfl
    · rw [show jn [] f t = [(f, t)] from by unfold jn; rw [if_neg h1]; rfl]; rfl
    · intro i a b hi
      rw [show jn [] f t = [(f, t)] from by unfold jn; rw [if_neg h1]; rfl] at hi
      obtain ⟨hil, _⟩ := List.getElem?_eq_some_iff.1 hi
      obtain rfl : i = 0 := by simp at hil; exact hil
      cases hi
      exact ⟨by kernel_rfl, by kernel_rfl⟩
    · have : h.c + 1 = n := he
      omega
  · obtain ⟨ys, ⟨a, b⟩, rfl⟩ := snoc_of hl0
    have hL : (ys ++ [(a, b)]).length = ys.length + 1 := by simp
    rw [hL] at hlen a0 g3
    have hab := g4 ys.length a b (by simp)
    have c0 : decide ((0 : Int) < ((ys.length + 1 : Nat) : Int)) = true := decide_eq_true (by omega)
    have hd : wrapF .i64 (subF (((ys.length + 1 : Nat) : Int)) 1) = Int.ofNat ys.length := dec_nat (by omega)
    have hlt : ys.length < ys.length + 1 := Nat.lt_succ_self _
    have hlb : Abs.load h nm (ys.length * 2 + 1) 1 = some [I b] := by rw [load_some hg, getCells1, hab.2]; rfl
    rw [jn_snoc ys a b f t h1, hL]
    by_cases h2 : f ≤ b
    · have h2' : ¬ b < f := by omega
      have hst : Abs.store h nm (ys.length * 2 + 1) [I (max b t)] = some ⟨h.m.put nm (some ⟨setCells bk.cells (ys.length * 2 + 1) [I (max b t)], bk.n, bk.elem, bk.grow⟩), h.c, h.ro⟩ := by
        rw [store_some hg, show [I (max b t)].length = 0 + 1 from rfl, known_s hab.2, known_zero]
        rfl
      rw [if_pos h2]
      repeat' (first
        | refine wc_seq ?_
        | (refine wc_region rfl ?_; simp only [List.toList_toArray, opsA_cons, opsA_nil, wantedA, guardA, yieldA, stepA_t, stepA_f, callA, calleeA, targetA, runOp_c, runOp_n, opA, ev, evs, evo, consO, consOO, withH, pickA, afterA_s, putA, T.get_put, Nat.reduceEqDiff, reduceIte, List.getElem?_toArray, List.getElem?_cons_zero, List.getElem?_cons_succ, oBuiltin, builtinA, oBin, binA, binG, binL, aggO, litA, intA, ltF_eq, eqF_eq, indexAddrA, oIndexAddr, fieldAddrA, oFieldAddr, oLoad, oStore, allocA, isAggD, aggH, oneH, skipH, cond_true, cond_false, ty22, ty25, ty51, ty3, ty4, ty28, ty29, ti22, ti25, ti51, ti3, ti4, ti28, ti29, Bool.not_true, Bool.not_false, decide_true, decide_false, blt_eq, tt_beq, tf_beq, ft_beq, ff_beq, cellsOf, litCells_cons, litCells_nil, List.length_cons, List.length_nil, Nat.reduceAdd, Nat.zero_add, Nat.add_zero, Nat.mul_one, Nat.reduceMul, nbeq_self, known_s, known_zero, getCells1, getCells2, onesA_cons', onesA_nil, oneA, Value.oneCell', Bool.and_true, Bool.true_and, Nat.reduceLT, Option.some.injEq, I, oBuild, oBuildSlice, evParts, consP, build28, bs22, maxI, minI, a0, a1, a2, h1', h2', c0, hd, hlt, hlb, hst, ty28]; refine ⟨_, _, rfl, ?_⟩)
        | (refine wc_cond (by simp only [List.toList_toArray, opsA_cons, opsA_nil, wantedA, guardA, yieldA, stepA_t, stepA_f, callA, calleeA, targetA, runOp_c, runOp_n, opA, ev, evs, evo, consO, consOO, withH, pickA, afterA_s, putA, T.get_put, Nat.reduceEqDiff, reduceIte, List.getElem?_toArray, List.getElem?_cons_zero, List.getElem?_cons_succ, oBuiltin, builtinA, oBin, binA, binG, binL, aggO, litA, intA, ltF_eq, eqF_eq, indexAddrA, oIndexAddr, fieldAddrA, oFieldAddr, oLoad, oStore, allocA, isAggD, aggH, oneH, skipH, cond_true, cond_false, ty22, ty25, ty51, ty3, ty4, ty28, ty29, ti22, ti25, ti51, ti3, ti4, ti28, ti29, Bool.not_true, Bool.not_false, decide_true, decide_false, blt_eq, tt_beq, tf_beq, ft_beq, ff_beq, cellsOf, litCells_cons, litCells_nil, List.length_cons, List.length_nil, Nat.reduceAdd, Nat.zero_add, Nat.add_zero, Nat.mul_one, Nat.reduceMul, nbeq_self, known_s, known_zero, getCells1, getCells2, onesA_cons', onesA_nil, oneA, Value.oneCell', Bool.and_true, Bool.true_and, Nat.reduceLT, Option.some.injEq, I, oBuild, oBuildSlice, evParts, consP, build28, bs22, maxI, minI, a0, a1, a2, h1', h2', c0, hd, hlt, hlb, hst, ty28]; rfl) ?_ ?_ <;> intro hb <;> first | (exfalso; exact Bool.noConfusion hb) | skip)
        | refine wc_block ?_
        | refine wc_skip ?_
        | refine wc_scope (by decide) ?_
        | refine wc_label ?_
        | refine wc_exit ?_
        | refine wc_ret ?_
        | refine wv_ret (by simp only [resA, resOne]; simp only [List.toList_toArray, opsA_cons, opsA_nil, wantedA, guardA, yieldA, stepA_t, stepA_f, callA, calleeA, targetA, runOp_c, runOp_n, opA, ev, evs, evo, consO, consOO, withH, pickA, afterA_s, putA, T.get_put, Nat.reduceEqDiff, reduceIte, List.getElem?_toArray, List.getElem?_cons_zero, List.getElem?_cons_succ, oBuiltin, builtinA, oBin, binA, binG, binL, aggO, litA, intA, ltF_eq, eqF_eq, indexAddrA, oIndexAddr, fieldAddrA, oFieldAddr, oLoad, oStore, allocA, isAggD, aggH, oneH, skipH, cond_true, cond_false, ty22, ty25, ty51, ty3, ty4, ty28, ty29, ti22, ti25, ti51, ti3, ti4, ti28, ti29, Bool.not_true, Bool.not_false, decide_true, decide_false, blt_eq, tt_beq, tf_beq, ft_beq, ff_beq, cellsOf, litCells_cons, litCells_nil, List.length_cons, List.length_nil, Nat.reduceAdd, Nat.zero_add, Nat.add_zero, Nat.mul_one, Nat.reduceMul, nbeq_self, known_s, known_zero, getCells1, getCells2, onesA_cons', onesA_nil, oneA, Value.oneCell', Bool.and_true, Bool.true_and, Nat.reduceLT, Option.some.injEq, I, oBuild, oBuildSlice, evParts, consP, build28, bs22, maxI, minI, a0, a1, a2, h1', h2', c0, hd, hlt, hlb, hst, ty28]; rfl) ?_)
      have hM : (ys ++ [(a, max b t)]).length = ys.length + 1 := by simp
      refine ⟨.inr ⟨nm, ⟨setCells bk.cells (ys.length * 2 + 1) [I (max b t)], bk.n, bk.elem, bk.grow⟩, by omega, by rw [hM]; rfl, hnm, ?_, g1, g2, by rw [hM]; exact g3, ?_⟩, ⟨Nat.le_refl _, rfl, fun n hn hne => ?_⟩, .inl rfl⟩
      · show (h.m.put nm _).get nm = _
        rw [T.get_put, if_pos rfl]
      · intro i a' b' hi
        show (setCells bk.cells (ys.length * 2 + 1) [I (max b t)]).get (i * 2) = _ ∧ (setCells bk.cells (ys.length * 2 + 1) [I (max b t)]).get (i * 2 + 1) = _
        rw [setCells_get, setCells_get, if_neg (by show ¬ (_ ∧ i * 2 < ys.length * 2 + 1 + 1); omega)]
        by_cases hik : i = ys.length
        · subst hik
          rw [List.getElem?_append_right (Nat.le_refl _), Nat.sub_self] at hi
          cases hi
          rw [if_pos ⟨Nat.le_refl _, Nat.lt_succ_self _⟩, Nat.sub_self]
          exact ⟨hab.1, rfl⟩
        · have hil := (List.getElem?_eq_some_iff.1 hi).1
          rw [hM] at hil
          rw [if_neg (by show ¬ (_ ∧ i * 2 + 1 < ys.length * 2 + 1 + 1); omega)]
          refine g4 i a' b' ?_
          rw [List.getElem?_append_left (by omega)] at hi ⊢
          exact hi
      · show (h.m.put nm _).get n = _
        rw [T.get_put, if_neg (fun he => hne he.symm)]
    · have h2' : b < f := by omega
      have hp := sapk f t hnm hg g1 g3 g2 (by omega)
      rw [if_neg h2]
      repeat' (first
        | refine wc_seq ?_
        | (refine wc_region rfl ?_; simp only [List.toList_toArray, opsA_cons, opsA_nil, wantedA, guardA, yieldA, stepA_t, stepA_f, callA, calleeA, targetA, runOp_c, runOp_n, opA, ev, evs, evo, consO, consOO, withH, pickA, afterA_s, putA, T.get_put, Nat.reduceEqDiff, reduceIte, List.getElem?_toArray, List.getElem?_cons_zero, List.getElem?_cons_succ, oBuiltin, builtinA, oBin, binA, binG, binL, aggO, litA, intA, ltF_eq, eqF_eq, indexAddrA, oIndexAddr, fieldAddrA, oFieldAddr, oLoad, oStore, allocA, isAggD, aggH, oneH, skipH, cond_true, cond_false, ty22, ty25, ty51, ty3, ty4, ty28, ty29, ti22, ti25, ti51, ti3, ti4, ti28, ti29, Bool.not_true, Bool.not_false, decide_true, decide_false, blt_eq, tt_beq, tf_beq, ft_beq, ff_beq, cellsOf, litCells_cons, litCells_nil, List.length_cons, List.length_nil, Nat.reduceAdd, Nat.zero_add, Nat.add_zero, Nat.mul_one, Nat.reduceMul, nbeq_self, known_s, known_zero, getCells1, getCells2, onesA_cons', onesA_nil, oneA, Value.oneCell', Bool.and_true, Bool.true_and, Nat.reduceLT, Option.some.injEq, I, oBuild, oBuildSlice, evParts, consP, build28, bs22, maxI, minI, a0, a1, a2, h1', h2', c0, hd, hlt, hlb, hp, ty28]; refine ⟨_, _, rfl, ?_⟩)
        | (refine wc_cond (by simp only [List.toList_toArray, opsA_cons, opsA_nil, wantedA, guardA, yieldA, stepA_t, stepA_f, callA, calleeA, targetA, runOp_c, runOp_n, opA, ev, evs, evo, consO, consOO, withH, pickA, afterA_s, putA, T.get_put, Nat.reduceEqDiff, reduceIte, List.getElem?_toArray, List.getElem?_cons_zero, List.getElem?_cons_succ, oBuiltin, builtinA, oBin, binA, binG, binL, aggO, litA, intA, ltF_eq, eqF_eq, indexAddrA, oIndexAddr, fieldAddrA, oFieldAddr, oLoad, oStore, allocA, isAggD, aggH, oneH, skipH, cond_true, cond_false, ty22, ty25, ty51, ty3, ty4, ty28, ty29, ti22, ti25, ti51, ti3, ti4, ti28, ti29, Bool.not_true, Bool.not_false, decide_true, decide_false, blt_eq, tt_beq, tf_beq, ft_beq, ff_beq, cellsOf, litCells_cons, litCells_nil, List.length_cons, List.length_nil, Nat.reduceAdd, Nat.zero_add, Nat.add_zero, Nat.mul_one, Nat.reduceMul, nbeq_self, known_s, known_zero, getCells1, getCells2, onesA_cons', onesA_nil, oneA, Value.oneCell', Bool.and_true, Bool.true_and, Nat.reduceLT, Option.some.injEq, I, oBuild, oBuildSlice, evParts, consP, build28, bs22, maxI, minI, a0, a1, a2, h1', h2', c0, hd, hlt, hlb, hp, ty28]; rfl) ?_ ?_ <;> intro hb <;> first | (exfalso; exact Bool.noConfusion hb) | skip)
        | refine wc_block ?_
        | refine wc_skip ?_
        | refine wc_scope (by decide) ?_
        | refine wc_label ?_
        | refine wc_exit ?_
        | refine wc_ret ?_
        | refine wv_ret (by simp only [resA, resOne]; simp only [List.toList_toArray, opsA_cons, opsA_nil, wantedA, guardA, yieldA, stepA_t, stepA_f, callA, calleeA, targetA, runOp_c, runOp_n, opA, ev, evs, evo, consO, consOO, withH, pickA, afterA_s, putA, T.get_put, Nat.reduceEqDiff, reduceIte, List.getElem?_toArray, List.getElem?_cons_zero, List.getElem?_cons_succ, oBuiltin, builtinA, oBin, binA, binG, binL, aggO, litA, intA, ltF_eq, eqF_eq, indexAddrA, oIndexAddr, fieldAddrA, oFieldAddr, oLoad, oStore, allocA, isAggD, aggH, oneH, skipH, cond_true, cond_false, ty22, ty25, ty51, ty3, ty4, ty28, ty29, ti22, ti25, ti51, ti3, ti4, ti28, ti29, Bool.not_true, Bool.not_false, decide_true, decide_false, blt_eq, tt_beq, tf_beq, ft_beq, ff_beq, cellsOf, litCells_cons, litCells_nil, List.length_cons, List.length_nil, Nat.reduceAdd, Nat.zero_add, Nat.add_zero, Nat.mul_one, Nat.reduceMul, nbeq_self, known_s, known_zero, getCells1, getCells2, onesA_cons', onesA_nil, oneA, Value.oneCell', Bool.and_true, Bool.true_and, Nat.reduceLT, Option.some.injEq, I, oBuild, oBuildSlice, evParts, consP, build28, bs22, maxI, minI, a0, a1, a2, h1', h2', c0, hd, hlt, hlb, hp, ty28]; rfl) ?_)
      have hM : (ys ++ [(a, b)] ++ [(f, t)]).length = ys.length + 1 + 1 := by simp
      refine ⟨.inr ⟨h.c + 1, ⟨setCells bk.cells bk.n [I f, I t], bk.n + 2, 28, 2⟩, by omega, by rw [hM]; rfl, Nat.lt_succ_self _, ?_, rfl, rfl, ?_, ?_⟩, ⟨?_, rfl, fun n hn hne => ?_⟩, .inr fun n hn he => ?_⟩
      · show (((newBlk h [I f, I t] 28 0).m.put nm none).put (h.c + 1) _).get (h.c + 1) = _
        rw [T.get_put, if_pos rfl]
      · rw [hM]
        show bk.n + 2 = _
        omega
      · intro i a' b' hi
        show (setCells bk.cells bk.n [I f, I t]).get (i * 2) = _ ∧ (setCells bk.cells bk.n [I f, I t]).get (i * 2 + 1) = _
        rw [setCells_get, setCells_get]
        have hil := (List.getElem?_eq_some_iff.1 hi).1
        rw [hM] at hil
        by_cases hik : i = ys.length + 1
        · subst hik
          rw [List.getElem?_append_right (by omega), hL, Nat.sub_self] at hi
          cases hi
          rw [if_pos ⟨by omega, by show (ys.length + 1) * 2 < bk.n + 2; omega⟩, if_pos ⟨by omega, by show (ys.length + 1) * 2 + 1 < bk.n + 2; omega⟩, g3, Nat.sub_self, Nat.add_sub_cancel_left]
          exact ⟨rfl, rfl⟩
        · rw [if_neg (by omega), if_neg (by omega)]
          refine g4 i a' b' ?_
          rw [List.getElem?_append_left (by omega)] at hi
          exact hi
      · show h.c ≤ h.c + 1 + 1
        omega
      · show (((h.m.put h.c _).put nm none).put (h.c + 1) _).get n = _
        rw [T.get_put, if_neg (by omega), T.get_put, if_neg (fun he => hne he.symm), T.get_put, if_neg (by omega)]
      · have : h.c + 1 = n := he
        omega

end Go.Proofs.Ytmcbkmmipgaeoaa
