import Derived.Test.YtjfmimlmnllnjaaZ2
import Derived.KernelRfl
namespace Go.Proofs.Ytjfmimlmnllnjaa
open Go Go.Proofs Go.RowKit
set_option linter.unusedSimpArgs false
set_option linter.unusedVariables false
open Go.Proofs.Abs
theorem ins_eq {M xs : List Int} {f t : Nat} (h1 : f + xs.length ≤ t) (h2 : t ≤ M.length) : con (patch M f xs) (f + xs.length) t = (con M f t).take f ++ xs ++ (con M f t).drop f := by
  have e1 : (patch M f xs).length = M.length := patch_len (by omega)
  have e2 := con_len (M := M) (f := f) (t := t) (by omega) h2
  have A := fun j => patch_at (M := M) (a := f) (xs := xs) (by omega) j
  apply List.ext_getElem?
  intro k
  rw [con_at h1 (by rw [e1]; omega)]
  simp only [A, List.getElem?_append, List.length_append, List.length_take, e2, List.getElem?_take, List.getElem?_drop, con_at (M := M) (f := f) (t := t) (by omega) h2]
  by_cases a1 : k < f
  · rw [if_pos (by omega), if_neg (by omega), if_pos (by omega), if_pos (by omega), if_pos a1, if_pos a1]
  · by_cases a2 : k < f + xs.length
    · rw [if_pos a2, if_pos (by omega), if_pos (by omega), if_neg (by omega)]
      congr 1
      omega
    · rw [if_neg a2, if_neg (by omega), if_neg (by omega), if_neg (by omega)]
      congr 1
      omega
theorem of0 : Int.ofNat 0 = 0 := rfl
theorem bld39 (nm o l c z : Nat) (r : Bool) (a b : Int) : buildA ctx 39 [(0, .slice nm o l r c z), (1, .lit (.int .i64 a)), (2, .lit (.int .i64 b))] = some (.agg [.slice nm o l r c z, I a, I b]) := by kernel_rfl
theorem BI.isL {h : Hp} {nm : Nat} {M : List Int} (b : BI h nm M) : IsL h (.slice nm 0 M.length false M.length 0) (M.map I) := by
  have := cells_isL (h := h) (nm := nm) (cap := M.length) (z := 0) (r := false) (xs := M.map I) b.lt (fun k x hx => by
    rw [List.getElem?_map, Option.map_eq_some_iff] at hx
    obtain ⟨y, hy, rfl⟩ := hx
    exact b.cell hy)
  rwa [List.length_map] at this
theorem Buf.cell {h : Hp} {p nm : Nat} {M : List Int} {f t : Nat} (b : Buf h p nm M f t) : p < h.c ∧ nm < h.c := ⟨b.lt, b.blk.lt⟩
set_option maxHeartbeats 4000000 in
theorem c8 (d : Nat) (h : Hp) (v : AV) (xs : List Int) (hv : IsL h v (xs.map I)) (hn : xs.length ≤ 4096) : Wv (runA ctx 5000 (d + 1) 8 [v] h) (fun r h' => ∃ p nm, r = .tup [.ptr p 0, I 0] ∧ Buf h' p nm xs xs.length xs.length ∧ Ext h h' ∧ h.c ≤ p ∧ h.c ≤ nm) := by
  have hl := lenL hv
  have z1 : decide (4096 < Int.ofNat xs.length) = false := by first | (simp; done) | (simp; omega) | (simp only [Int.ofNat_eq_natCast, decide_eq_true_eq, decide_eq_false_iff_not]; omega)
  obtain ⟨h1, hmk, x1, k1, g1⟩ := mkB (h := h) (n := xs.length) (by omega)
  have hla := hv.lenA
  rw [List.length_map] at hla
  have em : min xs.length xs.length = xs.length := Nat.min_self _
  obtain ⟨h2, hcp, o2, g2⟩ := copyB g1 (Sl.whole h.c xs.length xs.length) (by rw [List.length_replicate]; omega) hla (xs := xs) (by rw [em]; have := (hv.ext x1).elems (m := xs.length) (by rw [List.length_map]; omega); rwa [List.take_of_length_le (by rw [List.length_map]; omega)] at this) (by rw [em])
  have e2 : patch (List.replicate xs.length (0 : Int)) 0 xs = xs := by
    unfold patch
    rw [List.take_zero, Nat.zero_add, List.drop_of_length_le (by rw [List.length_replicate]; omega), List.append_nil, List.nil_append]
  rw [e2] at g2
  rw [em] at hcp
  have bl := bld39 h.c 0 xs.length xs.length 0 false (Int.ofNat xs.length) (Int.ofNat xs.length)
  obtain ⟨h3, hb3, x3, k3, b3⟩ := box_new h2 39 (.agg [.slice h.c 0 xs.length false xs.length 0, I (Int.ofNat xs.length), I (Int.ofNat xs.length)])
  have k2 := o2.c
  have x2 : Ext h h2 := Fr.from x1 (o2.fr (P := fun k => k = h.c) rfl) (fun k e => by omega)
  have B : Buf h3 h2.c h.c xs xs.length xs.length := ⟨by omega, by omega, b3 0 _ rfl, b3 1 _ rfl, b3 2 _ rfl, g2.ext x3, Nat.le_refl _, Nat.le_refl _, by omega⟩
  refine wv_run fn8 rfl ?_
  have a0 : (enterEnv [v] Try.f8.ntmps).get 0 = some (v) := enter_get1 _ _ _
  generalize enterEnv [v] Try.f8.ntmps = e at a0 ⊢
  unfold Try.f8
  dsimp only
  repeat' (first
    | refine wc_seq ?_
    | (refine wc_region rfl ?_; simp only [oUn_not, beq_self_eq_true, eq_self, pv_mul, List.toList_toArray, opsA_cons, opsA_nil, wantedA, guardA, yieldA, stepA_t, stepA_f, callA, calleeA, targetA, runOp_c, runOp_n, opA, ev, evs, evo, consO, consOO, withH, pickA, afterA_s, putA, T.get_put, Nat.reduceEqDiff, reduceIte, List.getElem?_toArray, List.getElem?_cons_zero, List.getElem?_cons_succ, oBuiltin, oBin, binA, binG, binL, aggO, litA, intA, ltF_eq, eqF_eq, oIndexAddr, cond_true, cond_false, Bool.not_true, Bool.not_false, decide_true, decide_false, blt_eq, tt_beq, tf_beq, ft_beq, ff_beq, Bool.and_true, Bool.true_and, Option.some.injEq, I, Bo, addI, subI, oExtract, Bool.not_eq_true', fieldAddrA, oFieldAddr, oLoad, oStore, isAggD, aggH, oneH, skipH, Nat.add_eq_left, Nat.left_eq_add, Nat.succ_ne_self, fieldA, partA, cellsOf, List.length_cons, List.length_nil, Nat.reduceAdd, Nat.zero_add, Nat.add_zero, Nat.mul_one, Nat.reduceMul, nbeq_self, onesA_cons', onesA_nil, oneA, Value.oneCell', Nat.reduceLT, ty3, ti3, ty22, ti22, ty39, ti39, a0, hl, z1, hmk, hcp, bl, hb3, oMakeSlice, oBuild, oBuildSlice, evParts, consP]; refine ⟨_, _, rfl, ?_⟩)
    | (refine wc_cond (by simp only [oUn_not, beq_self_eq_true, eq_self, pv_mul, List.toList_toArray, opsA_cons, opsA_nil, wantedA, guardA, yieldA, stepA_t, stepA_f, callA, calleeA, targetA, runOp_c, runOp_n, opA, ev, evs, evo, consO, consOO, withH, pickA, afterA_s, putA, T.get_put, Nat.reduceEqDiff, reduceIte, List.getElem?_toArray, List.getElem?_cons_zero, List.getElem?_cons_succ, oBuiltin, oBin, binA, binG, binL, aggO, litA, intA, ltF_eq, eqF_eq, oIndexAddr, cond_true, cond_false, Bool.not_true, Bool.not_false, decide_true, decide_false, blt_eq, tt_beq, tf_beq, ft_beq, ff_beq, Bool.and_true, Bool.true_and, Option.some.injEq, I, Bo, addI, subI, oExtract, Bool.not_eq_true', fieldAddrA, oFieldAddr, oLoad, oStore, isAggD, aggH, oneH, skipH, Nat.add_eq_left, Nat.left_eq_add, Nat.succ_ne_self, fieldA, partA, cellsOf, List.length_cons, List.length_nil, Nat.reduceAdd, Nat.zero_add, Nat.add_zero, Nat.mul_one, Nat.reduceMul, nbeq_self, onesA_cons', onesA_nil, oneA, Value.oneCell', Nat.reduceLT, ty3, ti3, ty22, ti22, ty39, ti39, a0, hl, z1, hmk, hcp, bl, hb3, oMakeSlice, oBuild, oBuildSlice, evParts, consP]; rfl) ?_ ?_ <;> intro hb <;> first | (exfalso; exact Bool.noConfusion hb) | skip)
    | refine wc_block ?_
    | refine wc_skip ?_
    | refine wc_scope (by decide) ?_
    | refine wc_label ?_
    | refine wc_exit ?_
    | refine wc_ret ?_
    | refine wv_ret (by simp only [resA, resOne]; simp only [oUn_not, beq_self_eq_true, eq_self, pv_mul, List.toList_toArray, opsA_cons, opsA_nil, wantedA, guardA, yieldA, stepA_t, stepA_f, callA, calleeA, targetA, runOp_c, runOp_n, opA, ev, evs, evo, consO, consOO, withH, pickA, afterA_s, putA, T.get_put, Nat.reduceEqDiff, reduceIte, List.getElem?_toArray, List.getElem?_cons_zero, List.getElem?_cons_succ, oBuiltin, oBin, binA, binG, binL, aggO, litA, intA, ltF_eq, eqF_eq, oIndexAddr, cond_true, cond_false, Bool.not_true, Bool.not_false, decide_true, decide_false, blt_eq, tt_beq, tf_beq, ft_beq, ff_beq, Bool.and_true, Bool.true_and, Option.some.injEq, I, Bo, addI, subI, oExtract, Bool.not_eq_true', fieldAddrA, oFieldAddr, oLoad, oStore, isAggD, aggH, oneH, skipH, Nat.add_eq_left, Nat.left_eq_add, Nat.succ_ne_self, fieldA, partA, cellsOf, List.length_cons, List.length_nil, Nat.reduceAdd, Nat.zero_add, Nat.add_zero, Nat.mul_one, Nat.reduceMul, nbeq_self, onesA_cons', onesA_nil, oneA, Value.oneCell', Nat.reduceLT, ty3, ti3, ty22, ti22, ty39, ti39, a0, hl, z1, hmk, hcp, bl, hb3, oMakeSlice, oBuild, oBuildSlice, evParts, consP]; rfl) ?_)
  all_goals exact ⟨h2.c, h.c, rfl, B, x2.trans x3, by omega, Nat.le_refl _⟩
set_option maxHeartbeats 4000000 in
theorem c8b (d : Nat) (h : Hp) (v : AV) (xs : List Int) (hv : IsL h v (xs.map I)) (hn : 4096 < xs.length) : runA ctx 5000 (d + 1) 8 [v] h = some (.tup [.lit (.pointer none), I 3], h) := by
  have hl := lenL hv
  have z1 : decide (4096 < Int.ofNat xs.length) = true := by first | (simp; done) | (simp; omega) | (simp only [Int.ofNat_eq_natCast, decide_eq_true_eq, decide_eq_false_iff_not]; omega)
  refine wv_eq ?_
  refine wv_run fn8 rfl ?_
  have a0 : (enterEnv [v] Try.f8.ntmps).get 0 = some (v) := enter_get1 _ _ _
  generalize enterEnv [v] Try.f8.ntmps = e at a0 ⊢
  unfold Try.f8
  dsimp only
  repeat' (first
    | refine wc_seq ?_
    | (refine wc_region rfl ?_; simp only [oUn_not, beq_self_eq_true, eq_self, pv_mul, List.toList_toArray, opsA_cons, opsA_nil, wantedA, guardA, yieldA, stepA_t, stepA_f, callA, calleeA, targetA, runOp_c, runOp_n, opA, ev, evs, evo, consO, consOO, withH, pickA, afterA_s, putA, T.get_put, Nat.reduceEqDiff, reduceIte, List.getElem?_toArray, List.getElem?_cons_zero, List.getElem?_cons_succ, oBuiltin, oBin, binA, binG, binL, aggO, litA, intA, ltF_eq, eqF_eq, oIndexAddr, cond_true, cond_false, Bool.not_true, Bool.not_false, decide_true, decide_false, blt_eq, tt_beq, tf_beq, ft_beq, ff_beq, Bool.and_true, Bool.true_and, Option.some.injEq, I, Bo, addI, subI, oExtract, Bool.not_eq_true', fieldAddrA, oFieldAddr, oLoad, oStore, isAggD, aggH, oneH, skipH, Nat.add_eq_left, Nat.left_eq_add, Nat.succ_ne_self, fieldA, partA, cellsOf, List.length_cons, List.length_nil, Nat.reduceAdd, Nat.zero_add, Nat.add_zero, Nat.mul_one, Nat.reduceMul, nbeq_self, onesA_cons', onesA_nil, oneA, Value.oneCell', Nat.reduceLT, ty3, ti3, ty22, ti22, ty39, ti39, a0, hl, z1]; refine ⟨_, _, rfl, ?_⟩)
    | (refine wc_cond (by simp only [oUn_not, beq_self_eq_true, eq_self, pv_mul, List.toList_toArray, opsA_cons, opsA_nil, wantedA, guardA, yieldA, stepA_t, stepA_f, callA, calleeA, targetA, runOp_c, runOp_n, opA, ev, evs, evo, consO, consOO, withH, pickA, afterA_s, putA, T.get_put, Nat.reduceEqDiff, reduceIte, List.getElem?_toArray, List.getElem?_cons_zero, List.getElem?_cons_succ, oBuiltin, oBin, binA, binG, binL, aggO, litA, intA, ltF_eq, eqF_eq, oIndexAddr, cond_true, cond_false, Bool.not_true, Bool.not_false, decide_true, decide_false, blt_eq, tt_beq, tf_beq, ft_beq, ff_beq, Bool.and_true, Bool.true_and, Option.some.injEq, I, Bo, addI, subI, oExtract, Bool.not_eq_true', fieldAddrA, oFieldAddr, oLoad, oStore, isAggD, aggH, oneH, skipH, Nat.add_eq_left, Nat.left_eq_add, Nat.succ_ne_self, fieldA, partA, cellsOf, List.length_cons, List.length_nil, Nat.reduceAdd, Nat.zero_add, Nat.add_zero, Nat.mul_one, Nat.reduceMul, nbeq_self, onesA_cons', onesA_nil, oneA, Value.oneCell', Nat.reduceLT, ty3, ti3, ty22, ti22, ty39, ti39, a0, hl, z1]; rfl) ?_ ?_ <;> intro hb <;> first | (exfalso; exact Bool.noConfusion hb) | skip)
    | refine wc_block ?_
    | refine wc_skip ?_
    | refine wc_scope (by decide) ?_
    | refine wc_label ?_
    | refine wc_exit ?_
    | refine wc_ret ?_
    | refine wv_ret (by simp only [resA, resOne]; simp only [oUn_not, beq_self_eq_true, eq_self, pv_mul, List.toList_toArray, opsA_cons, opsA_nil, wantedA, guardA, yieldA, stepA_t, stepA_f, callA, calleeA, targetA, runOp_c, runOp_n, opA, ev, evs, evo, consO, consOO, withH, pickA, afterA_s, putA, T.get_put, Nat.reduceEqDiff, reduceIte, List.getElem?_toArray, List.getElem?_cons_zero, List.getElem?_cons_succ, oBuiltin, oBin, binA, binG, binL, aggO, litA, intA, ltF_eq, eqF_eq, oIndexAddr, cond_true, cond_false, Bool.not_true, Bool.not_false, decide_true, decide_false, blt_eq, tt_beq, tf_beq, ft_beq, ff_beq, Bool.and_true, Bool.true_and, Option.some.injEq, I, Bo, addI, subI, oExtract, Bool.not_eq_true', fieldAddrA, oFieldAddr, oLoad, oStore, isAggD, aggH, oneH, skipH, Nat.add_eq_left, Nat.left_eq_add, Nat.succ_ne_self, fieldA, partA, cellsOf, List.length_cons, List.length_nil, Nat.reduceAdd, Nat.zero_add, Nat.add_zero, Nat.mul_one, Nat.reduceMul, nbeq_self, onesA_cons', onesA_nil, oneA, Value.oneCell', Nat.reduceLT, ty3, ti3, ty22, ti22, ty39, ti39, a0, hl, z1]; rfl) ?_)
  all_goals exact ⟨rfl, rfl⟩
set_option maxHeartbeats 4000000 in
theorem c14a (d : Nat) (h : Hp) (p nm : Nat) (M : List Int) (f t : Nat) (b : Buf h p nm M f t) (k : Nat) (x : Int) (hx : (con M f t)[k]? = some x) (hk : k < f) : runA ctx 5000 (d + 3) 14 [.ptr p 0, I (Int.ofNat k)] h = some (.tup [I x, I 0], h) := by
  have q1 := b.le1
  have q2 := b.le2
  have q3 := b.sm
  have q4 := b.len
  have hkl := (List.getElem?_eq_some_iff.1 hx).1
  have q24 : runA ctx 5000 (d + 2) 24 [.ptr p 0, I (Int.ofNat k), I 1] h = some (I 0, h) := c24 d h p nm M f t (Int.ofNat k) 1 b (by simp only [Int.ofNat_eq_natCast]; omega)
  rw [con_at q1 q2] at hx
  have l0 := b.c0.load
  have l1 := b.c1.load
  have l2 := b.c2.load
  rw [if_pos hk] at hx
  have q28 : runA ctx 5000 (d + 2) 28 [.ptr p 0, I (Int.ofNat k)] h = some (I (Int.ofNat k), h) := c28 (d + 1) h p nm M f t k b hk
  have ix := ia22 (nm := nm) (off := 0) (n := M.length) (cap := M.length) (z := 0) (r := false) (k := k) (by omega)
  rw [Nat.zero_add] at ix
  have lx := (b.blk.cell hx).load
  have av : avB 4 (.slice nm 0 M.length false M.length 0) (.slice nm 0 M.length false M.length 0) = true := by
    show ((nm == nm) && (0 == 0) && (M.length == M.length) && (false == false) && (M.length == M.length) && (0 == 0)) = true
    simp
  refine wv_eq ?_
  refine wv_run fn14 rfl ?_
  have a0 : (enterEnv [.ptr p 0, I (Int.ofNat k)] Try.f14.ntmps).get 0 = some (.ptr p 0) := enter_get1 _ _ _
  have a1 : (enterEnv [.ptr p 0, I (Int.ofNat k)] Try.f14.ntmps).get 1 = some (I (Int.ofNat k)) := enter_get2 _ _ _ _
  generalize enterEnv [.ptr p 0, I (Int.ofNat k)] Try.f14.ntmps = e at a0 a1 ⊢
  unfold Try.f14
  dsimp only
  repeat' (first
    | refine wc_seq ?_
    | (refine wc_region rfl ?_; simp only [oUn_not, beq_self_eq_true, eq_self, pv_mul, List.toList_toArray, opsA_cons, opsA_nil, wantedA, guardA, yieldA, stepA_t, stepA_f, callA, calleeA, targetA, runOp_c, runOp_n, opA, ev, evs, evo, consO, consOO, withH, pickA, afterA_s, putA, T.get_put, Nat.reduceEqDiff, reduceIte, List.getElem?_toArray, List.getElem?_cons_zero, List.getElem?_cons_succ, oBuiltin, oBin, binA, binG, binL, aggO, litA, intA, ltF_eq, eqF_eq, oIndexAddr, cond_true, cond_false, Bool.not_true, Bool.not_false, decide_true, decide_false, blt_eq, tt_beq, tf_beq, ft_beq, ff_beq, Bool.and_true, Bool.true_and, Option.some.injEq, I, Bo, addI, subI, oExtract, Bool.not_eq_true', fieldAddrA, oFieldAddr, oLoad, oStore, isAggD, aggH, oneH, skipH, Nat.add_eq_left, Nat.left_eq_add, Nat.succ_ne_self, fieldA, partA, cellsOf, List.length_cons, List.length_nil, Nat.reduceAdd, Nat.zero_add, Nat.add_zero, Nat.mul_one, Nat.reduceMul, nbeq_self, onesA_cons', onesA_nil, oneA, Value.oneCell', Nat.reduceLT, ty3, ti3, ty22, ti22, ty25, ti25, ty26, ti26, ty39, ti39, a0, a1, l0, l1, l2, q24, q28, ix, lx, av, Int.reduceBEq, Int.reduceBNe, eqA, eqD, eqOp, nilCheckA]; refine ⟨_, _, rfl, ?_⟩)
    | (refine wc_cond (by simp only [oUn_not, beq_self_eq_true, eq_self, pv_mul, List.toList_toArray, opsA_cons, opsA_nil, wantedA, guardA, yieldA, stepA_t, stepA_f, callA, calleeA, targetA, runOp_c, runOp_n, opA, ev, evs, evo, consO, consOO, withH, pickA, afterA_s, putA, T.get_put, Nat.reduceEqDiff, reduceIte, List.getElem?_toArray, List.getElem?_cons_zero, List.getElem?_cons_succ, oBuiltin, oBin, binA, binG, binL, aggO, litA, intA, ltF_eq, eqF_eq, oIndexAddr, cond_true, cond_false, Bool.not_true, Bool.not_false, decide_true, decide_false, blt_eq, tt_beq, tf_beq, ft_beq, ff_beq, Bool.and_true, Bool.true_and, Option.some.injEq, I, Bo, addI, subI, oExtract, Bool.not_eq_true', fieldAddrA, oFieldAddr, oLoad, oStore, isAggD, aggH, oneH, skipH, Nat.add_eq_left, Nat.left_eq_add, Nat.succ_ne_self, fieldA, partA, cellsOf, List.length_cons, List.length_nil, Nat.reduceAdd, Nat.zero_add, Nat.add_zero, Nat.mul_one, Nat.reduceMul, nbeq_self, onesA_cons', onesA_nil, oneA, Value.oneCell', Nat.reduceLT, ty3, ti3, ty22, ti22, ty25, ti25, ty26, ti26, ty39, ti39, a0, a1, l0, l1, l2, q24, q28, ix, lx, av, Int.reduceBEq, Int.reduceBNe, eqA, eqD, eqOp, nilCheckA]; rfl) ?_ ?_ <;> intro hb <;> first | (exfalso; exact Bool.noConfusion hb) | skip)
    | refine wc_block ?_
    | refine wc_skip ?_
    | refine wc_scope (by decide) ?_
    | refine wc_label ?_
    | refine wc_exit ?_
    | refine wc_ret ?_
    | refine wv_ret (by simp only [resA, resOne]; simp only [oUn_not, beq_self_eq_true, eq_self, pv_mul, List.toList_toArray, opsA_cons, opsA_nil, wantedA, guardA, yieldA, stepA_t, stepA_f, callA, calleeA, targetA, runOp_c, runOp_n, opA, ev, evs, evo, consO, consOO, withH, pickA, afterA_s, putA, T.get_put, Nat.reduceEqDiff, reduceIte, List.getElem?_toArray, List.getElem?_cons_zero, List.getElem?_cons_succ, oBuiltin, oBin, binA, binG, binL, aggO, litA, intA, ltF_eq, eqF_eq, oIndexAddr, cond_true, cond_false, Bool.not_true, Bool.not_false, decide_true, decide_false, blt_eq, tt_beq, tf_beq, ft_beq, ff_beq, Bool.and_true, Bool.true_and, Option.some.injEq, I, Bo, addI, subI, oExtract, Bool.not_eq_true', fieldAddrA, oFieldAddr, oLoad, oStore, isAggD, aggH, oneH, skipH, Nat.add_eq_left, Nat.left_eq_add, Nat.succ_ne_self, fieldA, partA, cellsOf, List.length_cons, List.length_nil, Nat.reduceAdd, Nat.zero_add, Nat.add_zero, Nat.mul_one, Nat.reduceMul, nbeq_self, onesA_cons', onesA_nil, oneA, Value.oneCell', Nat.reduceLT, ty3, ti3, ty22, ti22, ty25, ti25, ty26, ti26, ty39, ti39, a0, a1, l0, l1, l2, q24, q28, ix, lx, av, Int.reduceBEq, Int.reduceBNe, eqA, eqD, eqOp, nilCheckA]; rfl) ?_)
  refine wc_dyn (p := (3, 7)) (ps := []) (by kernel_rfl) (by simp only [oUn_not, beq_self_eq_true, eq_self, pv_mul, List.toList_toArray, opsA_cons, opsA_nil, wantedA, guardA, yieldA, stepA_t, stepA_f, callA, calleeA, targetA, runOp_c, runOp_n, opA, ev, evs, evo, consO, consOO, withH, pickA, afterA_s, putA, T.get_put, Nat.reduceEqDiff, reduceIte, List.getElem?_toArray, List.getElem?_cons_zero, List.getElem?_cons_succ, oBuiltin, oBin, binA, binG, binL, aggO, litA, intA, ltF_eq, eqF_eq, oIndexAddr, cond_true, cond_false, Bool.not_true, Bool.not_false, decide_true, decide_false, blt_eq, tt_beq, tf_beq, ft_beq, ff_beq, Bool.and_true, Bool.true_and, Option.some.injEq, I, Bo, addI, subI, oExtract, Bool.not_eq_true', fieldAddrA, oFieldAddr, oLoad, oStore, isAggD, aggH, oneH, skipH, Nat.add_eq_left, Nat.left_eq_add, Nat.succ_ne_self, fieldA, partA, cellsOf, List.length_cons, List.length_nil, Nat.reduceAdd, Nat.zero_add, Nat.add_zero, Nat.mul_one, Nat.reduceMul, nbeq_self, onesA_cons', onesA_nil, oneA, Value.oneCell', Nat.reduceLT, ty3, ti3, ty22, ti22, ty25, ti25, ty26, ti26, ty39, ti39, a0, a1, l0, l1, l2, q24, q28, ix, lx, av, Int.reduceBEq, Int.reduceBNe, eqA, eqD, eqOp, nilCheckA, trA_nil, trA_cons, nextT, preA]; rfl) (by simp only [oUn_not, beq_self_eq_true, eq_self, pv_mul, List.toList_toArray, opsA_cons, opsA_nil, wantedA, guardA, yieldA, stepA_t, stepA_f, callA, calleeA, targetA, runOp_c, runOp_n, opA, ev, evs, evo, consO, consOO, withH, pickA, afterA_s, putA, T.get_put, Nat.reduceEqDiff, reduceIte, List.getElem?_toArray, List.getElem?_cons_zero, List.getElem?_cons_succ, oBuiltin, oBin, binA, binG, binL, aggO, litA, intA, ltF_eq, eqF_eq, oIndexAddr, cond_true, cond_false, Bool.not_true, Bool.not_false, decide_true, decide_false, blt_eq, tt_beq, tf_beq, ft_beq, ff_beq, Bool.and_true, Bool.true_and, Option.some.injEq, I, Bo, addI, subI, oExtract, Bool.not_eq_true', fieldAddrA, oFieldAddr, oLoad, oStore, isAggD, aggH, oneH, skipH, Nat.add_eq_left, Nat.left_eq_add, Nat.succ_ne_self, fieldA, partA, cellsOf, List.length_cons, List.length_nil, Nat.reduceAdd, Nat.zero_add, Nat.add_zero, Nat.mul_one, Nat.reduceMul, nbeq_self, onesA_cons', onesA_nil, oneA, Value.oneCell', Nat.reduceLT, ty3, ti3, ty22, ti22, ty25, ti25, ty26, ti26, ty39, ti39, a0, a1, l0, l1, l2, q24, q28, ix, lx, av, Int.reduceBEq, Int.reduceBNe, eqA, eqD, eqOp, nilCheckA, checksD_nil, checksD_cons, checkD, checkG, sameR, avB_int]) rfl ?_
  repeat' (first
    | refine wc_seq ?_
    | (refine wc_region rfl ?_; simp only [oUn_not, beq_self_eq_true, eq_self, pv_mul, List.toList_toArray, opsA_cons, opsA_nil, wantedA, guardA, yieldA, stepA_t, stepA_f, callA, calleeA, targetA, runOp_c, runOp_n, opA, ev, evs, evo, consO, consOO, withH, pickA, afterA_s, putA, T.get_put, Nat.reduceEqDiff, reduceIte, List.getElem?_toArray, List.getElem?_cons_zero, List.getElem?_cons_succ, oBuiltin, oBin, binA, binG, binL, aggO, litA, intA, ltF_eq, eqF_eq, oIndexAddr, cond_true, cond_false, Bool.not_true, Bool.not_false, decide_true, decide_false, blt_eq, tt_beq, tf_beq, ft_beq, ff_beq, Bool.and_true, Bool.true_and, Option.some.injEq, I, Bo, addI, subI, oExtract, Bool.not_eq_true', fieldAddrA, oFieldAddr, oLoad, oStore, isAggD, aggH, oneH, skipH, Nat.add_eq_left, Nat.left_eq_add, Nat.succ_ne_self, fieldA, partA, cellsOf, List.length_cons, List.length_nil, Nat.reduceAdd, Nat.zero_add, Nat.add_zero, Nat.mul_one, Nat.reduceMul, nbeq_self, onesA_cons', onesA_nil, oneA, Value.oneCell', Nat.reduceLT, ty3, ti3, ty22, ti22, ty25, ti25, ty26, ti26, ty39, ti39, a0, a1, l0, l1, l2, q24, q28, ix, lx, av, Int.reduceBEq, Int.reduceBNe, eqA, eqD, eqOp, nilCheckA]; refine ⟨_, _, rfl, ?_⟩)
    | (refine wc_cond (by simp only [oUn_not, beq_self_eq_true, eq_self, pv_mul, List.toList_toArray, opsA_cons, opsA_nil, wantedA, guardA, yieldA, stepA_t, stepA_f, callA, calleeA, targetA, runOp_c, runOp_n, opA, ev, evs, evo, consO, consOO, withH, pickA, afterA_s, putA, T.get_put, Nat.reduceEqDiff, reduceIte, List.getElem?_toArray, List.getElem?_cons_zero, List.getElem?_cons_succ, oBuiltin, oBin, binA, binG, binL, aggO, litA, intA, ltF_eq, eqF_eq, oIndexAddr, cond_true, cond_false, Bool.not_true, Bool.not_false, decide_true, decide_false, blt_eq, tt_beq, tf_beq, ft_beq, ff_beq, Bool.and_true, Bool.true_and, Option.some.injEq, I, Bo, addI, subI, oExtract, Bool.not_eq_true', fieldAddrA, oFieldAddr, oLoad, oStore, isAggD, aggH, oneH, skipH, Nat.add_eq_left, Nat.left_eq_add, Nat.succ_ne_self, fieldA, partA, cellsOf, List.length_cons, List.length_nil, Nat.reduceAdd, Nat.zero_add, Nat.add_zero, Nat.mul_one, Nat.reduceMul, nbeq_self, onesA_cons', onesA_nil, oneA, Value.oneCell', Nat.reduceLT, ty3, ti3, ty22, ti22, ty25, ti25, ty26, ti26, ty39, ti39, a0, a1, l0, l1, l2, q24, q28, ix, lx, av, Int.reduceBEq, Int.reduceBNe, eqA, eqD, eqOp, nilCheckA]; rfl) ?_ ?_ <;> intro hb <;> first | (exfalso; exact Bool.noConfusion hb) | skip)
    | refine wc_block ?_
    | refine wc_skip ?_
    | refine wc_scope (by decide) ?_
    | refine wc_label ?_
    | refine wc_exit ?_
    | refine wc_ret ?_
    | refine wv_ret (by simp only [resA, resOne]; simp only [oUn_not, beq_self_eq_true, eq_self, pv_mul, List.toList_toArray, opsA_cons, opsA_nil, wantedA, guardA, yieldA, stepA_t, stepA_f, callA, calleeA, targetA, runOp_c, runOp_n, opA, ev, evs, evo, consO, consOO, withH, pickA, afterA_s, putA, T.get_put, Nat.reduceEqDiff, reduceIte, List.getElem?_toArray, List.getElem?_cons_zero, List.getElem?_cons_succ, oBuiltin, oBin, binA, binG, binL, aggO, litA, intA, ltF_eq, eqF_eq, oIndexAddr, cond_true, cond_false, Bool.not_true, Bool.not_false, decide_true, decide_false, blt_eq, tt_beq, tf_beq, ft_beq, ff_beq, Bool.and_true, Bool.true_and, Option.some.injEq, I, Bo, addI, subI, oExtract, Bool.not_eq_true', fieldAddrA, oFieldAddr, oLoad, oStore, isAggD, aggH, oneH, skipH, Nat.add_eq_left, Nat.left_eq_add, Nat.succ_ne_self, fieldA, partA, cellsOf, List.length_cons, List.length_nil, Nat.reduceAdd, Nat.zero_add, Nat.add_zero, Nat.mul_one, Nat.reduceMul, nbeq_self, onesA_cons', onesA_nil, oneA, Value.oneCell', Nat.reduceLT, ty3, ti3, ty22, ti22, ty25, ti25, ty26, ti26, ty39, ti39, a0, a1, l0, l1, l2, q24, q28, ix, lx, av, Int.reduceBEq, Int.reduceBNe, eqA, eqD, eqOp, nilCheckA]; rfl) ?_)
  all_goals exact ⟨rfl, rfl⟩
set_option maxHeartbeats 4000000 in
theorem c14e (d : Nat) (h : Hp) (p nm : Nat) (M : List Int) (f t : Nat) (b : Buf h p nm M f t) (k : Nat) (x : Int) (hx : (con M f t)[k]? = some x) (hk : f ≤ k) : runA ctx 5000 (d + 3) 14 [.ptr p 0, I (Int.ofNat k)] h = some (.tup [I x, I 0], h) := by
  have q1 := b.le1
  have q2 := b.le2
  have q3 := b.sm
  have q4 := b.len
  have hkl := (List.getElem?_eq_some_iff.1 hx).1
  have q24 : runA ctx 5000 (d + 2) 24 [.ptr p 0, I (Int.ofNat k), I 1] h = some (I 0, h) := c24 d h p nm M f t (Int.ofNat k) 1 b (by simp only [Int.ofNat_eq_natCast]; omega)
  rw [con_at q1 q2] at hx
  have l0 := b.c0.load
  have l1 := b.c1.load
  have l2 := b.c2.load
  rw [if_neg (by omega)] at hx
  have q28 : runA ctx 5000 (d + 2) 28 [.ptr p 0, I (Int.ofNat k)] h = some (I (Int.ofNat (k + (t - f))), h) := c28b (d + 1) h p nm M f t k b hk (by omega)
  have ix := ia22 (nm := nm) (off := 0) (n := M.length) (cap := M.length) (z := 0) (r := false) (k := k + (t - f)) (by omega)
  rw [Nat.zero_add] at ix
  have lx := (b.blk.cell hx).load
  have av : avB 4 (.slice nm 0 M.length false M.length 0) (.slice nm 0 M.length false M.length 0) = true := by
    show ((nm == nm) && (0 == 0) && (M.length == M.length) && (false == false) && (M.length == M.length) && (0 == 0)) = true
    simp
  refine wv_eq ?_
  refine wv_run fn14 rfl ?_
  have a0 : (enterEnv [.ptr p 0, I (Int.ofNat k)] Try.f14.ntmps).get 0 = some (.ptr p 0) := enter_get1 _ _ _
  have a1 : (enterEnv [.ptr p 0, I (Int.ofNat k)] Try.f14.ntmps).get 1 = some (I (Int.ofNat k)) := enter_get2 _ _ _ _
  generalize enterEnv [.ptr p 0, I (Int.ofNat k)] Try.f14.ntmps = e at a0 a1 ⊢
  unfold Try.f14
  dsimp only
  repeat' (first
    | refine wc_seq ?_
    | (refine wc_region rfl ?_; simp only [oUn_not, beq_self_eq_true, eq_self, pv_mul, List.toList_toArray, opsA_cons, opsA_nil, wantedA, guardA, yieldA, stepA_t, stepA_f, callA, calleeA, targetA, runOp_c, runOp_n, opA, ev, evs, evo, consO, consOO, withH, pickA, afterA_s, putA, T.get_put, Nat.reduceEqDiff, reduceIte, List.getElem?_toArray, List.getElem?_cons_zero, List.getElem?_cons_succ, oBuiltin, oBin, binA, binG, binL, aggO, litA, intA, ltF_eq, eqF_eq, oIndexAddr, cond_true, cond_false, Bool.not_true, Bool.not_false, decide_true, decide_false, blt_eq, tt_beq, tf_beq, ft_beq, ff_beq, Bool.and_true, Bool.true_and, Option.some.injEq, I, Bo, addI, subI, oExtract, Bool.not_eq_true', fieldAddrA, oFieldAddr, oLoad, oStore, isAggD, aggH, oneH, skipH, Nat.add_eq_left, Nat.left_eq_add, Nat.succ_ne_self, fieldA, partA, cellsOf, List.length_cons, List.length_nil, Nat.reduceAdd, Nat.zero_add, Nat.add_zero, Nat.mul_one, Nat.reduceMul, nbeq_self, onesA_cons', onesA_nil, oneA, Value.oneCell', Nat.reduceLT, ty3, ti3, ty22, ti22, ty25, ti25, ty26, ti26, ty39, ti39, a0, a1, l0, l1, l2, q24, q28, ix, lx, av, Int.reduceBEq, Int.reduceBNe, eqA, eqD, eqOp, nilCheckA]; refine ⟨_, _, rfl, ?_⟩)
    | (refine wc_cond (by simp only [oUn_not, beq_self_eq_true, eq_self, pv_mul, List.toList_toArray, opsA_cons, opsA_nil, wantedA, guardA, yieldA, stepA_t, stepA_f, callA, calleeA, targetA, runOp_c, runOp_n, opA, ev, evs, evo, consO, consOO, withH, pickA, afterA_s, putA, T.get_put, Nat.reduceEqDiff, reduceIte, List.getElem?_toArray, List.getElem?_cons_zero, List.getElem?_cons_succ, oBuiltin, oBin, binA, binG, binL, aggO, litA, intA, ltF_eq, eqF_eq, oIndexAddr, cond_true, cond_false, Bool.not_true, Bool.not_false, decide_true, decide_false, blt_eq, tt_beq, tf_beq, ft_beq, ff_beq, Bool.and_true, Bool.true_and, Option.some.injEq, I, Bo, addI, subI, oExtract, Bool.not_eq_true', fieldAddrA, oFieldAddr, oLoad, oStore, isAggD, aggH, oneH, skipH, Nat.add_eq_left, Nat.left_eq_add, Nat.succ_ne_self, fieldA, partA, cellsOf, List.length_cons, List.length_nil, Nat.reduceAdd, Nat.zero_add, Nat.add_zero, Nat.mul_one, Nat.reduceMul, nbeq_self, onesA_cons', onesA_nil, oneA, Value.oneCell', Nat.reduceLT, ty3, ti3, ty22, ti22, ty25, ti25, ty26, ti26, ty39, ti39, a0, a1, l0, l1, l2, q24, q28, ix, lx, av, Int.reduceBEq, Int.reduceBNe, eqA, eqD, eqOp, nilCheckA]; rfl) ?_ ?_ <;> intro hb <;> first | (exfalso; exact Bool.noConfusion hb) | skip)
    | refine wc_block ?_
    | refine wc_skip ?_
    | refine wc_scope (by decide) ?_
    | refine wc_label ?_
    | refine wc_exit ?_
    | refine wc_ret ?_
    | refine wv_ret (by simp only [resA, resOne]; simp only [oUn_not, beq_self_eq_true, eq_self, pv_mul, List.toList_toArray, opsA_cons, opsA_nil, wantedA, guardA, yieldA, stepA_t, stepA_f, callA, calleeA, targetA, runOp_c, runOp_n, opA, ev, evs, evo, consO, consOO, withH, pickA, afterA_s, putA, T.get_put, Nat.reduceEqDiff, reduceIte, List.getElem?_toArray, List.getElem?_cons_zero, List.getElem?_cons_succ, oBuiltin, oBin, binA, binG, binL, aggO, litA, intA, ltF_eq, eqF_eq, oIndexAddr, cond_true, cond_false, Bool.not_true, Bool.not_false, decide_true, decide_false, blt_eq, tt_beq, tf_beq, ft_beq, ff_beq, Bool.and_true, Bool.true_and, Option.some.injEq, I, Bo, addI, subI, oExtract, Bool.not_eq_true', fieldAddrA, oFieldAddr, oLoad, oStore, isAggD, aggH, oneH, skipH, Nat.add_eq_left, Nat.left_eq_add, Nat.succ_ne_self, fieldA, partA, cellsOf, List.length_cons, List.length_nil, Nat.reduceAdd, Nat.zero_add, Nat.add_zero, Nat.mul_one, Nat.reduceMul, nbeq_self, onesA_cons', onesA_nil, oneA, Value.oneCell', Nat.reduceLT, ty3, ti3, ty22, ti22, ty25, ti25, ty26, ti26, ty39, ti39, a0, a1, l0, l1, l2, q24, q28, ix, lx, av, Int.reduceBEq, Int.reduceBNe, eqA, eqD, eqOp, nilCheckA]; rfl) ?_)
  refine wc_dyn (p := (3, 7)) (ps := []) (by kernel_rfl) (by simp only [oUn_not, beq_self_eq_true, eq_self, pv_mul, List.toList_toArray, opsA_cons, opsA_nil, wantedA, guardA, yieldA, stepA_t, stepA_f, callA, calleeA, targetA, runOp_c, runOp_n, opA, ev, evs, evo, consO, consOO, withH, pickA, afterA_s, putA, T.get_put, Nat.reduceEqDiff, reduceIte, List.getElem?_toArray, List.getElem?_cons_zero, List.getElem?_cons_succ, oBuiltin, oBin, binA, binG, binL, aggO, litA, intA, ltF_eq, eqF_eq, oIndexAddr, cond_true, cond_false, Bool.not_true, Bool.not_false, decide_true, decide_false, blt_eq, tt_beq, tf_beq, ft_beq, ff_beq, Bool.and_true, Bool.true_and, Option.some.injEq, I, Bo, addI, subI, oExtract, Bool.not_eq_true', fieldAddrA, oFieldAddr, oLoad, oStore, isAggD, aggH, oneH, skipH, Nat.add_eq_left, Nat.left_eq_add, Nat.succ_ne_self, fieldA, partA, cellsOf, List.length_cons, List.length_nil, Nat.reduceAdd, Nat.zero_add, Nat.add_zero, Nat.mul_one, Nat.reduceMul, nbeq_self, onesA_cons', onesA_nil, oneA, Value.oneCell', Nat.reduceLT, ty3, ti3, ty22, ti22, ty25, ti25, ty26, ti26, ty39, ti39, a0, a1, l0, l1, l2, q24, q28, ix, lx, av, Int.reduceBEq, Int.reduceBNe, eqA, eqD, eqOp, nilCheckA, trA_nil, trA_cons, nextT, preA]; rfl) (by simp only [oUn_not, beq_self_eq_true, eq_self, pv_mul, List.toList_toArray, opsA_cons, opsA_nil, wantedA, guardA, yieldA, stepA_t, stepA_f, callA, calleeA, targetA, runOp_c, runOp_n, opA, ev, evs, evo, consO, consOO, withH, pickA, afterA_s, putA, T.get_put, Nat.reduceEqDiff, reduceIte, List.getElem?_toArray, List.getElem?_cons_zero, List.getElem?_cons_succ, oBuiltin, oBin, binA, binG, binL, aggO, litA, intA, ltF_eq, eqF_eq, oIndexAddr, cond_true, cond_false, Bool.not_true, Bool.not_false, decide_true, decide_false, blt_eq, tt_beq, tf_beq, ft_beq, ff_beq, Bool.and_true, Bool.true_and, Option.some.injEq, I, Bo, addI, subI, oExtract, Bool.not_eq_true', fieldAddrA, oFieldAddr, oLoad, oStore, isAggD, aggH, oneH, skipH, Nat.add_eq_left, Nat.left_eq_add, Nat.succ_ne_self, fieldA, partA, cellsOf, List.length_cons, List.length_nil, Nat.reduceAdd, Nat.zero_add, Nat.add_zero, Nat.mul_one, Nat.reduceMul, nbeq_self, onesA_cons', onesA_nil, oneA, Value.oneCell', Nat.reduceLT, ty3, ti3, ty22, ti22, ty25, ti25, ty26, ti26, ty39, ti39, a0, a1, l0, l1, l2, q24, q28, ix, lx, av, Int.reduceBEq, Int.reduceBNe, eqA, eqD, eqOp, nilCheckA, checksD_nil, checksD_cons, checkD, checkG, sameR, avB_int]) rfl ?_
  repeat' (first
    | refine wc_seq ?_
    | (refine wc_region rfl ?_; simp only [oUn_not, beq_self_eq_true, eq_self, pv_mul, List.toList_toArray, opsA_cons, opsA_nil, wantedA, guardA, yieldA, stepA_t, stepA_f, callA, calleeA, targetA, runOp_c, runOp_n, opA, ev, evs, evo, consO, consOO, withH, pickA, afterA_s, putA, T.get_put, Nat.reduceEqDiff, reduceIte, List.getElem?_toArray, List.getElem?_cons_zero, List.getElem?_cons_succ, oBuiltin, oBin, binA, binG, binL, aggO, litA, intA, ltF_eq, eqF_eq, oIndexAddr, cond_true, cond_false, Bool.not_true, Bool.not_false, decide_true, decide_false, blt_eq, tt_beq, tf_beq, ft_beq, ff_beq, Bool.and_true, Bool.true_and, Option.some.injEq, I, Bo, addI, subI, oExtract, Bool.not_eq_true', fieldAddrA, oFieldAddr, oLoad, oStore, isAggD, aggH, oneH, skipH, Nat.add_eq_left, Nat.left_eq_add, Nat.succ_ne_self, fieldA, partA, cellsOf, List.length_cons, List.length_nil, Nat.reduceAdd, Nat.zero_add, Nat.add_zero, Nat.mul_one, Nat.reduceMul, nbeq_self, onesA_cons', onesA_nil, oneA, Value.oneCell', Nat.reduceLT, ty3, ti3, ty22, ti22, ty25, ti25, ty26, ti26, ty39, ti39, a0, a1, l0, l1, l2, q24, q28, ix, lx, av, Int.reduceBEq, Int.reduceBNe, eqA, eqD, eqOp, nilCheckA]; refine ⟨_, _, rfl, ?_⟩)
    | (refine wc_cond (by simp only [oUn_not, beq_self_eq_true, eq_self, pv_mul, List.toList_toArray, opsA_cons, opsA_nil, wantedA, guardA, yieldA, stepA_t, stepA_f, callA, calleeA, targetA, runOp_c, runOp_n, opA, ev, evs, evo, consO, consOO, withH, pickA, afterA_s, putA, T.get_put, Nat.reduceEqDiff, reduceIte, List.getElem?_toArray, List.getElem?_cons_zero, List.getElem?_cons_succ, oBuiltin, oBin, binA, binG, binL, aggO, litA, intA, ltF_eq, eqF_eq, oIndexAddr, cond_true, cond_false, Bool.not_true, Bool.not_false, decide_true, decide_false, blt_eq, tt_beq, tf_beq, ft_beq, ff_beq, Bool.and_true, Bool.true_and, Option.some.injEq, I, Bo, addI, subI, oExtract, Bool.not_eq_true', fieldAddrA, oFieldAddr, oLoad, oStore, isAggD, aggH, oneH, skipH, Nat.add_eq_left, Nat.left_eq_add, Nat.succ_ne_self, fieldA, partA, cellsOf, List.length_cons, List.length_nil, Nat.reduceAdd, Nat.zero_add, Nat.add_zero, Nat.mul_one, Nat.reduceMul, nbeq_self, onesA_cons', onesA_nil, oneA, Value.oneCell', Nat.reduceLT, ty3, ti3, ty22, ti22, ty25, ti25, ty26, ti26, ty39, ti39, a0, a1, l0, l1, l2, q24, q28, ix, lx, av, Int.reduceBEq, Int.reduceBNe, eqA, eqD, eqOp, nilCheckA]; rfl) ?_ ?_ <;> intro hb <;> first | (exfalso; exact Bool.noConfusion hb) | skip)
    | refine wc_block ?_
    | refine wc_skip ?_
    | refine wc_scope (by decide) ?_
    | refine wc_label ?_
    | refine wc_exit ?_
    | refine wc_ret ?_
    | refine wv_ret (by simp only [resA, resOne]; simp only [oUn_not, beq_self_eq_true, eq_self, pv_mul, List.toList_toArray, opsA_cons, opsA_nil, wantedA, guardA, yieldA, stepA_t, stepA_f, callA, calleeA, targetA, runOp_c, runOp_n, opA, ev, evs, evo, consO, consOO, withH, pickA, afterA_s, putA, T.get_put, Nat.reduceEqDiff, reduceIte, List.getElem?_toArray, List.getElem?_cons_zero, List.getElem?_cons_succ, oBuiltin, oBin, binA, binG, binL, aggO, litA, intA, ltF_eq, eqF_eq, oIndexAddr, cond_true, cond_false, Bool.not_true, Bool.not_false, decide_true, decide_false, blt_eq, tt_beq, tf_beq, ft_beq, ff_beq, Bool.and_true, Bool.true_and, Option.some.injEq, I, Bo, addI, subI, oExtract, Bool.not_eq_true', fieldAddrA, oFieldAddr, oLoad, oStore, isAggD, aggH, oneH, skipH, Nat.add_eq_left, Nat.left_eq_add, Nat.succ_ne_self, fieldA, partA, cellsOf, List.length_cons, List.length_nil, Nat.reduceAdd, Nat.zero_add, Nat.add_zero, Nat.mul_one, Nat.reduceMul, nbeq_self, onesA_cons', onesA_nil, oneA, Value.oneCell', Nat.reduceLT, ty3, ti3, ty22, ti22, ty25, ti25, ty26, ti26, ty39, ti39, a0, a1, l0, l1, l2, q24, q28, ix, lx, av, Int.reduceBEq, Int.reduceBNe, eqA, eqD, eqOp, nilCheckA]; rfl) ?_)
  all_goals exact ⟨rfl, rfl⟩
theorem c14 (d : Nat) (h : Hp) (p nm : Nat) (M : List Int) (f t : Nat) (b : Buf h p nm M f t) (k : Nat) (x : Int) (hx : (con M f t)[k]? = some x) : runA ctx 5000 (d + 3) 14 [.ptr p 0, I (Int.ofNat k)] h = some (.tup [I x, I 0], h) := by
  by_cases hk : k < f
  · exact c14a d h p nm M f t b k x hx hk
  · exact c14e d h p nm M f t b k x hx (by omega)
set_option maxHeartbeats 4000000 in
theorem c13 (d : Nat) (h : Hp) (p nm : Nat) (M : List Int) (f t : Nat) (b : Buf h p nm M f t) (hs : (con M f t).length ≤ 4096) : Wv (runA ctx 5000 (d + 2) 13 [.ptr p 0] h) (fun r h' => Ext h h' ∧ ((con M f t = [] ∧ r = nilS) ∨ ∃ ng, r = .slice ng 0 (con M f t).length false (con M f t).length 0 ∧ h.c ≤ ng ∧ BI h' ng (con M f t))) := by
  have q1 := b.le1
  have q2 := b.le2
  have q3 := b.sm
  have q4 := b.len
  have q11 : runA ctx 5000 (d + 1) 11 [.ptr p 0] h = some (I (Int.ofNat (con M f t).length), h) := c11 d h p nm M f t b
  generalize hC : con M f t = L at *
  have hls := b.lt
  have hnm := b.blk.lt
  by_cases h0 : L = []
  · have e0 : L.length = 0 := by rw [h0]; rfl
    rw [e0] at q11
    refine wv_run fn13 rfl ?_
    have a0 : (enterEnv [.ptr p 0] Try.f13.ntmps).get 0 = some (.ptr p 0) := enter_get1 _ _ _
    generalize enterEnv [.ptr p 0] Try.f13.ntmps = e at a0 ⊢
    unfold Try.f13
    dsimp only
    repeat' (first
      | refine wc_seq ?_
      | (refine wc_region rfl ?_; simp only [oUn_not, beq_self_eq_true, eq_self, pv_mul, List.toList_toArray, opsA_cons, opsA_nil, wantedA, guardA, yieldA, stepA_t, stepA_f, callA, calleeA, targetA, runOp_c, runOp_n, opA, ev, evs, evo, consO, consOO, withH, pickA, afterA_s, putA, T.get_put, Nat.reduceEqDiff, reduceIte, List.getElem?_toArray, List.getElem?_cons_zero, List.getElem?_cons_succ, oBuiltin, oBin, binA, binG, binL, aggO, litA, intA, ltF_eq, eqF_eq, oIndexAddr, cond_true, cond_false, Bool.not_true, Bool.not_false, decide_true, decide_false, blt_eq, tt_beq, tf_beq, ft_beq, ff_beq, Bool.and_true, Bool.true_and, Option.some.injEq, I, Bo, addI, subI, oExtract, Bool.not_eq_true', fieldAddrA, oFieldAddr, oLoad, oStore, isAggD, aggH, oneH, skipH, Nat.add_eq_left, Nat.left_eq_add, Nat.succ_ne_self, fieldA, partA, cellsOf, List.length_cons, List.length_nil, Nat.reduceAdd, Nat.zero_add, Nat.add_zero, Nat.mul_one, Nat.reduceMul, nbeq_self, onesA_cons', onesA_nil, oneA, Value.oneCell', Nat.reduceLT, ty3, ti3, ty22, ti22, ty25, ti25, ty39, ti39, a0, q11, of0, Int.reduceBEq, eqA, eqD, eqOp, nilCheckA]; refine ⟨_, _, rfl, ?_⟩)
      | (refine wc_cond (by simp only [oUn_not, beq_self_eq_true, eq_self, pv_mul, List.toList_toArray, opsA_cons, opsA_nil, wantedA, guardA, yieldA, stepA_t, stepA_f, callA, calleeA, targetA, runOp_c, runOp_n, opA, ev, evs, evo, consO, consOO, withH, pickA, afterA_s, putA, T.get_put, Nat.reduceEqDiff, reduceIte, List.getElem?_toArray, List.getElem?_cons_zero, List.getElem?_cons_succ, oBuiltin, oBin, binA, binG, binL, aggO, litA, intA, ltF_eq, eqF_eq, oIndexAddr, cond_true, cond_false, Bool.not_true, Bool.not_false, decide_true, decide_false, blt_eq, tt_beq, tf_beq, ft_beq, ff_beq, Bool.and_true, Bool.true_and, Option.some.injEq, I, Bo, addI, subI, oExtract, Bool.not_eq_true', fieldAddrA, oFieldAddr, oLoad, oStore, isAggD, aggH, oneH, skipH, Nat.add_eq_left, Nat.left_eq_add, Nat.succ_ne_self, fieldA, partA, cellsOf, List.length_cons, List.length_nil, Nat.reduceAdd, Nat.zero_add, Nat.add_zero, Nat.mul_one, Nat.reduceMul, nbeq_self, onesA_cons', onesA_nil, oneA, Value.oneCell', Nat.reduceLT, ty3, ti3, ty22, ti22, ty25, ti25, ty39, ti39, a0, q11, of0, Int.reduceBEq, eqA, eqD, eqOp, nilCheckA]; rfl) ?_ ?_ <;> intro hb <;> first | (exfalso; exact Bool.noConfusion hb) | skip)
      | refine wc_block ?_
      | refine wc_skip ?_
      | refine wc_scope (by decide) ?_
      | refine wc_label ?_
      | refine wc_exit ?_
      | refine wc_ret ?_
      | refine wv_ret (by simp only [resA, resOne]; simp only [oUn_not, beq_self_eq_true, eq_self, pv_mul, List.toList_toArray, opsA_cons, opsA_nil, wantedA, guardA, yieldA, stepA_t, stepA_f, callA, calleeA, targetA, runOp_c, runOp_n, opA, ev, evs, evo, consO, consOO, withH, pickA, afterA_s, putA, T.get_put, Nat.reduceEqDiff, reduceIte, List.getElem?_toArray, List.getElem?_cons_zero, List.getElem?_cons_succ, oBuiltin, oBin, binA, binG, binL, aggO, litA, intA, ltF_eq, eqF_eq, oIndexAddr, cond_true, cond_false, Bool.not_true, Bool.not_false, decide_true, decide_false, blt_eq, tt_beq, tf_beq, ft_beq, ff_beq, Bool.and_true, Bool.true_and, Option.some.injEq, I, Bo, addI, subI, oExtract, Bool.not_eq_true', fieldAddrA, oFieldAddr, oLoad, oStore, isAggD, aggH, oneH, skipH, Nat.add_eq_left, Nat.left_eq_add, Nat.succ_ne_self, fieldA, partA, cellsOf, List.length_cons, List.length_nil, Nat.reduceAdd, Nat.zero_add, Nat.add_zero, Nat.mul_one, Nat.reduceMul, nbeq_self, onesA_cons', onesA_nil, oneA, Value.oneCell', Nat.reduceLT, ty3, ti3, ty22, ti22, ty25, ti25, ty39, ti39, a0, q11, of0, Int.reduceBEq, eqA, eqD, eqOp, nilCheckA]; rfl) ?_)
    all_goals exact ⟨Ext.refl _, .inl ⟨h0, rfl⟩⟩
  · have hz : (Int.ofNat L.length == 0) = false := by
      have : L.length ≠ 0 := fun e => h0 (List.length_eq_zero_iff.1 e)
      rw [beq_eq_false_iff_ne]
      simp only [Int.ofNat_eq_natCast]
      omega
    obtain ⟨h1, hmk, x1, k1, g1⟩ := mkB (h := h) (n := L.length) (by omega)
    have B1 := b.ext x1
    obtain ⟨sa, hsa, Sa⟩ := slT (nm := nm) (n := M.length) (b := f) (by omega)
    have em : min f L.length = f := by omega
    have l1' : (M.take f).length = f := by rw [List.length_take]; omega
    obtain ⟨h2, hcp, o2, g2⟩ := copyB g1 (Sl.whole h.c L.length L.length) (by rw [List.length_replicate]; omega) Sa.len (xs := M.take f) (by rw [em]; have := Sa.elems B1.blk (m := f) (by omega) (Nat.le_refl _); rwa [List.drop_zero] at this) (by rw [em]; exact l1')
    rw [em] at hcp
    have e2 : (patch (List.replicate L.length (0 : Int)) 0 (M.take f)).length = L.length := by rw [patch_len (by rw [l1', List.length_replicate]; omega), List.length_replicate]
    have B2 := B1.fr (o2.fr (P := fun k => k = h.c) rfl) (by omega) (by omega)
    obtain ⟨sb, hsb, Sb⟩ := slF (nm := nm) (n := M.length) (a := t) q2
    obtain ⟨sc, hsc, Sc⟩ := slF (nm := h.c) (n := L.length) (a := f) (by omega)
    have em2 : min (M.length - t) (L.length - f) = M.length - t := by omega
    obtain ⟨h3, hcp2, o3, g3⟩ := copyB g2 Sc (by rw [e2]; omega) Sb.len (xs := M.drop t) (by rw [em2]; have := Sb.elems B2.blk (m := M.length - t) (by omega) (Nat.le_refl _); rwa [List.take_of_length_le (by rw [List.length_drop]; omega)] at this) (by rw [em2]; exact List.length_drop)
    have hL : patch (patch (List.replicate L.length (0 : Int)) 0 (M.take f)) f (M.drop t) = L := by
      have h9 := grow_eq (M := M) (f := f) (t := t) (more := 0) q1 q2
      rw [Nat.add_zero, Nat.add_zero, ← q4, hC] at h9
      rwa [con, List.take_append_drop] at h9
    rw [hL] at g3
    have x3 : Ext h h3 := Fr.from x1 ((o2.trans o3).fr (P := fun k => k = h.c) rfl) (fun k e => by omega)
    have ml0 := B1.c0.load
    have ml1 := B1.c1.load
    have nl0 := B2.c0.load
    have nl2 := B2.c2.load
    refine wv_run fn13 rfl ?_
    have a0 : (enterEnv [.ptr p 0] Try.f13.ntmps).get 0 = some (.ptr p 0) := enter_get1 _ _ _
    generalize enterEnv [.ptr p 0] Try.f13.ntmps = e at a0 ⊢
    unfold Try.f13
    dsimp only
    repeat' (first
      | refine wc_seq ?_
      | (refine wc_region rfl ?_; simp only [oUn_not, beq_self_eq_true, eq_self, pv_mul, List.toList_toArray, opsA_cons, opsA_nil, wantedA, guardA, yieldA, stepA_t, stepA_f, callA, calleeA, targetA, runOp_c, runOp_n, opA, ev, evs, evo, consO, consOO, withH, pickA, afterA_s, putA, T.get_put, Nat.reduceEqDiff, reduceIte, List.getElem?_toArray, List.getElem?_cons_zero, List.getElem?_cons_succ, oBuiltin, oBin, binA, binG, binL, aggO, litA, intA, ltF_eq, eqF_eq, oIndexAddr, cond_true, cond_false, Bool.not_true, Bool.not_false, decide_true, decide_false, blt_eq, tt_beq, tf_beq, ft_beq, ff_beq, Bool.and_true, Bool.true_and, Option.some.injEq, I, Bo, addI, subI, oExtract, Bool.not_eq_true', fieldAddrA, oFieldAddr, oLoad, oStore, isAggD, aggH, oneH, skipH, Nat.add_eq_left, Nat.left_eq_add, Nat.succ_ne_self, fieldA, partA, cellsOf, List.length_cons, List.length_nil, Nat.reduceAdd, Nat.zero_add, Nat.add_zero, Nat.mul_one, Nat.reduceMul, nbeq_self, onesA_cons', onesA_nil, oneA, Value.oneCell', Nat.reduceLT, ty3, ti3, ty22, ti22, ty25, ti25, ty39, ti39, a0, q11, hz, hmk, hsa, hcp, hsb, hsc, hcp2, ml0, ml1, nl0, nl2, oSlice, oMakeSlice, eqA, eqD, eqOp, nilCheckA]; refine ⟨_, _, rfl, ?_⟩)
      | (refine wc_cond (by simp only [oUn_not, beq_self_eq_true, eq_self, pv_mul, List.toList_toArray, opsA_cons, opsA_nil, wantedA, guardA, yieldA, stepA_t, stepA_f, callA, calleeA, targetA, runOp_c, runOp_n, opA, ev, evs, evo, consO, consOO, withH, pickA, afterA_s, putA, T.get_put, Nat.reduceEqDiff, reduceIte, List.getElem?_toArray, List.getElem?_cons_zero, List.getElem?_cons_succ, oBuiltin, oBin, binA, binG, binL, aggO, litA, intA, ltF_eq, eqF_eq, oIndexAddr, cond_true, cond_false, Bool.not_true, Bool.not_false, decide_true, decide_false, blt_eq, tt_beq, tf_beq, ft_beq, ff_beq, Bool.and_true, Bool.true_and, Option.some.injEq, I, Bo, addI, subI, oExtract, Bool.not_eq_true', fieldAddrA, oFieldAddr, oLoad, oStore, isAggD, aggH, oneH, skipH, Nat.add_eq_left, Nat.left_eq_add, Nat.succ_ne_self, fieldA, partA, cellsOf, List.length_cons, List.length_nil, Nat.reduceAdd, Nat.zero_add, Nat.add_zero, Nat.mul_one, Nat.reduceMul, nbeq_self, onesA_cons', onesA_nil, oneA, Value.oneCell', Nat.reduceLT, ty3, ti3, ty22, ti22, ty25, ti25, ty39, ti39, a0, q11, hz, hmk, hsa, hcp, hsb, hsc, hcp2, ml0, ml1, nl0, nl2, oSlice, oMakeSlice, eqA, eqD, eqOp, nilCheckA]; rfl) ?_ ?_ <;> intro hb <;> first | (exfalso; exact Bool.noConfusion hb) | skip)
      | refine wc_block ?_
      | refine wc_skip ?_
      | refine wc_scope (by decide) ?_
      | refine wc_label ?_
      | refine wc_exit ?_
      | refine wc_ret ?_
      | refine wv_ret (by simp only [resA, resOne]; simp only [oUn_not, beq_self_eq_true, eq_self, pv_mul, List.toList_toArray, opsA_cons, opsA_nil, wantedA, guardA, yieldA, stepA_t, stepA_f, callA, calleeA, targetA, runOp_c, runOp_n, opA, ev, evs, evo, consO, consOO, withH, pickA, afterA_s, putA, T.get_put, Nat.reduceEqDiff, reduceIte, List.getElem?_toArray, List.getElem?_cons_zero, List.getElem?_cons_succ, oBuiltin, oBin, binA, binG, binL, aggO, litA, intA, ltF_eq, eqF_eq, oIndexAddr, cond_true, cond_false, Bool.not_true, Bool.not_false, decide_true, decide_false, blt_eq, tt_beq, tf_beq, ft_beq, ff_beq, Bool.and_true, Bool.true_and, Option.some.injEq, I, Bo, addI, subI, oExtract, Bool.not_eq_true', fieldAddrA, oFieldAddr, oLoad, oStore, isAggD, aggH, oneH, skipH, Nat.add_eq_left, Nat.left_eq_add, Nat.succ_ne_self, fieldA, partA, cellsOf, List.length_cons, List.length_nil, Nat.reduceAdd, Nat.zero_add, Nat.add_zero, Nat.mul_one, Nat.reduceMul, nbeq_self, onesA_cons', onesA_nil, oneA, Value.oneCell', Nat.reduceLT, ty3, ti3, ty22, ti22, ty25, ti25, ty39, ti39, a0, q11, hz, hmk, hsa, hcp, hsb, hsc, hcp2, ml0, ml1, nl0, nl2, oSlice, oMakeSlice, eqA, eqD, eqOp, nilCheckA]; rfl) ?_)
    all_goals exact ⟨x3, .inr ⟨h.c, rfl, Nat.le_refl _, g3⟩⟩
end Go.Proofs.Ytjfmimlmnllnjaa
