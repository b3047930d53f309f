import Derived.Test.YtgnnjlabnnapnaaLc
import Derived.KernelRfl
namespace Go.Proofs.Ytgnnjlabnnapnaa
open Go Go.Proofs Go.RowKit Go.Proofs.Abs
set_option linter.unusedSimpArgs false
set_option linter.unusedVariables false
set_option maxHeartbeats 4000000 in
theorem k17 (d : Nat) (b : Hp) (vB vR : AV) (ws : List AV) (bs : List Int) (xss : List (List Int)) (c : Bool) (i : Nat) (xs : List Int) (hP : PLs c b vB vR ws bs xss) (hV : okV bs xss) (hi : xss[i]? = some xs) : Wv (runA ctx 5000 (d + 2) 17 [.agg [vB, vR], I (i : Int)] b) (fun r h' => r = .tup [I (xs.length : Int), I 0] ∧ Ext b h') := by
  have H := ((Hs.start b).z0 (z := pls c vB vR ws bs xss) hP).opn (.head _)
  have one1 := hP.b.one
  have one2 := hP.r.one
  have wl := hP.w.1
  have hlt := (List.getElem?_eq_some_iff.1 hi).1
  obtain ⟨u, hu⟩ := at_some (show i < ws.length by omega)
  replace H := H.row (by (with_reducible repeat' first | exact mem_h _ _ | apply mem_t); done) hu hi
  refine wv_run fn17 rfl ?_
  have a0 : (enterEnv [.agg [vB, vR], I (i : Int)] Try.f17.ntmps).get 0 = some (.agg [vB, vR]) := enter_get1 _ _ _
  have a1 : (enterEnv [.agg [vB, vR], I (i : Int)] Try.f17.ntmps).get 1 = some (I (i : Int)) := enter_get2 _ _ _ _
  generalize enterEnv [.agg [vB, vR], I (i : Int)] Try.f17.ntmps = e at a0 a1 ⊢
  unfold Try.f17
  dsimp only
  ((with_reducible apply wc_c (fun i => Nat.beq i 0 || Nat.beq i 1 || Nat.beq i 2 || Nat.beq i 4 || Nat.beq i 5 || Nat.beq i 6 || Nat.beq i 10 || Nat.beq i 20)); intro e he; have w9 := he 0 rfl; (try simp only [T.get_put, Nat.reduceEqDiff, reduceIte, a0] at w9); have v0 := w9; clear w9; have w9 := he 1 rfl; (try simp only [T.get_put, Nat.reduceEqDiff, reduceIte, a1] at w9); have v1 := w9; clear w9; have w9 := he 2 rfl; (try simp only [T.get_put, Nat.reduceEqDiff, reduceIte] at w9); have v2 := w9; clear w9; have w9 := he 4 rfl; (try simp only [T.get_put, Nat.reduceEqDiff, reduceIte] at w9); have v4 := w9; clear w9; have w9 := he 5 rfl; (try simp only [T.get_put, Nat.reduceEqDiff, reduceIte] at w9); have v5 := w9; clear w9; have w9 := he 6 rfl; (try simp only [T.get_put, Nat.reduceEqDiff, reduceIte] at w9); have v6 := w9; clear w9; have w9 := he 10 rfl; (try simp only [T.get_put, Nat.reduceEqDiff, reduceIte] at w9); have v10 := w9; clear w9; have w9 := he 20 rfl; (try simp only [T.get_put, Nat.reduceEqDiff, reduceIte] at w9); have v20 := w9; clear w9; clear he)
  repeat' (first
    | (simp only [rep0, rep1, rep2, rep3, List.getElem_toArray, List.getElem_cons_zero, List.getElem_cons_succ, patch, List.take_succ_cons, List.take_zero, List.take_nil, List.drop_succ_cons, List.drop_zero, List.drop_nil, List.nil_append, List.cons_append, List.append_nil, List.length_cons, List.length_nil, List.set_cons_zero, List.set_cons_succ, Nat.zero_add, Nat.reduceAdd, cells_int, cells_bool, cells_str, cells_float, cells_np, cells_nil, cells_nf, cells_ptr, cells_slice, cells_fn, cells_agg, cells_lagg, putAt_z, putAt_s, over_nil, over_cons, litCells_cons, litCells_nil, List.toList_toArray, id_eq, repl_z, repl_one, Int.toNat_natCast, Int.reduceToNat, Nat.add_zero, Nat.mul_one, ti3, ti26, ti27, ti29, ti30] at H)
    | ((with_reducible apply nx_c (fun i => Nat.beq i 0 || Nat.beq i 1 || Nat.beq i 2 || Nat.beq i 4 || Nat.beq i 5 || Nat.beq i 6 || Nat.beq i 10 || Nat.beq i 20)); intro e he; have w0 := he 0 rfl; have w1 := he 1 rfl; have w2 := he 2 rfl; have w4 := he 4 rfl; have w5 := he 5 rfl; have w6 := he 6 rfl; have w10 := he 10 rfl; have w20 := he 20 rfl; (try simp only [T.get_put, Nat.reduceEqDiff, reduceIte, v0, v1, v2, v4, v5, v6, v10, v20] at w0 w1 w2 w4 w5 w6 w10 w20); clear he v0 v1 v2 v4 v5 v6 v10 v20; have v0 := w0; have v1 := w1; have v2 := w2; have v4 := w4; have v5 := w5; have v6 := w6; have v10 := w10; have v20 := w20; clear w0 w1 w2 w4 w5 w6 w10 w20)
    | with_reducible apply wc_seq
    | ((with_reducible apply wc_region); (· (rfl)))
    | with_reducible apply wo_some
    | simp (disch := (first | assumption | omega)) only [oUn_not, beq_self_eq_true, eq_self, List.toList_toArray, opsA_cons, opsA_nil, wantedA, guardA, yieldA, stepA_t, stepA_f, callA, calleeA, targetA, runOp_c, runOp_n, opA, ev, evs, evo, consO, consOO, pickA, afterA_s, putA, T.get_put, Nat.reduceEqDiff, reduceIte, List.getElem?_toArray, List.getElem?_cons_zero, List.getElem?_cons_succ, oBuiltin, oBin, binA, binG, binL, aggO, litA, ltF_eq, eqF_eq, oIndexAddr, cond_true, cond_false, Bool.not_true, Bool.not_false, decide_true, decide_false, blt_eq, tt_beq, tf_beq, ft_beq, ff_beq, Bool.and_true, Bool.true_and, Option.some.injEq, I, Bo, oExtract, Bool.not_eq_true', fieldAddrA, oFieldAddr, fieldA, partA, List.length_cons, List.length_nil, Nat.reduceAdd, Nat.zero_add, Nat.add_zero, Nat.mul_one, Nat.reduceMul, Nat.reduceLT, ty3, ti3, ty26, ti26, ty27, ti27, ty29, ti29, ty30, ti30, ii_add, ii_sub, ii_mul, ii_lss, ii_gtr, ii_geq, ii_leq, ii_eql, ii_neq, ii_rem, ii_quo, iu_rem, iu_lss, iu_gtr, iu_eql, iu_neq, bi_min, bi_max, List.getElem_toArray, List.getElem_cons_zero, List.getElem_cons_succ, withH_s, eqA, eqD, eqOp, nilCheckA, oBuild, oBuildSlice, oMakeSlice, oSlice, evParts, consP, oFn, oConv, dec_t, dec_f, wrap_ok, beq_dec, Int.toNat_natCast, Int.reduceToNat, id_eq, List.take_succ_cons, List.take_zero, List.drop_succ_cons, List.drop_zero, putAt_z, putAt_s, over_nil, over_cons, litCells_cons, litCells_nil, cells_int, cells_bool, cells_str, cells_float, cells_np, cells_nil, cells_nf, cells_ptr, cells_slice, cells_fn, cells_agg, cells_lagg, List.cons_append, List.nil_append, Nat.zero_add, Nat.add_zero, Nat.mul_one, Nat.reduceMul, Nat.reduceAdd, v0, v1, v2, v4, v5, v6, v10, v20, one1, one2, List.length_map]
    | (((with_reducible apply wo_call); (· ((with_reducible apply k22); (· ((first | assumption | exact H.pz (a := pls _ _ _ _ _ _) (by (with_reducible repeat' first | exact mem_h _ _ | apply mem_t); done)))))); rintro _ h ⟨rfl, hx⟩; rw [chk_yes hV]; replace H := H.ext hx; clear hx))
    | ((with_reducible apply wo_box H); clear H; intro n h H0n H)
    | ((with_reducible apply wo_load1 H); (· ((with_reducible repeat' first | exact mem_h _ _ | apply mem_t); done)); (· (rfl)); (· ((first | rfl | assumption))))
    | ((with_reducible apply wo_load1z H); (· ((with_reducible repeat' first | exact mem_h _ _ | apply mem_t); done)); (· (rfl)); (· ((first | rfl | assumption))))
    | ((with_reducible apply wo_loadc H); (· ((with_reducible repeat' first | exact mem_h _ _ | apply mem_t); done)); (· (rfl)))
    | ((with_reducible apply wo_loadn H); (· ((with_reducible repeat' first | exact mem_h _ _ | apply mem_t); done)); (· (rfl)); (· (rfl)); (· (rfl)))
    | ((with_reducible apply wo_loadnz H); (· ((with_reducible repeat' first | exact mem_h _ _ | apply mem_t); done)); (· (rfl)); (· (rfl)); (· (rfl)))
    | ((with_reducible apply wo_len H); (· ((with_reducible repeat' first | exact mem_h _ _ | apply mem_t); done)); (· ((first | exact ty3 | exact ty26 | exact ty27 | exact ty29 | exact ty30 | kernel_rfl))); (· (rfl)))
    | ((with_reducible apply wo_lenr H); (· ((with_reducible repeat' first | exact mem_h _ _ | apply mem_t); done)); (· ((first | exact ty3 | exact ty26 | exact ty27 | exact ty29 | exact ty30 | kernel_rfl))); (· (rfl)))
    | ((with_reducible apply wo_iar H); (· ((with_reducible repeat' first | exact mem_h _ _ | apply mem_t); done)); (· ((first | exact ty3 | exact ty26 | exact ty27 | exact ty29 | exact ty30 | kernel_rfl))); (· (rfl)); (· ((first | exact ty3 | exact ty26 | exact ty27 | exact ty29 | exact ty30 | kernel_rfl))); (· (rfl)); (· (rfl)); (· (rfl)); (· (assumption)); intro n o H)
    | ((with_reducible apply wo_loadcn H); (· ((with_reducible repeat' first | exact mem_h _ _ | apply mem_t); done)); (· (rfl)); (· (rfl)))
    | ((with_reducible apply wo_ia H); (· ((with_reducible repeat' first | exact mem_h _ _ | apply mem_t); done)); (· ((first | exact ty3 | exact ty26 | exact ty27 | exact ty29 | exact ty30 | kernel_rfl))); (· (rfl)); (· ((first | exact ty3 | exact ty26 | exact ty27 | exact ty29 | exact ty30 | kernel_rfl))); (· (rfl)); (· (rfl)); (· (assumption)); clear H; intro n o H)
    | ((with_reducible apply wo_step) <;> intro hg <;> (try simp only [Bool.not_eq_true', Bool.not_eq_false', beq_false, beq_true, Bool.not_not, Bool.not_eq_eq_eq_not, Bool.not_true, Bool.not_false, decide_eq_true_eq, decide_eq_false_iff_not, Bool.and_eq_true, not_true, not_false_eq_true] at hg) <;> (try subst hg) <;> (first | (exfalso; exact Bool.noConfusion hg) | skip))
    | ((with_reducible apply wc_cond); (· (simp (disch := (first | assumption | omega)) only [ev, T.get_put, Nat.reduceEqDiff, reduceIte, Option.some.injEq, dec_t, dec_f, Bool.not_true, Bool.not_false, v0, v1, v2, v4, v5, v6, v10, v20, one1, one2, List.length_map] <;> rfl)); all_goals (intro hg; (try (try simp only [Bool.not_eq_true', Bool.not_eq_false', beq_false, beq_true, Bool.not_not, Bool.not_eq_eq_eq_not, Bool.not_true, Bool.not_false, decide_eq_true_eq, decide_eq_false_iff_not, Bool.and_eq_true, not_true, not_false_eq_true] at hg)); first | (exfalso; exact Bool.noConfusion hg) | (exfalso; exact hg) | skip))
    | with_reducible apply wc_block
    | with_reducible apply wc_skip
    | with_reducible apply wc_label
    | with_reducible apply wc_exit
    | with_reducible apply wc_ret
    | with_reducible apply nx_r
    | with_reducible apply nx_e
    | with_reducible apply bx_n
    | with_reducible apply bx_r
    | with_reducible apply gx_n
    | with_reducible apply gx_r
    | with_reducible apply gx_e
    | ((with_reducible apply bx_hit); (· (rfl)))
    | ((with_reducible apply bx_pass); (· (rfl)))
    | ((with_reducible apply wc_scope); (· (decide)))
    | ((first | with_reducible apply wv_ret | with_reducible apply wv_end); (· ((repeat' (first | with_reducible exact rs_nil | ((with_reducible apply rs_tmp); (· (simp (disch := (first | assumption | omega)) only [ev, T.get_put, Nat.reduceEqDiff, reduceIte, Option.some.injEq, dec_t, dec_f, Bool.not_true, Bool.not_false, v0, v1, v2, v4, v5, v6, v10, v20, one1, one2, List.length_map] <;> rfl))) | ((with_reducible apply rs_cell); (· (simp (disch := (first | assumption | omega)) only [ev, T.get_put, Nat.reduceEqDiff, reduceIte, Option.some.injEq, dec_t, dec_f, Bool.not_true, Bool.not_false, v0, v1, v2, v4, v5, v6, v10, v20, one1, one2, List.length_map] <;> rfl)); (· ((first | exact ty3 | exact ty26 | exact ty27 | exact ty29 | exact ty30 | kernel_rfl))); (· (rfl)); (· (exact H.ld1 (by (with_reducible repeat' first | exact mem_h _ _ | apply mem_t); done) rfl))) | ((with_reducible apply rs_celln); (· (simp (disch := (first | assumption | omega)) only [ev, T.get_put, Nat.reduceEqDiff, reduceIte, Option.some.injEq, dec_t, dec_f, Bool.not_true, Bool.not_false, v0, v1, v2, v4, v5, v6, v10, v20, one1, one2, List.length_map] <;> rfl)); (· ((first | exact ty3 | exact ty26 | exact ty27 | exact ty29 | exact ty30 | kernel_rfl))); (· (rfl)); (· (exact H.ldn (by (with_reducible repeat' first | exact mem_h _ _ | apply mem_t); done) rfl rfl))))); done))))

  all_goals exact ⟨rfl, H.toExt⟩

end Go.Proofs.Ytgnnjlabnnapnaa
