import Derived.Test.YtgnnjlabnnapnaaCtx
import Derived.Test.YtgnnjlabnnapnaaO2
import Derived.KernelRfl
namespace Go.Proofs.Ytgnnjlabnnapnaa
open Go Go.Proofs Go.RowKit Go.Proofs.Abs
set_option linter.unusedSimpArgs false
set_option linter.unusedVariables false
open Go.Proofs.Abs
theorem fn5 : ctx.funs.get 5 = some Try.f5 := by kernel_rfl
theorem fn7 : ctx.funs.get 7 = some Try.f7 := by kernel_rfl
theorem fn12 : ctx.funs.get 12 = some Try.f12 := by kernel_rfl
theorem fn13 : ctx.funs.get 13 = some Try.f13 := by kernel_rfl
theorem fn14 : ctx.funs.get 14 = some Try.f14 := by kernel_rfl
theorem fn17 : ctx.funs.get 17 = some Try.f17 := by kernel_rfl
theorem fn18 : ctx.funs.get 18 = some Try.f18 := by kernel_rfl
theorem fn21 : ctx.funs.get 21 = some Try.f21 := by kernel_rfl
theorem fn22 : ctx.funs.get 22 = some Try.f22 := by kernel_rfl
theorem fn23 : ctx.funs.get 23 = some Try.f23 := by kernel_rfl
theorem fn26 : ctx.funs.get 26 = some Try.f26 := by kernel_rfl
theorem ty3 : ctx.tys.get 3 = some ti3 := by kernel_rfl
theorem ty26 : ctx.tys.get 26 = some ti26 := by kernel_rfl
theorem ty27 : ctx.tys.get 27 = some ti27 := by kernel_rfl
theorem ty29 : ctx.tys.get 29 = some ti29 := by kernel_rfl
theorem ty30 : ctx.tys.get 30 = some ti30 := by kernel_rfl
theorem ty34 : ctx.tys.get 34 = some ti34 := by kernel_rfl
def In (a : Int) : Prop := -9223372036854775808 ≤ a ∧ a ≤ 9223372036854775807
theorem nat_of {a : Int} (h : 0 ≤ a) : ∃ n : Nat, a = Int.ofNat n := ⟨a.toNat, by simp; omega⟩
theorem ia26n {nm n j c z : Nat} {r : Bool} (hj : j < n) : indexAddrA ctx 26 (.slice nm 0 n r c z) (.lit (.int .i64 (j : Int))) = some (.ptr nm j) := by
  have := ia_own (C := ctx) (nm := nm) (off := 0) (cap := c) (z := z) (r := r) ty26 rfl ty3 rfl hj
  rwa [Nat.zero_add] at this
theorem ia27n {nm n j c z : Nat} {r : Bool} (hj : j < n) : indexAddrA ctx 27 (.slice nm 0 n r c z) (.lit (.int .i64 (j : Int))) = some (.ptr nm j) := by
  have := ia_own (C := ctx) (nm := nm) (off := 0) (cap := c) (z := z) (r := r) ty27 rfl ty26 rfl hj
  rwa [Nat.zero_add] at this
theorem at_map {xs : List Int} {k : Nat} {x : Int} (h : xs[k]? = some x) : (xs.map I)[k]? = some (I x) := by rw [List.getElem?_map, h]; rfl
set_option maxHeartbeats 4000000 in
theorem k26 (d : Nat) (b : Hp) (v : AV) (xs : List Int) (p k : Nat) (c : Bool) (hv : Lc c b v (xs.map I)) (hq : p + k ≤ xs.length) (hn : xs.length ≤ 100000) : Wv (runA ctx 5000 (d + 1) 26 [v, I (p : Int), I ((p + k : Nat) : Int)] b) (fun r h' => Lc true h' r (((xs.drop p).take k).map I) ∧ Ext b h' ∧ ∀ m, nmO r = some m → b.c ≤ m) := by
  have hsub : ((p + k : Nat) : Int) - (p : Int) = (k : Int) := by omega
  have H := ((Hs.start b).z0 (z := lc c v (xs.map I)) hv)
  refine wv_run fn26 rfl ?_
  have a0 : (enterEnv [v, I (p : Int), I ((p + k : Nat) : Int)] Try.f26.ntmps).get 0 = some (v) := enter_get1 _ _ _
  have a1 : (enterEnv [v, I (p : Int), I ((p + k : Nat) : Int)] Try.f26.ntmps).get 1 = some (I (p : Int)) := enter_get2 _ _ _ _
  have a2 : (enterEnv [v, I (p : Int), I ((p + k : Nat) : Int)] Try.f26.ntmps).get 2 = some (I ((p + k : Nat) : Int)) := enter_get3 _ _ _ _ _
  generalize enterEnv [v, I (p : Int), I ((p + k : Nat) : Int)] Try.f26.ntmps = e at a0 a1 a2 ⊢
  unfold Try.f26
  dsimp only
  ((with_reducible apply wc_c (fun i => Nat.beq i 0 || Nat.beq i 1 || Nat.beq i 2 || Nat.beq i 6 || Nat.beq i 7)); intro e he; have w9 := he 0 rfl; (try simp only [T.get_put, Nat.reduceEqDiff, reduceIte, a0] at w9); have v0 := w9; clear w9; have w9 := he 1 rfl; (try simp only [T.get_put, Nat.reduceEqDiff, reduceIte, a1] at w9); have v1 := w9; clear w9; have w9 := he 2 rfl; (try simp only [T.get_put, Nat.reduceEqDiff, reduceIte, a2] at w9); have v2 := w9; clear w9; have w9 := he 6 rfl; (try simp only [T.get_put, Nat.reduceEqDiff, reduceIte] at w9); have v6 := w9; clear w9; have w9 := he 7 rfl; (try simp only [T.get_put, Nat.reduceEqDiff, reduceIte] at w9); have v7 := w9; clear w9; clear he)
  repeat' (first
    | (simp only [rep0, rep1, rep2, rep3, List.getElem_toArray, List.getElem_cons_zero, List.getElem_cons_succ, patch, List.take_succ_cons, List.take_zero, List.take_nil, List.drop_succ_cons, List.drop_zero, List.drop_nil, List.nil_append, List.cons_append, List.append_nil, List.length_cons, List.length_nil, List.set_cons_zero, List.set_cons_succ, Nat.zero_add, Nat.reduceAdd, cells_int, cells_bool, cells_str, cells_float, cells_np, cells_nil, cells_nf, cells_ptr, cells_slice, cells_fn, cells_agg, cells_lagg, putAt_z, putAt_s, over_nil, over_cons, litCells_cons, litCells_nil, List.toList_toArray, id_eq, repl_z, repl_one, Int.toNat_natCast, Int.reduceToNat, Nat.add_zero, Nat.mul_one, ti3, ti26] at H)
    | ((with_reducible apply nx_c (fun i => Nat.beq i 0 || Nat.beq i 1 || Nat.beq i 2 || Nat.beq i 6 || Nat.beq i 7)); intro e he; have w0 := he 0 rfl; have w1 := he 1 rfl; have w2 := he 2 rfl; have w6 := he 6 rfl; have w7 := he 7 rfl; (try simp only [T.get_put, Nat.reduceEqDiff, reduceIte, v0, v1, v2, v6, v7] at w0 w1 w2 w6 w7); clear he v0 v1 v2 v6 v7; have v0 := w0; have v1 := w1; have v2 := w2; have v6 := w6; have v7 := w7; clear w0 w1 w2 w6 w7)
    | with_reducible apply wc_seq
    | ((with_reducible apply wc_region); (· (rfl)))
    | with_reducible apply wo_some
    | simp (disch := (first | assumption | omega)) only [oUn_not, beq_self_eq_true, eq_self, List.toList_toArray, opsA_cons, opsA_nil, wantedA, guardA, yieldA, stepA_t, stepA_f, callA, calleeA, targetA, runOp_c, runOp_n, opA, ev, evs, evo, consO, consOO, pickA, afterA_s, putA, T.get_put, Nat.reduceEqDiff, reduceIte, List.getElem?_toArray, List.getElem?_cons_zero, List.getElem?_cons_succ, oBuiltin, oBin, binA, binG, binL, aggO, litA, ltF_eq, eqF_eq, oIndexAddr, cond_true, cond_false, Bool.not_true, Bool.not_false, decide_true, decide_false, blt_eq, tt_beq, tf_beq, ft_beq, ff_beq, Bool.and_true, Bool.true_and, Option.some.injEq, I, Bo, oExtract, Bool.not_eq_true', fieldAddrA, oFieldAddr, fieldA, partA, List.length_cons, List.length_nil, Nat.reduceAdd, Nat.zero_add, Nat.add_zero, Nat.mul_one, Nat.reduceMul, Nat.reduceLT, ty3, ti3, ty26, ti26, ii_add, ii_sub, ii_mul, ii_lss, ii_gtr, ii_geq, ii_leq, ii_eql, ii_neq, ii_rem, ii_quo, iu_rem, iu_lss, iu_gtr, iu_eql, iu_neq, bi_min, bi_max, List.getElem_toArray, List.getElem_cons_zero, List.getElem_cons_succ, withH_s, eqA, eqD, eqOp, nilCheckA, oBuild, oBuildSlice, oMakeSlice, oSlice, evParts, consP, oFn, oConv, dec_t, dec_f, wrap_ok, beq_dec, Int.toNat_natCast, Int.reduceToNat, id_eq, List.take_succ_cons, List.take_zero, List.drop_succ_cons, List.drop_zero, putAt_z, putAt_s, over_nil, over_cons, litCells_cons, litCells_nil, cells_int, cells_bool, cells_str, cells_float, cells_np, cells_nil, cells_nf, cells_ptr, cells_slice, cells_fn, cells_agg, cells_lagg, List.cons_append, List.nil_append, Nat.zero_add, Nat.add_zero, Nat.mul_one, Nat.reduceMul, Nat.reduceAdd, v0, v1, v2, v6, v7, hsub]
    | (((with_reducible apply wo_sl H); (· ((with_reducible repeat' first | exact mem_h _ _ | apply mem_t); done)); (· ((first | exact ty3 | exact ty26 | kernel_rfl))); (· (rfl)); (· ((first | exact ty3 | exact ty26 | kernel_rfl))); (· (rfl)); (· (rfl)); (· (rfl)); (· (omega)); (· (simp only [List.length_map]; omega)); clear H; intro w9 r9 hn9 H; simp only [Nat.add_sub_cancel_left, ← List.map_drop, ← List.map_take] at H))
    | (((with_reducible apply wo_copy H); (· ((with_reducible repeat' first | exact Pick.here _ _ _ | apply Pick.there); done)); (· ((with_reducible repeat' first | exact mem_h _ _ | apply mem_t); done)); (· ((first | exact ty3 | exact ty26 | kernel_rfl))); (· (rfl)); (· ((first | exact ty3 | exact ty26 | kernel_rfl))); (· (rfl)); (· (simp only [List.length_replicate])); (· (simp only [List.length_map, List.length_take, List.length_drop]; omega)); (· (exact ones_I _)); clear H; intro h H; rw [copyz (by simp only [List.length_map, List.length_take, List.length_drop]; omega)] at H))
    | ((with_reducible apply wo_make H); (· ((first | exact ty3 | exact ty26 | kernel_rfl))); (· (rfl)); (· ((first | exact ty3 | exact ty26 | kernel_rfl))); (· (kernel_rfl)); (· (omega)); (· (omega)); (· (omega)); clear H; intro n h H0n H)
    | ((with_reducible apply wo_step) <;> intro hg <;> (try simp only [Bool.not_eq_true', Bool.not_eq_false', beq_false, beq_true, Bool.not_not, Bool.not_eq_eq_eq_not, Bool.not_true, Bool.not_false, decide_eq_true_eq, decide_eq_false_iff_not, Bool.and_eq_true, not_true, not_false_eq_true] at hg) <;> (try subst hg) <;> (first | (exfalso; exact Bool.noConfusion hg) | skip))
    | ((with_reducible apply wc_cond); (· (simp (disch := (first | assumption | omega)) only [ev, T.get_put, Nat.reduceEqDiff, reduceIte, Option.some.injEq, dec_t, dec_f, Bool.not_true, Bool.not_false, v0, v1, v2, v6, v7, hsub] <;> rfl)); all_goals (intro hg; (try (try simp only [Bool.not_eq_true', Bool.not_eq_false', beq_false, beq_true, Bool.not_not, Bool.not_eq_eq_eq_not, Bool.not_true, Bool.not_false, decide_eq_true_eq, decide_eq_false_iff_not, Bool.and_eq_true, not_true, not_false_eq_true] at hg)); first | (exfalso; exact Bool.noConfusion hg) | (exfalso; exact hg) | skip))
    | with_reducible apply wc_block
    | with_reducible apply wc_skip
    | with_reducible apply wc_label
    | with_reducible apply wc_exit
    | with_reducible apply wc_ret
    | with_reducible apply nx_r
    | with_reducible apply nx_e
    | with_reducible apply bx_n
    | with_reducible apply bx_r
    | with_reducible apply gx_n
    | with_reducible apply gx_r
    | with_reducible apply gx_e
    | ((with_reducible apply bx_hit); (· (rfl)))
    | ((with_reducible apply bx_pass); (· (rfl)))
    | ((with_reducible apply wc_scope); (· (decide)))
    | ((first | with_reducible apply wv_ret | with_reducible apply wv_end); (· ((repeat' (first | with_reducible exact rs_nil | ((with_reducible apply rs_tmp); (· (simp (disch := (first | assumption | omega)) only [ev, T.get_put, Nat.reduceEqDiff, reduceIte, Option.some.injEq, dec_t, dec_f, Bool.not_true, Bool.not_false, v0, v1, v2, v6, v7, hsub] <;> rfl))) | ((with_reducible apply rs_cell); (· (simp (disch := (first | assumption | omega)) only [ev, T.get_put, Nat.reduceEqDiff, reduceIte, Option.some.injEq, dec_t, dec_f, Bool.not_true, Bool.not_false, v0, v1, v2, v6, v7, hsub] <;> rfl)); (· ((first | exact ty3 | exact ty26 | kernel_rfl))); (· (rfl)); (· (exact H.ld1 (by (with_reducible repeat' first | exact mem_h _ _ | apply mem_t); done) rfl))) | ((with_reducible apply rs_celln); (· (simp (disch := (first | assumption | omega)) only [ev, T.get_put, Nat.reduceEqDiff, reduceIte, Option.some.injEq, dec_t, dec_f, Bool.not_true, Bool.not_false, v0, v1, v2, v6, v7, hsub] <;> rfl)); (· ((first | exact ty3 | exact ty26 | kernel_rfl))); (· (rfl)); (· (exact H.ldn (by (with_reducible repeat' first | exact mem_h _ _ | apply mem_t); done) rfl rfl))))); done))))

  all_goals exact ⟨Lc.blk (H.p (a := blk id _ _) (.head _)) (by simp only [List.length_map, List.length_take, List.length_drop]; omega), H.toExt, fun m hm => by cases hm; exact H0n⟩
end Go.Proofs.Ytgnnjlabnnapnaa
