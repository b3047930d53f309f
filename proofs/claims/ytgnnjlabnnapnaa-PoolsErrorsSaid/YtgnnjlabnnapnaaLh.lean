import Derived.Test.YtgnnjlabnnapnaaLg
import Derived.KernelRfl
namespace Go.Proofs.Ytgnnjlabnnapnaa
open Go Go.Proofs Go.RowKit Go.Proofs.Abs
set_option linter.unusedSimpArgs false
set_option linter.unusedVariables false
theorem k26g (d : Nat) (b : Hp) (v : AV) (xs : List Int) (p k : Nat) (c : Bool) (hv : Lc c b v (xs.map I)) (hk : p + k = xs.length) (hn : xs.length ≤ 100000) : Wv (runA ctx 5000 (d + 1) 26 [v, I (p : Int), I (xs.length : Int)] b) (fun r h' => ∃ w, w = r ∧ Lc true h' w ((xs.drop p).map I) ∧ Ext b h' ∧ ∀ m, nmO w = some m → b.c ≤ m) := by
  have := k26 d b v xs p k c hv (by omega) hn
  rw [hk, List.take_of_length_le (by rw [List.length_drop]; omega)] at this
  exact this.mono (fun v h ⟨a, b, c⟩ => ⟨v, rfl, a, b, c⟩)
theorem gr_lc {h : Hp} {v : AV} {xs : List Int} {n : Nat} (g : Gr 3 1 h v (xs.map I) n) (hn : xs.length = n) : Lc false h v (xs.map I) := by
  subst hn
  rcases g.is with ⟨rfl, h0⟩ | ⟨nm, r, rfl, h1, h2⟩
  · have : xs = [] := List.eq_nil_of_length_eq_zero h0
    subst this
    exact Lc.nil false h
  · refine ⟨.inr ⟨nm, 0, r, 0, 0, by rw [List.length_map], h1, fun k x hx => ?_⟩, ?_, fun h => by cases h⟩
    · rw [Nat.zero_add]
      exact (g.cell hx).load
    · rcases h2 with ⟨h2, rfl⟩ | ⟨h2, rfl⟩
      · show xs.length ≤ 0
        omega
      · trivial
theorem flat_snoc (xss : List (List Int)) {k : Nat} {ys : List Int} (h : xss[k]? = some ys) : (xss.take (k + 1)).flatten = (xss.take k).flatten ++ ys := by rw [take_at h]; simp
theorem flat_len {xss : List (List Int)} {B : Nat} (h : ∀ xs ∈ xss, xs.length ≤ B) : ∀ k, k ≤ xss.length → (xss.take k).flatten.length ≤ k * B := by
  intro k
  induction k with
  | zero => intro _; simp
  | succ k ih =>
    intro hk
    obtain ⟨ys, hys⟩ := at_some (show k < xss.length by omega)
    rw [flat_snoc xss hys, List.length_append, Nat.succ_mul]
    have := ih (by omega)
    have := h ys (List.mem_of_getElem? hys)
    omega
set_option maxHeartbeats 4000000 in
theorem k18 (d : Nat) (b : Hp) (vB vR : AV) (ws : List AV) (bs : List Int) (xss : List (List Int)) (c : Bool) (hP : PLs c b vB vR ws bs xss) (hV : okV bs xss) (hT : xss.flatten.length ≤ 90000) : Wv (runA ctx 5000 (d + 2) 18 [.agg [vB, vR]] b) (fun r h' => ∃ w, r = .tup [w, I 0] ∧ Lc true h' w (xss.flatten.map I) ∧ Ext b h' ∧ ∀ m, nmO w = some m → b.c ≤ m) := by
  have H := ((Hs.start b).z0 (z := pls c vB vR ws bs xss) hP).opn (.head _)
  have one1 := hP.b.one
  have one2 := hP.r.one
  have wl := hP.w.1
  have hv3 := hV.2.2.1
  have hv2 := hV.2.1
  refine wv_run fn18 rfl ?_
  have a0 : (enterEnv [.agg [vB, vR]] Try.f18.ntmps).get 0 = some (.agg [vB, vR]) := enter_get1 _ _ _
  generalize enterEnv [.agg [vB, vR]] Try.f18.ntmps = e at a0 ⊢
  unfold Try.f18
  dsimp only
  ((with_reducible apply wc_c (fun i => Nat.beq i 0 || Nat.beq i 1 || Nat.beq i 2 || Nat.beq i 3 || Nat.beq i 4 || Nat.beq i 5 || Nat.beq i 7 || Nat.beq i 11 || Nat.beq i 14 || Nat.beq i 15 || Nat.beq i 16 || Nat.beq i 17)); intro e he; have w9 := he 0 rfl; (try simp only [T.get_put, Nat.reduceEqDiff, reduceIte, a0] at w9); have v0 := w9; clear w9; have w9 := he 1 rfl; (try simp only [T.get_put, Nat.reduceEqDiff, reduceIte] at w9); have v1 := w9; clear w9; have w9 := he 2 rfl; (try simp only [T.get_put, Nat.reduceEqDiff, reduceIte] at w9); have v2 := w9; clear w9; have w9 := he 3 rfl; (try simp only [T.get_put, Nat.reduceEqDiff, reduceIte] at w9); have v3 := w9; clear w9; have w9 := he 4 rfl; (try simp only [T.get_put, Nat.reduceEqDiff, reduceIte] at w9); have v4 := w9; clear w9; have w9 := he 5 rfl; (try simp only [T.get_put, Nat.reduceEqDiff, reduceIte] at w9); have v5 := w9; clear w9; have w9 := he 7 rfl; (try simp only [T.get_put, Nat.reduceEqDiff, reduceIte] at w9); have v7 := w9; clear w9; have w9 := he 11 rfl; (try simp only [T.get_put, Nat.reduceEqDiff, reduceIte] at w9); have v11 := w9; clear w9; have w9 := he 14 rfl; (try simp only [T.get_put, Nat.reduceEqDiff, reduceIte] at w9); have v14 := w9; clear w9; have w9 := he 15 rfl; (try simp only [T.get_put, Nat.reduceEqDiff, reduceIte] at w9); have v15 := w9; clear w9; have w9 := he 16 rfl; (try simp only [T.get_put, Nat.reduceEqDiff, reduceIte] at w9); have v16 := w9; clear w9; have w9 := he 17 rfl; (try simp only [T.get_put, Nat.reduceEqDiff, reduceIte] at w9); have v17 := w9; clear w9; clear he)
  repeat' (first
    | (simp only [rep0, rep1, rep2, rep3, List.getElem_toArray, List.getElem_cons_zero, List.getElem_cons_succ, patch, List.take_succ_cons, List.take_zero, List.take_nil, List.drop_succ_cons, List.drop_zero, List.drop_nil, List.nil_append, List.cons_append, List.append_nil, List.length_cons, List.length_nil, List.set_cons_zero, List.set_cons_succ, Nat.zero_add, Nat.reduceAdd, cells_int, cells_bool, cells_str, cells_float, cells_np, cells_nil, cells_nf, cells_ptr, cells_slice, cells_fn, cells_agg, cells_lagg, putAt_z, putAt_s, over_nil, over_cons, litCells_cons, litCells_nil, List.toList_toArray, id_eq, repl_z, repl_one, Int.toNat_natCast, Int.reduceToNat, Nat.add_zero, Nat.mul_one, ti3, ti26, ti27, ti29, ti30] at H)
    | ((with_reducible apply nx_c (fun i => Nat.beq i 0 || Nat.beq i 1 || Nat.beq i 2 || Nat.beq i 3 || Nat.beq i 4 || Nat.beq i 5 || Nat.beq i 7 || Nat.beq i 11 || Nat.beq i 14 || Nat.beq i 15 || Nat.beq i 16 || Nat.beq i 17)); intro e he; have w0 := he 0 rfl; have w1 := he 1 rfl; have w2 := he 2 rfl; have w3 := he 3 rfl; have w4 := he 4 rfl; have w5 := he 5 rfl; have w7 := he 7 rfl; have w11 := he 11 rfl; have w14 := he 14 rfl; have w15 := he 15 rfl; have w16 := he 16 rfl; have w17 := he 17 rfl; (try simp only [T.get_put, Nat.reduceEqDiff, reduceIte, v0, v1, v2, v3, v4, v5, v7, v11, v14, v15, v16, v17] at w0 w1 w2 w3 w4 w5 w7 w11 w14 w15 w16 w17); clear he v0 v1 v2 v3 v4 v5 v7 v11 v14 v15 v16 v17; have v0 := w0; have v1 := w1; have v2 := w2; have v3 := w3; have v4 := w4; have v5 := w5; have v7 := w7; have v11 := w11; have v14 := w14; have v15 := w15; have v16 := w16; have v17 := w17; clear w0 w1 w2 w3 w4 w5 w7 w11 w14 w15 w16 w17)
    | with_reducible apply wc_seq
    | ((with_reducible apply wc_region); (· (rfl)))
    | with_reducible apply wo_some
    | simp (disch := (first | assumption | omega)) only [oUn_not, beq_self_eq_true, eq_self, List.toList_toArray, opsA_cons, opsA_nil, wantedA, guardA, yieldA, stepA_t, stepA_f, callA, calleeA, targetA, runOp_c, runOp_n, opA, ev, evs, evo, consO, consOO, pickA, afterA_s, putA, T.get_put, Nat.reduceEqDiff, reduceIte, List.getElem?_toArray, List.getElem?_cons_zero, List.getElem?_cons_succ, oBuiltin, oBin, binA, binG, binL, aggO, litA, ltF_eq, eqF_eq, oIndexAddr, cond_true, cond_false, Bool.not_true, Bool.not_false, decide_true, decide_false, blt_eq, tt_beq, tf_beq, ft_beq, ff_beq, Bool.and_true, Bool.true_and, Option.some.injEq, I, Bo, oExtract, Bool.not_eq_true', fieldAddrA, oFieldAddr, fieldA, partA, List.length_cons, List.length_nil, Nat.reduceAdd, Nat.zero_add, Nat.add_zero, Nat.mul_one, Nat.reduceMul, Nat.reduceLT, ty3, ti3, ty26, ti26, ty27, ti27, ty29, ti29, ty30, ti30, ii_add, ii_sub, ii_mul, ii_lss, ii_gtr, ii_geq, ii_leq, ii_eql, ii_neq, ii_rem, ii_quo, iu_rem, iu_lss, iu_gtr, iu_eql, iu_neq, bi_min, bi_max, List.getElem_toArray, List.getElem_cons_zero, List.getElem_cons_succ, withH_s, eqA, eqD, eqOp, nilCheckA, oBuild, oBuildSlice, oMakeSlice, oSlice, evParts, consP, oFn, oConv, dec_t, dec_f, wrap_ok, beq_dec, Int.toNat_natCast, Int.reduceToNat, id_eq, List.take_succ_cons, List.take_zero, List.drop_succ_cons, List.drop_zero, putAt_z, putAt_s, over_nil, over_cons, litCells_cons, litCells_nil, cells_int, cells_bool, cells_str, cells_float, cells_np, cells_nil, cells_nf, cells_ptr, cells_slice, cells_fn, cells_agg, cells_lagg, List.cons_append, List.nil_append, Nat.zero_add, Nat.add_zero, Nat.mul_one, Nat.reduceMul, Nat.reduceAdd, v0, v1, v2, v3, v4, v5, v7, v11, v14, v15, v16, v17, one1, one2, List.length_map]
    | (((with_reducible apply wo_call); (· ((with_reducible apply k22); (· ((first | assumption | exact H.pz (a := pls _ _ _ _ _ _) (by (with_reducible repeat' first | exact mem_h _ _ | apply mem_t); done)))))); rintro _ h ⟨rfl, hx⟩; rw [chk_yes hV]; replace H := H.ext hx; clear hx))
    | ((with_reducible apply wo_box H); clear H; intro n h H0n H)
    | ((with_reducible apply wo_load1 H); (· ((with_reducible repeat' first | exact mem_h _ _ | apply mem_t); done)); (· (rfl)); (· ((first | rfl | assumption))))
    | ((with_reducible apply wo_load1z H); (· ((with_reducible repeat' first | exact mem_h _ _ | apply mem_t); done)); (· (rfl)); (· ((first | rfl | assumption))))
    | ((with_reducible apply wo_loadc H); (· ((with_reducible repeat' first | exact mem_h _ _ | apply mem_t); done)); (· (rfl)))
    | ((with_reducible apply wo_loadn H); (· ((with_reducible repeat' first | exact mem_h _ _ | apply mem_t); done)); (· (rfl)); (· (rfl)); (· (rfl)))
    | ((with_reducible apply wo_loadnz H); (· ((with_reducible repeat' first | exact mem_h _ _ | apply mem_t); done)); (· (rfl)); (· (rfl)); (· (rfl)))
    | ((with_reducible apply wo_len H); (· ((with_reducible repeat' first | exact mem_h _ _ | apply mem_t); done)); (· ((first | exact ty3 | exact ty26 | exact ty27 | exact ty29 | exact ty30 | kernel_rfl))); (· (rfl)))
    | ((with_reducible apply wo_lenr H); (· ((with_reducible repeat' first | exact mem_h _ _ | apply mem_t); done)); (· ((first | exact ty3 | exact ty26 | exact ty27 | exact ty29 | exact ty30 | kernel_rfl))); (· (rfl)))
    | ((with_reducible apply wo_iar H); (· ((with_reducible repeat' first | exact mem_h _ _ | apply mem_t); done)); (· ((first | exact ty3 | exact ty26 | exact ty27 | exact ty29 | exact ty30 | kernel_rfl))); (· (rfl)); (· ((first | exact ty3 | exact ty26 | exact ty27 | exact ty29 | exact ty30 | kernel_rfl))); (· (rfl)); (· (rfl)); (· (rfl)); (· (assumption)); intro n o H)
    | ((with_reducible apply wo_loadcn H); (· ((with_reducible repeat' first | exact mem_h _ _ | apply mem_t); done)); (· (rfl)); (· (rfl)))
    | ((with_reducible apply wo_ia H); (· ((with_reducible repeat' first | exact mem_h _ _ | apply mem_t); done)); (· ((first | exact ty3 | exact ty26 | exact ty27 | exact ty29 | exact ty30 | kernel_rfl))); (· (rfl)); (· ((first | exact ty3 | exact ty26 | exact ty27 | exact ty29 | exact ty30 | kernel_rfl))); (· (rfl)); (· (rfl)); (· (assumption)); clear H; intro n o H)
    | ((with_reducible apply wo_app H); (· ((with_reducible repeat' first | exact PickF.here _ _ | apply PickF.there); done)); (· ((first | exact ty3 | exact ty26 | exact ty27 | exact ty29 | exact ty30 | kernel_rfl))); (· (rfl)); (· ((first | exact ty3 | exact ty26 | exact ty27 | exact ty29 | exact ty30 | kernel_rfl))); (· (rfl)); (· (decide)); (· (kernel_rfl)); (· ((with_reducible repeat' first | exact mem_h _ _ | apply mem_t); done)); (· (rfl)); (· ((first | rfl | (simp (disch := assumption) only [onesA_cons', onesA_nil, cells_int, cells_bool, cells_str, cells_float, cells_np, cells_nil, cells_nf, cells_ptr, cells_slice, cells_fn, cells_agg, cells_lagg, litCells_cons, litCells_nil, one_t, one_int, one_bool, one_str, one_nil, one_np, one_ptr, one_slice, Bool.and_true, Bool.and_self, id_eq]; done)))); (· ((first | omega | (simp; done) | (simp; omega)))); clear H; intro u h H)
    | ((with_reducible apply wo_step) <;> intro hg <;> (try simp only [Bool.not_eq_true', Bool.not_eq_false', beq_false, beq_true, Bool.not_not, Bool.not_eq_eq_eq_not, Bool.not_true, Bool.not_false, decide_eq_true_eq, decide_eq_false_iff_not, Bool.and_eq_true, not_true, not_false_eq_true] at hg) <;> (try subst hg) <;> (first | (exfalso; exact Bool.noConfusion hg) | skip))
    | ((with_reducible apply wc_cond); (· (simp (disch := (first | assumption | omega)) only [ev, T.get_put, Nat.reduceEqDiff, reduceIte, Option.some.injEq, dec_t, dec_f, Bool.not_true, Bool.not_false, v0, v1, v2, v3, v4, v5, v7, v11, v14, v15, v16, v17, one1, one2, List.length_map] <;> rfl)); all_goals (intro hg; (try (try simp only [Bool.not_eq_true', Bool.not_eq_false', beq_false, beq_true, Bool.not_not, Bool.not_eq_eq_eq_not, Bool.not_true, Bool.not_false, decide_eq_true_eq, decide_eq_false_iff_not, Bool.and_eq_true, not_true, not_false_eq_true] at hg)); first | (exfalso; exact Bool.noConfusion hg) | (exfalso; exact hg) | skip))
    | with_reducible apply wc_block
    | with_reducible apply wc_skip
    | with_reducible apply wc_label
    | with_reducible apply wc_exit
    | with_reducible apply wc_ret
    | with_reducible apply nx_r
    | with_reducible apply nx_e
    | with_reducible apply bx_n
    | with_reducible apply bx_r
    | with_reducible apply gx_n
    | with_reducible apply gx_r
    | with_reducible apply gx_e
    | ((with_reducible apply bx_hit); (· (rfl)))
    | ((with_reducible apply bx_pass); (· (rfl)))
    | ((with_reducible apply wc_scope); (· (decide)))
    | ((first | with_reducible apply wv_ret | with_reducible apply wv_end); (· ((repeat' (first | with_reducible exact rs_nil | ((with_reducible apply rs_tmp); (· (simp (disch := (first | assumption | omega)) only [ev, T.get_put, Nat.reduceEqDiff, reduceIte, Option.some.injEq, dec_t, dec_f, Bool.not_true, Bool.not_false, v0, v1, v2, v3, v4, v5, v7, v11, v14, v15, v16, v17, one1, one2, List.length_map] <;> rfl))) | ((with_reducible apply rs_cell); (· (simp (disch := (first | assumption | omega)) only [ev, T.get_put, Nat.reduceEqDiff, reduceIte, Option.some.injEq, dec_t, dec_f, Bool.not_true, Bool.not_false, v0, v1, v2, v3, v4, v5, v7, v11, v14, v15, v16, v17, one1, one2, List.length_map] <;> rfl)); (· ((first | exact ty3 | exact ty26 | exact ty27 | exact ty29 | exact ty30 | kernel_rfl))); (· (rfl)); (· (exact H.ld1 (by (with_reducible repeat' first | exact mem_h _ _ | apply mem_t); done) rfl))) | ((with_reducible apply rs_celln); (· (simp (disch := (first | assumption | omega)) only [ev, T.get_put, Nat.reduceEqDiff, reduceIte, Option.some.injEq, dec_t, dec_f, Bool.not_true, Bool.not_false, v0, v1, v2, v3, v4, v5, v7, v11, v14, v15, v16, v17, one1, one2, List.length_map] <;> rfl)); (· ((first | exact ty3 | exact ty26 | exact ty27 | exact ty29 | exact ty30 | kernel_rfl))); (· (rfl)); (· (exact H.ldn (by (with_reducible repeat' first | exact mem_h _ _ | apply mem_t); done) rfl rfl))))); done))))

  replace H := H.nil 3 1
  have H0 : Hs [] b h [gr 3 1 nilS [] 0] [isl vR ws, lls c ws xss] := H.sub (by (with_reducible repeat' first | exact List.Sublist.refl _ | apply List.Sublist.cons_cons | apply List.Sublist.cons); done) (by (repeat' (first | exact znil | (apply zcons; (· ((with_reducible repeat' first | exact mem_h _ _ | apply mem_t); done))))); done)
  refine wc_loop (fun m e h' => ∃ k u, m = ws.length - k ∧ k ≤ ws.length ∧ e.get 5 = some u ∧ e.get 14 = some vR ∧ e.get 15 = some (I (ws.length : Int)) ∧ e.get 16 = some (I (k : Int)) ∧ Hs [] b h' [gr 3 1 u ((xss.take k).flatten.map I) (xss.take k).flatten.length] [isl vR ws, lls c ws xss]) ws.length ?_ ⟨0, nilS, rfl, Nat.zero_le _, v5, v14, v15, v16, H0⟩ ?_
  · omega
  · clear H v5 v14 v15 v16
    rintro m e h ⟨k, u, rfl, hk, v5, v14, v15, v16, H⟩
    by_cases hlt : k < ws.length
    · obtain ⟨ys, hys⟩ := at_some (show k < xss.length by omega)
      obtain ⟨w, hw⟩ := at_some hlt
      have hfl : (xss.take (k + 1)).flatten.length ≤ xss.flatten.length := by
        have e1 : xss.flatten = (xss.take (k + 1)).flatten ++ (xss.drop (k + 1)).flatten := by rw [← List.flatten_append, List.take_append_drop]
        rw [e1, List.length_append]; omega
      rw [flat_snoc xss hys, List.length_append] at hfl
      replace H := H.row (by (with_reducible repeat' first | exact mem_h _ _ | apply mem_t); done) hw hys
      ((with_reducible apply wc_c (fun i => Nat.beq i 2 || Nat.beq i 3 || Nat.beq i 5 || Nat.beq i 7 || Nat.beq i 14 || Nat.beq i 15 || Nat.beq i 16 || Nat.beq i 17)); intro e he; have w9 := he 2 rfl; (try simp only [T.get_put, Nat.reduceEqDiff, reduceIte] at w9); have v2 := w9; clear w9; have w9 := he 3 rfl; (try simp only [T.get_put, Nat.reduceEqDiff, reduceIte] at w9); have v3 := w9; clear w9; have w9 := he 5 rfl; (try simp only [T.get_put, Nat.reduceEqDiff, reduceIte, v5] at w9); replace v5 := w9; clear w9; have w9 := he 7 rfl; (try simp only [T.get_put, Nat.reduceEqDiff, reduceIte] at w9); have v7 := w9; clear w9; have w9 := he 14 rfl; (try simp only [T.get_put, Nat.reduceEqDiff, reduceIte, v14] at w9); replace v14 := w9; clear w9; have w9 := he 15 rfl; (try simp only [T.get_put, Nat.reduceEqDiff, reduceIte, v15] at w9); replace v15 := w9; clear w9; have w9 := he 16 rfl; (try simp only [T.get_put, Nat.reduceEqDiff, reduceIte, v16] at w9); replace v16 := w9; clear w9; have w9 := he 17 rfl; (try simp only [T.get_put, Nat.reduceEqDiff, reduceIte] at w9); have v17 := w9; clear w9; clear he)
      repeat' (first
        | (simp only [rep0, rep1, rep2, rep3, List.getElem_toArray, List.getElem_cons_zero, List.getElem_cons_succ, patch, List.take_succ_cons, List.take_zero, List.take_nil, List.drop_succ_cons, List.drop_zero, List.drop_nil, List.nil_append, List.cons_append, List.append_nil, List.length_cons, List.length_nil, List.set_cons_zero, List.set_cons_succ, Nat.zero_add, Nat.reduceAdd, cells_int, cells_bool, cells_str, cells_float, cells_np, cells_nil, cells_nf, cells_ptr, cells_slice, cells_fn, cells_agg, cells_lagg, putAt_z, putAt_s, over_nil, over_cons, litCells_cons, litCells_nil, List.toList_toArray, id_eq, repl_z, repl_one, Int.toNat_natCast, Int.reduceToNat, Nat.add_zero, Nat.mul_one, ti3, ti26, ti27, ti29, ti30] at H)
        | ((with_reducible apply nx_c (fun i => Nat.beq i 2 || Nat.beq i 3 || Nat.beq i 5 || Nat.beq i 7 || Nat.beq i 14 || Nat.beq i 15 || Nat.beq i 16 || Nat.beq i 17)); intro e he; have w2 := he 2 rfl; have w3 := he 3 rfl; have w5 := he 5 rfl; have w7 := he 7 rfl; have w14 := he 14 rfl; have w15 := he 15 rfl; have w16 := he 16 rfl; have w17 := he 17 rfl; (try simp only [T.get_put, Nat.reduceEqDiff, reduceIte, v2, v3, v5, v7, v14, v15, v16, v17] at w2 w3 w5 w7 w14 w15 w16 w17); clear he v2 v3 v5 v7 v14 v15 v16 v17; have v2 := w2; have v3 := w3; have v5 := w5; have v7 := w7; have v14 := w14; have v15 := w15; have v16 := w16; have v17 := w17; clear w2 w3 w5 w7 w14 w15 w16 w17)
        | with_reducible apply wc_seq
        | ((with_reducible apply wc_region); (· (rfl)))
        | with_reducible apply wo_some
        | simp (disch := (first | assumption | omega)) only [oUn_not, beq_self_eq_true, eq_self, List.toList_toArray, opsA_cons, opsA_nil, wantedA, guardA, yieldA, stepA_t, stepA_f, callA, calleeA, targetA, runOp_c, runOp_n, opA, ev, evs, evo, consO, consOO, pickA, afterA_s, putA, T.get_put, Nat.reduceEqDiff, reduceIte, List.getElem?_toArray, List.getElem?_cons_zero, List.getElem?_cons_succ, oBuiltin, oBin, binA, binG, binL, aggO, litA, ltF_eq, eqF_eq, oIndexAddr, cond_true, cond_false, Bool.not_true, Bool.not_false, decide_true, decide_false, blt_eq, tt_beq, tf_beq, ft_beq, ff_beq, Bool.and_true, Bool.true_and, Option.some.injEq, I, Bo, oExtract, Bool.not_eq_true', fieldAddrA, oFieldAddr, fieldA, partA, List.length_cons, List.length_nil, Nat.reduceAdd, Nat.zero_add, Nat.add_zero, Nat.mul_one, Nat.reduceMul, Nat.reduceLT, ty3, ti3, ty26, ti26, ty27, ti27, ty29, ti29, ty30, ti30, ii_add, ii_sub, ii_mul, ii_lss, ii_gtr, ii_geq, ii_leq, ii_eql, ii_neq, ii_rem, ii_quo, iu_rem, iu_lss, iu_gtr, iu_eql, iu_neq, bi_min, bi_max, List.getElem_toArray, List.getElem_cons_zero, List.getElem_cons_succ, withH_s, eqA, eqD, eqOp, nilCheckA, oBuild, oBuildSlice, oMakeSlice, oSlice, evParts, consP, oFn, oConv, dec_t, dec_f, wrap_ok, beq_dec, Int.toNat_natCast, Int.reduceToNat, id_eq, List.take_succ_cons, List.take_zero, List.drop_succ_cons, List.drop_zero, putAt_z, putAt_s, over_nil, over_cons, litCells_cons, litCells_nil, cells_int, cells_bool, cells_str, cells_float, cells_np, cells_nil, cells_nf, cells_ptr, cells_slice, cells_fn, cells_agg, cells_lagg, List.cons_append, List.nil_append, Nat.zero_add, Nat.add_zero, Nat.mul_one, Nat.reduceMul, Nat.reduceAdd, v2, v3, v5, v7, v14, v15, v16, v17, List.length_map]
        | (((with_reducible apply wo_appz H); (· ((with_reducible repeat' first | exact PickF.here _ _ | apply PickF.there); done)); (· ((first | exact ty3 | exact ty26 | exact ty27 | exact ty29 | exact ty30 | kernel_rfl))); (· (rfl)); (· ((first | exact ty3 | exact ty26 | exact ty27 | exact ty29 | exact ty30 | kernel_rfl))); (· (rfl)); (· (kernel_rfl)); (· ((with_reducible repeat' first | exact mem_h _ _ | apply mem_t); done)); (· (exact ones_I _)); (· ((simp only [List.length_map, List.length_take, List.length_drop]; omega))); clear H; intro u9 h H))
        | ((with_reducible apply wo_box H); clear H; intro n h H0n H)
        | ((with_reducible apply wo_load1 H); (· ((with_reducible repeat' first | exact mem_h _ _ | apply mem_t); done)); (· (rfl)); (· ((first | rfl | assumption))))
        | ((with_reducible apply wo_load1z H); (· ((with_reducible repeat' first | exact mem_h _ _ | apply mem_t); done)); (· (rfl)); (· ((first | rfl | assumption))))
        | ((with_reducible apply wo_loadc H); (· ((with_reducible repeat' first | exact mem_h _ _ | apply mem_t); done)); (· (rfl)))
        | ((with_reducible apply wo_loadn H); (· ((with_reducible repeat' first | exact mem_h _ _ | apply mem_t); done)); (· (rfl)); (· (rfl)); (· (rfl)))
        | ((with_reducible apply wo_loadnz H); (· ((with_reducible repeat' first | exact mem_h _ _ | apply mem_t); done)); (· (rfl)); (· (rfl)); (· (rfl)))
        | ((with_reducible apply wo_len H); (· ((with_reducible repeat' first | exact mem_h _ _ | apply mem_t); done)); (· ((first | exact ty3 | exact ty26 | exact ty27 | exact ty29 | exact ty30 | kernel_rfl))); (· (rfl)))
        | ((with_reducible apply wo_lenr H); (· ((with_reducible repeat' first | exact mem_h _ _ | apply mem_t); done)); (· ((first | exact ty3 | exact ty26 | exact ty27 | exact ty29 | exact ty30 | kernel_rfl))); (· (rfl)))
        | ((with_reducible apply wo_iar H); (· ((with_reducible repeat' first | exact mem_h _ _ | apply mem_t); done)); (· ((first | exact ty3 | exact ty26 | exact ty27 | exact ty29 | exact ty30 | kernel_rfl))); (· (rfl)); (· ((first | exact ty3 | exact ty26 | exact ty27 | exact ty29 | exact ty30 | kernel_rfl))); (· (rfl)); (· (rfl)); (· (rfl)); (· (assumption)); intro n o H)
        | ((with_reducible apply wo_loadcn H); (· ((with_reducible repeat' first | exact mem_h _ _ | apply mem_t); done)); (· (rfl)); (· (rfl)))
        | ((with_reducible apply wo_ia H); (· ((with_reducible repeat' first | exact mem_h _ _ | apply mem_t); done)); (· ((first | exact ty3 | exact ty26 | exact ty27 | exact ty29 | exact ty30 | kernel_rfl))); (· (rfl)); (· ((first | exact ty3 | exact ty26 | exact ty27 | exact ty29 | exact ty30 | kernel_rfl))); (· (rfl)); (· (rfl)); (· (assumption)); clear H; intro n o H)
        | ((with_reducible apply wo_app H); (· ((with_reducible repeat' first | exact PickF.here _ _ | apply PickF.there); done)); (· ((first | exact ty3 | exact ty26 | exact ty27 | exact ty29 | exact ty30 | kernel_rfl))); (· (rfl)); (· ((first | exact ty3 | exact ty26 | exact ty27 | exact ty29 | exact ty30 | kernel_rfl))); (· (rfl)); (· (decide)); (· (kernel_rfl)); (· ((with_reducible repeat' first | exact mem_h _ _ | apply mem_t); done)); (· (rfl)); (· ((first | rfl | (simp (disch := assumption) only [onesA_cons', onesA_nil, cells_int, cells_bool, cells_str, cells_float, cells_np, cells_nil, cells_nf, cells_ptr, cells_slice, cells_fn, cells_agg, cells_lagg, litCells_cons, litCells_nil, one_t, one_int, one_bool, one_str, one_nil, one_np, one_ptr, one_slice, Bool.and_true, Bool.and_self, id_eq]; done)))); (· ((first | omega | (simp; done) | (simp; omega)))); clear H; intro u h H)
        | ((with_reducible apply wo_step) <;> intro hg <;> (try simp only [Bool.not_eq_true', Bool.not_eq_false', beq_false, beq_true, Bool.not_not, Bool.not_eq_eq_eq_not, Bool.not_true, Bool.not_false, decide_eq_true_eq, decide_eq_false_iff_not, Bool.and_eq_true, not_true, not_false_eq_true] at hg) <;> (try subst hg) <;> (first | (exfalso; exact Bool.noConfusion hg) | skip))
        | ((with_reducible apply wc_cond); (· (simp (disch := (first | assumption | omega)) only [ev, T.get_put, Nat.reduceEqDiff, reduceIte, Option.some.injEq, dec_t, dec_f, Bool.not_true, Bool.not_false, v2, v3, v5, v7, v14, v15, v16, v17, List.length_map] <;> rfl)); all_goals (intro hg; (try (try simp only [Bool.not_eq_true', Bool.not_eq_false', beq_false, beq_true, Bool.not_not, Bool.not_eq_eq_eq_not, Bool.not_true, Bool.not_false, decide_eq_true_eq, decide_eq_false_iff_not, Bool.and_eq_true, not_true, not_false_eq_true] at hg)); first | (exfalso; exact Bool.noConfusion hg) | (exfalso; exact hg) | skip))
        | with_reducible apply wc_block
        | with_reducible apply wc_skip
        | with_reducible apply wc_label
        | with_reducible apply wc_exit
        | with_reducible apply wc_ret
        | with_reducible apply nx_r
        | with_reducible apply nx_e
        | with_reducible apply bx_n
        | with_reducible apply bx_r
        | with_reducible apply gx_n
        | with_reducible apply gx_r
        | with_reducible apply gx_e
        | ((with_reducible apply bx_hit); (· (rfl)))
        | ((with_reducible apply bx_pass); (· (rfl)))
        | ((with_reducible apply wc_scope); (· (decide)))
        | ((first | with_reducible apply wv_ret | with_reducible apply wv_end); (· ((repeat' (first | with_reducible exact rs_nil | ((with_reducible apply rs_tmp); (· (simp (disch := (first | assumption | omega)) only [ev, T.get_put, Nat.reduceEqDiff, reduceIte, Option.some.injEq, dec_t, dec_f, Bool.not_true, Bool.not_false, v2, v3, v5, v7, v14, v15, v16, v17, List.length_map] <;> rfl))) | ((with_reducible apply rs_cell); (· (simp (disch := (first | assumption | omega)) only [ev, T.get_put, Nat.reduceEqDiff, reduceIte, Option.some.injEq, dec_t, dec_f, Bool.not_true, Bool.not_false, v2, v3, v5, v7, v14, v15, v16, v17, List.length_map] <;> rfl)); (· ((first | exact ty3 | exact ty26 | exact ty27 | exact ty29 | exact ty30 | kernel_rfl))); (· (rfl)); (· (exact H.ld1 (by (with_reducible repeat' first | exact mem_h _ _ | apply mem_t); done) rfl))) | ((with_reducible apply rs_celln); (· (simp (disch := (first | assumption | omega)) only [ev, T.get_put, Nat.reduceEqDiff, reduceIte, Option.some.injEq, dec_t, dec_f, Bool.not_true, Bool.not_false, v2, v3, v5, v7, v14, v15, v16, v17, List.length_map] <;> rfl)); (· ((first | exact ty3 | exact ty26 | exact ty27 | exact ty29 | exact ty30 | kernel_rfl))); (· (rfl)); (· (exact H.ldn (by (with_reducible repeat' first | exact mem_h _ _ | apply mem_t); done) rfl rfl))))); done))))

      refine ⟨ws.length - (k + 1), by omega, k + 1, _, rfl, by omega, rfl, by trivial, by trivial, by rw [show ((k + 1 : Nat) : Int) = (k : Int) + 1 from by omega], ?_⟩
      rw [flat_snoc xss hys, List.map_append, List.length_append]
      rw [List.length_map] at H
      exact H.sub (by (with_reducible repeat' first | exact List.Sublist.refl _ | apply List.Sublist.cons_cons | apply List.Sublist.cons); done) (by (repeat' (first | exact znil | (apply zcons; (· ((with_reducible repeat' first | exact mem_h _ _ | apply mem_t); done))))); done)
    · have hkN : k = ws.length := by omega
      subst hkN
      rw [wl, List.take_length] at H
      have hgl := gr_lc (H.p (a := gr 3 1 u _ _) (.head _)) rfl
      replace H := H.freeze (.here _ (blk id 0 []) _) rfl
      replace H := H.z1 (z := lc false u (xss.flatten.map I)) hgl (fun n hn a ha => by cases ha)
      replace H := H.z1 (z := isl u (xss.flatten.map I)) hgl.isL (fun n hn a ha => by cases ha)
      ((with_reducible apply wc_c (fun i => Nat.beq i 2 || Nat.beq i 3 || Nat.beq i 5 || Nat.beq i 14 || Nat.beq i 15 || Nat.beq i 16 || Nat.beq i 17)); intro e he; have w9 := he 2 rfl; (try simp only [T.get_put, Nat.reduceEqDiff, reduceIte] at w9); have v2 := w9; clear w9; have w9 := he 3 rfl; (try simp only [T.get_put, Nat.reduceEqDiff, reduceIte] at w9); have v3 := w9; clear w9; have w9 := he 5 rfl; (try simp only [T.get_put, Nat.reduceEqDiff, reduceIte, v5] at w9); replace v5 := w9; clear w9; have w9 := he 14 rfl; (try simp only [T.get_put, Nat.reduceEqDiff, reduceIte, v14] at w9); replace v14 := w9; clear w9; have w9 := he 15 rfl; (try simp only [T.get_put, Nat.reduceEqDiff, reduceIte, v15] at w9); replace v15 := w9; clear w9; have w9 := he 16 rfl; (try simp only [T.get_put, Nat.reduceEqDiff, reduceIte, v16] at w9); replace v16 := w9; clear w9; have w9 := he 17 rfl; (try simp only [T.get_put, Nat.reduceEqDiff, reduceIte] at w9); have v17 := w9; clear w9; clear he)
      repeat' (first
        | (simp only [rep0, rep1, rep2, rep3, List.getElem_toArray, List.getElem_cons_zero, List.getElem_cons_succ, patch, List.take_succ_cons, List.take_zero, List.take_nil, List.drop_succ_cons, List.drop_zero, List.drop_nil, List.nil_append, List.cons_append, List.append_nil, List.length_cons, List.length_nil, List.set_cons_zero, List.set_cons_succ, Nat.zero_add, Nat.reduceAdd, cells_int, cells_bool, cells_str, cells_float, cells_np, cells_nil, cells_nf, cells_ptr, cells_slice, cells_fn, cells_agg, cells_lagg, putAt_z, putAt_s, over_nil, over_cons, litCells_cons, litCells_nil, List.toList_toArray, id_eq, repl_z, repl_one, Int.toNat_natCast, Int.reduceToNat, Nat.add_zero, Nat.mul_one, ti3, ti26, ti27, ti29, ti30] at H)
        | ((with_reducible apply nx_c (fun i => Nat.beq i 2 || Nat.beq i 3 || Nat.beq i 5 || Nat.beq i 14 || Nat.beq i 15 || Nat.beq i 16 || Nat.beq i 17)); intro e he; have w2 := he 2 rfl; have w3 := he 3 rfl; have w5 := he 5 rfl; have w14 := he 14 rfl; have w15 := he 15 rfl; have w16 := he 16 rfl; have w17 := he 17 rfl; (try simp only [T.get_put, Nat.reduceEqDiff, reduceIte, v2, v3, v5, v14, v15, v16, v17] at w2 w3 w5 w14 w15 w16 w17); clear he v2 v3 v5 v14 v15 v16 v17; have v2 := w2; have v3 := w3; have v5 := w5; have v14 := w14; have v15 := w15; have v16 := w16; have v17 := w17; clear w2 w3 w5 w14 w15 w16 w17)
        | with_reducible apply wc_seq
        | ((with_reducible apply wc_region); (· (rfl)))
        | with_reducible apply wo_some
        | simp (disch := (first | assumption | omega)) only [oUn_not, beq_self_eq_true, eq_self, List.toList_toArray, opsA_cons, opsA_nil, wantedA, guardA, yieldA, stepA_t, stepA_f, callA, calleeA, targetA, runOp_c, runOp_n, opA, ev, evs, evo, consO, consOO, pickA, afterA_s, putA, T.get_put, Nat.reduceEqDiff, reduceIte, List.getElem?_toArray, List.getElem?_cons_zero, List.getElem?_cons_succ, oBuiltin, oBin, binA, binG, binL, aggO, litA, ltF_eq, eqF_eq, oIndexAddr, cond_true, cond_false, Bool.not_true, Bool.not_false, decide_true, decide_false, blt_eq, tt_beq, tf_beq, ft_beq, ff_beq, Bool.and_true, Bool.true_and, Option.some.injEq, I, Bo, oExtract, Bool.not_eq_true', fieldAddrA, oFieldAddr, fieldA, partA, List.length_cons, List.length_nil, Nat.reduceAdd, Nat.zero_add, Nat.add_zero, Nat.mul_one, Nat.reduceMul, Nat.reduceLT, ty3, ti3, ty26, ti26, ty27, ti27, ty29, ti29, ty30, ti30, ii_add, ii_sub, ii_mul, ii_lss, ii_gtr, ii_geq, ii_leq, ii_eql, ii_neq, ii_rem, ii_quo, iu_rem, iu_lss, iu_gtr, iu_eql, iu_neq, bi_min, bi_max, List.getElem_toArray, List.getElem_cons_zero, List.getElem_cons_succ, withH_s, eqA, eqD, eqOp, nilCheckA, oBuild, oBuildSlice, oMakeSlice, oSlice, evParts, consP, oFn, oConv, dec_t, dec_f, wrap_ok, beq_dec, Int.toNat_natCast, Int.reduceToNat, id_eq, List.take_succ_cons, List.take_zero, List.drop_succ_cons, List.drop_zero, putAt_z, putAt_s, over_nil, over_cons, litCells_cons, litCells_nil, cells_int, cells_bool, cells_str, cells_float, cells_np, cells_nil, cells_nf, cells_ptr, cells_slice, cells_fn, cells_agg, cells_lagg, List.cons_append, List.nil_append, Nat.zero_add, Nat.add_zero, Nat.mul_one, Nat.reduceMul, Nat.reduceAdd, v2, v3, v5, v14, v15, v16, v17, List.length_map]
        | (((with_reducible apply wo_call); (· ((with_reducible apply k26z); (· (exact H.pz (a := lc _ _ _) (by (with_reducible repeat' first | exact mem_h _ _ | apply mem_t); done))); (· (omega)))); rintro _ h ⟨u2, rfl, hg, hx, hg2⟩; have hf4 := fun n hn => Nat.le_trans H.fr.c (hg2 n hn); replace H := H.freshz hx (x := lc true u2 _) hg (fun n hn => hg2 n (nmO_mem.1 hn)); clear hx hg2))
        | ((with_reducible apply wo_box H); clear H; intro n h H0n H)
        | ((with_reducible apply wo_load1 H); (· ((with_reducible repeat' first | exact mem_h _ _ | apply mem_t); done)); (· (rfl)); (· ((first | rfl | assumption))))
        | ((with_reducible apply wo_load1z H); (· ((with_reducible repeat' first | exact mem_h _ _ | apply mem_t); done)); (· (rfl)); (· ((first | rfl | assumption))))
        | ((with_reducible apply wo_loadc H); (· ((with_reducible repeat' first | exact mem_h _ _ | apply mem_t); done)); (· (rfl)))
        | ((with_reducible apply wo_loadn H); (· ((with_reducible repeat' first | exact mem_h _ _ | apply mem_t); done)); (· (rfl)); (· (rfl)); (· (rfl)))
        | ((with_reducible apply wo_loadnz H); (· ((with_reducible repeat' first | exact mem_h _ _ | apply mem_t); done)); (· (rfl)); (· (rfl)); (· (rfl)))
        | ((with_reducible apply wo_len H); (· ((with_reducible repeat' first | exact mem_h _ _ | apply mem_t); done)); (· ((first | exact ty3 | exact ty26 | exact ty27 | exact ty29 | exact ty30 | kernel_rfl))); (· (rfl)))
        | ((with_reducible apply wo_lenr H); (· ((with_reducible repeat' first | exact mem_h _ _ | apply mem_t); done)); (· ((first | exact ty3 | exact ty26 | exact ty27 | exact ty29 | exact ty30 | kernel_rfl))); (· (rfl)))
        | ((with_reducible apply wo_iar H); (· ((with_reducible repeat' first | exact mem_h _ _ | apply mem_t); done)); (· ((first | exact ty3 | exact ty26 | exact ty27 | exact ty29 | exact ty30 | kernel_rfl))); (· (rfl)); (· ((first | exact ty3 | exact ty26 | exact ty27 | exact ty29 | exact ty30 | kernel_rfl))); (· (rfl)); (· (rfl)); (· (rfl)); (· (assumption)); intro n o H)
        | ((with_reducible apply wo_loadcn H); (· ((with_reducible repeat' first | exact mem_h _ _ | apply mem_t); done)); (· (rfl)); (· (rfl)))
        | ((with_reducible apply wo_ia H); (· ((with_reducible repeat' first | exact mem_h _ _ | apply mem_t); done)); (· ((first | exact ty3 | exact ty26 | exact ty27 | exact ty29 | exact ty30 | kernel_rfl))); (· (rfl)); (· ((first | exact ty3 | exact ty26 | exact ty27 | exact ty29 | exact ty30 | kernel_rfl))); (· (rfl)); (· (rfl)); (· (assumption)); clear H; intro n o H)
        | ((with_reducible apply wo_app H); (· ((with_reducible repeat' first | exact PickF.here _ _ | apply PickF.there); done)); (· ((first | exact ty3 | exact ty26 | exact ty27 | exact ty29 | exact ty30 | kernel_rfl))); (· (rfl)); (· ((first | exact ty3 | exact ty26 | exact ty27 | exact ty29 | exact ty30 | kernel_rfl))); (· (rfl)); (· (decide)); (· (kernel_rfl)); (· ((with_reducible repeat' first | exact mem_h _ _ | apply mem_t); done)); (· (rfl)); (· ((first | rfl | (simp (disch := assumption) only [onesA_cons', onesA_nil, cells_int, cells_bool, cells_str, cells_float, cells_np, cells_nil, cells_nf, cells_ptr, cells_slice, cells_fn, cells_agg, cells_lagg, litCells_cons, litCells_nil, one_t, one_int, one_bool, one_str, one_nil, one_np, one_ptr, one_slice, Bool.and_true, Bool.and_self, id_eq]; done)))); (· ((first | omega | (simp; done) | (simp; omega)))); clear H; intro u h H)
        | ((with_reducible apply wo_step) <;> intro hg <;> (try simp only [Bool.not_eq_true', Bool.not_eq_false', beq_false, beq_true, Bool.not_not, Bool.not_eq_eq_eq_not, Bool.not_true, Bool.not_false, decide_eq_true_eq, decide_eq_false_iff_not, Bool.and_eq_true, not_true, not_false_eq_true] at hg) <;> (try subst hg) <;> (first | (exfalso; exact Bool.noConfusion hg) | skip))
        | ((with_reducible apply wc_cond); (· (simp (disch := (first | assumption | omega)) only [ev, T.get_put, Nat.reduceEqDiff, reduceIte, Option.some.injEq, dec_t, dec_f, Bool.not_true, Bool.not_false, v2, v3, v5, v14, v15, v16, v17, List.length_map] <;> rfl)); all_goals (intro hg; (try (try simp only [Bool.not_eq_true', Bool.not_eq_false', beq_false, beq_true, Bool.not_not, Bool.not_eq_eq_eq_not, Bool.not_true, Bool.not_false, decide_eq_true_eq, decide_eq_false_iff_not, Bool.and_eq_true, not_true, not_false_eq_true] at hg)); first | (exfalso; exact Bool.noConfusion hg) | (exfalso; exact hg) | skip))
        | with_reducible apply wc_block
        | with_reducible apply wc_skip
        | with_reducible apply wc_label
        | with_reducible apply wc_exit
        | with_reducible apply wc_ret
        | with_reducible apply nx_r
        | with_reducible apply nx_e
        | with_reducible apply bx_n
        | with_reducible apply bx_r
        | with_reducible apply gx_n
        | with_reducible apply gx_r
        | with_reducible apply gx_e
        | ((with_reducible apply bx_hit); (· (rfl)))
        | ((with_reducible apply bx_pass); (· (rfl)))
        | ((with_reducible apply wc_scope); (· (decide)))
        | ((first | with_reducible apply wv_ret | with_reducible apply wv_end); (· ((repeat' (first | with_reducible exact rs_nil | ((with_reducible apply rs_tmp); (· (simp (disch := (first | assumption | omega)) only [ev, T.get_put, Nat.reduceEqDiff, reduceIte, Option.some.injEq, dec_t, dec_f, Bool.not_true, Bool.not_false, v2, v3, v5, v14, v15, v16, v17, List.length_map] <;> rfl))) | ((with_reducible apply rs_cell); (· (simp (disch := (first | assumption | omega)) only [ev, T.get_put, Nat.reduceEqDiff, reduceIte, Option.some.injEq, dec_t, dec_f, Bool.not_true, Bool.not_false, v2, v3, v5, v14, v15, v16, v17, List.length_map] <;> rfl)); (· ((first | exact ty3 | exact ty26 | exact ty27 | exact ty29 | exact ty30 | kernel_rfl))); (· (rfl)); (· (exact H.ld1 (by (with_reducible repeat' first | exact mem_h _ _ | apply mem_t); done) rfl))) | ((with_reducible apply rs_celln); (· (simp (disch := (first | assumption | omega)) only [ev, T.get_put, Nat.reduceEqDiff, reduceIte, Option.some.injEq, dec_t, dec_f, Bool.not_true, Bool.not_false, v2, v3, v5, v14, v15, v16, v17, List.length_map] <;> rfl)); (· ((first | exact ty3 | exact ty26 | exact ty27 | exact ty29 | exact ty30 | kernel_rfl))); (· (rfl)); (· (exact H.ldn (by (with_reducible repeat' first | exact mem_h _ _ | apply mem_t); done) rfl rfl))))); done))))

      all_goals exact ⟨u2, rfl, H.pz (a := lc true u2 _) (by (with_reducible repeat' first | exact mem_h _ _ | apply mem_t); done), H.toExt, hf4⟩

end Go.Proofs.Ytgnnjlabnnapnaa
