import Derived.Test.YtgnnjlabnnapnaaLa
import Derived.KernelRfl
namespace Go.Proofs.Ytgnnjlabnnapnaa
open Go Go.Proofs Go.RowKit Go.Proofs.Abs
set_option linter.unusedSimpArgs false
set_option linter.unusedVariables false
theorem av_sl (n o l c z : Nat) (r : Bool) : avB 4 (.slice n o l r c z) (.slice n o l r c z) = true := by
  show ((n == n) && (o == o) && (l == l) && (r == r) && (c == c) && (z == z)) = true
  simp
def okp (b : Int) (xs : List Int) : Prop := 0 ≤ b ∧ b ≤ 65536 ∧ (xs.length : Int) ≤ b
def okA (bs : List Int) (xss : List (List Int)) : Prop := ∀ (i : Nat) (b : Int) (xs : List Int), bs[i]? = some b → xss[i]? = some xs → okp b xs
def okV (bs : List Int) (xss : List (List Int)) : Prop := 1 ≤ bs.length ∧ bs.length ≤ 8 ∧ xss.length = bs.length ∧ okA bs xss
open Classical in
noncomputable def chk (bs : List Int) (xss : List (List Int)) : Int := if okV bs xss then 0 else 1
theorem chk_no1 {bs : List Int} {xss : List (List Int)} (h : ¬ (1 ≤ bs.length ∧ bs.length ≤ 8 ∧ xss.length = bs.length)) : chk bs xss = 1 := if_neg (fun h2 => h ⟨h2.1, h2.2.1, h2.2.2.1⟩)
theorem chk_no2 {bs : List Int} {xss : List (List Int)} {i : Nat} {b : Int} {xs : List Int} (hb : bs[i]? = some b) (hx : xss[i]? = some xs) (h : ¬ okp b xs) : chk bs xss = 1 := if_neg (fun h2 => h (h2.2.2.2 i b xs hb hx))
theorem chk_yes {bs : List Int} {xss : List (List Int)} (h : okV bs xss) : chk bs xss = 0 := if_pos h
theorem okA_next {bs : List Int} {xss : List (List Int)} {k : Nat} {b : Int} {xs : List Int} (h : ∀ (i : Nat) (b : Int) (xs : List Int), i < k → bs[i]? = some b → xss[i]? = some xs → okp b xs) (hb : bs[k]? = some b) (hx : xss[k]? = some xs) (ho : okp b xs) : ∀ (i : Nat) (b : Int) (xs : List Int), i < k + 1 → bs[i]? = some b → xss[i]? = some xs → okp b xs := by
  intro i b' xs' hi h1 h2
  by_cases e : i = k
  · subst e
    rw [hb] at h1
    rw [hx] at h2
    cases h1
    cases h2
    exact ho
  · exact h i b' xs' (by omega) h1 h2
theorem k26z (d : Nat) (b : Hp) (v : AV) (xs : List Int) (c : Bool) (hv : Lc c b v (xs.map I)) (hn : xs.length ≤ 100000) : Wv (runA ctx 5000 (d + 1) 26 [v, I 0, I (xs.length : Int)] b) (fun r h' => ∃ w, w = r ∧ Lc true h' w (xs.map I) ∧ Ext b h' ∧ ∀ m, nmO w = some m → b.c ≤ m) := by
  have := k26 d b v xs 0 xs.length c hv (by omega) hn
  rw [List.drop_zero, List.take_length, Nat.zero_add] at this
  exact this.mono (fun v h ⟨a, b, c⟩ => ⟨v, rfl, a, b, c⟩)
theorem b29 {w u : AV} (h1 : cellsOf w = [w]) (h2 : cellsOf u = [u]) : buildA ctx 29 [(0, w), (1, u)] = some (.agg [w, u]) := by
  unfold buildA
  rw [ty29]
  simp only [ti29, fillA_cons, fillA_nil, h1, h2]
  rfl
theorem b34 {w u : AV} (h1 : cellsOf w = [w]) (h2 : cellsOf u = [u]) : buildA ctx 34 [(0, w), (1, u)] = some (.agg [w, u]) := by
  unfold buildA
  rw [ty34]
  simp only [ti34, fillA_cons, fillA_nil, h1, h2]
  rfl
theorem wo_b29 {k : OpsK} {env : Env} {dst : Option Tmp} {h : Hp} {Q : Env → Hp → Prop} {w u : AV} (h1 : cellsOf w = [w]) (h2 : cellsOf u = [u]) (h3 : Wo (k (putA env (.agg [w, u]) dst) h) Q) : Wo (afterA k env dst (withH h (buildA ctx 29 [(0, w), (1, u)]))) Q := by
  rw [b29 h1 h2]; exact h3
theorem wo_b34 {k : OpsK} {env : Env} {dst : Option Tmp} {h : Hp} {Q : Env → Hp → Prop} {w u : AV} (h1 : cellsOf w = [w]) (h2 : cellsOf u = [u]) (h3 : Wo (k (putA env (.agg [w, u]) dst) h) Q) : Wo (afterA k env dst (withH h (buildA ctx 34 [(0, w), (1, u)]))) Q := by
  rw [b34 h1 h2]; exact h3
theorem chk_no {bs : List Int} {xss : List (List Int)} (h : ¬ okV bs xss) : chk bs xss = 1 := if_neg h
theorem okV.len {bs : List Int} {xss : List (List Int)} (h : okV bs xss) : ∀ xs ∈ xss, xs.length ≤ 65536 := by
  intro xs hx
  obtain ⟨i, hi⟩ := List.getElem?_of_mem hx
  have hlt := (List.getElem?_eq_some_iff.1 hi).1
  obtain ⟨b, hb⟩ := at_some (show i < bs.length by have := h.2.2.1; omega)
  have := h.2.2.2 i b xs hb hi
  unfold okp at this
  omega
set_option maxHeartbeats 4000000 in
theorem k22 (d : Nat) (b : Hp) (vB vR : AV) (ws : List AV) (bs : List Int) (xss : List (List Int)) (c : Bool) (hP : PLs c b vB vR ws bs xss) : Wv (runA ctx 5000 (d + 1) 22 [.agg [vB, vR]] b) (fun r h' => r = I (chk bs xss) ∧ Ext b h') := by
  have H := ((Hs.start b).z0 (z := pls c vB vR ws bs xss) hP).opn (.head _)
  have one1 := hP.b.one
  have one2 := hP.r.one
  have wl := hP.w.1
  refine wv_run fn22 rfl ?_
  have a0 : (enterEnv [.agg [vB, vR]] Try.f22.ntmps).get 0 = some (.agg [vB, vR]) := enter_get1 _ _ _
  generalize enterEnv [.agg [vB, vR]] Try.f22.ntmps = e at a0 ⊢
  unfold Try.f22
  dsimp only
  ((with_reducible apply wc_c (fun i => Nat.beq i 0 || Nat.beq i 1 || Nat.beq i 2 || Nat.beq i 3 || Nat.beq i 4 || Nat.beq i 23 || Nat.beq i 25 || Nat.beq i 26 || Nat.beq i 27 || Nat.beq i 28 || Nat.beq i 47)); intro e he; have w9 := he 0 rfl; (try simp only [T.get_put, Nat.reduceEqDiff, reduceIte, a0] at w9); have v0 := w9; clear w9; have w9 := he 1 rfl; (try simp only [T.get_put, Nat.reduceEqDiff, reduceIte] at w9); have v1 := w9; clear w9; have w9 := he 2 rfl; (try simp only [T.get_put, Nat.reduceEqDiff, reduceIte] at w9); have v2 := w9; clear w9; have w9 := he 3 rfl; (try simp only [T.get_put, Nat.reduceEqDiff, reduceIte] at w9); have v3 := w9; clear w9; have w9 := he 4 rfl; (try simp only [T.get_put, Nat.reduceEqDiff, reduceIte] at w9); have v4 := w9; clear w9; have w9 := he 23 rfl; (try simp only [T.get_put, Nat.reduceEqDiff, reduceIte] at w9); have v23 := w9; clear w9; have w9 := he 25 rfl; (try simp only [T.get_put, Nat.reduceEqDiff, reduceIte] at w9); have v25 := w9; clear w9; have w9 := he 26 rfl; (try simp only [T.get_put, Nat.reduceEqDiff, reduceIte] at w9); have v26 := w9; clear w9; have w9 := he 27 rfl; (try simp only [T.get_put, Nat.reduceEqDiff, reduceIte] at w9); have v27 := w9; clear w9; have w9 := he 28 rfl; (try simp only [T.get_put, Nat.reduceEqDiff, reduceIte] at w9); have v28 := w9; clear w9; have w9 := he 47 rfl; (try simp only [T.get_put, Nat.reduceEqDiff, reduceIte] at w9); have v47 := w9; clear w9; clear he)
  repeat' (first
    | (simp only [rep0, rep1, rep2, rep3, List.getElem_toArray, List.getElem_cons_zero, List.getElem_cons_succ, patch, List.take_succ_cons, List.take_zero, List.take_nil, List.drop_succ_cons, List.drop_zero, List.drop_nil, List.nil_append, List.cons_append, List.append_nil, List.length_cons, List.length_nil, List.set_cons_zero, List.set_cons_succ, Nat.zero_add, Nat.reduceAdd, cells_int, cells_bool, cells_str, cells_float, cells_np, cells_nil, cells_nf, cells_ptr, cells_slice, cells_fn, cells_agg, cells_lagg, putAt_z, putAt_s, over_nil, over_cons, litCells_cons, litCells_nil, List.toList_toArray, id_eq, repl_z, repl_one, Int.toNat_natCast, Int.reduceToNat, Nat.add_zero, Nat.mul_one, ti3, ti26, ti27, ti29] at H)
    | ((with_reducible apply nx_c (fun i => Nat.beq i 0 || Nat.beq i 1 || Nat.beq i 2 || Nat.beq i 3 || Nat.beq i 4 || Nat.beq i 23 || Nat.beq i 25 || Nat.beq i 26 || Nat.beq i 27 || Nat.beq i 28 || Nat.beq i 47)); intro e he; have w0 := he 0 rfl; have w1 := he 1 rfl; have w2 := he 2 rfl; have w3 := he 3 rfl; have w4 := he 4 rfl; have w23 := he 23 rfl; have w25 := he 25 rfl; have w26 := he 26 rfl; have w27 := he 27 rfl; have w28 := he 28 rfl; have w47 := he 47 rfl; (try simp only [T.get_put, Nat.reduceEqDiff, reduceIte, v0, v1, v2, v3, v4, v23, v25, v26, v27, v28, v47] at w0 w1 w2 w3 w4 w23 w25 w26 w27 w28 w47); clear he v0 v1 v2 v3 v4 v23 v25 v26 v27 v28 v47; have v0 := w0; have v1 := w1; have v2 := w2; have v3 := w3; have v4 := w4; have v23 := w23; have v25 := w25; have v26 := w26; have v27 := w27; have v28 := w28; have v47 := w47; clear w0 w1 w2 w3 w4 w23 w25 w26 w27 w28 w47)
    | with_reducible apply wc_seq
    | ((with_reducible apply wc_region); (· (rfl)))
    | with_reducible apply wo_some
    | simp (disch := (first | assumption | omega)) only [oUn_not, beq_self_eq_true, eq_self, List.toList_toArray, opsA_cons, opsA_nil, wantedA, guardA, yieldA, stepA_t, stepA_f, callA, calleeA, targetA, runOp_c, runOp_n, opA, ev, evs, evo, consO, consOO, pickA, afterA_s, putA, T.get_put, Nat.reduceEqDiff, reduceIte, List.getElem?_toArray, List.getElem?_cons_zero, List.getElem?_cons_succ, oBuiltin, oBin, binA, binG, binL, aggO, litA, ltF_eq, eqF_eq, oIndexAddr, cond_true, cond_false, Bool.not_true, Bool.not_false, decide_true, decide_false, blt_eq, tt_beq, tf_beq, ft_beq, ff_beq, Bool.and_true, Bool.true_and, Option.some.injEq, I, Bo, oExtract, Bool.not_eq_true', fieldAddrA, oFieldAddr, fieldA, partA, List.length_cons, List.length_nil, Nat.reduceAdd, Nat.zero_add, Nat.add_zero, Nat.mul_one, Nat.reduceMul, Nat.reduceLT, ty3, ti3, ty26, ti26, ty27, ti27, ty29, ti29, ii_add, ii_sub, ii_mul, ii_lss, ii_gtr, ii_geq, ii_leq, ii_eql, ii_neq, ii_rem, ii_quo, iu_rem, iu_lss, iu_gtr, iu_eql, iu_neq, bi_min, bi_max, List.getElem_toArray, List.getElem_cons_zero, List.getElem_cons_succ, withH_s, eqA, eqD, eqOp, nilCheckA, oBuild, oBuildSlice, oMakeSlice, oSlice, evParts, consP, oFn, oConv, dec_t, dec_f, wrap_ok, beq_dec, Int.toNat_natCast, Int.reduceToNat, id_eq, List.take_succ_cons, List.take_zero, List.drop_succ_cons, List.drop_zero, putAt_z, putAt_s, over_nil, over_cons, litCells_cons, litCells_nil, cells_int, cells_bool, cells_str, cells_float, cells_np, cells_nil, cells_nf, cells_ptr, cells_slice, cells_fn, cells_agg, cells_lagg, List.cons_append, List.nil_append, Nat.zero_add, Nat.add_zero, Nat.mul_one, Nat.reduceMul, Nat.reduceAdd, v0, v1, v2, v3, v4, v23, v25, v26, v27, v28, v47, one1, one2, List.length_map]
    | ((with_reducible apply wo_box H); clear H; intro n h H0n H)
    | ((with_reducible apply wo_load1 H); (· ((with_reducible repeat' first | exact mem_h _ _ | apply mem_t); done)); (· (rfl)); (· ((first | rfl | assumption))))
    | ((with_reducible apply wo_load1z H); (· ((with_reducible repeat' first | exact mem_h _ _ | apply mem_t); done)); (· (rfl)); (· ((first | rfl | assumption))))
    | ((with_reducible apply wo_loadc H); (· ((with_reducible repeat' first | exact mem_h _ _ | apply mem_t); done)); (· (rfl)))
    | ((with_reducible apply wo_loadn H); (· ((with_reducible repeat' first | exact mem_h _ _ | apply mem_t); done)); (· (rfl)); (· (rfl)); (· (rfl)))
    | ((with_reducible apply wo_loadnz H); (· ((with_reducible repeat' first | exact mem_h _ _ | apply mem_t); done)); (· (rfl)); (· (rfl)); (· (rfl)))
    | ((with_reducible apply wo_len H); (· ((with_reducible repeat' first | exact mem_h _ _ | apply mem_t); done)); (· ((first | exact ty3 | exact ty26 | exact ty27 | exact ty29 | kernel_rfl))); (· (rfl)))
    | ((with_reducible apply wo_lenr H); (· ((with_reducible repeat' first | exact mem_h _ _ | apply mem_t); done)); (· ((first | exact ty3 | exact ty26 | exact ty27 | exact ty29 | kernel_rfl))); (· (rfl)))
    | ((with_reducible apply wo_iar H); (· ((with_reducible repeat' first | exact mem_h _ _ | apply mem_t); done)); (· ((first | exact ty3 | exact ty26 | exact ty27 | exact ty29 | kernel_rfl))); (· (rfl)); (· ((first | exact ty3 | exact ty26 | exact ty27 | exact ty29 | kernel_rfl))); (· (rfl)); (· (rfl)); (· (rfl)); (· (assumption)); intro n o H)
    | ((with_reducible apply wo_loadcn H); (· ((with_reducible repeat' first | exact mem_h _ _ | apply mem_t); done)); (· (rfl)); (· (rfl)))
    | ((with_reducible apply wo_ia H); (· ((with_reducible repeat' first | exact mem_h _ _ | apply mem_t); done)); (· ((first | exact ty3 | exact ty26 | exact ty27 | exact ty29 | kernel_rfl))); (· (rfl)); (· ((first | exact ty3 | exact ty26 | exact ty27 | exact ty29 | kernel_rfl))); (· (rfl)); (· (rfl)); (· (assumption)); clear H; intro n o H)
    | ((with_reducible apply wo_step) <;> intro hg <;> (try simp only [Bool.not_eq_true', Bool.not_eq_false', beq_false, beq_true, Bool.not_not, Bool.not_eq_eq_eq_not, Bool.not_true, Bool.not_false, decide_eq_true_eq, decide_eq_false_iff_not, Bool.and_eq_true, not_true, not_false_eq_true] at hg) <;> (try subst hg) <;> (first | (exfalso; exact Bool.noConfusion hg) | skip))
    | ((with_reducible apply wc_cond); (· (simp (disch := (first | assumption | omega)) only [ev, T.get_put, Nat.reduceEqDiff, reduceIte, Option.some.injEq, dec_t, dec_f, Bool.not_true, Bool.not_false, v0, v1, v2, v3, v4, v23, v25, v26, v27, v28, v47, one1, one2, List.length_map] <;> rfl)); all_goals (intro hg; (try (try simp only [Bool.not_eq_true', Bool.not_eq_false', beq_false, beq_true, Bool.not_not, Bool.not_eq_eq_eq_not, Bool.not_true, Bool.not_false, decide_eq_true_eq, decide_eq_false_iff_not, Bool.and_eq_true, not_true, not_false_eq_true] at hg)); first | (exfalso; exact Bool.noConfusion hg) | (exfalso; exact hg) | skip))
    | with_reducible apply wc_block
    | with_reducible apply wc_skip
    | with_reducible apply wc_label
    | with_reducible apply wc_exit
    | with_reducible apply wc_ret
    | with_reducible apply nx_r
    | with_reducible apply nx_e
    | with_reducible apply bx_n
    | with_reducible apply bx_r
    | with_reducible apply gx_n
    | with_reducible apply gx_r
    | with_reducible apply gx_e
    | ((with_reducible apply bx_hit); (· (rfl)))
    | ((with_reducible apply bx_pass); (· (rfl)))
    | ((with_reducible apply wc_scope); (· (decide)))
    | ((first | with_reducible apply wv_ret | with_reducible apply wv_end); (· ((repeat' (first | with_reducible exact rs_nil | ((with_reducible apply rs_tmp); (· (simp (disch := (first | assumption | omega)) only [ev, T.get_put, Nat.reduceEqDiff, reduceIte, Option.some.injEq, dec_t, dec_f, Bool.not_true, Bool.not_false, v0, v1, v2, v3, v4, v23, v25, v26, v27, v28, v47, one1, one2, List.length_map] <;> rfl))) | ((with_reducible apply rs_cell); (· (simp (disch := (first | assumption | omega)) only [ev, T.get_put, Nat.reduceEqDiff, reduceIte, Option.some.injEq, dec_t, dec_f, Bool.not_true, Bool.not_false, v0, v1, v2, v3, v4, v23, v25, v26, v27, v28, v47, one1, one2, List.length_map] <;> rfl)); (· ((first | exact ty3 | exact ty26 | exact ty27 | exact ty29 | kernel_rfl))); (· (rfl)); (· (exact H.ld1 (by (with_reducible repeat' first | exact mem_h _ _ | apply mem_t); done) rfl))) | ((with_reducible apply rs_celln); (· (simp (disch := (first | assumption | omega)) only [ev, T.get_put, Nat.reduceEqDiff, reduceIte, Option.some.injEq, dec_t, dec_f, Bool.not_true, Bool.not_false, v0, v1, v2, v3, v4, v23, v25, v26, v27, v28, v47, one1, one2, List.length_map] <;> rfl)); (· ((first | exact ty3 | exact ty26 | exact ty27 | exact ty29 | kernel_rfl))); (· (rfl)); (· (exact H.ldn (by (with_reducible repeat' first | exact mem_h _ _ | apply mem_t); done) rfl rfl))))); done))))

  all_goals first | exact ⟨by rw [chk_no1 (by omega)]; rfl, H.toExt⟩ | skip
  obtain ⟨p1, H, v1⟩ : ∃ p1, Hs [] b h [blk id p1 [vB, vR]] (isl vB (bs.map I) :: lc c vB (bs.map I) :: isl vR ws :: lc c vR ws :: lls c ws xss :: [pls c vB vR ws bs xss]) ∧ e.get 1 = some (.ptr p1 0) := ⟨_, H, v1⟩
  refine wc_loop (fun m e h' => ∃ k, m = bs.length - k ∧ k ≤ bs.length ∧ (∀ (i : Nat) (b : Int) (xs : List Int), i < k → bs[i]? = some b → xss[i]? = some xs → okp b xs) ∧ e.get 1 = some (.ptr p1 0) ∧ e.get 25 = some vB ∧ e.get 26 = some (I (bs.length : Int)) ∧ e.get 27 = some (I (k : Int)) ∧ Hs [] b h' [blk id p1 [vB, vR]] (isl vB (bs.map I) :: lc c vB (bs.map I) :: isl vR ws :: lc c vR ws :: lls c ws xss :: [pls c vB vR ws bs xss])) bs.length ?_ ⟨0, rfl, Nat.zero_le _, fun i b xs hi => absurd hi (Nat.not_lt_zero _), v1, v25, v26, v27, H⟩ ?_
  · omega
  · clear H v1 v25 v26 v27
    rintro m e h ⟨k, rfl, hk, ok, v1, v25, v26, v27, H⟩
    by_cases hlt : k < bs.length
    · obtain ⟨x, hx⟩ := at_some hlt
      obtain ⟨ys, hys⟩ := at_some (show k < xss.length by omega)
      obtain ⟨u, hu⟩ := at_some (show k < ws.length by omega)
      have hxs := at_map hx
      replace H := H.row (by (with_reducible repeat' first | exact mem_h _ _ | apply mem_t); done) hu hys
      ((with_reducible apply wc_c (fun i => Nat.beq i 1 || Nat.beq i 2 || Nat.beq i 3 || Nat.beq i 4 || Nat.beq i 25 || Nat.beq i 26 || Nat.beq i 27 || Nat.beq i 28 || Nat.beq i 47)); intro e he; have w9 := he 1 rfl; (try simp only [T.get_put, Nat.reduceEqDiff, reduceIte, v1] at w9); replace v1 := w9; clear w9; have w9 := he 2 rfl; (try simp only [T.get_put, Nat.reduceEqDiff, reduceIte] at w9); have v2 := w9; clear w9; have w9 := he 3 rfl; (try simp only [T.get_put, Nat.reduceEqDiff, reduceIte] at w9); have v3 := w9; clear w9; have w9 := he 4 rfl; (try simp only [T.get_put, Nat.reduceEqDiff, reduceIte] at w9); have v4 := w9; clear w9; have w9 := he 25 rfl; (try simp only [T.get_put, Nat.reduceEqDiff, reduceIte, v25] at w9); replace v25 := w9; clear w9; have w9 := he 26 rfl; (try simp only [T.get_put, Nat.reduceEqDiff, reduceIte, v26] at w9); replace v26 := w9; clear w9; have w9 := he 27 rfl; (try simp only [T.get_put, Nat.reduceEqDiff, reduceIte, v27] at w9); replace v27 := w9; clear w9; have w9 := he 28 rfl; (try simp only [T.get_put, Nat.reduceEqDiff, reduceIte] at w9); have v28 := w9; clear w9; have w9 := he 47 rfl; (try simp only [T.get_put, Nat.reduceEqDiff, reduceIte] at w9); have v47 := w9; clear w9; clear he)
      repeat' (first
        | (simp only [rep0, rep1, rep2, rep3, List.getElem_toArray, List.getElem_cons_zero, List.getElem_cons_succ, patch, List.take_succ_cons, List.take_zero, List.take_nil, List.drop_succ_cons, List.drop_zero, List.drop_nil, List.nil_append, List.cons_append, List.append_nil, List.length_cons, List.length_nil, List.set_cons_zero, List.set_cons_succ, Nat.zero_add, Nat.reduceAdd, cells_int, cells_bool, cells_str, cells_float, cells_np, cells_nil, cells_nf, cells_ptr, cells_slice, cells_fn, cells_agg, cells_lagg, putAt_z, putAt_s, over_nil, over_cons, litCells_cons, litCells_nil, List.toList_toArray, id_eq, repl_z, repl_one, Int.toNat_natCast, Int.reduceToNat, Nat.add_zero, Nat.mul_one, ti3, ti26, ti27, ti29] at H)
        | ((with_reducible apply nx_c (fun i => Nat.beq i 1 || Nat.beq i 2 || Nat.beq i 3 || Nat.beq i 4 || Nat.beq i 25 || Nat.beq i 26 || Nat.beq i 27 || Nat.beq i 28 || Nat.beq i 47)); intro e he; have w1 := he 1 rfl; have w2 := he 2 rfl; have w3 := he 3 rfl; have w4 := he 4 rfl; have w25 := he 25 rfl; have w26 := he 26 rfl; have w27 := he 27 rfl; have w28 := he 28 rfl; have w47 := he 47 rfl; (try simp only [T.get_put, Nat.reduceEqDiff, reduceIte, v1, v2, v3, v4, v25, v26, v27, v28, v47] at w1 w2 w3 w4 w25 w26 w27 w28 w47); clear he v1 v2 v3 v4 v25 v26 v27 v28 v47; have v1 := w1; have v2 := w2; have v3 := w3; have v4 := w4; have v25 := w25; have v26 := w26; have v27 := w27; have v28 := w28; have v47 := w47; clear w1 w2 w3 w4 w25 w26 w27 w28 w47)
        | with_reducible apply wc_seq
        | ((with_reducible apply wc_region); (· (rfl)))
        | with_reducible apply wo_some
        | simp (disch := (first | assumption | omega)) only [oUn_not, beq_self_eq_true, eq_self, List.toList_toArray, opsA_cons, opsA_nil, wantedA, guardA, yieldA, stepA_t, stepA_f, callA, calleeA, targetA, runOp_c, runOp_n, opA, ev, evs, evo, consO, consOO, pickA, afterA_s, putA, T.get_put, Nat.reduceEqDiff, reduceIte, List.getElem?_toArray, List.getElem?_cons_zero, List.getElem?_cons_succ, oBuiltin, oBin, binA, binG, binL, aggO, litA, ltF_eq, eqF_eq, oIndexAddr, cond_true, cond_false, Bool.not_true, Bool.not_false, decide_true, decide_false, blt_eq, tt_beq, tf_beq, ft_beq, ff_beq, Bool.and_true, Bool.true_and, Option.some.injEq, I, Bo, oExtract, Bool.not_eq_true', fieldAddrA, oFieldAddr, fieldA, partA, List.length_cons, List.length_nil, Nat.reduceAdd, Nat.zero_add, Nat.add_zero, Nat.mul_one, Nat.reduceMul, Nat.reduceLT, ty3, ti3, ty26, ti26, ty27, ti27, ty29, ti29, ii_add, ii_sub, ii_mul, ii_lss, ii_gtr, ii_geq, ii_leq, ii_eql, ii_neq, ii_rem, ii_quo, iu_rem, iu_lss, iu_gtr, iu_eql, iu_neq, bi_min, bi_max, List.getElem_toArray, List.getElem_cons_zero, List.getElem_cons_succ, withH_s, eqA, eqD, eqOp, nilCheckA, oBuild, oBuildSlice, oMakeSlice, oSlice, evParts, consP, oFn, oConv, dec_t, dec_f, wrap_ok, beq_dec, Int.toNat_natCast, Int.reduceToNat, id_eq, List.take_succ_cons, List.take_zero, List.drop_succ_cons, List.drop_zero, putAt_z, putAt_s, over_nil, over_cons, litCells_cons, litCells_nil, cells_int, cells_bool, cells_str, cells_float, cells_np, cells_nil, cells_nf, cells_ptr, cells_slice, cells_fn, cells_agg, cells_lagg, List.cons_append, List.nil_append, Nat.zero_add, Nat.add_zero, Nat.mul_one, Nat.reduceMul, Nat.reduceAdd, v1, v2, v3, v4, v25, v26, v27, v28, v47, List.length_map]
        | ((with_reducible apply wo_box H); clear H; intro n h H0n H)
        | ((with_reducible apply wo_load1 H); (· ((with_reducible repeat' first | exact mem_h _ _ | apply mem_t); done)); (· (rfl)); (· ((first | rfl | assumption))))
        | ((with_reducible apply wo_load1z H); (· ((with_reducible repeat' first | exact mem_h _ _ | apply mem_t); done)); (· (rfl)); (· ((first | rfl | assumption))))
        | ((with_reducible apply wo_loadc H); (· ((with_reducible repeat' first | exact mem_h _ _ | apply mem_t); done)); (· (rfl)))
        | ((with_reducible apply wo_loadn H); (· ((with_reducible repeat' first | exact mem_h _ _ | apply mem_t); done)); (· (rfl)); (· (rfl)); (· (rfl)))
        | ((with_reducible apply wo_loadnz H); (· ((with_reducible repeat' first | exact mem_h _ _ | apply mem_t); done)); (· (rfl)); (· (rfl)); (· (rfl)))
        | ((with_reducible apply wo_len H); (· ((with_reducible repeat' first | exact mem_h _ _ | apply mem_t); done)); (· ((first | exact ty3 | exact ty26 | exact ty27 | exact ty29 | kernel_rfl))); (· (rfl)))
        | ((with_reducible apply wo_lenr H); (· ((with_reducible repeat' first | exact mem_h _ _ | apply mem_t); done)); (· ((first | exact ty3 | exact ty26 | exact ty27 | exact ty29 | kernel_rfl))); (· (rfl)))
        | ((with_reducible apply wo_iar H); (· ((with_reducible repeat' first | exact mem_h _ _ | apply mem_t); done)); (· ((first | exact ty3 | exact ty26 | exact ty27 | exact ty29 | kernel_rfl))); (· (rfl)); (· ((first | exact ty3 | exact ty26 | exact ty27 | exact ty29 | kernel_rfl))); (· (rfl)); (· (rfl)); (· (rfl)); (· (assumption)); intro n o H)
        | ((with_reducible apply wo_loadcn H); (· ((with_reducible repeat' first | exact mem_h _ _ | apply mem_t); done)); (· (rfl)); (· (rfl)))
        | ((with_reducible apply wo_ia H); (· ((with_reducible repeat' first | exact mem_h _ _ | apply mem_t); done)); (· ((first | exact ty3 | exact ty26 | exact ty27 | exact ty29 | kernel_rfl))); (· (rfl)); (· ((first | exact ty3 | exact ty26 | exact ty27 | exact ty29 | kernel_rfl))); (· (rfl)); (· (rfl)); (· (assumption)); clear H; intro n o H)
        | ((with_reducible apply wo_step) <;> intro hg <;> (try simp only [Bool.not_eq_true', Bool.not_eq_false', beq_false, beq_true, Bool.not_not, Bool.not_eq_eq_eq_not, Bool.not_true, Bool.not_false, decide_eq_true_eq, decide_eq_false_iff_not, Bool.and_eq_true, not_true, not_false_eq_true] at hg) <;> (try subst hg) <;> (first | (exfalso; exact Bool.noConfusion hg) | skip))
        | ((with_reducible apply wc_cond); (· (simp (disch := (first | assumption | omega)) only [ev, T.get_put, Nat.reduceEqDiff, reduceIte, Option.some.injEq, dec_t, dec_f, Bool.not_true, Bool.not_false, v1, v2, v3, v4, v25, v26, v27, v28, v47, List.length_map] <;> rfl)); all_goals (intro hg; (try (try simp only [Bool.not_eq_true', Bool.not_eq_false', beq_false, beq_true, Bool.not_not, Bool.not_eq_eq_eq_not, Bool.not_true, Bool.not_false, decide_eq_true_eq, decide_eq_false_iff_not, Bool.and_eq_true, not_true, not_false_eq_true] at hg)); first | (exfalso; exact Bool.noConfusion hg) | (exfalso; exact hg) | skip))
        | with_reducible apply wc_block
        | with_reducible apply wc_skip
        | with_reducible apply wc_label
        | with_reducible apply wc_exit
        | with_reducible apply wc_ret
        | with_reducible apply nx_r
        | with_reducible apply nx_e
        | with_reducible apply bx_n
        | with_reducible apply bx_r
        | with_reducible apply gx_n
        | with_reducible apply gx_r
        | with_reducible apply gx_e
        | ((with_reducible apply bx_hit); (· (rfl)))
        | ((with_reducible apply bx_pass); (· (rfl)))
        | ((with_reducible apply wc_scope); (· (decide)))
        | ((first | with_reducible apply wv_ret | with_reducible apply wv_end); (· ((repeat' (first | with_reducible exact rs_nil | ((with_reducible apply rs_tmp); (· (simp (disch := (first | assumption | omega)) only [ev, T.get_put, Nat.reduceEqDiff, reduceIte, Option.some.injEq, dec_t, dec_f, Bool.not_true, Bool.not_false, v1, v2, v3, v4, v25, v26, v27, v28, v47, List.length_map] <;> rfl))) | ((with_reducible apply rs_cell); (· (simp (disch := (first | assumption | omega)) only [ev, T.get_put, Nat.reduceEqDiff, reduceIte, Option.some.injEq, dec_t, dec_f, Bool.not_true, Bool.not_false, v1, v2, v3, v4, v25, v26, v27, v28, v47, List.length_map] <;> rfl)); (· ((first | exact ty3 | exact ty26 | exact ty27 | exact ty29 | kernel_rfl))); (· (rfl)); (· (exact H.ld1 (by (with_reducible repeat' first | exact mem_h _ _ | apply mem_t); done) rfl))) | ((with_reducible apply rs_celln); (· (simp (disch := (first | assumption | omega)) only [ev, T.get_put, Nat.reduceEqDiff, reduceIte, Option.some.injEq, dec_t, dec_f, Bool.not_true, Bool.not_false, v1, v2, v3, v4, v25, v26, v27, v28, v47, List.length_map] <;> rfl)); (· ((first | exact ty3 | exact ty26 | exact ty27 | exact ty29 | kernel_rfl))); (· (rfl)); (· (exact H.ldn (by (with_reducible repeat' first | exact mem_h _ _ | apply mem_t); done) rfl rfl))))); done))))

      all_goals first
        | exact ⟨by rw [chk_no2 hx hys (by unfold okp; omega)]; rfl, H.toExt⟩
        | (refine ⟨bs.length - (k + 1), by omega, k + 1, rfl, by omega, okA_next ok hx hys (by unfold okp; omega), by trivial, by trivial, by trivial, by rw [show ((k + 1 : Nat) : Int) = (k : Int) + 1 from by omega], ?_⟩; exact H.sub (by (with_reducible repeat' first | exact List.Sublist.refl _ | apply List.Sublist.cons_cons | apply List.Sublist.cons); done) (by (repeat' (first | exact znil | (apply zcons; (· ((with_reducible repeat' first | exact mem_h _ _ | apply mem_t); done))))); done))
    · have hkN : k = bs.length := by omega
      subst hkN
      ((with_reducible apply wc_c (fun i => Nat.beq i 1 || Nat.beq i 2 || Nat.beq i 25 || Nat.beq i 26 || Nat.beq i 27 || Nat.beq i 28)); intro e he; have w9 := he 1 rfl; (try simp only [T.get_put, Nat.reduceEqDiff, reduceIte, v1] at w9); replace v1 := w9; clear w9; have w9 := he 2 rfl; (try simp only [T.get_put, Nat.reduceEqDiff, reduceIte] at w9); have v2 := w9; clear w9; have w9 := he 25 rfl; (try simp only [T.get_put, Nat.reduceEqDiff, reduceIte, v25] at w9); replace v25 := w9; clear w9; have w9 := he 26 rfl; (try simp only [T.get_put, Nat.reduceEqDiff, reduceIte, v26] at w9); replace v26 := w9; clear w9; have w9 := he 27 rfl; (try simp only [T.get_put, Nat.reduceEqDiff, reduceIte, v27] at w9); replace v27 := w9; clear w9; have w9 := he 28 rfl; (try simp only [T.get_put, Nat.reduceEqDiff, reduceIte] at w9); have v28 := w9; clear w9; clear he)
      repeat' (first
        | (simp only [rep0, rep1, rep2, rep3, List.getElem_toArray, List.getElem_cons_zero, List.getElem_cons_succ, patch, List.take_succ_cons, List.take_zero, List.take_nil, List.drop_succ_cons, List.drop_zero, List.drop_nil, List.nil_append, List.cons_append, List.append_nil, List.length_cons, List.length_nil, List.set_cons_zero, List.set_cons_succ, Nat.zero_add, Nat.reduceAdd, cells_int, cells_bool, cells_str, cells_float, cells_np, cells_nil, cells_nf, cells_ptr, cells_slice, cells_fn, cells_agg, cells_lagg, putAt_z, putAt_s, over_nil, over_cons, litCells_cons, litCells_nil, List.toList_toArray, id_eq, repl_z, repl_one, Int.toNat_natCast, Int.reduceToNat, Nat.add_zero, Nat.mul_one, ti3, ti26, ti27, ti29] at H)
        | ((with_reducible apply nx_c (fun i => Nat.beq i 1 || Nat.beq i 2 || Nat.beq i 25 || Nat.beq i 26 || Nat.beq i 27 || Nat.beq i 28)); intro e he; have w1 := he 1 rfl; have w2 := he 2 rfl; have w25 := he 25 rfl; have w26 := he 26 rfl; have w27 := he 27 rfl; have w28 := he 28 rfl; (try simp only [T.get_put, Nat.reduceEqDiff, reduceIte, v1, v2, v25, v26, v27, v28] at w1 w2 w25 w26 w27 w28); clear he v1 v2 v25 v26 v27 v28; have v1 := w1; have v2 := w2; have v25 := w25; have v26 := w26; have v27 := w27; have v28 := w28; clear w1 w2 w25 w26 w27 w28)
        | with_reducible apply wc_seq
        | ((with_reducible apply wc_region); (· (rfl)))
        | with_reducible apply wo_some
        | simp (disch := (first | assumption | omega)) only [oUn_not, beq_self_eq_true, eq_self, List.toList_toArray, opsA_cons, opsA_nil, wantedA, guardA, yieldA, stepA_t, stepA_f, callA, calleeA, targetA, runOp_c, runOp_n, opA, ev, evs, evo, consO, consOO, pickA, afterA_s, putA, T.get_put, Nat.reduceEqDiff, reduceIte, List.getElem?_toArray, List.getElem?_cons_zero, List.getElem?_cons_succ, oBuiltin, oBin, binA, binG, binL, aggO, litA, ltF_eq, eqF_eq, oIndexAddr, cond_true, cond_false, Bool.not_true, Bool.not_false, decide_true, decide_false, blt_eq, tt_beq, tf_beq, ft_beq, ff_beq, Bool.and_true, Bool.true_and, Option.some.injEq, I, Bo, oExtract, Bool.not_eq_true', fieldAddrA, oFieldAddr, fieldA, partA, List.length_cons, List.length_nil, Nat.reduceAdd, Nat.zero_add, Nat.add_zero, Nat.mul_one, Nat.reduceMul, Nat.reduceLT, ty3, ti3, ty26, ti26, ty27, ti27, ty29, ti29, ii_add, ii_sub, ii_mul, ii_lss, ii_gtr, ii_geq, ii_leq, ii_eql, ii_neq, ii_rem, ii_quo, iu_rem, iu_lss, iu_gtr, iu_eql, iu_neq, bi_min, bi_max, List.getElem_toArray, List.getElem_cons_zero, List.getElem_cons_succ, withH_s, eqA, eqD, eqOp, nilCheckA, oBuild, oBuildSlice, oMakeSlice, oSlice, evParts, consP, oFn, oConv, dec_t, dec_f, wrap_ok, beq_dec, Int.toNat_natCast, Int.reduceToNat, id_eq, List.take_succ_cons, List.take_zero, List.drop_succ_cons, List.drop_zero, putAt_z, putAt_s, over_nil, over_cons, litCells_cons, litCells_nil, cells_int, cells_bool, cells_str, cells_float, cells_np, cells_nil, cells_nf, cells_ptr, cells_slice, cells_fn, cells_agg, cells_lagg, List.cons_append, List.nil_append, Nat.zero_add, Nat.add_zero, Nat.mul_one, Nat.reduceMul, Nat.reduceAdd, v1, v2, v25, v26, v27, v28, List.length_map]
        | ((with_reducible apply wo_box H); clear H; intro n h H0n H)
        | ((with_reducible apply wo_load1 H); (· ((with_reducible repeat' first | exact mem_h _ _ | apply mem_t); done)); (· (rfl)); (· ((first | rfl | assumption))))
        | ((with_reducible apply wo_load1z H); (· ((with_reducible repeat' first | exact mem_h _ _ | apply mem_t); done)); (· (rfl)); (· ((first | rfl | assumption))))
        | ((with_reducible apply wo_loadc H); (· ((with_reducible repeat' first | exact mem_h _ _ | apply mem_t); done)); (· (rfl)))
        | ((with_reducible apply wo_loadn H); (· ((with_reducible repeat' first | exact mem_h _ _ | apply mem_t); done)); (· (rfl)); (· (rfl)); (· (rfl)))
        | ((with_reducible apply wo_loadnz H); (· ((with_reducible repeat' first | exact mem_h _ _ | apply mem_t); done)); (· (rfl)); (· (rfl)); (· (rfl)))
        | ((with_reducible apply wo_len H); (· ((with_reducible repeat' first | exact mem_h _ _ | apply mem_t); done)); (· ((first | exact ty3 | exact ty26 | exact ty27 | exact ty29 | kernel_rfl))); (· (rfl)))
        | ((with_reducible apply wo_lenr H); (· ((with_reducible repeat' first | exact mem_h _ _ | apply mem_t); done)); (· ((first | exact ty3 | exact ty26 | exact ty27 | exact ty29 | kernel_rfl))); (· (rfl)))
        | ((with_reducible apply wo_iar H); (· ((with_reducible repeat' first | exact mem_h _ _ | apply mem_t); done)); (· ((first | exact ty3 | exact ty26 | exact ty27 | exact ty29 | kernel_rfl))); (· (rfl)); (· ((first | exact ty3 | exact ty26 | exact ty27 | exact ty29 | kernel_rfl))); (· (rfl)); (· (rfl)); (· (rfl)); (· (assumption)); intro n o H)
        | ((with_reducible apply wo_loadcn H); (· ((with_reducible repeat' first | exact mem_h _ _ | apply mem_t); done)); (· (rfl)); (· (rfl)))
        | ((with_reducible apply wo_ia H); (· ((with_reducible repeat' first | exact mem_h _ _ | apply mem_t); done)); (· ((first | exact ty3 | exact ty26 | exact ty27 | exact ty29 | kernel_rfl))); (· (rfl)); (· ((first | exact ty3 | exact ty26 | exact ty27 | exact ty29 | kernel_rfl))); (· (rfl)); (· (rfl)); (· (assumption)); clear H; intro n o H)
        | ((with_reducible apply wo_step) <;> intro hg <;> (try simp only [Bool.not_eq_true', Bool.not_eq_false', beq_false, beq_true, Bool.not_not, Bool.not_eq_eq_eq_not, Bool.not_true, Bool.not_false, decide_eq_true_eq, decide_eq_false_iff_not, Bool.and_eq_true, not_true, not_false_eq_true] at hg) <;> (try subst hg) <;> (first | (exfalso; exact Bool.noConfusion hg) | skip))
        | ((with_reducible apply wc_cond); (· (simp (disch := (first | assumption | omega)) only [ev, T.get_put, Nat.reduceEqDiff, reduceIte, Option.some.injEq, dec_t, dec_f, Bool.not_true, Bool.not_false, v1, v2, v25, v26, v27, v28, List.length_map] <;> rfl)); all_goals (intro hg; (try (try simp only [Bool.not_eq_true', Bool.not_eq_false', beq_false, beq_true, Bool.not_not, Bool.not_eq_eq_eq_not, Bool.not_true, Bool.not_false, decide_eq_true_eq, decide_eq_false_iff_not, Bool.and_eq_true, not_true, not_false_eq_true] at hg)); first | (exfalso; exact Bool.noConfusion hg) | (exfalso; exact hg) | skip))
        | with_reducible apply wc_block
        | with_reducible apply wc_skip
        | with_reducible apply wc_label
        | with_reducible apply wc_exit
        | with_reducible apply wc_ret
        | with_reducible apply nx_r
        | with_reducible apply nx_e
        | with_reducible apply bx_n
        | with_reducible apply bx_r
        | with_reducible apply gx_n
        | with_reducible apply gx_r
        | with_reducible apply gx_e
        | ((with_reducible apply bx_hit); (· (rfl)))
        | ((with_reducible apply bx_pass); (· (rfl)))
        | ((with_reducible apply wc_scope); (· (decide)))
        | ((first | with_reducible apply wv_ret | with_reducible apply wv_end); (· ((repeat' (first | with_reducible exact rs_nil | ((with_reducible apply rs_tmp); (· (simp (disch := (first | assumption | omega)) only [ev, T.get_put, Nat.reduceEqDiff, reduceIte, Option.some.injEq, dec_t, dec_f, Bool.not_true, Bool.not_false, v1, v2, v25, v26, v27, v28, List.length_map] <;> rfl))) | ((with_reducible apply rs_cell); (· (simp (disch := (first | assumption | omega)) only [ev, T.get_put, Nat.reduceEqDiff, reduceIte, Option.some.injEq, dec_t, dec_f, Bool.not_true, Bool.not_false, v1, v2, v25, v26, v27, v28, List.length_map] <;> rfl)); (· ((first | exact ty3 | exact ty26 | exact ty27 | exact ty29 | kernel_rfl))); (· (rfl)); (· (exact H.ld1 (by (with_reducible repeat' first | exact mem_h _ _ | apply mem_t); done) rfl))) | ((with_reducible apply rs_celln); (· (simp (disch := (first | assumption | omega)) only [ev, T.get_put, Nat.reduceEqDiff, reduceIte, Option.some.injEq, dec_t, dec_f, Bool.not_true, Bool.not_false, v1, v2, v25, v26, v27, v28, List.length_map] <;> rfl)); (· ((first | exact ty3 | exact ty26 | exact ty27 | exact ty29 | kernel_rfl))); (· (rfl)); (· (exact H.ldn (by (with_reducible repeat' first | exact mem_h _ _ | apply mem_t); done) rfl rfl))))); done))))

      all_goals exact ⟨by rw [chk_yes ⟨by omega, by omega, by omega, fun i b xs h1 h2 => ok i b xs (List.getElem?_eq_some_iff.1 h1).1 h1 h2⟩]; rfl, H.toExt⟩

end Go.Proofs.Ytgnnjlabnnapnaa
