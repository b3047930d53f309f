import Derived.Test.YtolpndlnabodgaaVB
import Derived.KernelRfl
namespace Go.Proofs.Ytolpndlnabodgaa
open Go Go.Proofs Go.RowKit Go.Proofs.Abs
set_option linter.unusedSimpArgs false
set_option linter.unusedVariables false
set_option maxHeartbeats 4000000 in
theorem k17a (d : Nat) (b : Hp) (p : Nat) (s : AV) (ls : List Ent) (fs : List Nat) (K : Nat) (hK : K ≤ 1000) (v : Inv K ls fs) (a : Arn b p s (nxt fs) (cnt ls) (rws ls fs)) (i : Nat) (g : Int) (hi : i < 4294967296) (hg : 0 ≤ g ∧ g < 4294967296) (x x0 : Int) (rr : List Nat) (hf : fs = i :: rr) (hp : ls[i]? = some (g + 1, false, x0)) (hg0 : g ≠ 0)  : Wv (runA ctx 5000 (d + 2) 17 [.ptr p 0, .agg [U32 (i : Int), U32 g], I x] b) (fun r h' => r = I 0 ∧ Mut b h' p s s (nxt rr) (cnt ls + 1) (rws (ls.set i (g, true, x)) rr)) := by
  have hrl := rws_len ls fs
  have hvn := v.n
  have hcb := cnt_bound ls
  have one := a.o.one
  have ane := a.ne
  have hg1 := hg.1
  have hg2 := hg.2
  subst hf
  have hr := rws_free (fs := i :: rr) hp
  rw [nx_hd] at hr
  have hil := (List.getElem?_eq_some_iff.1 hp).1
  have hgn := v.gen i _ hp
  simp only at hgn
  have e9 : (rws ls (i :: rr)).set i [U8 1, U32 g, I 0, I x] = rws (ls.set i (g, true, x)) rr := rws_set rfl (fun j p h1 _ _ => nx_ne h1)
  have hg4 : g + 1 - 1 = g := by omega
  change Arn b p s ((i : Int) + 1) (cnt ls) _ at a
  have H := a.start
  refine wv_run fn17 rfl ?_
  have a0 : (enterEnv [.ptr p 0, .agg [U32 (i : Int), U32 g], I x] Try.f17.ntmps).get 0 = some (.ptr p 0) := enter_get1 _ _ _
  have a1 : (enterEnv [.ptr p 0, .agg [U32 (i : Int), U32 g], I x] Try.f17.ntmps).get 1 = some (.agg [U32 (i : Int), U32 g]) := enter_get2 _ _ _ _
  have a2 : (enterEnv [.ptr p 0, .agg [U32 (i : Int), U32 g], I x] Try.f17.ntmps).get 2 = some (I x) := enter_get3 _ _ _ _ _
  generalize enterEnv [.ptr p 0, .agg [U32 (i : Int), U32 g], I x] Try.f17.ntmps = e at a0 a1 a2 ⊢
  unfold Try.f17
  dsimp only
  ((with_reducible apply wc_c (fun i => Nat.beq i 0 || Nat.beq i 1 || Nat.beq i 2 || Nat.beq i 4 || Nat.beq i 6 || Nat.beq i 7 || Nat.beq i 8 || Nat.beq i 10 || Nat.beq i 25 || Nat.beq i 33 || Nat.beq i 59)); intro e he; have w9 := he 0 rfl; (try simp only [a0] at w9); have v0 := w9; clear w9; have w9 := he 1 rfl; (try simp only [a1] at w9); have v1 := w9; clear w9; have w9 := he 2 rfl; (try simp only [a2] at w9); have v2 := w9; clear w9; have w9 := he 4 rfl; (try simp only [T.get_put, Nat.reduceEqDiff, reduceIte] at w9); have v4 := w9; clear w9; have w9 := he 6 rfl; (try simp only [T.get_put, Nat.reduceEqDiff, reduceIte] at w9); have v6 := w9; clear w9; have w9 := he 7 rfl; (try simp only [T.get_put, Nat.reduceEqDiff, reduceIte] at w9); have v7 := w9; clear w9; have w9 := he 8 rfl; (try simp only [T.get_put, Nat.reduceEqDiff, reduceIte] at w9); have v8 := w9; clear w9; have w9 := he 10 rfl; (try simp only [T.get_put, Nat.reduceEqDiff, reduceIte] at w9); have v10 := w9; clear w9; have w9 := he 25 rfl; (try simp only [T.get_put, Nat.reduceEqDiff, reduceIte] at w9); have v25 := w9; clear w9; have w9 := he 33 rfl; (try simp only [T.get_put, Nat.reduceEqDiff, reduceIte] at w9); have v33 := w9; clear w9; have w9 := he 59 rfl; (try simp only [T.get_put, Nat.reduceEqDiff, reduceIte] at w9); have v59 := w9; clear w9; clear he)
  repeat' (first
    | with_reducible apply wc_seq
    | ((with_reducible apply wc_region); (· (rfl)))
    | with_reducible apply wo_some
    | ((with_reducible apply wc_cond); (· (simp (disch := (first | assumption | omega)) only [ev, Option.some.injEq, v10, v25, v33, v59] <;> rfl)); all_goals (intro hg; (try (try simp only [Bool.not_eq_true'] at hg)); first | (exfalso; exact Bool.noConfusion hg) | (exfalso; exact hg) | skip))
    | with_reducible apply wc_block
    | with_reducible apply wc_skip
    | with_reducible apply wc_ret
    | with_reducible apply bx_n
    | (simp only [patch, List.take_zero, List.drop_succ_cons, List.drop_nil, List.nil_append, List.append_nil, List.length_cons, List.length_nil, Nat.zero_add, Nat.reduceAdd, cells_agg, cells_lagg, litCells_cons, litCells_nil] at H)
    | ((with_reducible apply nx_c (fun i => Nat.beq i 0 || Nat.beq i 1 || Nat.beq i 2 || Nat.beq i 4 || Nat.beq i 6 || Nat.beq i 7 || Nat.beq i 8 || Nat.beq i 10 || Nat.beq i 25 || Nat.beq i 33 || Nat.beq i 59)); intro e he; have w0 := he 0 rfl; have w1 := he 1 rfl; have w2 := he 2 rfl; have w4 := he 4 rfl; have w6 := he 6 rfl; have w7 := he 7 rfl; have w8 := he 8 rfl; have w10 := he 10 rfl; have w25 := he 25 rfl; have w33 := he 33 rfl; have w59 := he 59 rfl; (try simp only [T.get_put, Nat.reduceEqDiff, reduceIte, v0, v1, v2, v4, v6, v7, v8, v10, v25, v33, v59] at w0 w1 w2 w4 w6 w7 w8 w10 w25 w33 w59); clear he v0 v1 v2 v4 v6 v7 v8 v10 v25 v33 v59; have v0 := w0; have v1 := w1; have v2 := w2; have v4 := w4; have v6 := w6; have v7 := w7; have v8 := w8; have v10 := w10; have v25 := w25; have v33 := w33; have v59 := w59; clear w0 w1 w2 w4 w6 w7 w8 w10 w25 w33 w59)
    | ((with_reducible apply wo_eq); (· (simp (disch := (first | assumption | omega)) only [beq_self_eq_true, eq_self, opsA_cons, opsA_nil, wantedA, guardA, yieldA, stepA_t, stepA_f, callA, calleeA, targetA, runOp_c, runOp_n, opA, ev, evs, consO, consOO, pickA, afterA_s, putA, T.get_put, Nat.reduceEqDiff, reduceIte, List.getElem?_toArray, List.getElem?_cons_zero, List.getElem?_cons_succ, oBuiltin, oBin, binA, binG, binL, aggO, litA, oIndexAddr, cond_true, Bool.not_true, blt_eq, ft_beq, I, Bo, fieldAddrA, oFieldAddr, Nat.zero_add, Nat.add_zero, Nat.reduceLT, ty3, ti3, ty5, ti5, ty24, ti24, ty40, ti40, ty42, ti42, ty58, ti58, ty60, ti60, ty77, ti77, ty3, ti3, ty5, ti5, ty40, ti40, ty42, ti42, ty60, ti60, ty77, ti77, ty58, ti58, ii_add, ii_geq, ii_eql, iu_eql, withH_s, eqA, eqD, eqOp, nilCheckA, oConv, dec_t, dec_f, wrap_ok, id_eq, Nat.zero_add, Nat.add_zero, v0, v1, v2, v4, v7, v8, conv3, uu_eql, uu_sub, wrap_u32k, rws_len, hg4]; exact rfl)))
    | (((with_reducible apply wo_call); (· ((with_reducible apply k42); (· (exact H.arn (by first | exact Pick2.h1 _ (.here _ _) | exact Pick2.h1 _ (.there _ (.here _ _)) | exact Pick2.h1 _ (.there _ (.there _ (.here _ _))) | exact Pick2.h2 _ (.here _ _) | exact Pick2.h2 _ (.there _ (.here _ _)) | exact Pick2.there _ (.h1 _ (.here _ _)) | exact Pick2.there _ (.h1 _ (.there _ (.here _ _))) | exact Pick2.there _ (.h2 _ (.here _ _)) | exact Pick2.there _ (.h2 _ (.there _ (.here _ _))) | exact Pick2.there _ (.there _ (.h1 _ (.here _ _))) | exact Pick2.there _ (.there _ (.h2 _ (.here _ _))) | exact Pick2.there _ (.there _ (.there _ (.h1 _ (.here _ _)))) | exact Pick2.there _ (.there _ (.there _ (.h2 _ (.here _ _))))))); (· (assumption)); (· (omega)))); rintro _ h m; replace H := H.mut (by first | exact Pick2.h1 _ (.here _ _) | exact Pick2.h1 _ (.there _ (.here _ _)) | exact Pick2.h1 _ (.there _ (.there _ (.here _ _))) | exact Pick2.h2 _ (.here _ _) | exact Pick2.h2 _ (.there _ (.here _ _)) | exact Pick2.there _ (.h1 _ (.here _ _)) | exact Pick2.there _ (.h1 _ (.there _ (.here _ _))) | exact Pick2.there _ (.h2 _ (.here _ _)) | exact Pick2.there _ (.h2 _ (.there _ (.here _ _))) | exact Pick2.there _ (.there _ (.h1 _ (.here _ _))) | exact Pick2.there _ (.there _ (.h2 _ (.here _ _))) | exact Pick2.there _ (.there _ (.there _ (.h1 _ (.here _ _)))) | exact Pick2.there _ (.there _ (.there _ (.h2 _ (.here _ _))))) m; clear m))
    | (((with_reducible apply wo_rlenL H); (· ((first | exact ty58 | exact ty58))); (· (rfl)); (· ((with_reducible repeat' first | exact mem_h _ _ | apply mem_t); done))))
    | (((with_reducible apply wo_riaL H); (· ((first | exact ty58 | exact ty58))); (· (rfl)); (· ((first | exact ty77 | exact ty77))); (· ((with_reducible repeat' first | exact mem_h _ _ | apply mem_t); done)); (· (rfl)); (· ((first | rfl | assumption | omega))); (· ((first | assumption | omega))); intro w9 hw9))
    | (((with_reducible apply wo_rldnL H); (· (assumption)); (· ((with_reducible repeat' first | exact mem_h _ _ | apply mem_t); done)); (· (rfl)); (· (rfl)); (· (assumption)); (· ((first | rfl | omega)))))
    | ((with_reducible apply wo_box H); clear H; intro n h H0n H)
    | ((with_reducible apply wo_alloc H); (· (rfl)); clear H; intro n h H0n H)
    | ((with_reducible apply wo_load1 H); (· ((with_reducible repeat' first | exact mem_h _ _ | apply mem_t); done)); (· (rfl)); (· ((first | rfl | assumption))))
    | ((with_reducible apply wo_storen H); (· ((with_reducible repeat' first | exact Pick.here _ _ _ | apply Pick.there); done)); (· ((first | rfl | assumption | exact cells_one (H.pz (by (with_reducible repeat' first | exact mem_h _ _ | apply mem_t); done))))); (· ((first | rfl | (simp (disch := assumption) only [onesA_cons', onesA_nil, cells_int, cells_bool, cells_str, cells_float, cells_np, cells_nil, cells_nf, cells_ptr, cells_slice, cells_fn, cells_agg, cells_lagg, litCells_cons, litCells_nil, one_t, one_int, one_bool, one_str, one_nil, one_np, one_ptr, one_slice, Bool.and_true, Bool.and_self, id_eq]; done)))); (· (rfl)); (· ((first | exact Nat.le_of_ble_eq_true rfl | omega | (simp only [List.length_set, List.length_replicate, List.length_map, List.length_cons, List.length_nil]; omega) | (simp; done) | (simp; omega)))); clear H; intro h H)
    | ((first | with_reducible apply wv_ret | with_reducible apply wv_end); (· ((repeat' (first | with_reducible exact rs_nil | ((with_reducible apply rs_tmp); (· (simp (disch := (first | assumption | omega)) only [Option.some.injEq, v6] <;> rfl))) | ((with_reducible apply rs_cell); (· (simp (disch := (first | assumption | omega)) only [ev, T.get_put, Nat.reduceEqDiff, reduceIte, Option.some.injEq, dec_t, dec_f, Bool.not_true, Bool.not_false, v0, v1, v2, v4, v6, v7, v8, v10, v25, v33, v59, conv40, conv3, conv2, uu_eql, uu_neq, uu_gtr, uu_lss, uu_add, uu_sub, wrap_u32k, rws_len, one, hg4] <;> rfl)); (· (kernel_rfl)); (· (rfl)); (· (exact H.ld1 (by (with_reducible repeat' first | exact mem_h _ _ | apply mem_t); done) rfl))) | ((with_reducible apply rs_celln); (· (simp (disch := (first | assumption | omega)) only [ev, T.get_put, Nat.reduceEqDiff, reduceIte, Option.some.injEq, dec_t, dec_f, Bool.not_true, Bool.not_false, v0, v1, v2, v4, v6, v7, v8, v10, v25, v33, v59, conv40, conv3, conv2, uu_eql, uu_neq, uu_gtr, uu_lss, uu_add, uu_sub, wrap_u32k, rws_len, one, hg4] <;> rfl)); (· (kernel_rfl)); (· (rfl)); (· (exact H.ldn (by (with_reducible repeat' first | exact mem_h _ _ | apply mem_t); done) rfl rfl))))); done)))
    | simp (disch := (first | assumption | omega)) only [I])

  all_goals first | (exfalso; omega) | (refine ⟨rfl, ?_⟩; rw [← e9]; exact H.toMut (by first | exact Pick2.h1 _ (.here _ _) | exact Pick2.h1 _ (.there _ (.here _ _)) | exact Pick2.h1 _ (.there _ (.there _ (.here _ _))) | exact Pick2.h2 _ (.here _ _) | exact Pick2.h2 _ (.there _ (.here _ _)) | exact Pick2.there _ (.h1 _ (.here _ _)) | exact Pick2.there _ (.h1 _ (.there _ (.here _ _))) | exact Pick2.there _ (.h2 _ (.here _ _)) | exact Pick2.there _ (.h2 _ (.there _ (.here _ _))) | exact Pick2.there _ (.there _ (.h1 _ (.here _ _))) | exact Pick2.there _ (.there _ (.h2 _ (.here _ _))) | exact Pick2.there _ (.there _ (.there _ (.h1 _ (.here _ _)))) | exact Pick2.there _ (.there _ (.there _ (.h2 _ (.here _ _))))))
set_option maxHeartbeats 4000000 in
theorem k17b (d : Nat) (b : Hp) (p : Nat) (s : AV) (ls : List Ent) (fs : List Nat) (K : Nat) (hK : K ≤ 1000) (v : Inv K ls fs) (a : Arn b p s (nxt fs) (cnt ls) (rws ls fs)) (i : Nat) (g : Int) (hi : i < 4294967296) (hg : 0 ≤ g ∧ g < 4294967296) (x : Int) (hno : ∀ x0 rr, fs = i :: rr → ls[i]? = some (g + 1, false, x0) → g = 0) : Wv (runA ctx 5000 (d + 2) 17 [.ptr p 0, .agg [U32 (i : Int), U32 g], I x] b) (fun r h' => r = I 10 ∧ Ext b h') := by
  have hrl := rws_len ls fs
  have hvn := v.n
  have hcb := cnt_bound ls
  have one := a.o.one
  have ane := a.ne
  have hg1 := hg.1
  have hg2 := hg.2
  have H := a.reads
  refine wv_run fn17 rfl ?_
  have a0 : (enterEnv [.ptr p 0, .agg [U32 (i : Int), U32 g], I x] Try.f17.ntmps).get 0 = some (.ptr p 0) := enter_get1 _ _ _
  have a1 : (enterEnv [.ptr p 0, .agg [U32 (i : Int), U32 g], I x] Try.f17.ntmps).get 1 = some (.agg [U32 (i : Int), U32 g]) := enter_get2 _ _ _ _
  have a2 : (enterEnv [.ptr p 0, .agg [U32 (i : Int), U32 g], I x] Try.f17.ntmps).get 2 = some (I x) := enter_get3 _ _ _ _ _
  generalize enterEnv [.ptr p 0, .agg [U32 (i : Int), U32 g], I x] Try.f17.ntmps = e at a0 a1 a2 ⊢
  unfold Try.f17
  dsimp only
  ((with_reducible apply wc_c (fun i => Nat.beq i 0 || Nat.beq i 1 || Nat.beq i 2 || Nat.beq i 4 || Nat.beq i 6 || Nat.beq i 7 || Nat.beq i 8 || Nat.beq i 10 || Nat.beq i 25 || Nat.beq i 33 || Nat.beq i 59)); intro e he; have w9 := he 0 rfl; (try simp only [a0] at w9); have v0 := w9; clear w9; have w9 := he 1 rfl; (try simp only [a1] at w9); have v1 := w9; clear w9; have w9 := he 2 rfl; (try simp only [a2] at w9); have v2 := w9; clear w9; have w9 := he 4 rfl; (try simp only [T.get_put, Nat.reduceEqDiff, reduceIte] at w9); have v4 := w9; clear w9; have w9 := he 6 rfl; (try simp only [T.get_put, Nat.reduceEqDiff, reduceIte] at w9); have v6 := w9; clear w9; have w9 := he 7 rfl; (try simp only [T.get_put, Nat.reduceEqDiff, reduceIte] at w9); have v7 := w9; clear w9; have w9 := he 8 rfl; (try simp only [T.get_put, Nat.reduceEqDiff, reduceIte] at w9); have v8 := w9; clear w9; have w9 := he 10 rfl; (try simp only [T.get_put, Nat.reduceEqDiff, reduceIte] at w9); have v10 := w9; clear w9; have w9 := he 25 rfl; (try simp only [T.get_put, Nat.reduceEqDiff, reduceIte] at w9); have v25 := w9; clear w9; have w9 := he 33 rfl; (try simp only [T.get_put, Nat.reduceEqDiff, reduceIte] at w9); have v33 := w9; clear w9; have w9 := he 59 rfl; (try simp only [T.get_put, Nat.reduceEqDiff, reduceIte] at w9); have v59 := w9; clear w9; clear he)
  have fin : nxt fs = (i : Int) + 1 → ∃ rr, fs = i :: rr := fun h => by
    cases fs with
    | nil => exact absurd h (by show ¬ (0 : Int) = (i : Int) + 1; omega)
    | cons f rr => exact ⟨rr, by have h' : (f : Int) + 1 = (i : Int) + 1 := h; rw [show f = i by omega]⟩
  rcases Nat.lt_or_ge i ls.length with hil | hil
  · obtain ⟨⟨g0, u, x0⟩, hp⟩ := at_some hil
    have hgn := v.gen i _ hp
    simp only at hgn
    rcases Classical.em (g = 0) with hg0 | hg0
    · skip
      repeat' (first
        | with_reducible apply wc_seq
        | ((with_reducible apply wc_region); (· (rfl)))
        | with_reducible apply wo_some
        | ((with_reducible apply wc_cond); (· (simp (disch := (first | assumption | omega)) only [ev, Option.some.injEq, v10, v25] <;> rfl)); all_goals (intro hg; (try (try simp only [Bool.not_eq_true'] at hg)); first | (exfalso; exact Bool.noConfusion hg) | (exfalso; exact hg) | skip))
        | with_reducible apply wc_skip
        | with_reducible apply wc_ret
        | with_reducible apply nx_r
        | (simp only [cells_agg] at H)
        | ((with_reducible apply nx_c (fun i => Nat.beq i 0 || Nat.beq i 1 || Nat.beq i 2 || Nat.beq i 4 || Nat.beq i 6 || Nat.beq i 7 || Nat.beq i 8 || Nat.beq i 10 || Nat.beq i 25 || Nat.beq i 33 || Nat.beq i 59)); intro e he; have w0 := he 0 rfl; have w1 := he 1 rfl; have w2 := he 2 rfl; have w4 := he 4 rfl; have w6 := he 6 rfl; have w7 := he 7 rfl; have w8 := he 8 rfl; have w10 := he 10 rfl; have w25 := he 25 rfl; have w33 := he 33 rfl; have w59 := he 59 rfl; (try simp only [T.get_put, Nat.reduceEqDiff, reduceIte, v0, v1, v2, v4, v6, v7, v8, v10, v25, v33, v59] at w0 w1 w2 w4 w6 w7 w8 w10 w25 w33 w59); clear he v0 v1 v2 v4 v6 v7 v8 v10 v25 v33 v59; have v0 := w0; have v1 := w1; have v2 := w2; have v4 := w4; have v6 := w6; have v7 := w7; have v8 := w8; have v10 := w10; have v25 := w25; have v33 := w33; have v59 := w59; clear w0 w1 w2 w4 w6 w7 w8 w10 w25 w33 w59)
        | ((with_reducible apply wo_eq); (· (simp (disch := (first | assumption | omega)) only [beq_self_eq_true, eq_self, opsA_cons, opsA_nil, wantedA, guardA, yieldA, stepA_t, callA, calleeA, runOp_n, opA, ev, evs, consO, consOO, pickA, afterA_s, putA, T.get_put, Nat.reduceEqDiff, reduceIte, List.getElem?_toArray, List.getElem?_cons_zero, List.getElem?_cons_succ, oBuiltin, oBin, binA, binG, binL, aggO, litA, cond_true, Bool.not_true, blt_eq, I, Bo, fieldAddrA, oFieldAddr, Nat.zero_add, Nat.add_zero, Nat.reduceLT, ty24, ti24, ty40, ti40, ty42, ti42, ty58, ti58, ty60, ti60, ty40, ti40, ty42, ti42, ty60, ti60, ty58, ti58, ii_geq, withH_s, eqA, eqD, eqOp, nilCheckA, oConv, dec_t, id_eq, Nat.zero_add, Nat.add_zero, v0, v1, v4, v7, conv3, uu_eql, rws_len]; exact rfl)))
        | (((with_reducible apply wo_rlenZ H); (· ((first | exact ty58 | exact ty58))); (· (rfl)); (· ((with_reducible repeat' first | exact mem_h _ _ | apply mem_t); done))))
        | ((with_reducible apply wo_box H); clear H; intro n h H0n H)
        | ((with_reducible apply wo_load1 H); (· ((with_reducible repeat' first | exact mem_h _ _ | apply mem_t); done)); (· (rfl)); (· ((first | rfl | assumption))))
        | ((with_reducible apply wo_load1z H); (· ((with_reducible repeat' first | exact mem_h _ _ | apply mem_t); done)); (· (rfl)); (· ((first | rfl | assumption))))
        | ((first | with_reducible apply wv_ret | with_reducible apply wv_end); (· ((repeat' (first | with_reducible exact rs_nil | ((with_reducible apply rs_tmp); (· (simp (disch := (first | assumption | omega)) only [Option.some.injEq, v6] <;> rfl))) | ((with_reducible apply rs_cell); (· (simp (disch := (first | assumption | omega)) only [ev, T.get_put, Nat.reduceEqDiff, reduceIte, Option.some.injEq, dec_t, dec_f, Bool.not_true, Bool.not_false, v0, v1, v2, v4, v6, v7, v8, v10, v25, v33, v59, conv40, conv3, conv2, uu_eql, uu_neq, uu_gtr, uu_lss, uu_add, uu_sub, wrap_u32k, rws_len, one] <;> rfl)); (· (kernel_rfl)); (· (rfl)); (· (exact H.ld1 (by (with_reducible repeat' first | exact mem_h _ _ | apply mem_t); done) rfl))) | ((with_reducible apply rs_celln); (· (simp (disch := (first | assumption | omega)) only [ev, T.get_put, Nat.reduceEqDiff, reduceIte, Option.some.injEq, dec_t, dec_f, Bool.not_true, Bool.not_false, v0, v1, v2, v4, v6, v7, v8, v10, v25, v33, v59, conv40, conv3, conv2, uu_eql, uu_neq, uu_gtr, uu_lss, uu_add, uu_sub, wrap_u32k, rws_len, one] <;> rfl)); (· (kernel_rfl)); (· (rfl)); (· (exact H.ldn (by (with_reducible repeat' first | exact mem_h _ _ | apply mem_t); done) rfl rfl))))); done)))
        | simp (disch := (first | assumption | omega)) only [I])

      all_goals first | exact ⟨rfl, H.toExt⟩ | (exfalso; omega)
    · cases u with
      | true =>
        have hr := rws_used (fs := fs) hp
        repeat' (first
          | with_reducible apply wc_seq
          | ((with_reducible apply wc_region); (· (rfl)))
          | with_reducible apply wo_some
          | ((with_reducible apply wc_cond); (· (simp (disch := (first | assumption | omega)) only [ev, Option.some.injEq, v10, v25, v33, v59] <;> rfl)); all_goals (intro hg; (try (try simp only [Bool.not_eq_true'] at hg)); first | (exfalso; exact Bool.noConfusion hg) | (exfalso; exact hg) | skip))
          | with_reducible apply wc_block
          | with_reducible apply wc_skip
          | with_reducible apply wc_ret
          | with_reducible apply nx_r
          | with_reducible apply bx_r
          | (simp only [patch, List.take_zero, List.drop_succ_cons, List.drop_nil, List.nil_append, List.append_nil, List.length_cons, List.length_nil, Nat.zero_add, Nat.reduceAdd, cells_agg, cells_lagg, litCells_cons, litCells_nil] at H)
          | ((with_reducible apply nx_c (fun i => Nat.beq i 0 || Nat.beq i 1 || Nat.beq i 2 || Nat.beq i 4 || Nat.beq i 6 || Nat.beq i 7 || Nat.beq i 8 || Nat.beq i 10 || Nat.beq i 25 || Nat.beq i 33 || Nat.beq i 59)); intro e he; have w0 := he 0 rfl; have w1 := he 1 rfl; have w2 := he 2 rfl; have w4 := he 4 rfl; have w6 := he 6 rfl; have w7 := he 7 rfl; have w8 := he 8 rfl; have w10 := he 10 rfl; have w25 := he 25 rfl; have w33 := he 33 rfl; have w59 := he 59 rfl; (try simp only [T.get_put, Nat.reduceEqDiff, reduceIte, v0, v1, v2, v4, v6, v7, v8, v10, v25, v33, v59] at w0 w1 w2 w4 w6 w7 w8 w10 w25 w33 w59); clear he v0 v1 v2 v4 v6 v7 v8 v10 v25 v33 v59; have v0 := w0; have v1 := w1; have v2 := w2; have v4 := w4; have v6 := w6; have v7 := w7; have v8 := w8; have v10 := w10; have v25 := w25; have v33 := w33; have v59 := w59; clear w0 w1 w2 w4 w6 w7 w8 w10 w25 w33 w59)
          | ((with_reducible apply wo_eq); (· (simp (disch := (first | assumption | omega)) only [beq_self_eq_true, eq_self, opsA_cons, opsA_nil, wantedA, guardA, yieldA, stepA_t, stepA_f, callA, calleeA, runOp_n, opA, ev, evs, consO, consOO, pickA, afterA_s, putA, T.get_put, Nat.reduceEqDiff, reduceIte, List.getElem?_toArray, List.getElem?_cons_zero, List.getElem?_cons_succ, oBuiltin, oBin, binA, binG, binL, aggO, litA, oIndexAddr, cond_true, Bool.not_true, blt_eq, ft_beq, I, Bo, fieldAddrA, oFieldAddr, Nat.zero_add, Nat.add_zero, Nat.reduceLT, ty5, ti5, ty24, ti24, ty40, ti40, ty42, ti42, ty58, ti58, ty60, ti60, ty77, ti77, ty5, ti5, ty40, ti40, ty42, ti42, ty60, ti60, ty77, ti77, ty58, ti58, ii_geq, iu_eql, withH_s, eqA, eqD, eqOp, nilCheckA, oConv, dec_t, dec_f, id_eq, Nat.zero_add, Nat.add_zero, v0, v1, v4, v7, v8, conv3, uu_eql, rws_len]; exact rfl)))
          | (((with_reducible apply wo_rlenZ H); (· ((first | exact ty58 | exact ty58))); (· (rfl)); (· ((with_reducible repeat' first | exact mem_h _ _ | apply mem_t); done))))
          | (((with_reducible apply wo_riaZ H); (· ((first | exact ty58 | exact ty58))); (· (rfl)); (· ((first | exact ty77 | exact ty77))); (· ((with_reducible repeat' first | exact mem_h _ _ | apply mem_t); done)); (· (rfl)); (· ((first | rfl | assumption | omega))); (· ((first | assumption | omega))); intro w9 hw9))
          | (((with_reducible apply wo_rldnZ H); (· (assumption)); (· ((with_reducible repeat' first | exact mem_h _ _ | apply mem_t); done)); (· (rfl)); (· (rfl)); (· (assumption)); (· ((first | rfl | omega)))))
          | ((with_reducible apply wo_box H); clear H; intro n h H0n H)
          | ((with_reducible apply wo_alloc H); (· (rfl)); clear H; intro n h H0n H)
          | ((with_reducible apply wo_load1 H); (· ((with_reducible repeat' first | exact mem_h _ _ | apply mem_t); done)); (· (rfl)); (· ((first | rfl | assumption))))
          | ((with_reducible apply wo_load1z H); (· ((with_reducible repeat' first | exact mem_h _ _ | apply mem_t); done)); (· (rfl)); (· ((first | rfl | assumption))))
          | ((with_reducible apply wo_storen H); (· ((with_reducible repeat' first | exact Pick.here _ _ _ | apply Pick.there); done)); (· ((first | rfl | assumption | exact cells_one (H.pz (by (with_reducible repeat' first | exact mem_h _ _ | apply mem_t); done))))); (· ((first | rfl | (simp (disch := assumption) only [onesA_cons', onesA_nil, cells_int, cells_bool, cells_str, cells_float, cells_np, cells_nil, cells_nf, cells_ptr, cells_slice, cells_fn, cells_agg, cells_lagg, litCells_cons, litCells_nil, one_t, one_int, one_bool, one_str, one_nil, one_np, one_ptr, one_slice, Bool.and_true, Bool.and_self, id_eq]; done)))); (· (rfl)); (· ((first | exact Nat.le_of_ble_eq_true rfl | omega | (simp only [List.length_set, List.length_replicate, List.length_map, List.length_cons, List.length_nil]; omega) | (simp; done) | (simp; omega)))); clear H; intro h H)
          | ((first | with_reducible apply wv_ret | with_reducible apply wv_end); (· ((repeat' (first | with_reducible exact rs_nil | ((with_reducible apply rs_tmp); (· (simp (disch := (first | assumption | omega)) only [Option.some.injEq, v6] <;> rfl))) | ((with_reducible apply rs_cell); (· (simp (disch := (first | assumption | omega)) only [ev, T.get_put, Nat.reduceEqDiff, reduceIte, Option.some.injEq, dec_t, dec_f, Bool.not_true, Bool.not_false, v0, v1, v2, v4, v6, v7, v8, v10, v25, v33, v59, conv40, conv3, conv2, uu_eql, uu_neq, uu_gtr, uu_lss, uu_add, uu_sub, wrap_u32k, rws_len, one] <;> rfl)); (· (kernel_rfl)); (· (rfl)); (· (exact H.ld1 (by (with_reducible repeat' first | exact mem_h _ _ | apply mem_t); done) rfl))) | ((with_reducible apply rs_celln); (· (simp (disch := (first | assumption | omega)) only [ev, T.get_put, Nat.reduceEqDiff, reduceIte, Option.some.injEq, dec_t, dec_f, Bool.not_true, Bool.not_false, v0, v1, v2, v4, v6, v7, v8, v10, v25, v33, v59, conv40, conv3, conv2, uu_eql, uu_neq, uu_gtr, uu_lss, uu_add, uu_sub, wrap_u32k, rws_len, one] <;> rfl)); (· (kernel_rfl)); (· (rfl)); (· (exact H.ldn (by (with_reducible repeat' first | exact mem_h _ _ | apply mem_t); done) rfl rfl))))); done)))
          | simp (disch := (first | assumption | omega)) only [I])

        all_goals first | exact ⟨rfl, H.toExt⟩ | (exfalso; omega)
      | false =>
        have hr := rws_free (fs := fs) hp
        have hno2 : ¬ (nxt fs = (i : Int) + 1 ∧ g0 - 1 = g) := fun ⟨h1, h2⟩ => by
          obtain ⟨rr, h3⟩ := fin h1
          exact hg0 (hno x0 rr h3 (by rw [show g + 1 = g0 by omega]; exact hp))
        rcases Classical.em (nxt fs = (i : Int) + 1) with q1 | q1
        · have q2 : ¬ g0 - 1 = g := fun h => hno2 ⟨q1, h⟩
          have q3 : g0 - 1 < 4294967296 := by omega
          have q4 : 0 ≤ g0 - 1 := by omega
          have q1' : decide (nxt fs = (i : Int) + 1) = true := decide_eq_true q1
          have q2' : decide (g0 - 1 = g) = false := decide_eq_false q2
          clear hno2 hno fin q1 q2
          repeat' (first
            | with_reducible apply wc_seq
            | ((with_reducible apply wc_region); (· (rfl)))
            | with_reducible apply wo_some
            | ((with_reducible apply wc_cond); (· (simp (disch := (first | assumption | omega)) only [ev, Option.some.injEq, v10, v25, v33, v59] <;> rfl)); all_goals (intro hg; (try (try simp only [Bool.not_eq_true'] at hg)); first | (exfalso; exact Bool.noConfusion hg) | (exfalso; exact hg) | skip))
            | with_reducible apply wc_block
            | with_reducible apply wc_skip
            | with_reducible apply wc_ret
            | with_reducible apply nx_r
            | with_reducible apply bx_r
            | (simp only [patch, List.take_zero, List.drop_succ_cons, List.drop_nil, List.nil_append, List.append_nil, List.length_cons, List.length_nil, Nat.zero_add, Nat.reduceAdd, cells_agg, cells_lagg, litCells_cons, litCells_nil] at H)
            | ((with_reducible apply nx_c (fun i => Nat.beq i 0 || Nat.beq i 1 || Nat.beq i 2 || Nat.beq i 4 || Nat.beq i 6 || Nat.beq i 7 || Nat.beq i 8 || Nat.beq i 10 || Nat.beq i 25 || Nat.beq i 33 || Nat.beq i 59)); intro e he; have w0 := he 0 rfl; have w1 := he 1 rfl; have w2 := he 2 rfl; have w4 := he 4 rfl; have w6 := he 6 rfl; have w7 := he 7 rfl; have w8 := he 8 rfl; have w10 := he 10 rfl; have w25 := he 25 rfl; have w33 := he 33 rfl; have w59 := he 59 rfl; (try simp only [T.get_put, Nat.reduceEqDiff, reduceIte, v0, v1, v2, v4, v6, v7, v8, v10, v25, v33, v59] at w0 w1 w2 w4 w6 w7 w8 w10 w25 w33 w59); clear he v0 v1 v2 v4 v6 v7 v8 v10 v25 v33 v59; have v0 := w0; have v1 := w1; have v2 := w2; have v4 := w4; have v6 := w6; have v7 := w7; have v8 := w8; have v10 := w10; have v25 := w25; have v33 := w33; have v59 := w59; clear w0 w1 w2 w4 w6 w7 w8 w10 w25 w33 w59)
            | ((with_reducible apply wo_eq); (· (simp (disch := (first | assumption | omega)) only [beq_self_eq_true, eq_self, opsA_cons, opsA_nil, wantedA, guardA, yieldA, stepA_t, stepA_f, callA, calleeA, runOp_n, opA, ev, evs, consO, consOO, pickA, afterA_s, putA, T.get_put, Nat.reduceEqDiff, reduceIte, List.getElem?_toArray, List.getElem?_cons_zero, List.getElem?_cons_succ, oBuiltin, oBin, binA, binG, binL, aggO, litA, oIndexAddr, cond_true, Bool.not_true, blt_eq, ft_beq, I, Bo, fieldAddrA, oFieldAddr, Nat.zero_add, Nat.add_zero, Nat.reduceLT, ty3, ti3, ty5, ti5, ty24, ti24, ty40, ti40, ty42, ti42, ty58, ti58, ty60, ti60, ty77, ti77, ty3, ti3, ty5, ti5, ty40, ti40, ty42, ti42, ty60, ti60, ty77, ti77, ty58, ti58, ii_add, ii_geq, ii_eql, iu_eql, withH_s, eqA, eqD, eqOp, nilCheckA, oConv, dec_t, dec_f, wrap_ok, id_eq, Nat.zero_add, Nat.add_zero, v0, v1, v4, v7, v8, conv3, uu_eql, uu_sub, wrap_u32k, rws_len, q1', q2']; exact rfl)))
            | (((with_reducible apply wo_rlenZ H); (· ((first | exact ty58 | exact ty58))); (· (rfl)); (· ((with_reducible repeat' first | exact mem_h _ _ | apply mem_t); done))))
            | (((with_reducible apply wo_riaZ H); (· ((first | exact ty58 | exact ty58))); (· (rfl)); (· ((first | exact ty77 | exact ty77))); (· ((with_reducible repeat' first | exact mem_h _ _ | apply mem_t); done)); (· (rfl)); (· ((first | rfl | assumption | omega))); (· ((first | assumption | omega))); intro w9 hw9))
            | (((with_reducible apply wo_rldnZ H); (· (assumption)); (· ((with_reducible repeat' first | exact mem_h _ _ | apply mem_t); done)); (· (rfl)); (· (rfl)); (· (assumption)); (· ((first | rfl | omega)))))
            | ((with_reducible apply wo_box H); clear H; intro n h H0n H)
            | ((with_reducible apply wo_alloc H); (· (rfl)); clear H; intro n h H0n H)
            | ((with_reducible apply wo_load1 H); (· ((with_reducible repeat' first | exact mem_h _ _ | apply mem_t); done)); (· (rfl)); (· ((first | rfl | assumption))))
            | ((with_reducible apply wo_load1z H); (· ((with_reducible repeat' first | exact mem_h _ _ | apply mem_t); done)); (· (rfl)); (· ((first | rfl | assumption))))
            | ((with_reducible apply wo_storen H); (· ((with_reducible repeat' first | exact Pick.here _ _ _ | apply Pick.there); done)); (· ((first | rfl | assumption | exact cells_one (H.pz (by (with_reducible repeat' first | exact mem_h _ _ | apply mem_t); done))))); (· ((first | rfl | (simp (disch := assumption) only [onesA_cons', onesA_nil, cells_int, cells_bool, cells_str, cells_float, cells_np, cells_nil, cells_nf, cells_ptr, cells_slice, cells_fn, cells_agg, cells_lagg, litCells_cons, litCells_nil, one_t, one_int, one_bool, one_str, one_nil, one_np, one_ptr, one_slice, Bool.and_true, Bool.and_self, id_eq]; done)))); (· (rfl)); (· ((first | exact Nat.le_of_ble_eq_true rfl | omega | (simp only [List.length_set, List.length_replicate, List.length_map, List.length_cons, List.length_nil]; omega) | (simp; done) | (simp; omega)))); clear H; intro h H)
            | ((first | with_reducible apply wv_ret | with_reducible apply wv_end); (· ((repeat' (first | with_reducible exact rs_nil | ((with_reducible apply rs_tmp); (· (simp (disch := (first | assumption | omega)) only [Option.some.injEq, v6] <;> rfl))) | ((with_reducible apply rs_cell); (· (simp (disch := (first | assumption | omega)) only [ev, T.get_put, Nat.reduceEqDiff, reduceIte, Option.some.injEq, dec_t, dec_f, Bool.not_true, Bool.not_false, v0, v1, v2, v4, v6, v7, v8, v10, v25, v33, v59, conv40, conv3, conv2, uu_eql, uu_neq, uu_gtr, uu_lss, uu_add, uu_sub, wrap_u32k, rws_len, one, q1', q2'] <;> rfl)); (· (kernel_rfl)); (· (rfl)); (· (exact H.ld1 (by (with_reducible repeat' first | exact mem_h _ _ | apply mem_t); done) rfl))) | ((with_reducible apply rs_celln); (· (simp (disch := (first | assumption | omega)) only [ev, T.get_put, Nat.reduceEqDiff, reduceIte, Option.some.injEq, dec_t, dec_f, Bool.not_true, Bool.not_false, v0, v1, v2, v4, v6, v7, v8, v10, v25, v33, v59, conv40, conv3, conv2, uu_eql, uu_neq, uu_gtr, uu_lss, uu_add, uu_sub, wrap_u32k, rws_len, one, q1', q2'] <;> rfl)); (· (kernel_rfl)); (· (rfl)); (· (exact H.ldn (by (with_reducible repeat' first | exact mem_h _ _ | apply mem_t); done) rfl rfl))))); done)))
            | simp (disch := (first | assumption | omega)) only [I])

          all_goals first | exact ⟨rfl, H.toExt⟩ | (exfalso; omega)
        · skip
          repeat' (first
            | with_reducible apply wc_seq
            | ((with_reducible apply wc_region); (· (rfl)))
            | with_reducible apply wo_some
            | ((with_reducible apply wc_cond); (· (simp (disch := (first | assumption | omega)) only [ev, Option.some.injEq, v10, v25, v33, v59] <;> rfl)); all_goals (intro hg; (try (try simp only [Bool.not_eq_true'] at hg)); first | (exfalso; exact Bool.noConfusion hg) | (exfalso; exact hg) | skip))
            | with_reducible apply wc_block
            | with_reducible apply wc_skip
            | with_reducible apply wc_ret
            | with_reducible apply nx_r
            | with_reducible apply bx_r
            | (simp only [patch, List.take_zero, List.drop_succ_cons, List.drop_nil, List.nil_append, List.append_nil, List.length_cons, List.length_nil, Nat.zero_add, Nat.reduceAdd, cells_agg, cells_lagg, litCells_cons, litCells_nil] at H)
            | ((with_reducible apply nx_c (fun i => Nat.beq i 0 || Nat.beq i 1 || Nat.beq i 2 || Nat.beq i 4 || Nat.beq i 6 || Nat.beq i 7 || Nat.beq i 8 || Nat.beq i 10 || Nat.beq i 25 || Nat.beq i 33 || Nat.beq i 59)); intro e he; have w0 := he 0 rfl; have w1 := he 1 rfl; have w2 := he 2 rfl; have w4 := he 4 rfl; have w6 := he 6 rfl; have w7 := he 7 rfl; have w8 := he 8 rfl; have w10 := he 10 rfl; have w25 := he 25 rfl; have w33 := he 33 rfl; have w59 := he 59 rfl; (try simp only [T.get_put, Nat.reduceEqDiff, reduceIte, v0, v1, v2, v4, v6, v7, v8, v10, v25, v33, v59] at w0 w1 w2 w4 w6 w7 w8 w10 w25 w33 w59); clear he v0 v1 v2 v4 v6 v7 v8 v10 v25 v33 v59; have v0 := w0; have v1 := w1; have v2 := w2; have v4 := w4; have v6 := w6; have v7 := w7; have v8 := w8; have v10 := w10; have v25 := w25; have v33 := w33; have v59 := w59; clear w0 w1 w2 w4 w6 w7 w8 w10 w25 w33 w59)
            | ((with_reducible apply wo_eq); (· (simp (disch := (first | assumption | omega)) only [beq_self_eq_true, eq_self, opsA_cons, opsA_nil, wantedA, guardA, yieldA, stepA_t, stepA_f, callA, calleeA, runOp_n, opA, ev, evs, consO, consOO, pickA, afterA_s, putA, T.get_put, Nat.reduceEqDiff, reduceIte, List.getElem?_toArray, List.getElem?_cons_zero, List.getElem?_cons_succ, oBuiltin, oBin, binA, binG, binL, aggO, litA, oIndexAddr, cond_true, Bool.not_true, blt_eq, ft_beq, I, Bo, fieldAddrA, oFieldAddr, Nat.zero_add, Nat.add_zero, Nat.reduceLT, ty3, ti3, ty5, ti5, ty24, ti24, ty40, ti40, ty42, ti42, ty58, ti58, ty60, ti60, ty77, ti77, ty3, ti3, ty5, ti5, ty40, ti40, ty42, ti42, ty60, ti60, ty77, ti77, ty58, ti58, ii_add, ii_geq, ii_eql, iu_eql, withH_s, eqA, eqD, eqOp, nilCheckA, oConv, dec_t, dec_f, wrap_ok, id_eq, Nat.zero_add, Nat.add_zero, v0, v1, v4, v7, v8, conv3, uu_eql, rws_len]; exact rfl)))
            | (((with_reducible apply wo_rlenZ H); (· ((first | exact ty58 | exact ty58))); (· (rfl)); (· ((with_reducible repeat' first | exact mem_h _ _ | apply mem_t); done))))
            | (((with_reducible apply wo_riaZ H); (· ((first | exact ty58 | exact ty58))); (· (rfl)); (· ((first | exact ty77 | exact ty77))); (· ((with_reducible repeat' first | exact mem_h _ _ | apply mem_t); done)); (· (rfl)); (· ((first | rfl | assumption | omega))); (· ((first | assumption | omega))); intro w9 hw9))
            | (((with_reducible apply wo_rldnZ H); (· (assumption)); (· ((with_reducible repeat' first | exact mem_h _ _ | apply mem_t); done)); (· (rfl)); (· (rfl)); (· (assumption)); (· ((first | rfl | omega)))))
            | ((with_reducible apply wo_box H); clear H; intro n h H0n H)
            | ((with_reducible apply wo_alloc H); (· (rfl)); clear H; intro n h H0n H)
            | ((with_reducible apply wo_load1 H); (· ((with_reducible repeat' first | exact mem_h _ _ | apply mem_t); done)); (· (rfl)); (· ((first | rfl | assumption))))
            | ((with_reducible apply wo_load1z H); (· ((with_reducible repeat' first | exact mem_h _ _ | apply mem_t); done)); (· (rfl)); (· ((first | rfl | assumption))))
            | ((with_reducible apply wo_storen H); (· ((with_reducible repeat' first | exact Pick.here _ _ _ | apply Pick.there); done)); (· ((first | rfl | assumption | exact cells_one (H.pz (by (with_reducible repeat' first | exact mem_h _ _ | apply mem_t); done))))); (· ((first | rfl | (simp (disch := assumption) only [onesA_cons', onesA_nil, cells_int, cells_bool, cells_str, cells_float, cells_np, cells_nil, cells_nf, cells_ptr, cells_slice, cells_fn, cells_agg, cells_lagg, litCells_cons, litCells_nil, one_t, one_int, one_bool, one_str, one_nil, one_np, one_ptr, one_slice, Bool.and_true, Bool.and_self, id_eq]; done)))); (· (rfl)); (· ((first | exact Nat.le_of_ble_eq_true rfl | omega | (simp only [List.length_set, List.length_replicate, List.length_map, List.length_cons, List.length_nil]; omega) | (simp; done) | (simp; omega)))); clear H; intro h H)
            | ((first | with_reducible apply wv_ret | with_reducible apply wv_end); (· ((repeat' (first | with_reducible exact rs_nil | ((with_reducible apply rs_tmp); (· (simp (disch := (first | assumption | omega)) only [Option.some.injEq, v6] <;> rfl))) | ((with_reducible apply rs_cell); (· (simp (disch := (first | assumption | omega)) only [ev, T.get_put, Nat.reduceEqDiff, reduceIte, Option.some.injEq, dec_t, dec_f, Bool.not_true, Bool.not_false, v0, v1, v2, v4, v6, v7, v8, v10, v25, v33, v59, conv40, conv3, conv2, uu_eql, uu_neq, uu_gtr, uu_lss, uu_add, uu_sub, wrap_u32k, rws_len, one] <;> rfl)); (· (kernel_rfl)); (· (rfl)); (· (exact H.ld1 (by (with_reducible repeat' first | exact mem_h _ _ | apply mem_t); done) rfl))) | ((with_reducible apply rs_celln); (· (simp (disch := (first | assumption | omega)) only [ev, T.get_put, Nat.reduceEqDiff, reduceIte, Option.some.injEq, dec_t, dec_f, Bool.not_true, Bool.not_false, v0, v1, v2, v4, v6, v7, v8, v10, v25, v33, v59, conv40, conv3, conv2, uu_eql, uu_neq, uu_gtr, uu_lss, uu_add, uu_sub, wrap_u32k, rws_len, one] <;> rfl)); (· (kernel_rfl)); (· (rfl)); (· (exact H.ldn (by (with_reducible repeat' first | exact mem_h _ _ | apply mem_t); done) rfl rfl))))); done)))
            | simp (disch := (first | assumption | omega)) only [I])

          all_goals first | exact ⟨rfl, H.toExt⟩ | (exfalso; omega)
  · skip
    repeat' (first
      | with_reducible apply wc_seq
      | ((with_reducible apply wc_region); (· (rfl)))
      | with_reducible apply wo_some
      | ((with_reducible apply wc_cond); (· (simp (disch := (first | assumption | omega)) only [ev, Option.some.injEq, v10, v25] <;> rfl)); all_goals (intro hg; (try (try simp only [Bool.not_eq_true'] at hg)); first | (exfalso; exact Bool.noConfusion hg) | (exfalso; exact hg) | skip))
      | with_reducible apply wc_skip
      | with_reducible apply wc_ret
      | with_reducible apply nx_r
      | (simp only [cells_agg] at H)
      | ((with_reducible apply nx_c (fun i => Nat.beq i 0 || Nat.beq i 1 || Nat.beq i 2 || Nat.beq i 4 || Nat.beq i 6 || Nat.beq i 7 || Nat.beq i 8 || Nat.beq i 10 || Nat.beq i 25 || Nat.beq i 33 || Nat.beq i 59)); intro e he; have w0 := he 0 rfl; have w1 := he 1 rfl; have w2 := he 2 rfl; have w4 := he 4 rfl; have w6 := he 6 rfl; have w7 := he 7 rfl; have w8 := he 8 rfl; have w10 := he 10 rfl; have w25 := he 25 rfl; have w33 := he 33 rfl; have w59 := he 59 rfl; (try simp only [T.get_put, Nat.reduceEqDiff, reduceIte, v0, v1, v2, v4, v6, v7, v8, v10, v25, v33, v59] at w0 w1 w2 w4 w6 w7 w8 w10 w25 w33 w59); clear he v0 v1 v2 v4 v6 v7 v8 v10 v25 v33 v59; have v0 := w0; have v1 := w1; have v2 := w2; have v4 := w4; have v6 := w6; have v7 := w7; have v8 := w8; have v10 := w10; have v25 := w25; have v33 := w33; have v59 := w59; clear w0 w1 w2 w4 w6 w7 w8 w10 w25 w33 w59)
      | ((with_reducible apply wo_eq); (· (simp (disch := (first | assumption | omega)) only [eq_self, opsA_cons, opsA_nil, wantedA, guardA, yieldA, stepA_t, stepA_f, callA, calleeA, runOp_n, opA, ev, evs, consO, consOO, pickA, afterA_s, putA, T.get_put, Nat.reduceEqDiff, reduceIte, List.getElem?_toArray, List.getElem?_cons_zero, List.getElem?_cons_succ, oBuiltin, oBin, binA, binG, binL, aggO, litA, cond_true, Bool.not_false, blt_eq, tf_beq, I, Bo, fieldAddrA, oFieldAddr, Nat.add_zero, Nat.reduceLT, ty24, ti24, ty40, ti40, ty42, ti42, ty58, ti58, ty60, ti60, ty40, ti40, ty42, ti42, ty60, ti60, ty58, ti58, ii_geq, withH_s, eqA, eqD, eqOp, nilCheckA, oConv, dec_t, dec_f, id_eq, Nat.add_zero, v0, v1, v4, v7, conv3, rws_len]; exact rfl)))
      | (((with_reducible apply wo_rlenZ H); (· ((first | exact ty58 | exact ty58))); (· (rfl)); (· ((with_reducible repeat' first | exact mem_h _ _ | apply mem_t); done))))
      | ((with_reducible apply wo_box H); clear H; intro n h H0n H)
      | ((with_reducible apply wo_load1 H); (· ((with_reducible repeat' first | exact mem_h _ _ | apply mem_t); done)); (· (rfl)); (· ((first | rfl | assumption))))
      | ((with_reducible apply wo_load1z H); (· ((with_reducible repeat' first | exact mem_h _ _ | apply mem_t); done)); (· (rfl)); (· ((first | rfl | assumption))))
      | ((first | with_reducible apply wv_ret | with_reducible apply wv_end); (· ((repeat' (first | with_reducible exact rs_nil | ((with_reducible apply rs_tmp); (· (simp (disch := (first | assumption | omega)) only [Option.some.injEq, v6] <;> rfl))) | ((with_reducible apply rs_cell); (· (simp (disch := (first | assumption | omega)) only [ev, T.get_put, Nat.reduceEqDiff, reduceIte, Option.some.injEq, dec_t, dec_f, Bool.not_true, Bool.not_false, v0, v1, v2, v4, v6, v7, v8, v10, v25, v33, v59, conv40, conv3, conv2, uu_eql, uu_neq, uu_gtr, uu_lss, uu_add, uu_sub, wrap_u32k, rws_len, one] <;> rfl)); (· (kernel_rfl)); (· (rfl)); (· (exact H.ld1 (by (with_reducible repeat' first | exact mem_h _ _ | apply mem_t); done) rfl))) | ((with_reducible apply rs_celln); (· (simp (disch := (first | assumption | omega)) only [ev, T.get_put, Nat.reduceEqDiff, reduceIte, Option.some.injEq, dec_t, dec_f, Bool.not_true, Bool.not_false, v0, v1, v2, v4, v6, v7, v8, v10, v25, v33, v59, conv40, conv3, conv2, uu_eql, uu_neq, uu_gtr, uu_lss, uu_add, uu_sub, wrap_u32k, rws_len, one] <;> rfl)); (· (kernel_rfl)); (· (rfl)); (· (exact H.ldn (by (with_reducible repeat' first | exact mem_h _ _ | apply mem_t); done) rfl rfl))))); done)))
      | simp (disch := (first | assumption | omega)) only [I])

    all_goals first | exact ⟨rfl, H.toExt⟩ | (exfalso; omega)


theorem ones_flat : ∀ {R : List (List AV)}, (∀ r ∈ R, onesA r = true) → onesA R.flatten = true := by
  have app : ∀ (l m : List AV), onesA l = true → onesA m = true → onesA (l ++ m) = true := by
    intro l
    induction l with
    | nil => intro m _ h; exact h
    | cons a l ih =>
      intro m h1 h2
      rw [onesA_cons', Bool.and_eq_true] at h1
      rw [List.cons_append, onesA_cons', h1.1, ih m h1.2 h2]
      rfl
  intro R
  induction R with
  | nil => intro _; rfl
  | cons r R ih => intro h; rw [List.flatten_cons]; exact app _ _ (h r (.head _)) (ih fun q hq => h q (.tail _ hq))
def c2h (p : Int × Int) : List AV := [U32 p.1, U32 p.2]
theorem c2h_len (xs : List (Int × Int)) : ∀ x ∈ xs, (c2h x).length = 2 := fun _ _ => rfl
def hndF : Nat → List Ent → List (Int × Int)
  | _, [] => []
  | i, p :: l => if p.2.1 then ((i : Int), p.1) :: hndF (i + 1) l else hndF (i + 1) l
/-- the handles of the slots that are used -/
def hnd (ls : List Ent) : List (Int × Int) := hndF 0 ls
theorem hndF_app : ∀ (l : List Ent) (i : Nat) (p : Ent), hndF i (l ++ [p]) = hndF i l ++ (if p.2.1 then [(((i + l.length : Nat) : Int), p.1)] else []) := by
  intro l
  induction l with
  | nil => intro i p; simp [hndF]
  | cons a l ih =>
    intro i p
    simp only [List.cons_append, hndF, List.length_cons]
    rw [ih, show i + 1 + l.length = i + (l.length + 1) by omega]
    split <;> simp
theorem take_snoc {α : Type} {l : List α} {i : Nat} {p : α} (h : l[i]? = some p) : l.take (i + 1) = l.take i ++ [p] := by
  rw [List.take_add_one, h]
  rfl
theorem hnd_succ {ls : List Ent} {i : Nat} {p : Ent} (h : ls[i]? = some p) : hnd (ls.take (i + 1)) = hnd (ls.take i) ++ (if p.2.1 then [((i : Int), p.1)] else []) := by
  have hl := (List.getElem?_eq_some_iff.1 h).1
  unfold hnd
  rw [take_snoc h, hndF_app, List.length_take, Nat.min_eq_left (by omega), Nat.zero_add]
theorem hndF_len : ∀ (l : List Ent) (i : Nat), ((hndF i l).length : Int) = cnt l := by
  intro l
  induction l with
  | nil => intro i; rfl
  | cons a l ih =>
    intro i
    simp only [hndF, cnt]
    split
    · rw [List.length_cons, Int.natCast_add, ih]; simp; omega
    · rw [ih]; omega
theorem hnd_len (l : List Ent) : ((hnd l).length : Int) = cnt l := hndF_len l 0
theorem cnt_take_le (ls : List Ent) (i : Nat) : cnt (ls.take i) ≤ cnt ls := by
  have h := cnt_app (ls.take i) (ls.drop i)
  rw [List.take_append_drop] at h
  have := (cnt_bound (ls.drop i)).1
  omega
theorem cnt_take_succ {ls : List Ent} {i : Nat} {p : Ent} (h : ls[i]? = some p) : cnt (ls.take (i + 1)) = cnt (ls.take i) + (if p.2.1 then 1 else 0) := by
  rw [take_snoc h, cnt_app]
  simp [cnt]
def roomH (xs : List (Int × Int)) (c : Nat) : List (List AV) := xs.map c2h ++ List.replicate (c - xs.length) [U32 0, U32 0]
theorem roomH_len {xs : List (Int × Int)} {c : Nat} (h : xs.length ≤ c) : (roomH xs c).length = c := by simp [roomH]; omega
theorem roomH_row (xs : List (Int × Int)) (c : Nat) : RowL 2 (roomH xs c) := fun r hr => by
  rcases List.mem_append.1 hr with h | h
  · obtain ⟨x, _, rfl⟩ := List.mem_map.1 h; rfl
  · rw [List.eq_of_mem_replicate h]; rfl
theorem roomH_set {xs : List (Int × Int)} {c : Nat} (x : Int × Int) (h : xs.length < c) : (roomH xs c).set xs.length (c2h x) = roomH (xs ++ [x]) c := by
  unfold roomH
  rw [List.set_append_right _ _ (by simp), List.length_map, Nat.sub_self, List.map_append, List.length_append, List.append_assoc]
  congr 1
  rw [show c - xs.length = (c - (xs.length + 1)) + 1 by omega, List.replicate_succ, List.set_cons_zero]
  rfl
theorem roomH_zero : ∀ c : Nat, repl [U32 0, U32 0] c = (roomH [] c).flatten := by
  intro c
  show _ = (List.map c2h [] ++ List.replicate (c - 0) [U32 0, U32 0]).flatten
  rw [List.map_nil, List.nil_append, Nat.sub_zero]
  induction c with
  | zero => rfl
  | succ c ih => rw [repl_s, List.replicate_succ, List.flatten_cons, ih]
set_option maxHeartbeats 4000000 in
theorem k27 (d : Nat) (b : Hp) (p : Nat) (s : AV) (ls : List Ent) (fs : List Nat) (K : Nat) (hK : K ≤ 1000) (v : Inv K ls fs) (a : Arn b p s (nxt fs) (cnt ls) (rws ls fs))  : Wv (runA ctx 5000 (d + 2) 27 [.ptr p 0] b) (fun r h' => ∃ w, w = r ∧ LcR c2h 2 h' w (hnd ls) ∧ Ext b h' ∧ ∀ m, nmO w = some m → b.c ≤ m) := by
  have hrl := rws_len ls fs
  have hvn := v.n
  have hcb := cnt_bound ls
  have one := a.o.one
  have ane := a.ne
  have hhl := hnd_len ls
  have H := a.reads
  rcases Classical.em (cnt ls = 0) with c0 | c0
  · have hn0 : hnd ls = [] := List.eq_nil_of_length_eq_zero (by omega)
    rw [hn0]
    refine wv_run fn27 rfl ?_
    have a0 : (enterEnv [.ptr p 0] Try.f27.ntmps).get 0 = some (.ptr p 0) := enter_get1 _ _ _
    generalize enterEnv [.ptr p 0] Try.f27.ntmps = e at a0 ⊢
    unfold Try.f27
    dsimp only
    ((with_reducible apply wc_c (fun i => Nat.beq i 0 || Nat.beq i 2 || Nat.beq i 3 || Nat.beq i 4 || Nat.beq i 7 || Nat.beq i 17 || Nat.beq i 18 || Nat.beq i 19 || Nat.beq i 29)); intro e he; have w9 := he 0 rfl; (try simp only [a0] at w9); have v0 := w9; clear w9; have w9 := he 2 rfl; (try simp only [T.get_put, Nat.reduceEqDiff, reduceIte] at w9); have v2 := w9; clear w9; have w9 := he 3 rfl; (try simp only [T.get_put, Nat.reduceEqDiff, reduceIte] at w9); have v3 := w9; clear w9; have w9 := he 4 rfl; (try simp only [T.get_put, Nat.reduceEqDiff, reduceIte] at w9); have v4 := w9; clear w9; have w9 := he 7 rfl; (try simp only [T.get_put, Nat.reduceEqDiff, reduceIte] at w9); have v7 := w9; clear w9; have w9 := he 17 rfl; (try simp only [T.get_put, Nat.reduceEqDiff, reduceIte] at w9); have v17 := w9; clear w9; have w9 := he 18 rfl; (try simp only [T.get_put, Nat.reduceEqDiff, reduceIte] at w9); have v18 := w9; clear w9; have w9 := he 19 rfl; (try simp only [T.get_put, Nat.reduceEqDiff, reduceIte] at w9); have v19 := w9; clear w9; have w9 := he 29 rfl; (try simp only [T.get_put, Nat.reduceEqDiff, reduceIte] at w9); have v29 := w9; clear w9; clear he)
    repeat' (first
      | with_reducible apply wc_seq
      | ((with_reducible apply wc_region); (· (rfl)))
      | with_reducible apply wo_some
      | ((with_reducible apply wc_cond); (· (simp (disch := (first | assumption | omega)) only [ev, Option.some.injEq, v7] <;> rfl)); all_goals (intro hg; (try (try simp only [Bool.not_eq_true'] at hg)); first | (exfalso; exact Bool.noConfusion hg) | (exfalso; exact hg) | skip))
      | with_reducible apply wc_ret
      | with_reducible apply nx_r
      | ((with_reducible apply nx_c (fun i => Nat.beq i 0 || Nat.beq i 2 || Nat.beq i 3 || Nat.beq i 4 || Nat.beq i 7 || Nat.beq i 17 || Nat.beq i 18 || Nat.beq i 19 || Nat.beq i 29)); intro e he; have w0 := he 0 rfl; have w2 := he 2 rfl; have w3 := he 3 rfl; have w4 := he 4 rfl; have w7 := he 7 rfl; have w17 := he 17 rfl; have w18 := he 18 rfl; have w19 := he 19 rfl; have w29 := he 29 rfl; (try simp only [T.get_put, Nat.reduceEqDiff, reduceIte, v0, v2, v3, v4, v7, v17, v18, v19, v29] at w0 w2 w3 w4 w7 w17 w18 w19 w29); clear he v0 v2 v3 v4 v7 v17 v18 v19 v29; have v0 := w0; have v2 := w2; have v3 := w3; have v4 := w4; have v7 := w7; have v17 := w17; have v18 := w18; have v19 := w19; have v29 := w29; clear w0 w2 w3 w4 w7 w17 w18 w19 w29)
      | ((with_reducible apply wo_eq); (· (simp (disch := (first | assumption | omega)) only [eq_self, opsA_cons, opsA_nil, wantedA, stepA_t, callA, calleeA, targetA, runOp_c, runOp_n, opA, ev, evs, consO, consOO, afterA_s, putA, T.get_put, Nat.reduceEqDiff, reduceIte, oBin, binA, binG, binL, aggO, litA, decide_true, I, Bo, ii_eql, withH_s, v0, c0]; exact rfl)))
      | (((with_reducible apply wo_call); (· ((with_reducible apply k23); (· ((first | exact H.arn (by first | exact Pick2.h1 _ (.here _ _) | exact Pick2.h1 _ (.there _ (.here _ _)) | exact Pick2.h1 _ (.there _ (.there _ (.here _ _))) | exact Pick2.h2 _ (.here _ _) | exact Pick2.h2 _ (.there _ (.here _ _)) | exact Pick2.there _ (.h1 _ (.here _ _)) | exact Pick2.there _ (.h1 _ (.there _ (.here _ _))) | exact Pick2.there _ (.h2 _ (.here _ _)) | exact Pick2.there _ (.h2 _ (.there _ (.here _ _))) | exact Pick2.there _ (.there _ (.h1 _ (.here _ _))) | exact Pick2.there _ (.there _ (.h2 _ (.here _ _))) | exact Pick2.there _ (.there _ (.there _ (.h1 _ (.here _ _)))) | exact Pick2.there _ (.there _ (.there _ (.h2 _ (.here _ _))))) | exact Arn.mk (H.pz (a := blk id _ [_, _, _]) (by (with_reducible repeat' first | exact mem_h _ _ | apply mem_t); done)) (H.pz (a := owr _ _ _ _) (by (with_reducible repeat' first | exact mem_h _ _ | apply mem_t); done)) (by assumption)))))); rintro _ h ⟨rfl, hx⟩; replace H := H.ext hx; clear hx))
      | ((first | with_reducible apply wv_ret | with_reducible apply wv_end); (· ((repeat' (first | with_reducible exact rs_nil | ((with_reducible apply rs_tmp); (· (simp (disch := (first | assumption | omega)) only [Option.some.injEq, v2] <;> rfl))) | ((with_reducible apply rs_cell); (· (simp (disch := (first | assumption | omega)) only [ev, T.get_put, Nat.reduceEqDiff, reduceIte, Option.some.injEq, dec_t, dec_f, Bool.not_true, Bool.not_false, v0, v2, v3, v4, v7, v17, v18, v19, v29, conv40, conv3, conv2, uu_eql, uu_neq, uu_gtr, uu_lss, uu_add, uu_sub, wrap_u32k, rws_len, one, c0] <;> rfl)); (· (kernel_rfl)); (· (rfl)); (· (exact H.ld1 (by (with_reducible repeat' first | exact mem_h _ _ | apply mem_t); done) rfl))) | ((with_reducible apply rs_celln); (· (simp (disch := (first | assumption | omega)) only [ev, T.get_put, Nat.reduceEqDiff, reduceIte, Option.some.injEq, dec_t, dec_f, Bool.not_true, Bool.not_false, v0, v2, v3, v4, v7, v17, v18, v19, v29, conv40, conv3, conv2, uu_eql, uu_neq, uu_gtr, uu_lss, uu_add, uu_sub, wrap_u32k, rws_len, one, c0] <;> rfl)); (· (kernel_rfl)); (· (rfl)); (· (exact H.ldn (by (with_reducible repeat' first | exact mem_h _ _ | apply mem_t); done) rfl rfl))))); done))))

    all_goals first | exact ⟨_, rfl, LcR.nil _ _ _, H.toExt, fun m hm => by cases hm⟩ | (exfalso; omega)
  obtain ⟨c, hc⟩ := nat_of (show 0 ≤ cnt ls by omega)
  simp only [Int.ofNat_eq_natCast] at hc
  have hct : (cnt ls).toNat = c := by omega
  refine wv_run fn27 rfl ?_
  have a0 : (enterEnv [.ptr p 0] Try.f27.ntmps).get 0 = some (.ptr p 0) := enter_get1 _ _ _
  generalize enterEnv [.ptr p 0] Try.f27.ntmps = e at a0 ⊢
  unfold Try.f27
  dsimp only
  ((with_reducible apply wc_c (fun i => Nat.beq i 0 || Nat.beq i 2 || Nat.beq i 3 || Nat.beq i 4 || Nat.beq i 7 || Nat.beq i 17 || Nat.beq i 18 || Nat.beq i 19 || Nat.beq i 29)); intro e he; have w9 := he 0 rfl; (try simp only [a0] at w9); have v0 := w9; clear w9; have w9 := he 2 rfl; (try simp only [T.get_put, Nat.reduceEqDiff, reduceIte] at w9); have v2 := w9; clear w9; have w9 := he 3 rfl; (try simp only [T.get_put, Nat.reduceEqDiff, reduceIte] at w9); have v3 := w9; clear w9; have w9 := he 4 rfl; (try simp only [T.get_put, Nat.reduceEqDiff, reduceIte] at w9); have v4 := w9; clear w9; have w9 := he 7 rfl; (try simp only [T.get_put, Nat.reduceEqDiff, reduceIte] at w9); have v7 := w9; clear w9; have w9 := he 17 rfl; (try simp only [T.get_put, Nat.reduceEqDiff, reduceIte] at w9); have v17 := w9; clear w9; have w9 := he 18 rfl; (try simp only [T.get_put, Nat.reduceEqDiff, reduceIte] at w9); have v18 := w9; clear w9; have w9 := he 19 rfl; (try simp only [T.get_put, Nat.reduceEqDiff, reduceIte] at w9); have v19 := w9; clear w9; have w9 := he 29 rfl; (try simp only [T.get_put, Nat.reduceEqDiff, reduceIte] at w9); have v29 := w9; clear w9; clear he)
  repeat' (first
    | with_reducible apply wc_seq
    | ((with_reducible apply wc_region); (· (rfl)))
    | with_reducible apply wo_some
    | ((with_reducible apply wc_cond); (· (simp (disch := (first | assumption | omega)) only [ev, Option.some.injEq, v7] <;> rfl)); all_goals (intro hg; (try (try simp only [Bool.not_eq_true'] at hg)); first | (exfalso; exact Bool.noConfusion hg) | (exfalso; exact hg) | skip))
    | with_reducible apply wc_block
    | with_reducible apply wc_skip
    | (simp only [cells_lagg, litCells_cons, litCells_nil, ti42] at H)
    | ((with_reducible apply nx_c (fun i => Nat.beq i 0 || Nat.beq i 2 || Nat.beq i 3 || Nat.beq i 4 || Nat.beq i 7 || Nat.beq i 17 || Nat.beq i 18 || Nat.beq i 19 || Nat.beq i 29)); intro e he; have w0 := he 0 rfl; have w2 := he 2 rfl; have w3 := he 3 rfl; have w4 := he 4 rfl; have w7 := he 7 rfl; have w17 := he 17 rfl; have w18 := he 18 rfl; have w19 := he 19 rfl; have w29 := he 29 rfl; (try simp only [T.get_put, Nat.reduceEqDiff, reduceIte, v0, v2, v3, v4, v7, v17, v18, v19, v29] at w0 w2 w3 w4 w7 w17 w18 w19 w29); clear he v0 v2 v3 v4 v7 v17 v18 v19 v29; have v0 := w0; have v2 := w2; have v3 := w3; have v4 := w4; have v7 := w7; have v17 := w17; have v18 := w18; have v19 := w19; have v29 := w29; clear w0 w2 w3 w4 w7 w17 w18 w19 w29)
    | ((with_reducible apply wo_eq); (· (simp (disch := (first | assumption | omega)) only [eq_self, opsA_cons, opsA_nil, wantedA, stepA_t, callA, calleeA, targetA, runOp_c, runOp_n, opA, ev, evs, consO, consOO, afterA_s, putA, T.get_put, Nat.reduceEqDiff, reduceIte, List.getElem?_toArray, List.getElem?_cons_zero, List.getElem?_cons_succ, oBuiltin, oBin, binA, binG, binL, aggO, litA, cond_true, decide_false, blt_eq, I, Bo, fieldAddrA, oFieldAddr, Nat.zero_add, Nat.add_zero, Nat.reduceLT, ty3, ti3, ty58, ti58, ty60, ti60, ty3, ti3, ty60, ti60, ty58, ti58, ii_eql, withH_s, nilCheckA, oMakeSlice, dec_t, Int.reduceToNat, id_eq, Nat.zero_add, Nat.add_zero, v0, rws_len, c0, hct]; exact rfl)))
    | (((with_reducible apply wo_call); (· ((with_reducible apply k23); (· ((first | exact H.arn (by first | exact Pick2.h1 _ (.here _ _) | exact Pick2.h1 _ (.there _ (.here _ _)) | exact Pick2.h1 _ (.there _ (.there _ (.here _ _))) | exact Pick2.h2 _ (.here _ _) | exact Pick2.h2 _ (.there _ (.here _ _)) | exact Pick2.there _ (.h1 _ (.here _ _)) | exact Pick2.there _ (.h1 _ (.there _ (.here _ _))) | exact Pick2.there _ (.h2 _ (.here _ _)) | exact Pick2.there _ (.h2 _ (.there _ (.here _ _))) | exact Pick2.there _ (.there _ (.h1 _ (.here _ _))) | exact Pick2.there _ (.there _ (.h2 _ (.here _ _))) | exact Pick2.there _ (.there _ (.there _ (.h1 _ (.here _ _)))) | exact Pick2.there _ (.there _ (.there _ (.h2 _ (.here _ _))))) | exact Arn.mk (H.pz (a := blk id _ [_, _, _]) (by (with_reducible repeat' first | exact mem_h _ _ | apply mem_t); done)) (H.pz (a := owr _ _ _ _) (by (with_reducible repeat' first | exact mem_h _ _ | apply mem_t); done)) (by assumption)))))); rintro _ h ⟨rfl, hx⟩; replace H := H.ext hx; clear hx))
    | (((with_reducible apply wo_rlenZ H); (· ((first | exact ty58 | exact ty58))); (· (rfl)); (· ((with_reducible repeat' first | exact mem_h _ _ | apply mem_t); done))))
    | ((with_reducible apply wo_load1z H); (· ((with_reducible repeat' first | exact mem_h _ _ | apply mem_t); done)); (· (rfl)); (· ((first | rfl | assumption))))
    | ((with_reducible apply wo_make H); (· (exact ty30)); (· (rfl)); (· (exact ty42)); (· (kernel_rfl)); (· (omega)); (· (omega)); (· (omega)); clear H; intro n h H0n H))

  all_goals first | (exfalso; omega) | skip
  obtain ⟨q, H, v3, fq⟩ : ∃ q, Hs [] b h [blk id q (roomH [] c).flatten] [owr 77 4 s (rws ls fs), blk id p [s, I (nxt fs), I (cnt ls)]] ∧ e.get 3 = some (.slice q 0 0 false c 0) ∧ b.c ≤ q := ⟨_, by rw [← roomH_zero, ← hct]; exact H, v3, by assumption⟩
  refine wc_loop (fun m e h' => ∃ k xs, m = ls.length - k ∧ k ≤ ls.length ∧ xs = hnd (ls.take k) ∧ e.get 0 = some (.ptr p 0) ∧ e.get 3 = some (.slice q 0 xs.length false c 0) ∧ e.get 17 = some (I (ls.length : Int)) ∧ e.get 18 = some (I (k : Int)) ∧ Hs [] b h' [blk id q (roomH xs c).flatten] [owr 77 4 s (rws ls fs), blk id p [s, I (nxt fs), I (cnt ls)]]) ls.length ?_ ⟨0, [], rfl, Nat.zero_le _, by rw [List.take_zero]; rfl, v0, v3, by first | exact v17 | (rw [hrl] at v17; exact v17), v18, H⟩ ?_
  · omega
  clear H v0 v3 v17 v18
  rintro m e h ⟨k, xs, rfl, hk, hxs, v0, v3, v17, v18, H⟩
  have hxl : (xs.length : Int) = cnt (ls.take k) := by rw [hxs]; exact hnd_len _
  by_cases hlt : k < ls.length
  · obtain ⟨⟨g, u, x⟩, hp⟩ := at_some hlt
    have hgn := v.gen k _ hp
    have hle := cnt_take_le ls (k + 1)
    rw [cnt_take_succ hp] at hle
    have hns := hnd_succ hp
    rw [← hxs] at hns
    cases u with
    | true =>
      have hr := rws_used (fs := fs) hp
      simp only [if_true] at hle hns
      ((with_reducible apply wc_c (fun i => Nat.beq i 0 || Nat.beq i 2 || Nat.beq i 3 || Nat.beq i 4 || Nat.beq i 17 || Nat.beq i 18 || Nat.beq i 19 || Nat.beq i 29)); intro e he; have w9 := he 0 rfl; (try simp only [v0] at w9); replace v0 := w9; clear w9; have w9 := he 2 rfl; (try simp only [T.get_put, Nat.reduceEqDiff, reduceIte] at w9); have v2 := w9; clear w9; have w9 := he 3 rfl; (try simp only [v3] at w9); replace v3 := w9; clear w9; have w9 := he 4 rfl; (try simp only [T.get_put, Nat.reduceEqDiff, reduceIte] at w9); have v4 := w9; clear w9; have w9 := he 17 rfl; (try simp only [v17] at w9); replace v17 := w9; clear w9; have w9 := he 18 rfl; (try simp only [v18] at w9); replace v18 := w9; clear w9; have w9 := he 19 rfl; (try simp only [T.get_put, Nat.reduceEqDiff, reduceIte] at w9); have v19 := w9; clear w9; have w9 := he 29 rfl; (try simp only [T.get_put, Nat.reduceEqDiff, reduceIte] at w9); have v29 := w9; clear w9; clear he)
      repeat' (first
        | with_reducible apply wc_seq
        | ((with_reducible apply wc_region); (· (rfl)))
        | with_reducible apply wo_some
        | ((with_reducible apply wc_cond); (· (simp (disch := (first | assumption | omega)) only [ev, Option.some.injEq, v19, v29] <;> rfl)); all_goals (intro hg; (try (try simp only [Bool.not_eq_true'] at hg)); first | (exfalso; exact Bool.noConfusion hg) | (exfalso; exact hg) | skip))
        | with_reducible apply wc_block
        | with_reducible apply wc_skip
        | with_reducible apply bx_n
        | (simp only [cells_agg, cells_lagg, putAt_z, over_nil, over_cons, litCells_cons, litCells_nil, ti42, repl_1, Nat.zero_mul] at H)
        | ((with_reducible apply nx_c (fun i => Nat.beq i 0 || Nat.beq i 2 || Nat.beq i 3 || Nat.beq i 4 || Nat.beq i 17 || Nat.beq i 18 || Nat.beq i 19 || Nat.beq i 29)); intro e he; have w0 := he 0 rfl; have w2 := he 2 rfl; have w3 := he 3 rfl; have w4 := he 4 rfl; have w17 := he 17 rfl; have w18 := he 18 rfl; have w19 := he 19 rfl; have w29 := he 29 rfl; (try simp only [T.get_put, Nat.reduceEqDiff, reduceIte, v0, v2, v3, v4, v17, v18, v19, v29] at w0 w2 w3 w4 w17 w18 w19 w29); clear he v0 v2 v3 v4 v17 v18 v19 v29; have v0 := w0; have v2 := w2; have v3 := w3; have v4 := w4; have v17 := w17; have v18 := w18; have v19 := w19; have v29 := w29; clear w0 w2 w3 w4 w17 w18 w19 w29)
        | ((with_reducible apply wo_eq); (· (simp (disch := (first | assumption | omega)) only [eq_self, opsA_cons, opsA_nil, wantedA, stepA_t, callA, calleeA, targetA, runOp_c, runOp_n, opA, ev, evs, consO, consOO, afterA_s, putA, T.get_put, Nat.reduceEqDiff, reduceIte, List.getElem?_toArray, List.getElem?_cons_zero, oBuiltin, oBin, binA, binG, binL, aggO, litA, oIndexAddr, cond_true, blt_eq, I, Bo, fieldAddrA, oFieldAddr, Nat.add_zero, Nat.reduceLT, ty5, ti5, ty58, ti58, ty60, ti60, ty77, ti77, ty5, ti5, ty60, ti60, ty77, ti77, ty58, ti58, ii_add, ii_lss, iu_eql, withH_s, nilCheckA, oBuildSlice, evParts, consP, dec_t, wrap_ok, id_eq, Nat.add_zero, v0, v3, v4, v17, v18]; exact rfl)))
        | (((with_reducible apply wo_call); (· ((with_reducible apply k44); (· ((first | exact H.arn (by first | exact Pick2.h1 _ (.here _ _) | exact Pick2.h1 _ (.there _ (.here _ _)) | exact Pick2.h1 _ (.there _ (.there _ (.here _ _))) | exact Pick2.h2 _ (.here _ _) | exact Pick2.h2 _ (.there _ (.here _ _)) | exact Pick2.there _ (.h1 _ (.here _ _)) | exact Pick2.there _ (.h1 _ (.there _ (.here _ _))) | exact Pick2.there _ (.h2 _ (.here _ _)) | exact Pick2.there _ (.h2 _ (.there _ (.here _ _))) | exact Pick2.there _ (.there _ (.h1 _ (.here _ _))) | exact Pick2.there _ (.there _ (.h2 _ (.here _ _))) | exact Pick2.there _ (.there _ (.there _ (.h1 _ (.here _ _)))) | exact Pick2.there _ (.there _ (.there _ (.h2 _ (.here _ _))))) | exact Arn.mk (H.pz (a := blk id _ [_, _, _]) (by (with_reducible repeat' first | exact mem_h _ _ | apply mem_t); done)) (H.pz (a := owr _ _ _ _) (by (with_reducible repeat' first | exact mem_h _ _ | apply mem_t); done)) (by assumption)))); (· (exact hr)); (· (omega)))); rintro _ h ⟨rfl, hx⟩; replace H := H.ext hx; clear hx))
        | (((with_reducible apply wo_riaZ H); (· ((first | exact ty58 | exact ty58))); (· (rfl)); (· ((first | exact ty77 | exact ty77))); (· ((with_reducible repeat' first | exact mem_h _ _ | apply mem_t); done)); (· (rfl)); (· ((first | rfl | assumption | omega))); (· ((first | assumption | omega))); intro w9 hw9))
        | (((with_reducible apply wo_rldZ (j := 0) H); (· (assumption)); (· ((with_reducible repeat' first | exact mem_h _ _ | apply mem_t); done)); (· (rfl)); (· (assumption)); (· (rfl)); (· (rfl))))
        | (((with_reducible apply wo_happ H); (· ((with_reducible repeat' first | exact Pick.here _ _ _ | apply Pick.there); done)); (· (exact roomH_row _ _)); (· (omega)); (· (exact roomH_len (by omega))); (· (exact ty30)); (· (rfl)); (· (exact ty42)); (· (rfl)); (· (decide)); (· (kernel_rfl)); (· ((with_reducible repeat' first | exact mem_h _ _ | apply mem_t); done)); (· (rfl)); (· ((first | rfl | (simp (disch := assumption) only [onesA_cons', onesA_nil, one_int, one_t, Bool.and_true, Bool.and_self, id_eq]; done)))); clear H; intro h H))
        | ((with_reducible apply wo_load1z H); (· ((with_reducible repeat' first | exact mem_h _ _ | apply mem_t); done)); (· (rfl)); (· ((first | rfl | assumption))))
        | ((with_reducible apply wo_bs H); (· (exact ty30)); (· (rfl)); (· (exact ty42)); (· (kernel_rfl)); (· ((first | rfl | (simp only [fillA_nil, fillA_cons, repl_z, repl_s, cells_int, cells_bool, cells_str, cells_float, cells_np, cells_nil, cells_nf, cells_ptr, cells_slice, cells_fn, cells_agg, cells_lagg, v0, v2, v3, v4, v17, v18, v19, v29, conv40, conv3, conv2, uu_eql, uu_neq, uu_gtr, uu_lss, uu_add, uu_sub, wrap_u32k, rws_len]; rfl)))); clear H; intro n h H0n H)
        | simp (disch := (first | assumption | omega)) only [eq_self, Option.some.injEq, I, v0, v3, v17, v18])

      all_goals first | (exfalso; omega) | skip
      rw [show [U32 (k : Int), U32 g] = c2h ((k : Int), g) from rfl, roomH_set _ (by omega), ← hns] at H
      refine ⟨ls.length - (k + 1), by omega, k + 1, _, rfl, by omega, rfl, by trivial, by rw [hns, List.length_append]; first | rfl | exact v3, by trivial, by rw [show ((k + 1 : Nat) : Int) = (k : Int) + 1 from by omega], ?_⟩
      exact H.sub (by (with_reducible repeat' first | exact List.Sublist.refl _ | apply List.Sublist.cons_cons | apply List.Sublist.cons); done) (by (repeat' (first | exact znil | (apply zcons; (· ((with_reducible repeat' first | exact mem_h _ _ | apply mem_t); done))))); done)
    | false =>
      have hr := rws_free (fs := fs) hp
      simp only [Bool.false_eq_true, if_false, List.append_nil] at hle hns
      ((with_reducible apply wc_c (fun i => Nat.beq i 0 || Nat.beq i 2 || Nat.beq i 3 || Nat.beq i 4 || Nat.beq i 17 || Nat.beq i 18 || Nat.beq i 19 || Nat.beq i 29)); intro e he; have w9 := he 0 rfl; (try simp only [v0] at w9); replace v0 := w9; clear w9; have w9 := he 2 rfl; (try simp only [T.get_put, Nat.reduceEqDiff, reduceIte] at w9); have v2 := w9; clear w9; have w9 := he 3 rfl; (try simp only [v3] at w9); replace v3 := w9; clear w9; have w9 := he 4 rfl; (try simp only [T.get_put, Nat.reduceEqDiff, reduceIte] at w9); have v4 := w9; clear w9; have w9 := he 17 rfl; (try simp only [v17] at w9); replace v17 := w9; clear w9; have w9 := he 18 rfl; (try simp only [v18] at w9); replace v18 := w9; clear w9; have w9 := he 19 rfl; (try simp only [T.get_put, Nat.reduceEqDiff, reduceIte] at w9); have v19 := w9; clear w9; have w9 := he 29 rfl; (try simp only [T.get_put, Nat.reduceEqDiff, reduceIte] at w9); have v29 := w9; clear w9; clear he)
      repeat' (first
        | with_reducible apply wc_seq
        | ((with_reducible apply wc_region); (· (rfl)))
        | with_reducible apply wo_some
        | ((with_reducible apply wc_cond); (· (simp (disch := (first | assumption | omega)) only [ev, Option.some.injEq, v19, v29] <;> rfl)); all_goals (intro hg; (try (try simp only [Bool.not_eq_true'] at hg)); first | (exfalso; exact Bool.noConfusion hg) | (exfalso; exact hg) | skip))
        | with_reducible apply wc_block
        | with_reducible apply wc_skip
        | with_reducible apply bx_n
        | ((with_reducible apply nx_c (fun i => Nat.beq i 0 || Nat.beq i 2 || Nat.beq i 3 || Nat.beq i 4 || Nat.beq i 17 || Nat.beq i 18 || Nat.beq i 19 || Nat.beq i 29)); intro e he; have w0 := he 0 rfl; have w2 := he 2 rfl; have w3 := he 3 rfl; have w4 := he 4 rfl; have w17 := he 17 rfl; have w18 := he 18 rfl; have w19 := he 19 rfl; have w29 := he 29 rfl; (try simp only [T.get_put, Nat.reduceEqDiff, reduceIte, v0, v2, v3, v4, v17, v18, v19, v29] at w0 w2 w3 w4 w17 w18 w19 w29); clear he v0 v2 v3 v4 v17 v18 v19 v29; have v0 := w0; have v2 := w2; have v3 := w3; have v4 := w4; have v17 := w17; have v18 := w18; have v19 := w19; have v29 := w29; clear w0 w2 w3 w4 w17 w18 w19 w29)
        | ((with_reducible apply wo_eq); (· (simp (disch := (first | assumption | omega)) only [eq_self, opsA_cons, opsA_nil, wantedA, stepA_t, callA, runOp_n, opA, ev, afterA_s, putA, T.get_put, Nat.reduceEqDiff, reduceIte, List.getElem?_toArray, List.getElem?_cons_zero, oBin, binA, binG, binL, aggO, litA, oIndexAddr, cond_true, blt_eq, I, Bo, fieldAddrA, oFieldAddr, Nat.add_zero, Nat.reduceLT, ty5, ti5, ty58, ti58, ty60, ti60, ty77, ti77, ty5, ti5, ty60, ti60, ty77, ti77, ty58, ti58, ii_add, ii_lss, iu_eql, withH_s, nilCheckA, dec_t, dec_f, wrap_ok, id_eq, Nat.add_zero, v0, v4, v17, v18]; exact rfl)))
        | (((with_reducible apply wo_riaZ H); (· ((first | exact ty58 | exact ty58))); (· (rfl)); (· ((first | exact ty77 | exact ty77))); (· ((with_reducible repeat' first | exact mem_h _ _ | apply mem_t); done)); (· (rfl)); (· ((first | rfl | assumption | omega))); (· ((first | assumption | omega))); intro w9 hw9))
        | (((with_reducible apply wo_rldZ (j := 0) H); (· (assumption)); (· ((with_reducible repeat' first | exact mem_h _ _ | apply mem_t); done)); (· (rfl)); (· (assumption)); (· (rfl)); (· (rfl))))
        | ((with_reducible apply wo_load1z H); (· ((with_reducible repeat' first | exact mem_h _ _ | apply mem_t); done)); (· (rfl)); (· ((first | rfl | assumption))))
        | simp (disch := (first | assumption | omega)) only [eq_self, Option.some.injEq, I, v0, v3, v17, v18])

      all_goals first | (exfalso; omega) | skip
      refine ⟨ls.length - (k + 1), by omega, k + 1, xs, rfl, by omega, hns.symm, by trivial, by trivial, by trivial, by rw [show ((k + 1 : Nat) : Int) = (k : Int) + 1 from by omega], ?_⟩
      exact H.sub (by (with_reducible repeat' first | exact List.Sublist.refl _ | apply List.Sublist.cons_cons | apply List.Sublist.cons); done) (by (repeat' (first | exact znil | (apply zcons; (· ((with_reducible repeat' first | exact mem_h _ _ | apply mem_t); done))))); done)
  · have hkn : k = ls.length := by omega
    rw [hkn, List.take_length] at hxs hxl
    have hcx : c = xs.length := by omega
    subst hcx
    ((with_reducible apply wc_c (fun i => Nat.beq i 0 || Nat.beq i 2 || Nat.beq i 3 || Nat.beq i 4 || Nat.beq i 17 || Nat.beq i 18 || Nat.beq i 19 || Nat.beq i 29)); intro e he; have w9 := he 0 rfl; (try simp only [v0] at w9); replace v0 := w9; clear w9; have w9 := he 2 rfl; (try simp only [T.get_put, Nat.reduceEqDiff, reduceIte] at w9); have v2 := w9; clear w9; have w9 := he 3 rfl; (try simp only [v3] at w9); replace v3 := w9; clear w9; have w9 := he 4 rfl; (try simp only [T.get_put, Nat.reduceEqDiff, reduceIte] at w9); have v4 := w9; clear w9; have w9 := he 17 rfl; (try simp only [v17] at w9); replace v17 := w9; clear w9; have w9 := he 18 rfl; (try simp only [v18] at w9); replace v18 := w9; clear w9; have w9 := he 19 rfl; (try simp only [T.get_put, Nat.reduceEqDiff, reduceIte] at w9); have v19 := w9; clear w9; have w9 := he 29 rfl; (try simp only [T.get_put, Nat.reduceEqDiff, reduceIte] at w9); have v29 := w9; clear w9; clear he)
    repeat' (first
      | with_reducible apply wc_seq
      | ((with_reducible apply wc_region); (· (rfl)))
      | with_reducible apply wo_some
      | ((with_reducible apply wc_cond); (· (simp (disch := (first | assumption | omega)) only [ev, Option.some.injEq, v19] <;> rfl)); all_goals (intro hg; (try (try simp only [Bool.not_eq_true'] at hg)); first | (exfalso; exact Bool.noConfusion hg) | (exfalso; exact hg) | skip))
      | with_reducible apply wc_exit
      | with_reducible apply wc_ret
      | with_reducible apply nx_e
      | ((with_reducible apply bx_hit); (· (rfl)))
      | ((with_reducible apply nx_c (fun i => Nat.beq i 0 || Nat.beq i 2 || Nat.beq i 3 || Nat.beq i 4 || Nat.beq i 17 || Nat.beq i 18 || Nat.beq i 19 || Nat.beq i 29)); intro e he; have w0 := he 0 rfl; have w2 := he 2 rfl; have w3 := he 3 rfl; have w4 := he 4 rfl; have w17 := he 17 rfl; have w18 := he 18 rfl; have w19 := he 19 rfl; have w29 := he 29 rfl; (try simp only [T.get_put, Nat.reduceEqDiff, reduceIte, v0, v2, v3, v4, v17, v18, v19, v29] at w0 w2 w3 w4 w17 w18 w19 w29); clear he v0 v2 v3 v4 v17 v18 v19 v29; have v0 := w0; have v2 := w2; have v3 := w3; have v4 := w4; have v17 := w17; have v18 := w18; have v19 := w19; have v29 := w29; clear w0 w2 w3 w4 w17 w18 w19 w29)
      | ((with_reducible apply wo_eq); (· (simp (disch := (first | assumption | omega)) only [eq_self, opsA_cons, opsA_nil, wantedA, stepA_t, callA, runOp_n, opA, ev, afterA_s, putA, T.get_put, reduceIte, oBin, binA, binG, binL, aggO, litA, I, Bo, ii_lss, withH_s, dec_f, v3, v17, v18]; exact rfl)))
      | ((first | with_reducible apply wv_ret | with_reducible apply wv_end); (· ((repeat' (first | with_reducible exact rs_nil | ((with_reducible apply rs_tmp); (· (simp (disch := (first | assumption | omega)) only [Option.some.injEq, v2] <;> rfl))) | ((with_reducible apply rs_cell); (· (simp (disch := (first | assumption | omega)) only [ev, T.get_put, Nat.reduceEqDiff, reduceIte, Option.some.injEq, dec_t, dec_f, Bool.not_true, Bool.not_false, v0, v2, v3, v4, v17, v18, v19, v29, conv40, conv3, conv2, uu_eql, uu_neq, uu_gtr, uu_lss, uu_add, uu_sub, wrap_u32k, rws_len] <;> rfl)); (· (kernel_rfl)); (· (rfl)); (· (exact H.ld1 (by (with_reducible repeat' first | exact mem_h _ _ | apply mem_t); done) rfl))) | ((with_reducible apply rs_celln); (· (simp (disch := (first | assumption | omega)) only [ev, T.get_put, Nat.reduceEqDiff, reduceIte, Option.some.injEq, dec_t, dec_f, Bool.not_true, Bool.not_false, v0, v2, v3, v4, v17, v18, v19, v29, conv40, conv3, conv2, uu_eql, uu_neq, uu_gtr, uu_lss, uu_add, uu_sub, wrap_u32k, rws_len] <;> rfl)); (· (kernel_rfl)); (· (rfl)); (· (exact H.ldn (by (with_reducible repeat' first | exact mem_h _ _ | apply mem_t); done) rfl rfl))))); done))))

    all_goals first | (exfalso; omega) | skip
    have bq : Blks id h q (roomH xs xs.length).flatten := H.p (a := blk id q _) (by (with_reducible repeat' first | exact mem_h _ _ | apply mem_t); done)
    rw [← hxs]
    refine ⟨_, rfl, ⟨blk_isR (c2h_len xs) bq (fun j x hj => ?_), rfl⟩, H.toExt, fun m hm => by cases hm; exact fq⟩
    unfold roomH
    rw [Nat.sub_self, List.replicate_zero, List.append_nil]
    exact hj


end Go.Proofs.Ytolpndlnabodgaa
