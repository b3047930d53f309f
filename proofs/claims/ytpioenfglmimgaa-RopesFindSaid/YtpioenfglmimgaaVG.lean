import Derived.Test.YtpioenfglmimgaaVF
import Derived.KernelRfl
namespace Go.Proofs.Ytpioenfglmimgaa
open Go Go.Proofs Go.RowKit Go.Proofs.Abs
set_option linter.unusedSimpArgs false
set_option linter.unusedVariables false
theorem get_l {l r : List Int} {s : Int} {i : Nat} (h : i < l.length) : (l ++ s :: r)[i]? = l[i]? := List.getElem?_append_left h
theorem get_m {l r : List Int} {s : Int} : (l ++ s :: r)[l.length]? = some s := by rw [List.getElem?_append_right (Nat.le_refl _), Nat.sub_self]; rfl
theorem get_r {l r : List Int} {s : Int} {k : Nat} : (l ++ s :: r)[l.length + 1 + k]? = r[k]? := by rw [List.getElem?_append_right (by omega), show l.length + 1 + k - l.length = k + 1 from by omega, List.getElem?_cons_succ]
set_option maxHeartbeats 4000000 in
theorem c16 {n : Nat} (hn : 3 ≤ n) {b : Hp} {g : GT} (pg : g.ok b) (gd : GT.Good g.lst) (bl : g.bal) {j : Nat} {v : Int} (hj : g.lst[j]? = some v) : Wv (runA ctx 5000 n 16 [.agg [g.val], I (j : Int)] b) (fun x h' => x = .tup [I v, I 0] ∧ Ext b h') := by
  obtain ⟨k, rfl⟩ : ∃ k, n = k + 1 := ⟨n - 1, by omega⟩
  have s1 := gd.sm
  have hh := GT.bal_hgt bl s1.2.2
  have hlen := GT.len g
  have H := (Hs.start b).z0 (z := tre g) pg
  have hjl := (List.getElem?_eq_some_iff.1 hj).1
  refine wv_run fn16 rfl ?_
  have a0 : (enterEnv [.agg [g.val], I (j : Int)] Try.f16.ntmps).get 0 = some (.agg [g.val]) := enter_get1 _ _ _
  have a1 : (enterEnv [.agg [g.val], I (j : Int)] Try.f16.ntmps).get 1 = some (I (j : Int)) := enter_get2 _ _ _ _
  generalize enterEnv [.agg [g.val], I (j : Int)] Try.f16.ntmps = e at a0 a1 ⊢
  unfold Try.f16
  dsimp only
  ((with_reducible apply wc_c (fun i => Nat.beq i 0 || Nat.beq i 1 || Nat.beq i 2 || Nat.beq i 4 || Nat.beq i 5 || Nat.beq i 6 || Nat.beq i 14 || Nat.beq i 23 || Nat.beq i 30)); intro e he; have w9 := he 0 rfl; (try simp only [a0] at w9); have v0 := w9; clear w9; have w9 := he 1 rfl; (try simp only [a1] at w9); have v1 := w9; clear w9; have w9 := he 2 rfl; (try simp only [T.get_put, Nat.reduceEqDiff, reduceIte] at w9); have v2 := w9; clear w9; have w9 := he 4 rfl; (try simp only [T.get_put, Nat.reduceEqDiff, reduceIte] at w9); have v4 := w9; clear w9; have w9 := he 5 rfl; (try simp only [T.get_put, Nat.reduceEqDiff, reduceIte] at w9); have v5 := w9; clear w9; have w9 := he 6 rfl; (try simp only [T.get_put, Nat.reduceEqDiff, reduceIte] at w9); have v6 := w9; clear w9; have w9 := he 14 rfl; (try simp only [T.get_put, Nat.reduceEqDiff, reduceIte] at w9); have v14 := w9; clear w9; have w9 := he 23 rfl; (try simp only [T.get_put, Nat.reduceEqDiff, reduceIte] at w9); have v23 := w9; clear w9; have w9 := he 30 rfl; (try simp only [T.get_put, Nat.reduceEqDiff, reduceIte] at w9); have v30 := w9; clear w9; clear he)
  repeat' (first
    | with_reducible apply wc_seq
    | ((with_reducible apply wc_region); (· (rfl)))
    | with_reducible apply wo_some
    | ((with_reducible apply wc_cond); (· (simp (disch := (first | assumption | omega)) only [ev, Option.some.injEq, v14] <;> rfl)); all_goals (intro hg; (try (try simp only [Bool.not_eq_true'] at hg)); first | (exfalso; exact Bool.noConfusion hg) | (exfalso; exact hg) | skip))
    | with_reducible apply wc_block
    | with_reducible apply wc_skip
    | (simp only [cells_agg] at H)
    | ((with_reducible apply nx_c (fun i => Nat.beq i 0 || Nat.beq i 1 || Nat.beq i 2 || Nat.beq i 4 || Nat.beq i 5 || Nat.beq i 6 || Nat.beq i 14 || Nat.beq i 23 || Nat.beq i 30)); intro e he; have w0 := he 0 rfl; have w1 := he 1 rfl; have w2 := he 2 rfl; have w4 := he 4 rfl; have w5 := he 5 rfl; have w6 := he 6 rfl; have w14 := he 14 rfl; have w23 := he 23 rfl; have w30 := he 30 rfl; (try simp only [T.get_put, Nat.reduceEqDiff, reduceIte, v0, v1, v2, v4, v5, v6, v14, v23, v30] at w0 w1 w2 w4 w5 w6 w14 w23 w30); clear he v0 v1 v2 v4 v5 v6 v14 v23 v30; have v0 := w0; have v1 := w1; have v2 := w2; have v4 := w4; have v5 := w5; have v6 := w6; have v14 := w14; have v23 := w23; have v30 := w30; clear w0 w1 w2 w4 w5 w6 w14 w23 w30)
    | ((with_reducible apply wo_eq); (· (simp (disch := (first | assumption | omega)) only [beq_self_eq_true, eq_self, opsA_cons, opsA_nil, wantedA, guardA, yieldA, stepA_t, callA, calleeA, targetA, runOp_c, runOp_n, opA, ev, evs, consO, consOO, pickA, afterA_s, putA, T.get_put, Nat.reduceEqDiff, reduceIte, List.getElem?_toArray, List.getElem?_cons_zero, List.getElem?_cons_succ, oBin, binA, binG, binL, aggO, litA, cond_true, Bool.not_true, blt_eq, I, Bo, fieldAddrA, oFieldAddr, Nat.add_zero, Nat.reduceLT, ty25, ti25, ty27, ti27, ii_lss, ii_geq, withH_s, dec_t, dec_f, id_eq, List.take_succ_cons, List.take_zero, List.drop_zero, Nat.add_zero, v0, v1, v2]; exact rfl)))
    | (((with_reducible apply wo_call); (· ((with_reducible apply c36); (· (omega)); (· (exact H.tok (by (with_reducible repeat' first | exact mem_h _ _ | apply mem_t); done))))); rintro _ h ⟨rfl, x1⟩; replace H := H.ext x1; clear x1))
    | ((with_reducible apply wo_box H); clear H; intro n h H0n H)
    | ((with_reducible apply wo_load1 H); (· ((with_reducible repeat' first | exact mem_h _ _ | apply mem_t); done)); (· (rfl)); (· ((first | rfl | assumption))))
    | ((with_reducible apply wo_loadn H); (· ((with_reducible repeat' first | exact mem_h _ _ | apply mem_t); done)); (· (rfl)); (· (rfl)); (· (rfl)))
    | simp (disch := (first | assumption | omega)) only [I])

  all_goals first | (exfalso; omega) | skip
  refine wc_loop (fun m e h' => ∃ (t : GT) (i : Nat), m = t.hgt ∧ e.get 1 = some (I (i : Int)) ∧ e.get 6 = some t.val ∧ t.lst[i]? = some v ∧ t.cnt ≤ 4096 ∧ t.ok h' ∧ h' = h) g.hgt ?_ ⟨g, j, rfl, v1, v6, hj, s1.2.2, H.tok (by (with_reducible repeat' first | exact mem_h _ _ | apply mem_t); done), rfl⟩ ?_
  · omega
  · clear v1 v6
    rintro m e h ⟨t, i, rfl, v1, v6, ht, hc4, tok, rfl⟩
    cases t with
    | nil => simp [GT.lst] at ht
    | nd n1 l s r =>
      have Q := rdn tok
      simp only [ti2, ti25] at Q
      have hlc := GT.len l
      have hrc := GT.len r
      have hhl := GT.hgt_nd n1 l s r
      rw [GT.cnt_nd] at hc4
      have hil := (List.getElem?_eq_some_iff.1 ht).1
      rw [GT.len, GT.cnt_nd] at hil
      rw [GT.lst] at ht
      rcases Nat.lt_trichotomy i l.cnt with h3 | h3 | h3
      · rw [get_l (by omega)] at ht
        ((with_reducible apply wc_c (fun i => Nat.beq i 0 || Nat.beq i 1 || Nat.beq i 2 || Nat.beq i 4 || Nat.beq i 5 || Nat.beq i 6 || Nat.beq i 14 || Nat.beq i 23 || Nat.beq i 30)); intro e he; have w9 := he 0 rfl; (try simp only [T.get_put, Nat.reduceEqDiff, reduceIte] at w9); have v0 := w9; clear w9; have w9 := he 1 rfl; (try simp only [v1] at w9); replace v1 := w9; clear w9; have w9 := he 2 rfl; (try simp only [T.get_put, Nat.reduceEqDiff, reduceIte] at w9); have v2 := w9; clear w9; have w9 := he 4 rfl; (try simp only [T.get_put, Nat.reduceEqDiff, reduceIte] at w9); have v4 := w9; clear w9; have w9 := he 5 rfl; (try simp only [T.get_put, Nat.reduceEqDiff, reduceIte] at w9); have v5 := w9; clear w9; have w9 := he 6 rfl; (try simp only [v6] at w9); replace v6 := w9; clear w9; have w9 := he 14 rfl; (try simp only [T.get_put, Nat.reduceEqDiff, reduceIte] at w9); have v14 := w9; clear w9; have w9 := he 23 rfl; (try simp only [T.get_put, Nat.reduceEqDiff, reduceIte] at w9); have v23 := w9; clear w9; have w9 := he 30 rfl; (try simp only [T.get_put, Nat.reduceEqDiff, reduceIte] at w9); have v30 := w9; clear w9; clear he)
        repeat' (first
          | with_reducible apply wc_seq
          | ((with_reducible apply wc_region); (· (rfl)))
          | with_reducible apply wo_some
          | ((with_reducible apply wc_cond); (· (simp (disch := (first | assumption | omega)) only [ev, Option.some.injEq, v23, v30] <;> rfl)); all_goals (intro hg; (try (try simp only [Bool.not_eq_true'] at hg)); first | (exfalso; exact Bool.noConfusion hg) | (exfalso; exact hg) | skip))
          | with_reducible apply wc_block
          | with_reducible apply wc_skip
          | with_reducible apply wc_exit
          | with_reducible apply nx_e
          | ((with_reducible apply bx_hit); (· (rfl)))
          | ((with_reducible apply nx_c (fun i => Nat.beq i 0 || Nat.beq i 1 || Nat.beq i 2 || Nat.beq i 4 || Nat.beq i 5 || Nat.beq i 6 || Nat.beq i 14 || Nat.beq i 23 || Nat.beq i 30)); intro e he; have w0 := he 0 rfl; have w1 := he 1 rfl; have w2 := he 2 rfl; have w4 := he 4 rfl; have w5 := he 5 rfl; have w6 := he 6 rfl; have w14 := he 14 rfl; have w23 := he 23 rfl; have w30 := he 30 rfl; (try simp only [T.get_put, Nat.reduceEqDiff, reduceIte, v0, v1, v2, v4, v5, v6, v14, v23, v30] at w0 w1 w2 w4 w5 w6 w14 w23 w30); clear he v0 v1 v2 v4 v5 v6 v14 v23 v30; have v0 := w0; have v1 := w1; have v2 := w2; have v4 := w4; have v5 := w5; have v6 := w6; have v14 := w14; have v23 := w23; have v30 := w30; clear w0 w1 w2 w4 w5 w6 w14 w23 w30)
          | ((with_reducible apply wo_eq); (· (simp (disch := (first | assumption | omega)) only [eq_self, opsA_cons, opsA_nil, wantedA, stepA_t, callA, calleeA, targetA, runOp_c, runOp_n, opA, ev, evs, consO, consOO, afterA_s, putA, T.get_put, Nat.reduceEqDiff, reduceIte, List.getElem?_toArray, List.getElem?_cons_zero, oBin, binA, binG, binL, aggO, litA, cond_true, Bool.not_false, blt_eq, I, Bo, fieldAddrA, oFieldAddr, Nat.add_zero, Nat.reduceLT, ty25, ti25, ty75, ti75, ii_lss, ii_neq, withH_s, nck, dec_t, dec_f, Nat.add_zero, v1, v6, Q]; exact rfl)))
          | (((with_reducible apply wo_call); (· ((with_reducible apply c42); (· (omega)); (· (first | exact tok.2.1 | exact tok.2.2)))); rintro _ h ⟨rfl, rfl⟩))
          | simp (disch := (first | assumption | omega)) only [eq_self, Option.some.injEq, I, v1, v6])
        all_goals (first | first | (exfalso; omega) | exact ⟨l.hgt, by omega, l, i, rfl, by trivial, by trivial, ht, by omega, tok.2.1, by trivial⟩ | trace_state)
      · obtain rfl : i = l.lst.length := by omega
        rw [get_m] at ht
        cases ht
        ((with_reducible apply wc_c (fun i => Nat.beq i 0 || Nat.beq i 1 || Nat.beq i 2 || Nat.beq i 4 || Nat.beq i 5 || Nat.beq i 6 || Nat.beq i 14 || Nat.beq i 23 || Nat.beq i 30)); intro e he; have w9 := he 0 rfl; (try simp only [T.get_put, Nat.reduceEqDiff, reduceIte] at w9); have v0 := w9; clear w9; have w9 := he 1 rfl; (try simp only [v1] at w9); replace v1 := w9; clear w9; have w9 := he 2 rfl; (try simp only [T.get_put, Nat.reduceEqDiff, reduceIte] at w9); have v2 := w9; clear w9; have w9 := he 4 rfl; (try simp only [T.get_put, Nat.reduceEqDiff, reduceIte] at w9); have v4 := w9; clear w9; have w9 := he 5 rfl; (try simp only [T.get_put, Nat.reduceEqDiff, reduceIte] at w9); have v5 := w9; clear w9; have w9 := he 6 rfl; (try simp only [v6] at w9); replace v6 := w9; clear w9; have w9 := he 14 rfl; (try simp only [T.get_put, Nat.reduceEqDiff, reduceIte] at w9); have v14 := w9; clear w9; have w9 := he 23 rfl; (try simp only [T.get_put, Nat.reduceEqDiff, reduceIte] at w9); have v23 := w9; clear w9; have w9 := he 30 rfl; (try simp only [T.get_put, Nat.reduceEqDiff, reduceIte] at w9); have v30 := w9; clear w9; clear he)
        repeat' (first
          | with_reducible apply wc_seq
          | ((with_reducible apply wc_region); (· (rfl)))
          | with_reducible apply wo_some
          | ((with_reducible apply wc_cond); (· (simp (disch := (first | assumption | omega)) only [ev, Option.some.injEq, v23] <;> rfl)); all_goals (intro hg; (try (try simp only [Bool.not_eq_true'] at hg)); first | (exfalso; exact Bool.noConfusion hg) | (exfalso; exact hg) | skip))
          | with_reducible apply wc_exit
          | with_reducible apply wc_ret
          | with_reducible apply nx_e
          | ((with_reducible apply bx_hit); (· (rfl)))
          | ((with_reducible apply nx_c (fun i => Nat.beq i 0 || Nat.beq i 1 || Nat.beq i 2 || Nat.beq i 4 || Nat.beq i 5 || Nat.beq i 6 || Nat.beq i 14 || Nat.beq i 23 || Nat.beq i 30)); intro e he; have w0 := he 0 rfl; have w1 := he 1 rfl; have w2 := he 2 rfl; have w4 := he 4 rfl; have w5 := he 5 rfl; have w6 := he 6 rfl; have w14 := he 14 rfl; have w23 := he 23 rfl; have w30 := he 30 rfl; (try simp only [T.get_put, Nat.reduceEqDiff, reduceIte, v0, v1, v2, v4, v5, v6, v14, v23, v30] at w0 w1 w2 w4 w5 w6 w14 w23 w30); clear he v0 v1 v2 v4 v5 v6 v14 v23 v30; have v0 := w0; have v1 := w1; have v2 := w2; have v4 := w4; have v5 := w5; have v6 := w6; have v14 := w14; have v23 := w23; have v30 := w30; clear w0 w1 w2 w4 w5 w6 w14 w23 w30)
          | ((with_reducible apply wo_eq); (· (simp (disch := (first | assumption | omega)) only [eq_self, opsA_cons, opsA_nil, wantedA, stepA_t, callA, calleeA, targetA, runOp_c, runOp_n, opA, ev, evs, consO, consOO, afterA_s, putA, T.get_put, Nat.reduceEqDiff, reduceIte, List.getElem?_toArray, List.getElem?_cons_zero, List.getElem?_cons_succ, oBin, binA, binG, binL, aggO, litA, cond_true, Bool.not_true, blt_eq, I, Bo, fieldAddrA, oFieldAddr, Nat.zero_add, Nat.add_zero, Nat.reduceLT, ty2, ti2, ty25, ti25, ty75, ti75, ii_neq, withH_s, nck, dec_t, Nat.zero_add, Nat.add_zero, v1, v6, Q, hlc]; exact rfl)))
          | (((with_reducible apply wo_call); (· ((with_reducible apply c42); (· (omega)); (· (first | exact tok.2.1 | exact tok.2.2)))); rintro _ h ⟨rfl, rfl⟩))
          | ((first | with_reducible apply wv_ret | with_reducible apply wv_end); (· ((repeat' (first | with_reducible exact rs_nil | ((with_reducible apply rs_tmp); (· (simp (disch := (first | assumption | omega)) only [Option.some.injEq, v4, v5] <;> rfl))) | ((with_reducible apply rs_cell); (· (simp (disch := (first | assumption | omega)) only [ev, T.get_put, Nat.reduceEqDiff, reduceIte, Option.some.injEq, dec_t, dec_f, Bool.not_true, Bool.not_false, v0, v1, v2, v4, v5, v6, v14, v23, v30, Q, hlc] <;> rfl)); (· (kernel_rfl)); (· (rfl)); (· (exact H.ld1 (by (with_reducible repeat' first | exact mem_h _ _ | apply mem_t); done) rfl))) | ((with_reducible apply rs_celln); (· (simp (disch := (first | assumption | omega)) only [ev, T.get_put, Nat.reduceEqDiff, reduceIte, Option.some.injEq, dec_t, dec_f, Bool.not_true, Bool.not_false, v0, v1, v2, v4, v5, v6, v14, v23, v30, Q, hlc] <;> rfl)); (· (kernel_rfl)); (· (rfl)); (· (exact H.ldn (by (with_reducible repeat' first | exact mem_h _ _ | apply mem_t); done) rfl rfl))))); done))))
        all_goals (first | first | (exfalso; omega) | exact ⟨rfl, H.toExt⟩ | trace_state)
      · obtain ⟨k2, rfl⟩ : ∃ k2, i = l.lst.length + 1 + k2 := ⟨i - l.cnt - 1, by omega⟩
        rw [get_r] at ht
        have hik : ((l.lst.length + 1 + k2 : Nat) : Int) - ((l.cnt : Int) + 1) = (k2 : Int) := by omega
        ((with_reducible apply wc_c (fun i => Nat.beq i 0 || Nat.beq i 1 || Nat.beq i 2 || Nat.beq i 4 || Nat.beq i 5 || Nat.beq i 6 || Nat.beq i 14 || Nat.beq i 23 || Nat.beq i 30)); intro e he; have w9 := he 0 rfl; (try simp only [T.get_put, Nat.reduceEqDiff, reduceIte] at w9); have v0 := w9; clear w9; have w9 := he 1 rfl; (try simp only [v1] at w9); replace v1 := w9; clear w9; have w9 := he 2 rfl; (try simp only [T.get_put, Nat.reduceEqDiff, reduceIte] at w9); have v2 := w9; clear w9; have w9 := he 4 rfl; (try simp only [T.get_put, Nat.reduceEqDiff, reduceIte] at w9); have v4 := w9; clear w9; have w9 := he 5 rfl; (try simp only [T.get_put, Nat.reduceEqDiff, reduceIte] at w9); have v5 := w9; clear w9; have w9 := he 6 rfl; (try simp only [v6] at w9); replace v6 := w9; clear w9; have w9 := he 14 rfl; (try simp only [T.get_put, Nat.reduceEqDiff, reduceIte] at w9); have v14 := w9; clear w9; have w9 := he 23 rfl; (try simp only [T.get_put, Nat.reduceEqDiff, reduceIte] at w9); have v23 := w9; clear w9; have w9 := he 30 rfl; (try simp only [T.get_put, Nat.reduceEqDiff, reduceIte] at w9); have v30 := w9; clear w9; clear he)
        repeat' (first
          | with_reducible apply wc_seq
          | ((with_reducible apply wc_region); (· (rfl)))
          | with_reducible apply wo_some
          | ((with_reducible apply wc_cond); (· (simp (disch := (first | assumption | omega)) only [ev, Option.some.injEq, v23, v30] <;> rfl)); all_goals (intro hg; (try (try simp only [Bool.not_eq_true'] at hg)); first | (exfalso; exact Bool.noConfusion hg) | (exfalso; exact hg) | skip))
          | with_reducible apply wc_block
          | with_reducible apply wc_skip
          | with_reducible apply bx_n
          | ((with_reducible apply nx_c (fun i => Nat.beq i 0 || Nat.beq i 1 || Nat.beq i 2 || Nat.beq i 4 || Nat.beq i 5 || Nat.beq i 6 || Nat.beq i 14 || Nat.beq i 23 || Nat.beq i 30)); intro e he; have w0 := he 0 rfl; have w1 := he 1 rfl; have w2 := he 2 rfl; have w4 := he 4 rfl; have w5 := he 5 rfl; have w6 := he 6 rfl; have w14 := he 14 rfl; have w23 := he 23 rfl; have w30 := he 30 rfl; (try simp only [T.get_put, Nat.reduceEqDiff, reduceIte, v0, v1, v2, v4, v5, v6, v14, v23, v30] at w0 w1 w2 w4 w5 w6 w14 w23 w30); clear he v0 v1 v2 v4 v5 v6 v14 v23 v30; have v0 := w0; have v1 := w1; have v2 := w2; have v4 := w4; have v5 := w5; have v6 := w6; have v14 := w14; have v23 := w23; have v30 := w30; clear w0 w1 w2 w4 w5 w6 w14 w23 w30)
          | ((with_reducible apply wo_eq); (· (simp (disch := (first | assumption | omega)) only [eq_self, opsA_cons, opsA_nil, wantedA, stepA_t, callA, calleeA, targetA, runOp_c, runOp_n, opA, ev, evs, consO, consOO, afterA_s, putA, T.get_put, Nat.reduceEqDiff, reduceIte, List.getElem?_toArray, List.getElem?_cons_zero, List.getElem?_cons_succ, oBin, binA, binG, binL, aggO, litA, cond_true, Bool.not_false, blt_eq, I, Bo, fieldAddrA, oFieldAddr, Nat.zero_add, Nat.add_zero, Nat.reduceLT, ty25, ti25, ty75, ti75, ii_add, ii_sub, ii_lss, ii_neq, withH_s, nck, dec_t, dec_f, wrap_ok, Nat.zero_add, Nat.add_zero, v1, v6, Q, hik]; exact rfl)))
          | (((with_reducible apply wo_call); (· ((with_reducible apply c42); (· (omega)); (· (first | exact tok.2.1 | exact tok.2.2)))); rintro _ h ⟨rfl, rfl⟩))
          | simp (disch := (first | assumption | omega)) only [eq_self, Option.some.injEq, I, v1, v6])
        all_goals (first | first | (exfalso; omega) | exact ⟨r.hgt, by omega, r, k2, rfl, by trivial, by trivial, ht, by omega, tok.2.2, by trivial⟩ | trace_state)
set_option maxHeartbeats 4000000 in
theorem c16e {n : Nat} (hn : 3 ≤ n) {b : Hp} {g : GT} (pg : g.ok b) (gd : GT.Good g.lst) (bl : g.bal) {i : Int} (hi : i < 0 ∨ (g.cnt : Int) ≤ i) : Wv (runA ctx 5000 n 16 [.agg [g.val], I i] b) (fun x h' => x = .tup [I 0, I 4] ∧ Ext b h') := by
  obtain ⟨k, rfl⟩ : ∃ k, n = k + 1 := ⟨n - 1, by omega⟩
  have s1 := gd.sm
  have hh := GT.bal_hgt bl s1.2.2
  have hlen := GT.len g
  have H := (Hs.start b).z0 (z := tre g) pg
  refine wv_run fn16 rfl ?_
  have a0 : (enterEnv [.agg [g.val], I i] Try.f16.ntmps).get 0 = some (.agg [g.val]) := enter_get1 _ _ _
  have a1 : (enterEnv [.agg [g.val], I i] Try.f16.ntmps).get 1 = some (I i) := enter_get2 _ _ _ _
  generalize enterEnv [.agg [g.val], I i] Try.f16.ntmps = e at a0 a1 ⊢
  unfold Try.f16
  dsimp only
  ((with_reducible apply wc_c (fun i => Nat.beq i 0 || Nat.beq i 1 || Nat.beq i 2 || Nat.beq i 4 || Nat.beq i 5 || Nat.beq i 6 || Nat.beq i 14 || Nat.beq i 23 || Nat.beq i 30)); intro e he; have w9 := he 0 rfl; (try simp only [a0] at w9); have v0 := w9; clear w9; have w9 := he 1 rfl; (try simp only [a1] at w9); have v1 := w9; clear w9; have w9 := he 2 rfl; (try simp only [T.get_put, Nat.reduceEqDiff, reduceIte] at w9); have v2 := w9; clear w9; have w9 := he 4 rfl; (try simp only [T.get_put, Nat.reduceEqDiff, reduceIte] at w9); have v4 := w9; clear w9; have w9 := he 5 rfl; (try simp only [T.get_put, Nat.reduceEqDiff, reduceIte] at w9); have v5 := w9; clear w9; have w9 := he 6 rfl; (try simp only [T.get_put, Nat.reduceEqDiff, reduceIte] at w9); have v6 := w9; clear w9; have w9 := he 14 rfl; (try simp only [T.get_put, Nat.reduceEqDiff, reduceIte] at w9); have v14 := w9; clear w9; have w9 := he 23 rfl; (try simp only [T.get_put, Nat.reduceEqDiff, reduceIte] at w9); have v23 := w9; clear w9; have w9 := he 30 rfl; (try simp only [T.get_put, Nat.reduceEqDiff, reduceIte] at w9); have v30 := w9; clear w9; clear he)
  repeat' (first
    | with_reducible apply wc_seq
    | ((with_reducible apply wc_region); (· (rfl)))
    | with_reducible apply wo_some
    | ((with_reducible apply wc_cond); (· (simp (disch := (first | assumption | omega)) only [ev, Option.some.injEq, v14] <;> rfl)); all_goals (intro hg; (try (try simp only [Bool.not_eq_true'] at hg)); first | (exfalso; exact Bool.noConfusion hg) | (exfalso; exact hg) | skip))
    | with_reducible apply wc_ret
    | with_reducible apply nx_r
    | (simp only [cells_agg] at H)
    | ((with_reducible apply nx_c (fun i => Nat.beq i 0 || Nat.beq i 1 || Nat.beq i 2 || Nat.beq i 4 || Nat.beq i 5 || Nat.beq i 6 || Nat.beq i 14 || Nat.beq i 23 || Nat.beq i 30)); intro e he; have w0 := he 0 rfl; have w1 := he 1 rfl; have w2 := he 2 rfl; have w4 := he 4 rfl; have w5 := he 5 rfl; have w6 := he 6 rfl; have w14 := he 14 rfl; have w23 := he 23 rfl; have w30 := he 30 rfl; (try simp only [T.get_put, Nat.reduceEqDiff, reduceIte, v0, v1, v2, v4, v5, v6, v14, v23, v30] at w0 w1 w2 w4 w5 w6 w14 w23 w30); clear he v0 v1 v2 v4 v5 v6 v14 v23 v30; have v0 := w0; have v1 := w1; have v2 := w2; have v4 := w4; have v5 := w5; have v6 := w6; have v14 := w14; have v23 := w23; have v30 := w30; clear w0 w1 w2 w4 w5 w6 w14 w23 w30)
    | ((with_reducible apply wo_eq); (· (simp (disch := (first | assumption | omega)) only [beq_self_eq_true, eq_self, opsA_cons, opsA_nil, wantedA, guardA, yieldA, stepA_t, stepA_f, callA, calleeA, targetA, runOp_c, runOp_n, opA, ev, evs, consO, consOO, pickA, afterA_s, putA, T.get_put, Nat.reduceEqDiff, reduceIte, List.getElem?_cons_zero, List.getElem?_cons_succ, oBin, binA, binG, binL, aggO, litA, Bool.not_false, tf_beq, I, Bo, ty27, ti27, ii_lss, ii_geq, withH_s, dec_t, dec_f, List.take_succ_cons, List.take_zero, List.drop_zero, v0, v1, v2]; exact rfl)))
    | (((with_reducible apply wo_call); (· ((with_reducible apply c36); (· (omega)); (· (exact H.tok (by (with_reducible repeat' first | exact mem_h _ _ | apply mem_t); done))))); rintro _ h ⟨rfl, x1⟩; replace H := H.ext x1; clear x1))
    | ((with_reducible apply wo_box H); clear H; intro n h H0n H)
    | ((with_reducible apply wo_loadn H); (· ((with_reducible repeat' first | exact mem_h _ _ | apply mem_t); done)); (· (rfl)); (· (rfl)); (· (rfl)))
    | ((with_reducible apply wo_step) <;> intro hg <;> (try simp only [beq_false, Bool.not_eq_eq_eq_not, Bool.not_true, Bool.not_false, decide_eq_true_eq, decide_eq_false_iff_not] at hg) <;> (try subst hg) <;> (first | (exfalso; exact Bool.noConfusion hg) | skip))
    | ((first | with_reducible apply wv_ret | with_reducible apply wv_end); (· ((repeat' (first | with_reducible exact rs_nil | ((with_reducible apply rs_tmp); (· (simp (disch := (first | assumption | omega)) only [Option.some.injEq, v4, v5] <;> rfl))) | ((with_reducible apply rs_cell); (· (simp (disch := (first | assumption | omega)) only [ev, T.get_put, Nat.reduceEqDiff, reduceIte, Option.some.injEq, dec_t, dec_f, Bool.not_true, Bool.not_false, v0, v1, v2, v4, v5, v6, v14, v23, v30, GT.cells_val] <;> rfl)); (· (kernel_rfl)); (· (rfl)); (· (exact H.ld1 (by (with_reducible repeat' first | exact mem_h _ _ | apply mem_t); done) rfl))) | ((with_reducible apply rs_celln); (· (simp (disch := (first | assumption | omega)) only [ev, T.get_put, Nat.reduceEqDiff, reduceIte, Option.some.injEq, dec_t, dec_f, Bool.not_true, Bool.not_false, v0, v1, v2, v4, v5, v6, v14, v23, v30, GT.cells_val] <;> rfl)); (· (kernel_rfl)); (· (rfl)); (· (exact H.ldn (by (with_reducible repeat' first | exact mem_h _ _ | apply mem_t); done) rfl rfl))))); done)))
    | simp (disch := (first | assumption | omega)) only [I])

  all_goals (first | first | (exfalso; omega) | exact ⟨rfl, H.toExt⟩ | trace_state)
def setE (l : List Int) (v x : Int) : Int := if x < 0 ∨ 2305843009213693952 < x then 12 else if 4611686018427387904 - x < l.sum - v then 13 else 0
theorem set_split : ∀ {l : List Int} {j : Nat} {v : Int} (x : Int), l[j]? = some v → (l.set j x).sum = l.sum - v + x ∧ (∀ y, y ∈ l.set j x → y = x ∨ y ∈ l) := by
  intro l
  induction l with
  | nil => intro j v x h; cases h
  | cons a l ih =>
    intro j v x h
    cases j with
    | zero =>
      cases h
      rw [List.set_cons_zero, List.sum_cons, List.sum_cons]
      exact ⟨by omega, fun y hy => by
        rcases List.mem_cons.1 hy with h1 | h1
        · exact .inl h1
        · exact .inr (.tail _ h1)⟩
    | succ j =>
      obtain ⟨h1, h2⟩ := ih x (by simpa using h)
      rw [List.set_cons_succ, List.sum_cons, List.sum_cons, h1]
      exact ⟨by omega, fun y hy => by
        rcases List.mem_cons.1 hy with h3 | h3
        · exact .inr (h3 ▸ .head _)
        · rcases h2 y h3 with h4 | h4
          · exact .inl h4
          · exact .inr (.tail _ h4)⟩
/-- a list of its own, and a number, that come back -/
def RW (b h' : Hp) (x : AV) (e : Int) (L : List Int) : Prop := ∃ u, x = .tup [u, I e] ∧ Lc false h' u (L.map I) ∧ Ext b h' ∧ ∀ m, nmO u = some m → b.c ≤ m
end Go.Proofs.Ytpioenfglmimgaa
