import Derived.Test.YtpioenfglmimgaaVF
import Derived.KernelRfl
namespace Go.Proofs.Ytpioenfglmimgaa
open Go Go.Proofs Go.RowKit Go.Proofs.Abs
set_option linter.unusedSimpArgs false
set_option linter.unusedVariables false
theorem get_l {l r : List Int} {s : Int} {i : Nat} (h : i < l.length) : (l ++ s :: r)[i]? = l[i]? := List.getElem?_append_left h
theorem get_m {l r : List Int} {s : Int} : (l ++ s :: r)[l.length]? = some s := by rw [List.getElem?_append_right (Nat.le_refl _), Nat.sub_self]; rfl
theorem get_r {l r : List Int} {s : Int} {k : Nat} : (l ++ s :: r)[l.length + 1 + k]? = r[k]? := by rw [List.getElem?_append_right (by omega), show l.length + 1 + k - l.length = k + 1 from by omega, List.getElem?_cons_succ]
set_option maxHeartbeats 4000000 in
theorem c16 {n : Nat} (hn : 3 ≤ n) {b : Hp} {g : GT} (pg : g.ok b) (gd : GT.Good g.lst) (bl : g.bal) {j : Nat} {v : Int} (hj : g.lst[j]? = some v) : Wv (runA ctx 5000 n 16 [.agg [g.val], I (j : Int)] b) (fun x h' => x = .tup [I v, I 0] ∧ Ext b h') := by
  obtain ⟨k, rfl⟩ : ∃ k, n = k + 1 := ⟨n - 1, by omega⟩
  have s1 := gd.sm
  have hh := GT.bal_hgt bl s1.2.2
  have hlen := GT.len g
  have H := (Hs.start b).z0 (z := tre g) pg
  have hjl := (List.getElem?_eq_some_iff.1 hj).1
  refine wv_run fn16 rfl ?_
  have a0 : (enterEnv [.agg [g.val], I (j : Int)] Try.f16.ntmps).get 0 = some (.agg [g.val]) := enter_get1 _ _ _
  have a1 : (enterEnv [.agg [g.val], I (j : Int)] Try.f16.ntmps).get 1 = some (I (j : Int)) := enter_get2 _ _ _ _
  generalize enterEnv [.agg [g.val], I (j : Int)] Try.f16.ntmps = e at a0 a1 ⊢
  unfold Try.f16
  dsimp only
  ((with_reducible apply wc_c (fun i => Nat.beq i 0 || Nat.beq i 1 || Nat.beq i 2 || Nat.beq i 4 || Nat.beq i 5 || Nat.beq i 6 || Nat.beq i 14 || Nat.beq i 23 || Nat.beq i 30)); intro e he; have w9 := he 0 rfl; (try simp only [a0] at w9); have v0 := w9; clear w9; have w9 := he 1 rfl; (try simp only [a1] at w9); have v1 := w9; clear w9; have w9 := he 2 rfl; (try simp only [T.get_put, Nat.reduceEqDiff, reduceIte] at w9); have v2 := w9; clear w9; have w9 := he 4 rfl; (try simp only [T.get_put, Nat.reduceEqDiff, reduceIte] at w9); have v4 := w9; clear w9; have w9 := he 5 rfl; (try simp only [T.get_put, Nat.reduceEqDiff, reduceIte] at w9); have v5 := w9; clear w9; have w9 := he 6 rfl; (try simp only [T.get_put, Nat.reduceEqDiff, reduceIte] at w9); have v6 := w9; clear w9; have w9 := he 14 rfl; (try simp only [T.get_put, Nat.reduceEqDiff, reduceIte] at w9); have v14 := w9; clear w9; have w9 := he 23 rfl; (try simp only [T.get_put, Nat.reduceEqDiff, reduceIte] at w9); have v23 := w9; clear w9; have w9 := he 30 rfl; (try simp only [T.get_put, Nat.reduceEqDiff, reduceIte] at w9); have v30 := w9; clear w9; clear he)
  repeat' (first
    | with_reducible apply wc_seq
    | ((with_reducible apply wc_region); (· (rfl)))
    | with_reducible apply wo_some
    | ((with_reducible apply wc_cond); (· (simp (disch := (first | assumption | omega)) only [ev, Option.some.injEq, v14] <;> rfl)); all_goals (intro hg; (try (try simp only [Bool.not_eq_true'] at hg)); first | (exfalso; exact Bool.noConfusion hg) | (exfalso; exact hg) | skip))
    | with_reducible apply wc_block
    | with_reducible apply wc_skip
    | (simp only [cells_agg] at H)
    | ((with_reducible apply nx_c (fun i => Nat.beq i 0 || Nat.beq i 1 || Nat.beq i 2 || Nat.beq i 4 || Nat.beq i 5 || Nat.beq i 6 || Nat.beq i 14 || Nat.beq i 23 || Nat.beq i 30)); intro e he; have w0 := he 0 rfl; have w1 := he 1 rfl; have w2 := he 2 rfl; have w4 := he 4 rfl; have w5 := he 5 rfl; have w6 := he 6 rfl; have w14 := he 14 rfl; have w23 := he 23 rfl; have w30 := he 30 rfl; (try simp only [T.get_put, Nat.reduceEqDiff, reduceIte, v0, v1, v2, v4, v5, v6, v14, v23, v30] at w0 w1 w2 w4 w5 w6 w14 w23 w30); clear he v0 v1 v2 v4 v5 v6 v14 v23 v30; have v0 := w0; have v1 := w1; have v2 := w2; have v4 := w4; have v5 := w5; have v6 := w6; have v14 := w14; have v23 := w23; have v30 := w30; clear w0 w1 w2 w4 w5 w6 w14 w23 w30)
    | ((with_reducible apply wo_eq); (· (simp (disch := (first | assumption | omega)) only [beq_self_eq_true, eq_self, opsA_cons, opsA_nil, wantedA, guardA, yieldA, stepA_t, callA, calleeA, targetA, runOp_c, runOp_n, opA, ev, evs, consO, consOO, pickA, afterA_s, putA, T.get_put, Nat.reduceEqDiff, reduceIte, List.getElem?_toArray, List.getElem?_cons_zero, List.getElem?_cons_succ, oBin, binA, binG, binL, aggO, litA, cond_true, Bool.not_true, blt_eq, I, Bo, fieldAddrA, oFieldAddr, Nat.add_zero, Nat.reduceLT, ty25, ti25, ty27, ti27, ii_lss, ii_geq, withH_s, dec_t, dec_f, id_eq, List.take_succ_cons, List.take_zero, List.drop_zero, Nat.add_zero, v0, v1, v2]; exact rfl)))
    | (((with_reducible apply wo_call); (· ((with_reducible apply c36); (· (omega)); (· (exact H.tok (by (with_reducible repeat' first | exact mem_h _ _ | apply mem_t); done))))); rintro _ h ⟨rfl, x1⟩; replace H := H.ext x1; clear x1))
    | ((with_reducible apply wo_box H); clear H; intro n h H0n H)
    | ((with_reducible apply wo_load1 H); (· ((with_reducible repeat' first | exact mem_h _ _ | apply mem_t); done)); (· (rfl)); (· ((first | rfl | assumption))))
    | ((with_reducible apply wo_loadn H); (· ((with_reducible repeat' first | exact mem_h _ _ | apply mem_t); done)); (· (rfl)); (· (rfl)); (· (rfl)))
    | simp (disch := (first | assumption | omega)) only [I])

  all_goals first | (exfalso; omega) | skip
  refine wc_loop (fun m e h' => ∃ (t : GT) (i : Nat), m = t.hgt ∧ e.get 1 = some (I (i : Int)) ∧ e.get 6 = some t.val ∧ t.lst[i]? = some v ∧ t.cnt ≤ 4096 ∧ t.ok h' ∧ h' = h) g.hgt ?_ ⟨g, j, rfl, v1, v6, hj, s1.2.2, H.tok (by (with_reducible repeat' first | exact mem_h _ _ | apply mem_t); done), rfl⟩ ?_
  · omega
  · clear v1 v6
    rintro m e h ⟨t, i, rfl, v1, v6, ht, hc4, tok, rfl⟩
    cases t with
    | nil => simp [GT.lst] at ht
    | nd n1 l s r =>
      have Q := rdn tok
      simp only [ti2, ti25] at Q
      have hlc := GT.len l
      have hrc := GT.len r
      have hhl := GT.hgt_nd n1 l s r
      rw [GT.cnt_nd] at hc4
      have hil := (List.getElem?_eq_some_iff.1 ht).1
      rw [GT.len, GT.cnt_nd] at hil
      rw [GT.lst] at ht
      rcases Nat.lt_trichotomy i l.cnt with h3 | h3 | h3
      · rw [get_l (by omega)] at ht
        ((with_reducible apply wc_c (fun i => Nat.beq i 0 || Nat.beq i 1 || Nat.beq i 2 || Nat.beq i 4 || Nat.beq i 5 || Nat.beq i 6 || Nat.beq i 14 || Nat.beq i 23 || Nat.beq i 30)); intro e he; have w9 := he 0 rfl; (try simp only [T.get_put, Nat.reduceEqDiff, reduceIte] at w9); have v0 := w9; clear w9; have w9 := he 1 rfl; (try simp only [v1] at w9); replace v1 := w9; clear w9; have w9 := he 2 rfl; (try simp only [T.get_put, Nat.reduceEqDiff, reduceIte] at w9); have v2 := w9; clear w9; have w9 := he 4 rfl; (try simp only [T.get_put, Nat.reduceEqDiff, reduceIte] at w9); have v4 := w9; clear w9; have w9 := he 5 rfl; (try simp only [T.get_put, Nat.reduceEqDiff, reduceIte] at w9); have v5 := w9; clear w9; have w9 := he 6 rfl; (try simp only [v6] at w9); replace v6 := w9; clear w9; have w9 := he 14 rfl; (try simp only [T.get_put, Nat.reduceEqDiff, reduceIte] at w9); have v14 := w9; clear w9; have w9 := he 23 rfl; (try simp only [T.get_put, Nat.reduceEqDiff, reduceIte] at w9); have v23 := w9; clear w9; have w9 := he 30 rfl; (try simp only [T.get_put, Nat.reduceEqDiff, reduceIte] at w9); have v30 := w9; clear w9; clear he)
        repeat' (first
          | with_reducible apply wc_seq
          | ((with_reducible apply wc_region); (· (rfl)))
          | with_reducible apply wo_some
          | ((with_reducible apply wc_cond); (· (simp (disch := (first | assumption | omega)) only [ev, Option.some.injEq, v23, v30] <;> rfl)); all_goals (intro hg; (try (try simp only [Bool.not_eq_true'] at hg)); first | (exfalso; exact Bool.noConfusion hg) | (exfalso; exact hg) | skip))
          | with_reducible apply wc_block
          | with_reducible apply wc_skip
          | with_reducible apply wc_exit
          | with_reducible apply nx_e
          | ((with_reducible apply bx_hit); (· (rfl)))
          | ((with_reducible apply nx_c (fun i => Nat.beq i 0 || Nat.beq i 1 || Nat.beq i 2 || Nat.beq i 4 || Nat.beq i 5 || Nat.beq i 6 || Nat.beq i 14 || Nat.beq i 23 || Nat.beq i 30)); intro e he; have w0 := he 0 rfl; have w1 := he 1 rfl; have w2 := he 2 rfl; have w4 := he 4 rfl; have w5 := he 5 rfl; have w6 := he 6 rfl; have w14 := he 14 rfl; have w23 := he 23 rfl; have w30 := he 30 rfl; (try simp only [T.get_put, Nat.reduceEqDiff, reduceIte, v0, v1, v2, v4, v5, v6, v14, v23, v30] at w0 w1 w2 w4 w5 w6 w14 w23 w30); clear he v0 v1 v2 v4 v5 v6 v14 v23 v30; have v0 := w0; have v1 := w1; have v2 := w2; have v4 := w4; have v5 := w5; have v6 := w6; have v14 := w14; have v23 := w23; have v30 := w30; clear w0 w1 w2 w4 w5 w6 w14 w23 w30)
          | ((with_reducible apply wo_eq); (· (simp (disch := (first | assumption | omega)) only [eq_self, opsA_cons, opsA_nil, wantedA, stepA_t, callA, calleeA, targetA, runOp_c, runOp_n, opA, ev, evs, consO, consOO, afterA_s, putA, T.get_put, Nat.reduceEqDiff, reduceIte, List.getElem?_toArray, List.getElem?_cons_zero, oBin, binA, binG, binL, aggO, litA, cond_true, Bool.not_false, blt_eq, I, Bo, fieldAddrA, oFieldAddr, Nat.add_zero, Nat.reduceLT, ty25, ti25, ty75, ti75, ii_lss, ii_neq, withH_s, nck, dec_t, dec_f, Nat.add_zero, v1, v6, Q]; exact rfl)))
          | (((with_reducible apply wo_call); (· ((with_reducible apply c42); (· (omega)); (· (first | exact tok.2.1 | exact tok.2.2)))); rintro _ h ⟨rfl, rfl⟩))
          | simp (disch := (first | assumption | omega)) only [eq_self, Option.some.injEq, I, v1, v6])
        all_goals (first | first | (exfalso; omega) | exact ⟨l.hgt, by omega, l, i, rfl, by trivial, by trivial, ht, by omega, tok.2.1, by trivial⟩ | trace_state)
      · obtain rfl : i = l.lst.length := by omega
        rw [get_m] at ht
        cases ht
        ((with_reducible apply wc_c (fun i => Nat.beq i 0 || Nat.beq i 1 || Nat.beq i 2 || Nat.beq i 4 || Nat.beq i 5 || Nat.beq i 6 || Nat.beq i 14 || Nat.beq i 23 || Nat.beq i 30)); intro e he; have w9 := he 0 rfl; (try simp only [T.get_put, Nat.reduceEqDiff, reduceIte] at w9); have v0 := w9; clear w9; have w9 := he 1 rfl; (try simp only [v1] at w9); replace v1 := w9; clear w9; have w9 := he 2 rfl; (try simp only [T.get_put, Nat.reduceEqDiff, reduceIte] at w9); have v2 := w9; clear w9; have w9 := he 4 rfl; (try simp only [T.get_put, Nat.reduceEqDiff, reduceIte] at w9); have v4 := w9; clear w9; have w9 := he 5 rfl; (try simp only [T.get_put, Nat.reduceEqDiff, reduceIte] at w9); have v5 := w9; clear w9; have w9 := he 6 rfl; (try simp only [v6] at w9); replace v6 := w9; clear w9; have w9 := he 14 rfl; (try simp only [T.get_put, Nat.reduceEqDiff, reduceIte] at w9); have v14 := w9; clear w9; have w9 := he 23 rfl; (try simp only [T.get_put, Nat.reduceEqDiff, reduceIte] at w9); have v23 := w9; clear w9; have w9 := he 30 rfl; (try simp only [T.get_put, Nat.reduceEqDiff, reduceIte] at w9); have v30 := w9; clear w9; clear he)
        repeat' (first
          | with_reducible apply wc_seq
          | ((with_reducible apply wc_region); (· (rfl)))
          | with_reducible apply wo_some
          | ((with_reducible apply wc_cond); (· (simp (disch := (first | assumption | omega)) only [ev, Option.some.injEq, v23] <;> rfl)); all_goals (intro hg; (try (try simp only [Bool.not_eq_true'] at hg)); first | (exfalso; exact Bool.noConfusion hg) | (exfalso; exact hg) | skip))
          | with_reducible apply wc_exit
          | with_reducible apply wc_ret
          | with_reducible apply nx_e
          | ((with_reducible apply bx_hit); (· (rfl)))
          | ((with_reducible apply nx_c (fun i => Nat.beq i 0 || Nat.beq i 1 || Nat.beq i 2 || Nat.beq i 4 || Nat.beq i 5 || Nat.beq i 6 || Nat.beq i 14 || Nat.beq i 23 || Nat.beq i 30)); intro e he; have w0 := he 0 rfl; have w1 := he 1 rfl; have w2 := he 2 rfl; have w4 := he 4 rfl; have w5 := he 5 rfl; have w6 := he 6 rfl; have w14 := he 14 rfl; have w23 := he 23 rfl; have w30 := he 30 rfl; (try simp only [T.get_put, Nat.reduceEqDiff, reduceIte, v0, v1, v2, v4, v5, v6, v14, v23, v30] at w0 w1 w2 w4 w5 w6 w14 w23 w30); clear he v0 v1 v2 v4 v5 v6 v14 v23 v30; have v0 := w0; have v1 := w1; have v2 := w2; have v4 := w4; have v5 := w5; have v6 := w6; have v14 := w14; have v23 := w23; have v30 := w30; clear w0 w1 w2 w4 w5 w6 w14 w23 w30)
          | ((with_reducible apply wo_eq); (· (simp (disch := (first | assumption | omega)) only [eq_self, opsA_cons, opsA_nil, wantedA, stepA_t, callA, calleeA, targetA, runOp_c, runOp_n, opA, ev, evs, consO, consOO, afterA_s, putA, T.get_put, Nat.reduceEqDiff, reduceIte, List.getElem?_toArray, List.getElem?_cons_zero, List.getElem?_cons_succ, oBin, binA, binG, binL, aggO, litA, cond_true, Bool.not_true, blt_eq, I, Bo, fieldAddrA, oFieldAddr, Nat.zero_add, Nat.add_zero, Nat.reduceLT, ty2, ti2, ty25, ti25, ty75, ti75, ii_neq, withH_s, nck, dec_t, Nat.zero_add, Nat.add_zero, v1, v6, Q, hlc]; exact rfl)))
          | (((with_reducible apply wo_call); (· ((with_reducible apply c42); (· (omega)); (· (first | exact tok.2.1 | exact tok.2.2)))); rintro _ h ⟨rfl, rfl⟩))
          | ((first | with_reducible apply wv_ret | with_reducible apply wv_end); (· ((repeat' (first | with_reducible exact rs_nil | ((with_reducible apply rs_tmp); (· (simp (disch := (first | assumption | omega)) only [Option.some.injEq, v4, v5] <;> rfl))) | ((with_reducible apply rs_cell); (· (simp (disch := (first | assumption | omega)) only [ev, T.get_put, Nat.reduceEqDiff, reduceIte, Option.some.injEq, dec_t, dec_f, Bool.not_true, Bool.not_false, v0, v1, v2, v4, v5, v6, v14, v23, v30, Q, hlc] <;> rfl)); (· (kernel_rfl)); (· (rfl)); (· (exact H.ld1 (by (with_reducible repeat' first | exact mem_h _ _ | apply mem_t); done) rfl))) | ((with_reducible apply rs_celln); (· (simp (disch := (first | assumption | omega)) only [ev, T.get_put, Nat.reduceEqDiff, reduceIte, Option.some.injEq, dec_t, dec_f, Bool.not_true, Bool.not_false, v0, v1, v2, v4, v5, v6, v14, v23, v30, Q, hlc] <;> rfl)); (· (kernel_rfl)); (· (rfl)); (· (exact H.ldn (by (with_reducible repeat' first | exact mem_h _ _ | apply mem_t); done) rfl rfl))))); done))))
        all_goals (first | first | (exfalso; omega) | exact ⟨rfl, H.toExt⟩ | trace_state)
      · obtain ⟨k2, rfl⟩ : ∃ k2, i = l.lst.length + 1 + k2 := ⟨i - l.cnt - 1, by omega⟩
        rw [get_r] at ht
        have hik : ((l.lst.length + 1 + k2 : Nat) : Int) - ((l.cnt : Int) + 1) = (k2 : Int) := by omega
        ((with_reducible apply wc_c (fun i => Nat.beq i 0 || Nat.beq i 1 || Nat.beq i 2 || Nat.beq i 4 || Nat.beq i 5 || Nat.beq i 6 || Nat.beq i 14 || Nat.beq i 23 || Nat.beq i 30)); intro e he; have w9 := he 0 rfl; (try simp only [T.get_put, Nat.reduceEqDiff, reduceIte] at w9); have v0 := w9; clear w9; have w9 := he 1 rfl; (try simp only [v1] at w9); replace v1 := w9; clear w9; have w9 := he 2 rfl; (try simp only [T.get_put, Nat.reduceEqDiff, reduceIte] at w9); have v2 := w9; clear w9; have w9 := he 4 rfl; (try simp only [T.get_put, Nat.reduceEqDiff, reduceIte] at w9); have v4 := w9; clear w9; have w9 := he 5 rfl; (try simp only [T.get_put, Nat.reduceEqDiff, reduceIte] at w9); have v5 := w9; clear w9; have w9 := he 6 rfl; (try simp only [v6] at w9); replace v6 := w9; clear w9; have w9 := he 14 rfl; (try simp only [T.get_put, Nat.reduceEqDiff, reduceIte] at w9); have v14 := w9; clear w9; have w9 := he 23 rfl; (try simp only [T.get_put, Nat.reduceEqDiff, reduceIte] at w9); have v23 := w9; clear w9; have w9 := he 30 rfl; (try simp only [T.get_put, Nat.reduceEqDiff, reduceIte] at w9); have v30 := w9; clear w9; clear he)
        repeat' (first
          | with_reducible apply wc_seq
          | ((with_reducible apply wc_region); (· (rfl)))
          | with_reducible apply wo_some
          | ((with_reducible apply wc_cond); (· (simp (disch := (first | assumption | omega)) only [ev, Option.some.injEq, v23, v30] <;> rfl)); all_goals (intro hg; (try (try simp only [Bool.not_eq_true'] at hg)); first | (exfalso; exact Bool.noConfusion hg) | (exfalso; exact hg) | skip))
          | with_reducible apply wc_block
          | with_reducible apply wc_skip
          | with_reducible apply bx_n
          | ((with_reducible apply nx_c (fun i => Nat.beq i 0 || Nat.beq i 1 || Nat.beq i 2 || Nat.beq i 4 || Nat.beq i 5 || Nat.beq i 6 || Nat.beq i 14 || Nat.beq i 23 || Nat.beq i 30)); intro e he; have w0 := he 0 rfl; have w1 := he 1 rfl; have w2 := he 2 rfl; have w4 := he 4 rfl; have w5 := he 5 rfl; have w6 := he 6 rfl; have w14 := he 14 rfl; have w23 := he 23 rfl; have w30 := he 30 rfl; (try simp only [T.get_put, Nat.reduceEqDiff, reduceIte, v0, v1, v2, v4, v5, v6, v14, v23, v30] at w0 w1 w2 w4 w5 w6 w14 w23 w30); clear he v0 v1 v2 v4 v5 v6 v14 v23 v30; have v0 := w0; have v1 := w1; have v2 := w2; have v4 := w4; have v5 := w5; have v6 := w6; have v14 := w14; have v23 := w23; have v30 := w30; clear w0 w1 w2 w4 w5 w6 w14 w23 w30)
          | ((with_reducible apply wo_eq); (· (simp (disch := (first | assumption | omega)) only [eq_self, opsA_cons, opsA_nil, wantedA, stepA_t, callA, calleeA, targetA, runOp_c, runOp_n, opA, ev, evs, consO, consOO, afterA_s, putA, T.get_put, Nat.reduceEqDiff, reduceIte, List.getElem?_toArray, List.getElem?_cons_zero, List.getElem?_cons_succ, oBin, binA, binG, binL, aggO, litA, cond_true, Bool.not_false, blt_eq, I, Bo, fieldAddrA, oFieldAddr, Nat.zero_add, Nat.add_zero, Nat.reduceLT, ty25, ti25, ty75, ti75, ii_add, ii_sub, ii_lss, ii_neq, withH_s, nck, dec_t, dec_f, wrap_ok, Nat.zero_add, Nat.add_zero, v1, v6, Q, hik]; exact rfl)))
          | (((with_reducible apply wo_call); (· ((with_reducible apply c42); (· (omega)); (· (first | exact tok.2.1 | exact tok.2.2)))); rintro _ h ⟨rfl, rfl⟩))
          | simp (disch := (first | assumption | omega)) only [eq_self, Option.some.injEq, I, v1, v6])
        all_goals (first | first | (exfalso; omega) | exact ⟨r.hgt, by omega, r, k2, rfl, by trivial, by trivial, ht, by omega, tok.2.2, by trivial⟩ | trace_state)
set_option maxHeartbeats 4000000 in
theorem c16e {n : Nat} (hn : 3 ≤ n) {b : Hp} {g : GT} (pg : g.ok b) (gd : GT.Good g.lst) (bl : g.bal) {i : Int} (hi : i < 0 ∨ (g.cnt : Int) ≤ i) : Wv (runA ctx 5000 n 16 [.agg [g.val], I i] b) (fun x h' => x = .tup [I 0, I 4] ∧ Ext b h') := by
  obtain ⟨k, rfl⟩ : ∃ k, n = k + 1 := ⟨n - 1, by omega⟩
  have s1 := gd.sm
  have hh := GT.bal_hgt bl s1.2.2
  have hlen := GT.len g
  have H := (Hs.start b).z0 (z := tre g) pg
  refine wv_run fn16 rfl ?_
  have a0 : (enterEnv [.agg [g.val], I i] Try.f16.ntmps).get 0 = some (.agg [g.val]) := enter_get1 _ _ _
  have a1 : (enterEnv [.agg [g.val], I i] Try.f16.ntmps).get 1 = some (I i) := enter_get2 _ _ _ _
  generalize enterEnv [.agg [g.val], I i] Try.f16.ntmps = e at a0 a1 ⊢
  unfold Try.f16
  dsimp only
  ((with_reducible apply wc_c (fun i => Nat.beq i 0 || Nat.beq i 1 || Nat.beq i 2 || Nat.beq i 4 || Nat.beq i 5 || Nat.beq i 6 || Nat.beq i 14 || Nat.beq i 23 || Nat.beq i 30)); intro e he; have w9 := he 0 rfl; (try simp only [a0] at w9); have v0 := w9; clear w9; have w9 := he 1 rfl; (try simp only [a1] at w9); have v1 := w9; clear w9; have w9 := he 2 rfl; (try simp only [T.get_put, Nat.reduceEqDiff, reduceIte] at w9); have v2 := w9; clear w9; have w9 := he 4 rfl; (try simp only [T.get_put, Nat.reduceEqDiff, reduceIte] at w9); have v4 := w9; clear w9; have w9 := he 5 rfl; (try simp only [T.get_put, Nat.reduceEqDiff, reduceIte] at w9); have v5 := w9; clear w9; have w9 := he 6 rfl; (try simp only [T.get_put, Nat.reduceEqDiff, reduceIte] at w9); have v6 := w9; clear w9; have w9 := he 14 rfl; (try simp only [T.get_put, Nat.reduceEqDiff, reduceIte] at w9); have v14 := w9; clear w9; have w9 := he 23 rfl; (try simp only [T.get_put, Nat.reduceEqDiff, reduceIte] at w9); have v23 := w9; clear w9; have w9 := he 30 rfl; (try simp only [T.get_put, Nat.reduceEqDiff, reduceIte] at w9); have v30 := w9; clear w9; clear he)
  repeat' (first
    | with_reducible apply wc_seq
    | ((with_reducible apply wc_region); (· (rfl)))
    | with_reducible apply wo_some
    | ((with_reducible apply wc_cond); (· (simp (disch := (first | assumption | omega)) only [ev, Option.some.injEq, v14] <;> rfl)); all_goals (intro hg; (try (try simp only [Bool.not_eq_true'] at hg)); first | (exfalso; exact Bool.noConfusion hg) | (exfalso; exact hg) | skip))
    | with_reducible apply wc_ret
    | with_reducible apply nx_r
    | (simp only [cells_agg] at H)
    | ((with_reducible apply nx_c (fun i => Nat.beq i 0 || Nat.beq i 1 || Nat.beq i 2 || Nat.beq i 4 || Nat.beq i 5 || Nat.beq i 6 || Nat.beq i 14 || Nat.beq i 23 || Nat.beq i 30)); intro e he; have w0 := he 0 rfl; have w1 := he 1 rfl; have w2 := he 2 rfl; have w4 := he 4 rfl; have w5 := he 5 rfl; have w6 := he 6 rfl; have w14 := he 14 rfl; have w23 := he 23 rfl; have w30 := he 30 rfl; (try simp only [T.get_put, Nat.reduceEqDiff, reduceIte, v0, v1, v2, v4, v5, v6, v14, v23, v30] at w0 w1 w2 w4 w5 w6 w14 w23 w30); clear he v0 v1 v2 v4 v5 v6 v14 v23 v30; have v0 := w0; have v1 := w1; have v2 := w2; have v4 := w4; have v5 := w5; have v6 := w6; have v14 := w14; have v23 := w23; have v30 := w30; clear w0 w1 w2 w4 w5 w6 w14 w23 w30)
    | ((with_reducible apply wo_eq); (· (simp (disch := (first | assumption | omega)) only [beq_self_eq_true, eq_self, opsA_cons, opsA_nil, wantedA, guardA, yieldA, stepA_t, stepA_f, callA, calleeA, targetA, runOp_c, runOp_n, opA, ev, evs, consO, consOO, pickA, afterA_s, putA, T.get_put, Nat.reduceEqDiff, reduceIte, List.getElem?_cons_zero, List.getElem?_cons_succ, oBin, binA, binG, binL, aggO, litA, Bool.not_false, tf_beq, I, Bo, ty27, ti27, ii_lss, ii_geq, withH_s, dec_t, dec_f, List.take_succ_cons, List.take_zero, List.drop_zero, v0, v1, v2]; exact rfl)))
    | (((with_reducible apply wo_call); (· ((with_reducible apply c36); (· (omega)); (· (exact H.tok (by (with_reducible repeat' first | exact mem_h _ _ | apply mem_t); done))))); rintro _ h ⟨rfl, x1⟩; replace H := H.ext x1; clear x1))
    | ((with_reducible apply wo_box H); clear H; intro n h H0n H)
    | ((with_reducible apply wo_loadn H); (· ((with_reducible repeat' first | exact mem_h _ _ | apply mem_t); done)); (· (rfl)); (· (rfl)); (· (rfl)))
    | ((with_reducible apply wo_step) <;> intro hg <;> (try simp only [beq_false, Bool.not_eq_eq_eq_not, Bool.not_true, Bool.not_false, decide_eq_true_eq, decide_eq_false_iff_not] at hg) <;> (try subst hg) <;> (first | (exfalso; exact Bool.noConfusion hg) | skip))
    | ((first | with_reducible apply wv_ret | with_reducible apply wv_end); (· ((repeat' (first | with_reducible exact rs_nil | ((with_reducible apply rs_tmp); (· (simp (disch := (first | assumption | omega)) only [Option.some.injEq, v4, v5] <;> rfl))) | ((with_reducible apply rs_cell); (· (simp (disch := (first | assumption | omega)) only [ev, T.get_put, Nat.reduceEqDiff, reduceIte, Option.some.injEq, dec_t, dec_f, Bool.not_true, Bool.not_false, v0, v1, v2, v4, v5, v6, v14, v23, v30, GT.cells_val] <;> rfl)); (· (kernel_rfl)); (· (rfl)); (· (exact H.ld1 (by (with_reducible repeat' first | exact mem_h _ _ | apply mem_t); done) rfl))) | ((with_reducible apply rs_celln); (· (simp (disch := (first | assumption | omega)) only [ev, T.get_put, Nat.reduceEqDiff, reduceIte, Option.some.injEq, dec_t, dec_f, Bool.not_true, Bool.not_false, v0, v1, v2, v4, v5, v6, v14, v23, v30, GT.cells_val] <;> rfl)); (· (kernel_rfl)); (· (rfl)); (· (exact H.ldn (by (with_reducible repeat' first | exact mem_h _ _ | apply mem_t); done) rfl rfl))))); done)))
    | simp (disch := (first | assumption | omega)) only [I])

  all_goals (first | first | (exfalso; omega) | exact ⟨rfl, H.toExt⟩ | trace_state)
def setE (l : List Int) (v x : Int) : Int := if x < 0 ∨ 2305843009213693952 < x then 12 else if 4611686018427387904 - x < l.sum - v then 13 else 0
theorem set_split : ∀ {l : List Int} {j : Nat} {v : Int} (x : Int), l[j]? = some v → (l.set j x).sum = l.sum - v + x ∧ (∀ y, y ∈ l.set j x → y = x ∨ y ∈ l) := by
  intro l
  induction l with
  | nil => intro j v x h; cases h
  | cons a l ih =>
    intro j v x h
    cases j with
    | zero =>
      cases h
      rw [List.set_cons_zero, List.sum_cons, List.sum_cons]
      exact ⟨by omega, fun y hy => by
        rcases List.mem_cons.1 hy with h1 | h1
        · exact .inl h1
        · exact .inr (.tail _ h1)⟩
    | succ j =>
      obtain ⟨h1, h2⟩ := ih x (by simpa using h)
      rw [List.set_cons_succ, List.sum_cons, List.sum_cons, h1]
      exact ⟨by omega, fun y hy => by
        rcases List.mem_cons.1 hy with h3 | h3
        · exact .inr (h3 ▸ .head _)
        · rcases h2 y h3 with h4 | h4
          · exact .inl h4
          · exact .inr (.tail _ h4)⟩
theorem good_set {l : List Int} {j : Nat} {v x : Int} (g : GT.Good l) (h : l[j]? = some v) (hx : setE l v x = 0) : GT.Good (l.set j x) := by
  unfold setE at hx
  split at hx
  · cases hx
  · split at hx
    · cases hx
    · obtain ⟨h1, h2⟩ := set_split x h
      refine ⟨fun y hy => ?_, by rw [h1]; omega, by rw [List.length_set]; exact g.2.2⟩
      rcases h2 y hy with rfl | h3
      · omega
      · exact g.1 y h3
set_option maxHeartbeats 4000000 in
theorem c34 {n : Nat} (hn : 70 ≤ n) {b : Hp} {g : GT} (pg : g.ok b) (gd : GT.Good g.lst) (bl : g.bal) {j : Nat} {v x : Int} (hj : g.lst[j]? = some v) : Wv (runA ctx 5000 n 34 [.agg [g.val], I (j : Int), I x] b) (fun r h' => RR b h' r g.names (setE g.lst v x) (okL (setE g.lst v x) (g.lst.set j x))) := by
  obtain ⟨k, rfl⟩ : ∃ k, n = k + 1 := ⟨n - 1, by omega⟩
  have s1 := gd.sm
  have hh := GT.bal_hgt bl s1.2.2
  have hlen := GT.len g
  have H := (Hs.start b).z0 (z := tre g) pg
  have hjl := (List.getElem?_eq_some_iff.1 hj).1
  have hvn := gd.1 v (List.mem_of_getElem? hj)
  have hvs : v ≤ g.sm := by
    have := (set_split 0 hj).1
    have h9 := GT.sum_nn (l := g.lst.set j 0) (fun y hy => by rcases (set_split 0 hj).2 y hy with rfl | h4; exact Int.le_refl _; exact gd.1 y h4)
    unfold GT.sm
    omega
  refine wv_run fn34 rfl ?_
  have a0 : (enterEnv [.agg [g.val], I (j : Int), I x] Try.f34.ntmps).get 0 = some (.agg [g.val]) := enter_get1 _ _ _
  have a1 : (enterEnv [.agg [g.val], I (j : Int), I x] Try.f34.ntmps).get 1 = some (I (j : Int)) := enter_get2 _ _ _ _
  have a2 : (enterEnv [.agg [g.val], I (j : Int), I x] Try.f34.ntmps).get 2 = some (I x) := enter_get3 _ _ _ _ _
  generalize enterEnv [.agg [g.val], I (j : Int), I x] Try.f34.ntmps = e at a0 a1 a2 ⊢
  unfold Try.f34
  dsimp only
  ((with_reducible apply wc_c (fun i => Nat.beq i 0 || Nat.beq i 1 || Nat.beq i 2 || Nat.beq i 3 || Nat.beq i 6 || Nat.beq i 7 || Nat.beq i 8 || Nat.beq i 9 || Nat.beq i 17 || Nat.beq i 25 || Nat.beq i 33)); intro e he; have w9 := he 0 rfl; (try simp only [a0] at w9); have v0 := w9; clear w9; have w9 := he 1 rfl; (try simp only [a1] at w9); have v1 := w9; clear w9; have w9 := he 2 rfl; (try simp only [a2] at w9); have v2 := w9; clear w9; have w9 := he 3 rfl; (try simp only [T.get_put, Nat.reduceEqDiff, reduceIte] at w9); have v3 := w9; clear w9; have w9 := he 6 rfl; (try simp only [T.get_put, Nat.reduceEqDiff, reduceIte] at w9); have v6 := w9; clear w9; have w9 := he 7 rfl; (try simp only [T.get_put, Nat.reduceEqDiff, reduceIte] at w9); have v7 := w9; clear w9; have w9 := he 8 rfl; (try simp only [T.get_put, Nat.reduceEqDiff, reduceIte] at w9); have v8 := w9; clear w9; have w9 := he 9 rfl; (try simp only [T.get_put, Nat.reduceEqDiff, reduceIte] at w9); have v9 := w9; clear w9; have w9 := he 17 rfl; (try simp only [T.get_put, Nat.reduceEqDiff, reduceIte] at w9); have v17 := w9; clear w9; have w9 := he 25 rfl; (try simp only [T.get_put, Nat.reduceEqDiff, reduceIte] at w9); have v25 := w9; clear w9; have w9 := he 33 rfl; (try simp only [T.get_put, Nat.reduceEqDiff, reduceIte] at w9); have v33 := w9; clear w9; clear he)
  repeat' (first
    | with_reducible apply wc_seq
    | ((with_reducible apply wc_region); (· (rfl)))
    | with_reducible apply wo_some
    | ((with_reducible apply wc_cond); (· (simp (disch := (first | assumption | omega)) only [ev, Option.some.injEq, v17, v25, v33] <;> rfl)); all_goals (intro hg; (try (try simp only [decide_eq_true_eq, decide_eq_false_iff_not] at hg)); first | (exfalso; exact Bool.noConfusion hg) | (exfalso; exact hg) | skip))
    | with_reducible apply wc_skip
    | with_reducible apply wc_ret
    | with_reducible apply nx_r
    | (simp only [patch, List.take_zero, List.drop_succ_cons, List.drop_nil, List.nil_append, List.append_nil, List.length_cons, List.length_nil, Nat.zero_add, cells_agg, cells_lagg, litCells_cons, litCells_nil] at H)
    | ((with_reducible apply nx_c (fun i => Nat.beq i 0 || Nat.beq i 1 || Nat.beq i 2 || Nat.beq i 3 || Nat.beq i 6 || Nat.beq i 7 || Nat.beq i 8 || Nat.beq i 9 || Nat.beq i 17 || Nat.beq i 25 || Nat.beq i 33)); intro e he; have w0 := he 0 rfl; have w1 := he 1 rfl; have w2 := he 2 rfl; have w3 := he 3 rfl; have w6 := he 6 rfl; have w7 := he 7 rfl; have w8 := he 8 rfl; have w9 := he 9 rfl; have w17 := he 17 rfl; have w25 := he 25 rfl; have w33 := he 33 rfl; (try simp only [T.get_put, Nat.reduceEqDiff, reduceIte, v0, v1, v2, v3, v6, v7, v8, v9, v17, v25, v33] at w0 w1 w2 w3 w6 w7 w8 w9 w17 w25 w33); clear he v0 v1 v2 v3 v6 v7 v8 v9 v17 v25 v33; have v0 := w0; have v1 := w1; have v2 := w2; have v3 := w3; have v6 := w6; have v7 := w7; have v8 := w8; have v9 := w9; have v17 := w17; have v25 := w25; have v33 := w33; clear w0 w1 w2 w3 w6 w7 w8 w9 w17 w25 w33)
    | ((with_reducible apply wo_eq); (· (simp (disch := (first | assumption | omega)) only [beq_self_eq_true, eq_self, opsA_cons, opsA_nil, wantedA, guardA, yieldA, stepA_t, stepA_f, callA, calleeA, targetA, runOp_c, runOp_n, opA, ev, evs, consO, consOO, pickA, afterA_s, putA, T.get_put, Nat.reduceEqDiff, reduceIte, List.getElem?_toArray, List.getElem?_cons_zero, List.getElem?_cons_succ, oBin, binA, binG, binL, aggO, litA, cond_true, Bool.not_true, decide_true, blt_eq, tf_beq, I, Bo, oExtract, fieldAddrA, oFieldAddr, Nat.add_zero, Nat.reduceLT, ty25, ti25, ty27, ti27, ii_sub, ii_lss, ii_gtr, ii_neq, List.getElem_toArray, List.getElem_cons_zero, withH_s, oBuild, evParts, consP, dec_t, dec_f, wrap_ok, id_eq, List.take_succ_cons, List.take_zero, List.drop_zero, putAt_z, over_nil, over_cons, litCells_cons, litCells_nil, cells_lagg, Nat.add_zero, v0, v1, v2, v3, v6, v8, v9]; exact rfl)))
    | (((with_reducible apply wo_call); (· ((with_reducible apply c16); (· (omega)); (· (exact H.tok (by (with_reducible repeat' first | exact mem_h _ _ | apply mem_t); done))); (· (exact gd)); (· (exact bl)); (· (exact hj)))); rintro _ h ⟨rfl, x1⟩; replace H := H.ext x1; clear x1))
    | (((with_reducible apply wo_call); (· ((with_reducible apply c26); (· (omega)); (· (exact H.tok (by (with_reducible repeat' first | exact mem_h _ _ | apply mem_t); done))))); rintro _ h ⟨rfl, x1⟩; replace H := H.ext x1; clear x1))
    | ((have hs9 : setE g.lst v x = 0 := (by unfold setE; rw [if_neg (by omega), if_neg (by show ¬ _ < g.sm - v; omega)]); ((with_reducible apply wo_call); (· ((with_reducible apply (c51 16 k _ g j x)); (· (exact hh)); (· (omega)); (· (exact H.tok (by (with_reducible repeat' first | exact mem_h _ _ | apply mem_t); done))); (· (exact gd)); (· (exact good_set gd hj hs9)); (· (exact bl)); (· (omega)))); rintro _ h ⟨g5, rfl, pg5, xg5, ng5, e5, c5, u5⟩; have fc := H.fr.c; replace H := H.tnew xg5 pg5 ng5 (src1t (by (with_reducible repeat' first | exact mem_h _ _ | apply mem_t); done)); replace ng5 := fun n hn => (ng5 n hn).imp id (Nat.le_trans fc); clear xg5 fc)))
    | ((with_reducible apply wo_box H); clear H; intro n h H0n H)
    | ((with_reducible apply wo_alloc H); (· (rfl)); clear H; intro n h H0n H)
    | ((with_reducible apply wo_load1 H); (· ((with_reducible repeat' first | exact mem_h _ _ | apply mem_t); done)); (· (rfl)); (· ((first | rfl | assumption))))
    | ((with_reducible apply wo_loadn H); (· ((with_reducible repeat' first | exact mem_h _ _ | apply mem_t); done)); (· (rfl)); (· (rfl)); (· (rfl)))
    | ((with_reducible apply wo_storen H); (· ((with_reducible repeat' first | exact Pick.here _ _ _ | apply Pick.there); done)); (· ((first | rfl | assumption | exact cells_one (H.pz (by (with_reducible repeat' first | exact mem_h _ _ | apply mem_t); done))))); (· ((first | rfl | (simp (disch := assumption) only [onesA_cons', onesA_nil, cells_agg, GT.one_val, Bool.and_self]; done)))); (· (rfl)); (· ((first | exact Nat.le_of_ble_eq_true rfl | omega | (simp only [List.length_set, List.length_replicate, List.length_map, List.length_cons, List.length_nil]; omega) | (simp; done) | (simp; omega)))); clear H; intro h H)
    | ((with_reducible apply wo_build); (· (exact ty27)); (· (rfl)); (· ((first | rfl | (simp only [fillA_nil, fillA_cons, GT.cells_val]; rfl)))))
    | ((with_reducible apply wo_step) <;> intro hg <;> (try simp only [beq_false, Bool.not_eq_eq_eq_not, Bool.not_true, Bool.not_false, decide_eq_true_eq, decide_eq_false_iff_not] at hg) <;> (try subst hg) <;> (first | (exfalso; exact Bool.noConfusion hg) | skip))
    | ((first | with_reducible apply wv_ret | with_reducible apply wv_end); (· ((repeat' (first | with_reducible exact rs_nil | ((with_reducible apply rs_tmp); (· (simp (disch := (first | assumption | omega)) only [Option.some.injEq, v7] <;> rfl))) | ((with_reducible apply rs_cell); (· (simp (disch := (first | assumption | omega)) only [Option.some.injEq, v6] <;> rfl)); (· (exact ty27)); (· (rfl)); (· (exact H.ld1 (by (with_reducible repeat' first | exact mem_h _ _ | apply mem_t); done) rfl))) | ((with_reducible apply rs_celln); (· (simp (disch := (first | assumption | omega)) only [Option.some.injEq, v6] <;> rfl)); (· (exact ty27)); (· (rfl)); (· (exact H.ldn (by (with_reducible repeat' first | exact mem_h _ _ | apply mem_t); done) rfl rfl))))); done)))
    | simp (disch := (first | assumption | omega)) only [ti27, List.take_succ_cons, List.take_zero, List.drop_zero])

  all_goals (first | first | (exfalso; omega) | (have hs8 : setE g.lst v x = 12 := by unfold setE; rw [if_pos (by omega)]); rw [hs8, okL_e (by decide)]; exact rr_nil rfl H.toExt rfl | (have hs8 : setE g.lst v x = 13 := by unfold setE; rw [if_neg (by omega), if_pos (by show _ < g.sm - v; omega)]); rw [hs8, okL_e (by decide)]; exact rr_nil rfl H.toExt rfl | (rw [hs9, okL_0 rfl]; exact ⟨g5, rfl, H.tok (by (with_reducible repeat' first | exact mem_h _ _ | apply mem_t); done), H.toExt, ng5, e5, c5⟩) | trace_state)
set_option maxHeartbeats 4000000 in
theorem c34e {n : Nat} (hn : 70 ≤ n) {b : Hp} {g : GT} (pg : g.ok b) (gd : GT.Good g.lst) (bl : g.bal) {i x : Int} (hi : i < 0 ∨ (g.cnt : Int) ≤ i) : Wv (runA ctx 5000 n 34 [.agg [g.val], I i, I x] b) (fun r h' => RR b h' r g.names 4 []) := by
  obtain ⟨k, rfl⟩ : ∃ k, n = k + 1 := ⟨n - 1, by omega⟩
  have s1 := gd.sm
  have hh := GT.bal_hgt bl s1.2.2
  have hlen := GT.len g
  have H := (Hs.start b).z0 (z := tre g) pg
  refine wv_run fn34 rfl ?_
  have a0 : (enterEnv [.agg [g.val], I i, I x] Try.f34.ntmps).get 0 = some (.agg [g.val]) := enter_get1 _ _ _
  have a1 : (enterEnv [.agg [g.val], I i, I x] Try.f34.ntmps).get 1 = some (I i) := enter_get2 _ _ _ _
  have a2 : (enterEnv [.agg [g.val], I i, I x] Try.f34.ntmps).get 2 = some (I x) := enter_get3 _ _ _ _ _
  generalize enterEnv [.agg [g.val], I i, I x] Try.f34.ntmps = e at a0 a1 a2 ⊢
  unfold Try.f34
  dsimp only
  ((with_reducible apply wc_c (fun i => Nat.beq i 0 || Nat.beq i 1 || Nat.beq i 2 || Nat.beq i 3 || Nat.beq i 6 || Nat.beq i 7 || Nat.beq i 8 || Nat.beq i 9 || Nat.beq i 17 || Nat.beq i 25 || Nat.beq i 33)); intro e he; have w9 := he 0 rfl; (try simp only [a0] at w9); have v0 := w9; clear w9; have w9 := he 1 rfl; (try simp only [a1] at w9); have v1 := w9; clear w9; have w9 := he 2 rfl; (try simp only [a2] at w9); have v2 := w9; clear w9; have w9 := he 3 rfl; (try simp only [T.get_put, Nat.reduceEqDiff, reduceIte] at w9); have v3 := w9; clear w9; have w9 := he 6 rfl; (try simp only [T.get_put, Nat.reduceEqDiff, reduceIte] at w9); have v6 := w9; clear w9; have w9 := he 7 rfl; (try simp only [T.get_put, Nat.reduceEqDiff, reduceIte] at w9); have v7 := w9; clear w9; have w9 := he 8 rfl; (try simp only [T.get_put, Nat.reduceEqDiff, reduceIte] at w9); have v8 := w9; clear w9; have w9 := he 9 rfl; (try simp only [T.get_put, Nat.reduceEqDiff, reduceIte] at w9); have v9 := w9; clear w9; have w9 := he 17 rfl; (try simp only [T.get_put, Nat.reduceEqDiff, reduceIte] at w9); have v17 := w9; clear w9; have w9 := he 25 rfl; (try simp only [T.get_put, Nat.reduceEqDiff, reduceIte] at w9); have v25 := w9; clear w9; have w9 := he 33 rfl; (try simp only [T.get_put, Nat.reduceEqDiff, reduceIte] at w9); have v33 := w9; clear w9; clear he)
  repeat' (first
    | with_reducible apply wc_seq
    | ((with_reducible apply wc_region); (· (rfl)))
    | with_reducible apply wo_some
    | ((with_reducible apply wc_cond); (· (simp (disch := (first | assumption | omega)) only [ev, Option.some.injEq, v17] <;> rfl)); all_goals (intro hg; (try (try simp only [Bool.not_eq_true'] at hg)); first | (exfalso; exact Bool.noConfusion hg) | (exfalso; exact hg) | skip))
    | with_reducible apply wc_ret
    | with_reducible apply nx_r
    | (simp only [patch, List.take_zero, List.drop_succ_cons, List.drop_nil, List.nil_append, List.append_nil, List.length_cons, List.length_nil, Nat.zero_add, cells_agg, cells_lagg, litCells_cons, litCells_nil] at H)
    | ((with_reducible apply nx_c (fun i => Nat.beq i 0 || Nat.beq i 1 || Nat.beq i 2 || Nat.beq i 3 || Nat.beq i 6 || Nat.beq i 7 || Nat.beq i 8 || Nat.beq i 9 || Nat.beq i 17 || Nat.beq i 25 || Nat.beq i 33)); intro e he; have w0 := he 0 rfl; have w1 := he 1 rfl; have w2 := he 2 rfl; have w3 := he 3 rfl; have w6 := he 6 rfl; have w7 := he 7 rfl; have w8 := he 8 rfl; have w9 := he 9 rfl; have w17 := he 17 rfl; have w25 := he 25 rfl; have w33 := he 33 rfl; (try simp only [T.get_put, Nat.reduceEqDiff, reduceIte, v0, v1, v2, v3, v6, v7, v8, v9, v17, v25, v33] at w0 w1 w2 w3 w6 w7 w8 w9 w17 w25 w33); clear he v0 v1 v2 v3 v6 v7 v8 v9 v17 v25 v33; have v0 := w0; have v1 := w1; have v2 := w2; have v3 := w3; have v6 := w6; have v7 := w7; have v8 := w8; have v9 := w9; have v17 := w17; have v25 := w25; have v33 := w33; clear w0 w1 w2 w3 w6 w7 w8 w9 w17 w25 w33)
    | ((with_reducible apply wo_eq); (· (simp (disch := (first | assumption | omega)) only [eq_self, opsA_cons, opsA_nil, wantedA, stepA_t, callA, calleeA, targetA, runOp_c, runOp_n, opA, ev, evs, consO, consOO, afterA_s, putA, T.get_put, Nat.reduceEqDiff, reduceIte, List.getElem?_cons_zero, List.getElem?_cons_succ, oBin, binA, binG, binL, aggO, litA, Bool.not_false, I, Bo, oExtract, ty27, ti27, ii_neq, withH_s, oBuild, evParts, dec_f, List.take_succ_cons, List.take_zero, List.drop_zero, litCells_cons, litCells_nil, cells_lagg, v0, v1, v3, v6, v9]; exact rfl)))
    | (((with_reducible apply wo_call); (· ((with_reducible apply c16e); (· (omega)); (· (exact H.tok (by (with_reducible repeat' first | exact mem_h _ _ | apply mem_t); done))); (· (exact gd)); (· (exact bl)); (· (exact hi)))); rintro _ h ⟨rfl, x1⟩; replace H := H.ext x1; clear x1))
    | ((with_reducible apply wo_box H); clear H; intro n h H0n H)
    | ((with_reducible apply wo_alloc H); (· (rfl)); clear H; intro n h H0n H)
    | ((with_reducible apply wo_loadn H); (· ((with_reducible repeat' first | exact mem_h _ _ | apply mem_t); done)); (· (rfl)); (· (rfl)); (· (rfl)))
    | ((with_reducible apply wo_storen H); (· ((with_reducible repeat' first | exact Pick.here _ _ _ | apply Pick.there); done)); (· ((first | rfl | assumption | exact cells_one (H.pz (by (with_reducible repeat' first | exact mem_h _ _ | apply mem_t); done))))); (· ((first | rfl | (simp (disch := assumption) only [onesA_cons', onesA_nil, cells_int, cells_bool, cells_str, cells_float, cells_np, cells_nil, cells_nf, cells_ptr, cells_slice, cells_fn, cells_agg, cells_lagg, litCells_cons, litCells_nil, one_t, one_int, one_bool, one_str, one_nil, one_np, one_ptr, one_slice, GT.one_val, Bool.and_true, Bool.and_self, id_eq]; done)))); (· (rfl)); (· ((first | exact Nat.le_of_ble_eq_true rfl | omega | (simp only [List.length_set, List.length_replicate, List.length_map, List.length_cons, List.length_nil]; omega) | (simp; done) | (simp; omega)))); clear H; intro h H)
    | ((with_reducible apply wo_build); (· (exact ty27)); (· (rfl)); (· ((first | rfl | (simp only [fillA_nil, fillA_cons, repl_z, repl_s, cells_int, cells_bool, cells_str, cells_float, cells_np, cells_nil, cells_nf, cells_ptr, cells_slice, cells_fn, cells_agg, cells_lagg, v0, v1, v2, v3, v6, v7, v8, v9, v17, v25, v33, GT.cells_val]; rfl)))))
    | ((first | with_reducible apply wv_ret | with_reducible apply wv_end); (· ((repeat' (first | with_reducible exact rs_nil | ((with_reducible apply rs_tmp); (· (simp (disch := (first | assumption | omega)) only [Option.some.injEq, v7] <;> rfl))) | ((with_reducible apply rs_cell); (· (simp (disch := (first | assumption | omega)) only [Option.some.injEq, v6] <;> rfl)); (· (exact ty27)); (· (rfl)); (· (exact H.ld1 (by (with_reducible repeat' first | exact mem_h _ _ | apply mem_t); done) rfl))) | ((with_reducible apply rs_celln); (· (simp (disch := (first | assumption | omega)) only [Option.some.injEq, v6] <;> rfl)); (· (exact ty27)); (· (rfl)); (· (exact H.ldn (by (with_reducible repeat' first | exact mem_h _ _ | apply mem_t); done) rfl rfl))))); done)))
    | simp (disch := (first | assumption | omega)) only [ti27, List.take_succ_cons, List.take_zero, List.drop_zero])

  all_goals (first | exact rr_nil rfl H.toExt rfl | trace_state)


/-- a list of its own, and a number, that come back -/
def RW (b h' : Hp) (x : AV) (e : Int) (L : List Int) : Prop := ∃ u, x = .tup [u, I e] ∧ Lc false h' u (L.map I) ∧ Ext b h' ∧ ∀ m, nmO u = some m → b.c ≤ m
theorem rw_nil {b h' : Hp} {x : AV} {e : Int} {L : List Int} (hx : x = .tup [nilS, I e]) (a : Ext b h') (hL : L = []) : RW b h' x e L := ⟨nilS, hx, by rw [hL]; exact Lc.nil _ _, a, fun m hm => by cases hm⟩
theorem rw_gr {b h : Hp} {L Z : List As} {x u : AV} {e : Int} {Y : List Int} {len : Nat} {cs : List AV} {F : As → List As} (H : Hs [] b h L Z) (hp : PickF L (gr 2 1 u cs len) F) (hx : x = .tup [u, I e]) (hY : cs = Y.map I) (hl : Y.length = len) : RW b h x e Y := by
  subst hY
  have hm := (hp.pick (blk id 0 [])).mem
  exact ⟨u, hx, gr_lc' (H.p (a := gr 2 1 u _ _) hm) hl, H.toExt, fun m hn => ((H.own _ hm).2 m (nmO_mem.2 hn)).elim id (fun h => by cases h)⟩
set_option maxHeartbeats 4000000 in
theorem c25 {n : Nat} (hn : 2 ≤ n) {b : Hp} {w1 w2 : AV} {xs ys : List Int} {c1 c2 : Bool} (hv : Lc c1 b w1 (xs.map I)) (hw : Lc c2 b w2 (ys.map I)) (gx : GT.Good xs) (gy : GT.Good ys) : Wv (runA ctx 5000 n 25 [w1, w2] b) (fun x h' => RW b h' x (joinE xs ys) (okL (joinE xs ys) (xs ++ ys))) := by
  obtain ⟨k, rfl⟩ : ∃ k, n = k + 1 := ⟨n - 1, by omega⟩
  have lx := gx.2.2
  have ly := gy.2.2
  have tx := gx.2.1
  have ty' := gy.2.1
  have nx := GT.sum_nn gx.1
  have ny := GT.sum_nn gy.1
  have H := ((((Hs.start b).z0 (z := lc c1 w1 (xs.map I)) hv).z0 (z := isl w1 (xs.map I)) hv.isL).z0 (z := lc c2 w2 (ys.map I)) hw).z0 (z := isl w2 (ys.map I)) hw.isL
  refine wv_run fn25 rfl ?_
  have a0 : (enterEnv [w1, w2] Try.f25.ntmps).get 0 = some (w1) := enter_get1 _ _ _
  have a1 : (enterEnv [w1, w2] Try.f25.ntmps).get 1 = some (w2) := enter_get2 _ _ _ _
  generalize enterEnv [w1, w2] Try.f25.ntmps = e at a0 a1 ⊢
  unfold Try.f25
  dsimp only
  ((with_reducible apply wc_c (fun i => Nat.beq i 0 || Nat.beq i 1 || Nat.beq i 4 || Nat.beq i 5 || Nat.beq i 11 || Nat.beq i 21)); intro e he; have w9 := he 0 rfl; (try simp only [a0] at w9); have v0 := w9; clear w9; have w9 := he 1 rfl; (try simp only [a1] at w9); have v1 := w9; clear w9; have w9 := he 4 rfl; (try simp only [T.get_put, Nat.reduceEqDiff, reduceIte] at w9); have v4 := w9; clear w9; have w9 := he 5 rfl; (try simp only [T.get_put, Nat.reduceEqDiff, reduceIte] at w9); have v5 := w9; clear w9; have w9 := he 11 rfl; (try simp only [T.get_put, Nat.reduceEqDiff, reduceIte] at w9); have v11 := w9; clear w9; have w9 := he 21 rfl; (try simp only [T.get_put, Nat.reduceEqDiff, reduceIte] at w9); have v21 := w9; clear w9; clear he)
  repeat' (first
    | with_reducible apply wc_seq
    | ((with_reducible apply wc_region); (· (rfl)))
    | with_reducible apply wo_some
    | ((with_reducible apply wc_cond); (· (simp (disch := (first | assumption | omega)) only [ev, Option.some.injEq, v11, v21] <;> rfl)); all_goals (intro hg; (try (try simp only [decide_eq_true_eq, decide_eq_false_iff_not] at hg)); first | (exfalso; exact Bool.noConfusion hg) | (exfalso; exact hg) | skip))
    | with_reducible apply wc_skip
    | with_reducible apply wc_ret
    | with_reducible apply nx_r
    | (simp only [cells_int, repl_z, ti2, ti2] at H)
    | ((with_reducible apply nx_c (fun i => Nat.beq i 0 || Nat.beq i 1 || Nat.beq i 4 || Nat.beq i 5 || Nat.beq i 11 || Nat.beq i 21)); intro e he; have w0 := he 0 rfl; have w1 := he 1 rfl; have w4 := he 4 rfl; have w5 := he 5 rfl; have w11 := he 11 rfl; have w21 := he 21 rfl; (try simp only [T.get_put, Nat.reduceEqDiff, reduceIte, v0, v1, v4, v5, v11, v21] at w0 w1 w4 w5 w11 w21); clear he v0 v1 v4 v5 v11 v21; have v0 := w0; have v1 := w1; have v4 := w4; have v5 := w5; have v11 := w11; have v21 := w21; clear w0 w1 w4 w5 w11 w21)
    | ((with_reducible apply wo_eq); (· (simp (disch := (first | assumption | omega)) only [eq_self, opsA_cons, opsA_nil, wantedA, stepA_t, callA, calleeA, targetA, runOp_c, runOp_n, opA, ev, evs, consO, consOO, afterA_s, putA, T.get_put, Nat.reduceEqDiff, reduceIte, oBuiltin, oBin, binA, binG, binL, aggO, litA, I, Bo, ii_add, ii_sub, ii_gtr, withH_s, oBuildSlice, evParts, wrap_ok, v0, v1, List.length_map, List.take_length]; exact rfl)))
    | (((with_reducible apply wo_call); (· ((with_reducible apply c22); (· (omega)); (· (exact H.lok (by (with_reducible repeat' first | exact mem_h _ _ | apply mem_t); done))); (· (assumption)); (· (exact Nat.le_refl _)))); rintro _ h ⟨rfl, rfl⟩))
    | (((with_reducible apply wo_appe H); (· (exact ty22)); (· (rfl)); (· ((first | exact ty2 | exact ty2))); (· (rfl)); (· (kernel_rfl)); (· ((with_reducible repeat' first | exact mem_h _ _ | apply mem_t); done)); (· (exact ones_I _)); (· ((simp only [List.length_map]; omega))); clear H; intro u9 h H; simp only [List.length_map] at H))
    | (((with_reducible apply wo_appz H); (· ((with_reducible repeat' first | exact PickF.here _ _ | apply PickF.there); done)); (· (exact ty22)); (· (rfl)); (· ((first | exact ty2 | exact ty2))); (· (rfl)); (· (kernel_rfl)); (· ((with_reducible repeat' first | exact mem_h _ _ | apply mem_t); done)); (· (exact ones_I _)); (· ((simp only [List.length_map]; omega))); clear H; intro u9 h H; simp only [List.length_map] at H))
    | ((with_reducible apply wo_len H); (· ((with_reducible repeat' first | exact mem_h _ _ | apply mem_t); done)); (· (exact ty22)); (· (rfl)))
    | ((with_reducible apply wo_bs H); (· (exact ty22)); (· (rfl)); (· ((first | exact ty2 | exact ty2))); (· (kernel_rfl)); (· ((first | rfl | (simp only [fillA_nil, fillA_cons, repl_z, repl_s, cells_int, cells_bool, cells_str, cells_float, cells_np, cells_nil, cells_nf, cells_ptr, cells_slice, cells_fn, cells_agg, cells_lagg, v0, v1, v4, v5, v11, v21, List.length_map, List.take_length]; rfl)))); clear H; intro n h H0n H)
    | ((first | with_reducible apply wv_ret | with_reducible apply wv_end); (· ((repeat' (first | with_reducible exact rs_nil | ((with_reducible apply rs_tmp); (· (simp (disch := (first | assumption | omega)) only [Option.some.injEq, v4, v5] <;> rfl))) | ((with_reducible apply rs_cell); (· (simp (disch := (first | assumption | omega)) only [ev, T.get_put, Nat.reduceEqDiff, reduceIte, Option.some.injEq, dec_t, dec_f, Bool.not_true, Bool.not_false, v0, v1, v4, v5, v11, v21, List.length_map, List.take_length] <;> rfl)); (· (kernel_rfl)); (· (rfl)); (· (exact H.ld1 (by (with_reducible repeat' first | exact mem_h _ _ | apply mem_t); done) rfl))) | ((with_reducible apply rs_celln); (· (simp (disch := (first | assumption | omega)) only [ev, T.get_put, Nat.reduceEqDiff, reduceIte, Option.some.injEq, dec_t, dec_f, Bool.not_true, Bool.not_false, v0, v1, v4, v5, v11, v21, List.length_map, List.take_length] <;> rfl)); (· (kernel_rfl)); (· (rfl)); (· (exact H.ldn (by (with_reducible repeat' first | exact mem_h _ _ | apply mem_t); done) rfl rfl))))); done))))

  all_goals (first | first | (have h9 : joinE xs ys = 3 := (by unfold joinE; rw [if_pos (by omega)]); rw [h9, okL_e (by decide)]; exact rw_nil rfl H.toExt rfl) | (have h9 : joinE xs ys = 13 := (by unfold joinE; rw [if_neg (by omega), if_pos (by omega)]); rw [h9, okL_e (by decide)]; exact rw_nil rfl H.toExt rfl) | (have h9 : joinE xs ys = 0 := (by unfold joinE; rw [if_neg (by omega), if_neg (by omega)]); rw [h9, okL_0 rfl]; exact rw_gr H (by (with_reducible repeat' first | exact PickF.here _ _ | apply PickF.there); done) rfl (by rw [List.map_append]) (by rw [List.length_append])) | trace_state)
set_option maxHeartbeats 4000000 in
theorem c29 {n : Nat} (hn : 1 ≤ n) {b : Hp} {w : AV} {xs : List Int} {c : Bool} (hv : Lc c b w (xs.map I)) (hl : xs.length ≤ 4500) {j q : Nat} (hj : j + q ≤ xs.length) : Wv (runA ctx 5000 n 29 [w, I (j : Int), I (q : Int)] b) (fun x h' => RW b h' x 0 (remL xs j q)) := by
  obtain ⟨k, rfl⟩ : ∃ k, n = k + 1 := ⟨n - 1, by omega⟩
  have hjq : (j : Int) + (q : Int) = ((j + q : Nat) : Int) := by omega
  have H := ((Hs.start b).z0 (z := lc c w (xs.map I)) hv).z0 (z := isl w (xs.map I)) hv.isL
  refine wv_run fn29 rfl ?_
  have a0 : (enterEnv [w, I (j : Int), I (q : Int)] Try.f29.ntmps).get 0 = some (w) := enter_get1 _ _ _
  have a1 : (enterEnv [w, I (j : Int), I (q : Int)] Try.f29.ntmps).get 1 = some (I (j : Int)) := enter_get2 _ _ _ _
  have a2 : (enterEnv [w, I (j : Int), I (q : Int)] Try.f29.ntmps).get 2 = some (I (q : Int)) := enter_get3 _ _ _ _ _
  generalize enterEnv [w, I (j : Int), I (q : Int)] Try.f29.ntmps = e at a0 a1 a2 ⊢
  unfold Try.f29
  dsimp only
  ((with_reducible apply wc_c (fun i => Nat.beq i 0 || Nat.beq i 1 || Nat.beq i 2 || Nat.beq i 6 || Nat.beq i 7 || Nat.beq i 27)); intro e he; have w9 := he 0 rfl; (try simp only [a0] at w9); have v0 := w9; clear w9; have w9 := he 1 rfl; (try simp only [a1] at w9); have v1 := w9; clear w9; have w9 := he 2 rfl; (try simp only [a2] at w9); have v2 := w9; clear w9; have w9 := he 6 rfl; (try simp only [T.get_put, Nat.reduceEqDiff, reduceIte] at w9); have v6 := w9; clear w9; have w9 := he 7 rfl; (try simp only [T.get_put, Nat.reduceEqDiff, reduceIte] at w9); have v7 := w9; clear w9; have w9 := he 27 rfl; (try simp only [T.get_put, Nat.reduceEqDiff, reduceIte] at w9); have v27 := w9; clear w9; clear he)
  repeat' (first
    | with_reducible apply wc_seq
    | ((with_reducible apply wc_region); (· (rfl)))
    | with_reducible apply wo_some
    | ((with_reducible apply wc_cond); (· (simp (disch := (first | assumption | omega)) only [ev, Option.some.injEq, v27] <;> rfl)); all_goals (intro hg; (try (try simp only [Bool.not_eq_true'] at hg)); first | (exfalso; exact Bool.noConfusion hg) | (exfalso; exact hg) | skip))
    | with_reducible apply wc_skip
    | with_reducible apply wc_ret
    | (simp only [cells_int, repl_z, ti3] at H)
    | ((with_reducible apply nx_c (fun i => Nat.beq i 0 || Nat.beq i 1 || Nat.beq i 2 || Nat.beq i 6 || Nat.beq i 7 || Nat.beq i 27)); intro e he; have w0 := he 0 rfl; have w1 := he 1 rfl; have w2 := he 2 rfl; have w6 := he 6 rfl; have w7 := he 7 rfl; have w27 := he 27 rfl; (try simp only [T.get_put, Nat.reduceEqDiff, reduceIte, v0, v1, v2, v6, v7, v27] at w0 w1 w2 w6 w7 w27); clear he v0 v1 v2 v6 v7 v27; have v0 := w0; have v1 := w1; have v2 := w2; have v6 := w6; have v7 := w7; have v27 := w27; clear w0 w1 w2 w6 w7 w27)
    | ((with_reducible apply wo_eq); (· (simp (disch := (first | assumption | omega)) only [beq_self_eq_true, eq_self, opsA_cons, opsA_nil, wantedA, guardA, yieldA, stepA_t, callA, calleeA, runOp_n, opA, ev, evs, evo, consO, consOO, pickA, afterA_s, putA, T.get_put, Nat.reduceEqDiff, reduceIte, List.getElem?_cons_zero, List.getElem?_cons_succ, oBuiltin, oBin, binA, binG, binL, aggO, litA, I, Bo, ii_add, ii_sub, ii_lss, ii_gtr, withH_s, oBuildSlice, oSlice, evParts, dec_f, wrap_ok, v0, v1, v2, List.length_map, hjq]; exact rfl)))
    | (((with_reducible apply wo_slb H); (· ((with_reducible repeat' first | exact mem_h _ _ | apply mem_t); done)); (· (exact ty22)); (· (rfl)); (· (exact ty3)); (· (rfl)); (· (first | rfl | assumption)); (· (simp only [List.length_map]; omega)); clear H; intro s9 r9 hn9 H; simp only [← List.map_take] at H))
    | (((with_reducible apply wo_sla H); (· ((with_reducible repeat' first | exact mem_h _ _ | apply mem_t); done)); (· (exact ty22)); (· (rfl)); (· (exact ty3)); (· (rfl)); (· (first | rfl | assumption)); (· (simp only [List.length_map]; omega)); clear H; intro s9 r9 hn9 H; simp only [← List.map_drop] at H))
    | (((with_reducible apply wo_appe H); (· (exact ty22)); (· (rfl)); (· (exact ty3)); (· (rfl)); (· (kernel_rfl)); (· ((with_reducible repeat' first | exact mem_h _ _ | apply mem_t); done)); (· (exact ones_I _)); (· ((simp only [List.length_map, List.length_take]; omega))); clear H; intro u9 h H; simp only [List.length_map] at H))
    | (((with_reducible apply wo_appz H); (· ((with_reducible repeat' first | exact PickF.here _ _ | apply PickF.there); done)); (· (exact ty22)); (· (rfl)); (· (exact ty3)); (· (rfl)); (· (kernel_rfl)); (· ((with_reducible repeat' first | exact mem_h _ _ | apply mem_t); done)); (· (exact ones_I _)); (· ((simp only [List.length_map, List.length_take, List.length_drop]; omega))); clear H; intro u9 h H; simp only [List.length_map] at H))
    | ((with_reducible apply wo_len H); (· ((with_reducible repeat' first | exact mem_h _ _ | apply mem_t); done)); (· (exact ty22)); (· (rfl)))
    | ((with_reducible apply wo_bs H); (· (exact ty22)); (· (rfl)); (· (exact ty3)); (· (kernel_rfl)); (· ((first | rfl | (simp only [fillA_nil, fillA_cons, repl_z, repl_s, cells_int, cells_bool, cells_str, cells_float, cells_np, cells_nil, cells_nf, cells_ptr, cells_slice, cells_fn, cells_agg, cells_lagg, v0, v1, v2, v6, v7, v27, List.length_map, hjq]; rfl)))); clear H; intro n h H0n H)
    | ((first | with_reducible apply wv_ret | with_reducible apply wv_end); (· ((repeat' (first | with_reducible exact rs_nil | ((with_reducible apply rs_tmp); (· (simp (disch := (first | assumption | omega)) only [Option.some.injEq, v6, v7] <;> rfl))) | ((with_reducible apply rs_cell); (· (simp (disch := (first | assumption | omega)) only [ev, T.get_put, Nat.reduceEqDiff, reduceIte, Option.some.injEq, dec_t, dec_f, Bool.not_true, Bool.not_false, v0, v1, v2, v6, v7, v27, List.length_map, hjq] <;> rfl)); (· (kernel_rfl)); (· (rfl)); (· (exact H.ld1 (by (with_reducible repeat' first | exact mem_h _ _ | apply mem_t); done) rfl))) | ((with_reducible apply rs_celln); (· (simp (disch := (first | assumption | omega)) only [ev, T.get_put, Nat.reduceEqDiff, reduceIte, Option.some.injEq, dec_t, dec_f, Bool.not_true, Bool.not_false, v0, v1, v2, v6, v7, v27, List.length_map, hjq] <;> rfl)); (· (kernel_rfl)); (· (rfl)); (· (exact H.ldn (by (with_reducible repeat' first | exact mem_h _ _ | apply mem_t); done) rfl rfl))))); done))))

  all_goals (first | first | (exfalso; omega) | exact rw_gr H (by (with_reducible repeat' first | exact PickF.here _ _ | apply PickF.there); done) rfl (by unfold remL; rw [List.map_append]) (by unfold remL; rw [List.length_append]) | trace_state)
set_option maxHeartbeats 4000000 in
theorem c29e {n : Nat} (hn : 1 ≤ n) {b : Hp} {w : AV} {xs : List Int} {c : Bool} (hv : Lc c b w (xs.map I)) (hl : xs.length ≤ 4500) {i q : Int} (hj : ¬ (0 ≤ i ∧ 0 ≤ q ∧ i ≤ (xs.length : Int) ∧ q ≤ (xs.length : Int) - i)) : Wv (runA ctx 5000 n 29 [w, I i, I q] b) (fun x h' => RW b h' x 4 []) := by
  obtain ⟨k, rfl⟩ : ∃ k, n = k + 1 := ⟨n - 1, by omega⟩
  have H := ((Hs.start b).z0 (z := lc c w (xs.map I)) hv).z0 (z := isl w (xs.map I)) hv.isL
  refine wv_run fn29 rfl ?_
  have a0 : (enterEnv [w, I i, I q] Try.f29.ntmps).get 0 = some (w) := enter_get1 _ _ _
  have a1 : (enterEnv [w, I i, I q] Try.f29.ntmps).get 1 = some (I i) := enter_get2 _ _ _ _
  have a2 : (enterEnv [w, I i, I q] Try.f29.ntmps).get 2 = some (I q) := enter_get3 _ _ _ _ _
  generalize enterEnv [w, I i, I q] Try.f29.ntmps = e at a0 a1 a2 ⊢
  unfold Try.f29
  dsimp only
  ((with_reducible apply wc_c (fun i => Nat.beq i 0 || Nat.beq i 1 || Nat.beq i 2 || Nat.beq i 6 || Nat.beq i 7 || Nat.beq i 27)); intro e he; have w9 := he 0 rfl; (try simp only [a0] at w9); have v0 := w9; clear w9; have w9 := he 1 rfl; (try simp only [a1] at w9); have v1 := w9; clear w9; have w9 := he 2 rfl; (try simp only [a2] at w9); have v2 := w9; clear w9; have w9 := he 6 rfl; (try simp only [T.get_put, Nat.reduceEqDiff, reduceIte] at w9); have v6 := w9; clear w9; have w9 := he 7 rfl; (try simp only [T.get_put, Nat.reduceEqDiff, reduceIte] at w9); have v7 := w9; clear w9; have w9 := he 27 rfl; (try simp only [T.get_put, Nat.reduceEqDiff, reduceIte] at w9); have v27 := w9; clear w9; clear he)
  repeat' (first
    | with_reducible apply wc_seq
    | ((with_reducible apply wc_region); (· (rfl)))
    | with_reducible apply wo_some
    | ((with_reducible apply wc_cond); (· (simp (disch := (first | assumption | omega)) only [ev, Option.some.injEq, v27] <;> rfl)); all_goals (intro hg; (try (try simp only [Bool.not_eq_true'] at hg)); first | (exfalso; exact Bool.noConfusion hg) | (exfalso; exact hg) | skip))
    | with_reducible apply wc_ret
    | with_reducible apply nx_r
    | ((with_reducible apply nx_c (fun i => Nat.beq i 0 || Nat.beq i 1 || Nat.beq i 2 || Nat.beq i 6 || Nat.beq i 7 || Nat.beq i 27)); intro e he; have w0 := he 0 rfl; have w1 := he 1 rfl; have w2 := he 2 rfl; have w6 := he 6 rfl; have w7 := he 7 rfl; have w27 := he 27 rfl; (try simp only [T.get_put, Nat.reduceEqDiff, reduceIte, v0, v1, v2, v6, v7, v27] at w0 w1 w2 w6 w7 w27); clear he v0 v1 v2 v6 v7 v27; have v0 := w0; have v1 := w1; have v2 := w2; have v6 := w6; have v7 := w7; have v27 := w27; clear w0 w1 w2 w6 w7 w27)
    | ((with_reducible apply wo_eq); (· (simp (disch := (first | assumption | omega)) only [beq_self_eq_true, eq_self, opsA_cons, opsA_nil, wantedA, guardA, yieldA, stepA_t, stepA_f, callA, calleeA, runOp_n, opA, ev, evs, consO, consOO, pickA, afterA_s, putA, T.get_put, Nat.reduceEqDiff, reduceIte, List.getElem?_cons_zero, List.getElem?_cons_succ, oBuiltin, oBin, binA, binG, binL, aggO, litA, tf_beq, I, Bo, ii_sub, ii_lss, ii_gtr, withH_s, dec_t, dec_f, wrap_ok, v0, v1, v2, List.length_map]; exact rfl)))
    | ((with_reducible apply wo_len H); (· ((with_reducible repeat' first | exact mem_h _ _ | apply mem_t); done)); (· (exact ty22)); (· (rfl)))
    | ((with_reducible apply wo_step) <;> intro hg <;> (try simp only [beq_false, Bool.not_eq_eq_eq_not, Bool.not_true, Bool.not_false, decide_eq_true_eq, decide_eq_false_iff_not] at hg) <;> (try subst hg) <;> (first | (exfalso; exact Bool.noConfusion hg) | skip))
    | ((first | with_reducible apply wv_ret | with_reducible apply wv_end); (· ((repeat' (first | with_reducible exact rs_nil | ((with_reducible apply rs_tmp); (· (simp (disch := (first | assumption | omega)) only [Option.some.injEq, v6, v7] <;> rfl))) | ((with_reducible apply rs_cell); (· (simp (disch := (first | assumption | omega)) only [ev, T.get_put, Nat.reduceEqDiff, reduceIte, Option.some.injEq, dec_t, dec_f, Bool.not_true, Bool.not_false, v0, v1, v2, v6, v7, v27, List.length_map] <;> rfl)); (· (kernel_rfl)); (· (rfl)); (· (exact H.ld1 (by (with_reducible repeat' first | exact mem_h _ _ | apply mem_t); done) rfl))) | ((with_reducible apply rs_celln); (· (simp (disch := (first | assumption | omega)) only [ev, T.get_put, Nat.reduceEqDiff, reduceIte, Option.some.injEq, dec_t, dec_f, Bool.not_true, Bool.not_false, v0, v1, v2, v6, v7, v27, List.length_map] <;> rfl)); (· (kernel_rfl)); (· (rfl)); (· (exact H.ldn (by (with_reducible repeat' first | exact mem_h _ _ | apply mem_t); done) rfl rfl))))); done))))

  all_goals (first | first | exact rw_nil rfl H.toExt rfl | (exfalso; omega) | trace_state)
set_option maxHeartbeats 4000000 in
theorem c31 {n : Nat} (hn : 2 ≤ n) {b : Hp} {w : AV} {xs : List Int} {c : Bool} (hv : Lc c b w (xs.map I)) (hl : xs.length ≤ 4500) {j q z : Nat} (hj : j + q ≤ xs.length) (hz : z ≤ xs.length - q) : Wv (runA ctx 5000 n 31 [w, I (j : Int), I (q : Int), I (z : Int)] b) (fun x h' => RW b h' x 0 (movL xs j q z)) := by
  obtain ⟨k, rfl⟩ : ∃ k, n = k + 1 := ⟨n - 1, by omega⟩
  have hjq : (j : Int) + (q : Int) = ((j + q : Nat) : Int) := by omega
  have hrl := rem_len hj
  have H := ((Hs.start b).z0 (z := lc c w (xs.map I)) hv).z0 (z := isl w (xs.map I)) hv.isL
  refine wv_run fn31 rfl ?_
  have a0 : (enterEnv [w, I (j : Int), I (q : Int), I (z : Int)] Try.f31.ntmps).get 0 = some (w) := enter_get1 _ _ _
  have a1 : (enterEnv [w, I (j : Int), I (q : Int), I (z : Int)] Try.f31.ntmps).get 1 = some (I (j : Int)) := enter_get2 _ _ _ _
  have a2 : (enterEnv [w, I (j : Int), I (q : Int), I (z : Int)] Try.f31.ntmps).get 2 = some (I (q : Int)) := enter_get3 _ _ _ _ _
  have a3 : (enterEnv [w, I (j : Int), I (q : Int), I (z : Int)] Try.f31.ntmps).get 3 = some (I (z : Int)) := enter_get4 _ _ _ _ _ _
  generalize enterEnv [w, I (j : Int), I (q : Int), I (z : Int)] Try.f31.ntmps = e at a0 a1 a2 a3 ⊢
  unfold Try.f31
  dsimp only
  ((with_reducible apply wc_c (fun i => Nat.beq i 0 || Nat.beq i 1 || Nat.beq i 2 || Nat.beq i 3 || Nat.beq i 8 || Nat.beq i 9 || Nat.beq i 10 || Nat.beq i 11 || Nat.beq i 12 || Nat.beq i 31)); intro e he; have w9 := he 0 rfl; (try simp only [a0] at w9); have v0 := w9; clear w9; have w9 := he 1 rfl; (try simp only [a1] at w9); have v1 := w9; clear w9; have w9 := he 2 rfl; (try simp only [a2] at w9); have v2 := w9; clear w9; have w9 := he 3 rfl; (try simp only [a3] at w9); have v3 := w9; clear w9; have w9 := he 8 rfl; (try simp only [T.get_put, Nat.reduceEqDiff, reduceIte] at w9); have v8 := w9; clear w9; have w9 := he 9 rfl; (try simp only [T.get_put, Nat.reduceEqDiff, reduceIte] at w9); have v9 := w9; clear w9; have w9 := he 10 rfl; (try simp only [T.get_put, Nat.reduceEqDiff, reduceIte] at w9); have v10 := w9; clear w9; have w9 := he 11 rfl; (try simp only [T.get_put, Nat.reduceEqDiff, reduceIte] at w9); have v11 := w9; clear w9; have w9 := he 12 rfl; (try simp only [T.get_put, Nat.reduceEqDiff, reduceIte] at w9); have v12 := w9; clear w9; have w9 := he 31 rfl; (try simp only [T.get_put, Nat.reduceEqDiff, reduceIte] at w9); have v31 := w9; clear w9; clear he)
  repeat' (first
    | with_reducible apply wc_seq
    | ((with_reducible apply wc_region); (· (rfl)))
    | with_reducible apply wo_some
    | ((with_reducible apply wc_cond); (· (simp (disch := (first | assumption | omega)) only [ev, Option.some.injEq, v31] <;> rfl)); all_goals (intro hg; (try (try simp only [Bool.not_eq_true'] at hg)); first | (exfalso; exact Bool.noConfusion hg) | (exfalso; exact hg) | skip))
    | with_reducible apply wc_skip
    | with_reducible apply wc_ret
    | (simp only [cells_int, repl_z, ti3] at H)
    | ((with_reducible apply nx_c (fun i => Nat.beq i 0 || Nat.beq i 1 || Nat.beq i 2 || Nat.beq i 3 || Nat.beq i 8 || Nat.beq i 9 || Nat.beq i 10 || Nat.beq i 11 || Nat.beq i 12 || Nat.beq i 31)); intro e he; have w0 := he 0 rfl; have w1 := he 1 rfl; have w2 := he 2 rfl; have w3 := he 3 rfl; have w8 := he 8 rfl; have w9 := he 9 rfl; have w10 := he 10 rfl; have w11 := he 11 rfl; have w12 := he 12 rfl; have w31 := he 31 rfl; (try simp only [T.get_put, Nat.reduceEqDiff, reduceIte, v0, v1, v2, v3, v8, v9, v10, v11, v12, v31] at w0 w1 w2 w3 w8 w9 w10 w11 w12 w31); clear he v0 v1 v2 v3 v8 v9 v10 v11 v12 v31; have v0 := w0; have v1 := w1; have v2 := w2; have v3 := w3; have v8 := w8; have v9 := w9; have v10 := w10; have v11 := w11; have v12 := w12; have v31 := w31; clear w0 w1 w2 w3 w8 w9 w10 w11 w12 w31)
    | ((with_reducible apply wo_eq); (· (simp (disch := (first | assumption | omega)) only [beq_self_eq_true, eq_self, opsA_cons, opsA_nil, wantedA, guardA, yieldA, stepA_t, callA, calleeA, targetA, runOp_c, runOp_n, opA, ev, evs, evo, consO, consOO, pickA, afterA_s, putA, T.get_put, Nat.reduceEqDiff, reduceIte, List.getElem?_cons_zero, List.getElem?_cons_succ, oBuiltin, oBin, binA, binG, binL, aggO, litA, Bool.not_true, decide_true, I, Bo, oExtract, ii_add, ii_lss, ii_gtr, ii_neq, withH_s, oBuildSlice, oSlice, evParts, dec_f, wrap_ok, v0, v1, v2, v3, v10, v11, v12, List.length_map, hjq, hrl]; exact rfl)))
    | (((with_reducible apply wo_call); (· ((with_reducible apply c29); (· (omega)); (· (exact H.lok (by (with_reducible repeat' first | exact mem_h _ _ | apply mem_t); done))); (· (exact hl)); (· (exact hj)))); rintro _ h ⟨u1, rfl, l1, x1, f1⟩; have fc1 := H.fr.c; replace H := H.freshz x1 (x := lc false u1 _) l1 (fun n hn => f1 n (nmO_mem.1 hn)); replace H := H.zsub (z := lc false u1 _) (z' := isl u1 _) (.head _) l1.isL (fun n hn => hn); replace f1 := fun n hn => Nat.le_trans fc1 (f1 n hn); clear x1 fc1))
    | (((with_reducible apply wo_slb H); (· ((with_reducible repeat' first | exact mem_h _ _ | apply mem_t); done)); (· (exact ty22)); (· (rfl)); (· (exact ty3)); (· (rfl)); (· (first | rfl | assumption)); (· (simp only [List.length_map]; omega)); clear H; intro s9 r9 hn9 H; simp only [← List.map_take] at H))
    | (((with_reducible apply wo_sla H); (· ((with_reducible repeat' first | exact mem_h _ _ | apply mem_t); done)); (· (exact ty22)); (· (rfl)); (· (exact ty3)); (· (rfl)); (· (first | rfl | assumption)); (· (simp only [List.length_map]; omega)); clear H; intro s9 r9 hn9 H; simp only [← List.map_drop] at H))
    | (((with_reducible apply wo_sl H); (· ((with_reducible repeat' first | exact mem_h _ _ | apply mem_t); done)); (· (exact ty22)); (· (rfl)); (· (exact ty3)); (· (rfl)); (· (first | rfl | assumption)); (· (first | rfl | assumption)); (· (omega)); (· (simp only [List.length_map]; omega)); clear H; intro s9 r9 hn9 H; simp only [Nat.add_sub_cancel_left, ← List.map_drop, ← List.map_take] at H))
    | (((with_reducible apply wo_appe H); (· (exact ty22)); (· (rfl)); (· (exact ty3)); (· (rfl)); (· (kernel_rfl)); (· ((with_reducible repeat' first | exact mem_h _ _ | apply mem_t); done)); (· (exact ones_I _)); (· ((simp only [List.length_map, List.length_take]; omega))); clear H; intro u9 h H; simp only [List.length_map] at H))
    | (((with_reducible apply wo_appz H); (· ((with_reducible repeat' first | exact PickF.here _ _ | apply PickF.there); done)); (· (exact ty22)); (· (rfl)); (· (exact ty3)); (· (rfl)); (· (kernel_rfl)); (· ((with_reducible repeat' first | exact mem_h _ _ | apply mem_t); done)); (· (exact ones_I _)); (· ((simp only [List.length_map, List.length_take, List.length_drop]; omega))); clear H; intro u9 h H; simp only [List.length_map] at H))
    | ((with_reducible apply wo_len H); (· ((with_reducible repeat' first | exact mem_h _ _ | apply mem_t); done)); (· (exact ty22)); (· (rfl)))
    | ((with_reducible apply wo_bs H); (· (exact ty22)); (· (rfl)); (· (exact ty3)); (· (kernel_rfl)); (· ((first | rfl | (simp only [fillA_nil, fillA_cons, repl_z, repl_s, cells_int, cells_bool, cells_str, cells_float, cells_np, cells_nil, cells_nf, cells_ptr, cells_slice, cells_fn, cells_agg, cells_lagg, v0, v1, v2, v3, v8, v9, v10, v11, v12, v31, List.length_map, hjq, hrl]; rfl)))); clear H; intro n h H0n H)
    | ((first | with_reducible apply wv_ret | with_reducible apply wv_end); (· ((repeat' (first | with_reducible exact rs_nil | ((with_reducible apply rs_tmp); (· (simp (disch := (first | assumption | omega)) only [Option.some.injEq, v8, v9] <;> rfl))) | ((with_reducible apply rs_cell); (· (simp (disch := (first | assumption | omega)) only [ev, T.get_put, Nat.reduceEqDiff, reduceIte, Option.some.injEq, dec_t, dec_f, Bool.not_true, Bool.not_false, v0, v1, v2, v3, v8, v9, v10, v11, v12, v31, List.length_map, hjq, hrl] <;> rfl)); (· (kernel_rfl)); (· (rfl)); (· (exact H.ld1 (by (with_reducible repeat' first | exact mem_h _ _ | apply mem_t); done) rfl))) | ((with_reducible apply rs_celln); (· (simp (disch := (first | assumption | omega)) only [ev, T.get_put, Nat.reduceEqDiff, reduceIte, Option.some.injEq, dec_t, dec_f, Bool.not_true, Bool.not_false, v0, v1, v2, v3, v8, v9, v10, v11, v12, v31, List.length_map, hjq, hrl] <;> rfl)); (· (kernel_rfl)); (· (rfl)); (· (exact H.ldn (by (with_reducible repeat' first | exact mem_h _ _ | apply mem_t); done) rfl rfl))))); done))))

  all_goals (first | first | (exfalso; omega) | exact rw_gr H (by (with_reducible repeat' first | exact PickF.here _ _ | apply PickF.there); done) rfl (by unfold movL; rw [List.map_append, List.map_append]) (by unfold movL; rw [List.length_append, List.length_append]) | trace_state)
set_option maxHeartbeats 4000000 in
theorem c31e {n : Nat} (hn : 2 ≤ n) {b : Hp} {w : AV} {xs : List Int} {c : Bool} (hv : Lc c b w (xs.map I)) (hl : xs.length ≤ 4500) {i q z : Int} (hj : ¬ (0 ≤ i ∧ 0 ≤ q ∧ i ≤ (xs.length : Int) ∧ q ≤ (xs.length : Int) - i)) : Wv (runA ctx 5000 n 31 [w, I i, I q, I z] b) (fun x h' => RW b h' x 4 []) := by
  obtain ⟨k, rfl⟩ : ∃ k, n = k + 1 := ⟨n - 1, by omega⟩
  have H := ((Hs.start b).z0 (z := lc c w (xs.map I)) hv).z0 (z := isl w (xs.map I)) hv.isL
  refine wv_run fn31 rfl ?_
  have a0 : (enterEnv [w, I i, I q, I z] Try.f31.ntmps).get 0 = some (w) := enter_get1 _ _ _
  have a1 : (enterEnv [w, I i, I q, I z] Try.f31.ntmps).get 1 = some (I i) := enter_get2 _ _ _ _
  have a2 : (enterEnv [w, I i, I q, I z] Try.f31.ntmps).get 2 = some (I q) := enter_get3 _ _ _ _ _
  have a3 : (enterEnv [w, I i, I q, I z] Try.f31.ntmps).get 3 = some (I z) := enter_get4 _ _ _ _ _ _
  generalize enterEnv [w, I i, I q, I z] Try.f31.ntmps = e at a0 a1 a2 a3 ⊢
  unfold Try.f31
  dsimp only
  ((with_reducible apply wc_c (fun i => Nat.beq i 0 || Nat.beq i 1 || Nat.beq i 2 || Nat.beq i 3 || Nat.beq i 8 || Nat.beq i 9 || Nat.beq i 10 || Nat.beq i 11 || Nat.beq i 12 || Nat.beq i 31)); intro e he; have w9 := he 0 rfl; (try simp only [a0] at w9); have v0 := w9; clear w9; have w9 := he 1 rfl; (try simp only [a1] at w9); have v1 := w9; clear w9; have w9 := he 2 rfl; (try simp only [a2] at w9); have v2 := w9; clear w9; have w9 := he 3 rfl; (try simp only [a3] at w9); have v3 := w9; clear w9; have w9 := he 8 rfl; (try simp only [T.get_put, Nat.reduceEqDiff, reduceIte] at w9); have v8 := w9; clear w9; have w9 := he 9 rfl; (try simp only [T.get_put, Nat.reduceEqDiff, reduceIte] at w9); have v9 := w9; clear w9; have w9 := he 10 rfl; (try simp only [T.get_put, Nat.reduceEqDiff, reduceIte] at w9); have v10 := w9; clear w9; have w9 := he 11 rfl; (try simp only [T.get_put, Nat.reduceEqDiff, reduceIte] at w9); have v11 := w9; clear w9; have w9 := he 12 rfl; (try simp only [T.get_put, Nat.reduceEqDiff, reduceIte] at w9); have v12 := w9; clear w9; have w9 := he 31 rfl; (try simp only [T.get_put, Nat.reduceEqDiff, reduceIte] at w9); have v31 := w9; clear w9; clear he)
  repeat' (first
    | with_reducible apply wc_seq
    | ((with_reducible apply wc_region); (· (rfl)))
    | with_reducible apply wo_some
    | ((with_reducible apply wc_cond); (· (simp (disch := (first | assumption | omega)) only [ev, Option.some.injEq, v31] <;> rfl)); all_goals (intro hg; (try (try simp only [Bool.not_eq_true'] at hg)); first | (exfalso; exact Bool.noConfusion hg) | (exfalso; exact hg) | skip))
    | with_reducible apply wc_ret
    | with_reducible apply nx_r
    | ((with_reducible apply nx_c (fun i => Nat.beq i 0 || Nat.beq i 1 || Nat.beq i 2 || Nat.beq i 3 || Nat.beq i 8 || Nat.beq i 9 || Nat.beq i 10 || Nat.beq i 11 || Nat.beq i 12 || Nat.beq i 31)); intro e he; have w0 := he 0 rfl; have w1 := he 1 rfl; have w2 := he 2 rfl; have w3 := he 3 rfl; have w8 := he 8 rfl; have w9 := he 9 rfl; have w10 := he 10 rfl; have w11 := he 11 rfl; have w12 := he 12 rfl; have w31 := he 31 rfl; (try simp only [T.get_put, Nat.reduceEqDiff, reduceIte, v0, v1, v2, v3, v8, v9, v10, v11, v12, v31] at w0 w1 w2 w3 w8 w9 w10 w11 w12 w31); clear he v0 v1 v2 v3 v8 v9 v10 v11 v12 v31; have v0 := w0; have v1 := w1; have v2 := w2; have v3 := w3; have v8 := w8; have v9 := w9; have v10 := w10; have v11 := w11; have v12 := w12; have v31 := w31; clear w0 w1 w2 w3 w8 w9 w10 w11 w12 w31)
    | ((with_reducible apply wo_eq); (· (simp (disch := (first | assumption | omega)) only [eq_self, opsA_cons, opsA_nil, wantedA, guardA, yieldA, stepA_t, stepA_f, callA, calleeA, targetA, runOp_c, runOp_n, opA, ev, evs, consO, consOO, pickA, afterA_s, putA, T.get_put, Nat.reduceEqDiff, reduceIte, List.getElem?_cons_zero, List.getElem?_cons_succ, oBin, binA, binG, binL, aggO, litA, Bool.not_false, tf_beq, I, Bo, oExtract, ii_neq, withH_s, dec_f, v0, v1, v2, v11]; exact rfl)))
    | (((with_reducible apply wo_call); (· ((with_reducible apply c29e); (· (omega)); (· (exact H.lok (by (with_reducible repeat' first | exact mem_h _ _ | apply mem_t); done))); (· (exact hl)); (· (exact hj)))); rintro _ h ⟨u1, rfl, l1, x1, f1⟩; have fc1 := H.fr.c; replace H := H.freshz x1 (x := lc false u1 _) l1 (fun n hn => f1 n (nmO_mem.1 hn)); replace H := H.zsub (z := lc false u1 _) (z' := isl u1 _) (.head _) l1.isL (fun n hn => hn); replace f1 := fun n hn => Nat.le_trans fc1 (f1 n hn); clear x1 fc1))
    | ((first | with_reducible apply wv_ret | with_reducible apply wv_end); (· ((repeat' (first | with_reducible exact rs_nil | ((with_reducible apply rs_tmp); (· (simp (disch := (first | assumption | omega)) only [Option.some.injEq, v8, v9] <;> rfl))) | ((with_reducible apply rs_cell); (· (simp (disch := (first | assumption | omega)) only [ev, T.get_put, Nat.reduceEqDiff, reduceIte, Option.some.injEq, dec_t, dec_f, Bool.not_true, Bool.not_false, v0, v1, v2, v3, v8, v9, v10, v11, v12, v31, List.length_map] <;> rfl)); (· (kernel_rfl)); (· (rfl)); (· (exact H.ld1 (by (with_reducible repeat' first | exact mem_h _ _ | apply mem_t); done) rfl))) | ((with_reducible apply rs_celln); (· (simp (disch := (first | assumption | omega)) only [ev, T.get_put, Nat.reduceEqDiff, reduceIte, Option.some.injEq, dec_t, dec_f, Bool.not_true, Bool.not_false, v0, v1, v2, v3, v8, v9, v10, v11, v12, v31, List.length_map] <;> rfl)); (· (kernel_rfl)); (· (rfl)); (· (exact H.ldn (by (with_reducible repeat' first | exact mem_h _ _ | apply mem_t); done) rfl rfl))))); done))))

  all_goals (first | first | exact rw_nil rfl H.toExt rfl | (exfalso; omega) | trace_state)
set_option maxHeartbeats 4000000 in
theorem c31f {n : Nat} (hn : 2 ≤ n) {b : Hp} {w : AV} {xs : List Int} {c : Bool} (hv : Lc c b w (xs.map I)) (hl : xs.length ≤ 4500) {j q : Nat} {z : Int} (hj : j + q ≤ xs.length) (hz : z < 0 ∨ (xs.length : Int) - (q : Int) < z) : Wv (runA ctx 5000 n 31 [w, I (j : Int), I (q : Int), I z] b) (fun x h' => RW b h' x 4 []) := by
  obtain ⟨k, rfl⟩ : ∃ k, n = k + 1 := ⟨n - 1, by omega⟩
  have hjq : (j : Int) + (q : Int) = ((j + q : Nat) : Int) := by omega
  have hrl := rem_len hj
  have H := ((Hs.start b).z0 (z := lc c w (xs.map I)) hv).z0 (z := isl w (xs.map I)) hv.isL
  refine wv_run fn31 rfl ?_
  have a0 : (enterEnv [w, I (j : Int), I (q : Int), I z] Try.f31.ntmps).get 0 = some (w) := enter_get1 _ _ _
  have a1 : (enterEnv [w, I (j : Int), I (q : Int), I z] Try.f31.ntmps).get 1 = some (I (j : Int)) := enter_get2 _ _ _ _
  have a2 : (enterEnv [w, I (j : Int), I (q : Int), I z] Try.f31.ntmps).get 2 = some (I (q : Int)) := enter_get3 _ _ _ _ _
  have a3 : (enterEnv [w, I (j : Int), I (q : Int), I z] Try.f31.ntmps).get 3 = some (I z) := enter_get4 _ _ _ _ _ _
  generalize enterEnv [w, I (j : Int), I (q : Int), I z] Try.f31.ntmps = e at a0 a1 a2 a3 ⊢
  unfold Try.f31
  dsimp only
  ((with_reducible apply wc_c (fun i => Nat.beq i 0 || Nat.beq i 1 || Nat.beq i 2 || Nat.beq i 3 || Nat.beq i 8 || Nat.beq i 9 || Nat.beq i 10 || Nat.beq i 11 || Nat.beq i 12 || Nat.beq i 31)); intro e he; have w9 := he 0 rfl; (try simp only [a0] at w9); have v0 := w9; clear w9; have w9 := he 1 rfl; (try simp only [a1] at w9); have v1 := w9; clear w9; have w9 := he 2 rfl; (try simp only [a2] at w9); have v2 := w9; clear w9; have w9 := he 3 rfl; (try simp only [a3] at w9); have v3 := w9; clear w9; have w9 := he 8 rfl; (try simp only [T.get_put, Nat.reduceEqDiff, reduceIte] at w9); have v8 := w9; clear w9; have w9 := he 9 rfl; (try simp only [T.get_put, Nat.reduceEqDiff, reduceIte] at w9); have v9 := w9; clear w9; have w9 := he 10 rfl; (try simp only [T.get_put, Nat.reduceEqDiff, reduceIte] at w9); have v10 := w9; clear w9; have w9 := he 11 rfl; (try simp only [T.get_put, Nat.reduceEqDiff, reduceIte] at w9); have v11 := w9; clear w9; have w9 := he 12 rfl; (try simp only [T.get_put, Nat.reduceEqDiff, reduceIte] at w9); have v12 := w9; clear w9; have w9 := he 31 rfl; (try simp only [T.get_put, Nat.reduceEqDiff, reduceIte] at w9); have v31 := w9; clear w9; clear he)
  repeat' (first
    | with_reducible apply wc_seq
    | ((with_reducible apply wc_region); (· (rfl)))
    | with_reducible apply wo_some
    | ((with_reducible apply wc_cond); (· (simp (disch := (first | assumption | omega)) only [ev, Option.some.injEq, v31] <;> rfl)); all_goals (intro hg; (try (try simp only [Bool.not_eq_true'] at hg)); first | (exfalso; exact Bool.noConfusion hg) | (exfalso; exact hg) | skip))
    | with_reducible apply wc_ret
    | with_reducible apply nx_r
    | ((with_reducible apply nx_c (fun i => Nat.beq i 0 || Nat.beq i 1 || Nat.beq i 2 || Nat.beq i 3 || Nat.beq i 8 || Nat.beq i 9 || Nat.beq i 10 || Nat.beq i 11 || Nat.beq i 12 || Nat.beq i 31)); intro e he; have w0 := he 0 rfl; have w1 := he 1 rfl; have w2 := he 2 rfl; have w3 := he 3 rfl; have w8 := he 8 rfl; have w9 := he 9 rfl; have w10 := he 10 rfl; have w11 := he 11 rfl; have w12 := he 12 rfl; have w31 := he 31 rfl; (try simp only [T.get_put, Nat.reduceEqDiff, reduceIte, v0, v1, v2, v3, v8, v9, v10, v11, v12, v31] at w0 w1 w2 w3 w8 w9 w10 w11 w12 w31); clear he v0 v1 v2 v3 v8 v9 v10 v11 v12 v31; have v0 := w0; have v1 := w1; have v2 := w2; have v3 := w3; have v8 := w8; have v9 := w9; have v10 := w10; have v11 := w11; have v12 := w12; have v31 := w31; clear w0 w1 w2 w3 w8 w9 w10 w11 w12 w31)
    | ((with_reducible apply wo_eq); (· (simp (disch := (first | assumption | omega)) only [beq_self_eq_true, eq_self, opsA_cons, opsA_nil, wantedA, guardA, yieldA, stepA_t, stepA_f, callA, calleeA, targetA, runOp_c, runOp_n, opA, ev, evs, consO, consOO, pickA, afterA_s, putA, T.get_put, Nat.reduceEqDiff, reduceIte, List.getElem?_cons_zero, List.getElem?_cons_succ, oBuiltin, oBin, binA, binG, binL, aggO, litA, Bool.not_true, decide_true, tf_beq, I, Bo, oExtract, ii_lss, ii_gtr, ii_neq, withH_s, dec_t, dec_f, v0, v1, v2, v3, v10, v11, List.length_map, hrl]; exact rfl)))
    | (((with_reducible apply wo_call); (· ((with_reducible apply c29); (· (omega)); (· (exact H.lok (by (with_reducible repeat' first | exact mem_h _ _ | apply mem_t); done))); (· (exact hl)); (· (exact hj)))); rintro _ h ⟨u1, rfl, l1, x1, f1⟩; have fc1 := H.fr.c; replace H := H.freshz x1 (x := lc false u1 _) l1 (fun n hn => f1 n (nmO_mem.1 hn)); replace H := H.zsub (z := lc false u1 _) (z' := isl u1 _) (.head _) l1.isL (fun n hn => hn); replace f1 := fun n hn => Nat.le_trans fc1 (f1 n hn); clear x1 fc1))
    | ((with_reducible apply wo_len H); (· ((with_reducible repeat' first | exact mem_h _ _ | apply mem_t); done)); (· (exact ty22)); (· (rfl)))
    | ((with_reducible apply wo_step) <;> intro hg <;> (try simp only [beq_false, Bool.not_eq_eq_eq_not, Bool.not_true, Bool.not_false, decide_eq_true_eq, decide_eq_false_iff_not] at hg) <;> (try subst hg) <;> (first | (exfalso; exact Bool.noConfusion hg) | skip))
    | ((first | with_reducible apply wv_ret | with_reducible apply wv_end); (· ((repeat' (first | with_reducible exact rs_nil | ((with_reducible apply rs_tmp); (· (simp (disch := (first | assumption | omega)) only [Option.some.injEq, v8, v9] <;> rfl))) | ((with_reducible apply rs_cell); (· (simp (disch := (first | assumption | omega)) only [ev, T.get_put, Nat.reduceEqDiff, reduceIte, Option.some.injEq, dec_t, dec_f, Bool.not_true, Bool.not_false, v0, v1, v2, v3, v8, v9, v10, v11, v12, v31, List.length_map, hrl] <;> rfl)); (· (kernel_rfl)); (· (rfl)); (· (exact H.ld1 (by (with_reducible repeat' first | exact mem_h _ _ | apply mem_t); done) rfl))) | ((with_reducible apply rs_celln); (· (simp (disch := (first | assumption | omega)) only [ev, T.get_put, Nat.reduceEqDiff, reduceIte, Option.some.injEq, dec_t, dec_f, Bool.not_true, Bool.not_false, v0, v1, v2, v3, v8, v9, v10, v11, v12, v31, List.length_map, hrl] <;> rfl)); (· (kernel_rfl)); (· (rfl)); (· (exact H.ldn (by (with_reducible repeat' first | exact mem_h _ _ | apply mem_t); done) rfl rfl))))); done))))

  all_goals (first | first | exact rw_nil rfl H.toExt rfl | (exfalso; omega) | trace_state)
set_option maxHeartbeats 4000000 in
theorem c27 {n : Nat} (hn : 3 ≤ n) {b : Hp} {w w2 : AV} {xs ys : List Int} {c c2 : Bool} (hv : Lc c b w (xs.map I)) (hw : Lc c2 b w2 (ys.map I)) (gx : GT.Good xs) (hl2 : ys.length ≤ 5000) {j : Nat} (hj : j ≤ xs.length) : Wv (runA ctx 5000 n 27 [w, I (j : Int), w2] b) (fun x h' => RW b h' x (insE xs ys) (okL (insE xs ys) (insL xs j ys))) := by
  obtain ⟨k, rfl⟩ : ∃ k, n = k + 1 := ⟨n - 1, by omega⟩
  have lx := gx.2.2
  have H := ((((Hs.start b).z0 (z := lc c w (xs.map I)) hv).z0 (z := isl w (xs.map I)) hv.isL).z0 (z := lc c2 w2 (ys.map I)) hw).z0 (z := isl w2 (ys.map I)) hw.isL
  refine wv_run fn27 rfl ?_
  have a0 : (enterEnv [w, I (j : Int), w2] Try.f27.ntmps).get 0 = some (w) := enter_get1 _ _ _
  have a1 : (enterEnv [w, I (j : Int), w2] Try.f27.ntmps).get 1 = some (I (j : Int)) := enter_get2 _ _ _ _
  have a2 : (enterEnv [w, I (j : Int), w2] Try.f27.ntmps).get 2 = some (w2) := enter_get3 _ _ _ _ _
  generalize enterEnv [w, I (j : Int), w2] Try.f27.ntmps = e at a0 a1 a2 ⊢
  unfold Try.f27
  dsimp only
  ((with_reducible apply wc_c (fun i => Nat.beq i 0 || Nat.beq i 1 || Nat.beq i 2 || Nat.beq i 6 || Nat.beq i 7 || Nat.beq i 8 || Nat.beq i 9 || Nat.beq i 17 || Nat.beq i 21 || Nat.beq i 30)); intro e he; have w9 := he 0 rfl; (try simp only [a0] at w9); have v0 := w9; clear w9; have w9 := he 1 rfl; (try simp only [a1] at w9); have v1 := w9; clear w9; have w9 := he 2 rfl; (try simp only [a2] at w9); have v2 := w9; clear w9; have w9 := he 6 rfl; (try simp only [T.get_put, Nat.reduceEqDiff, reduceIte] at w9); have v6 := w9; clear w9; have w9 := he 7 rfl; (try simp only [T.get_put, Nat.reduceEqDiff, reduceIte] at w9); have v7 := w9; clear w9; have w9 := he 8 rfl; (try simp only [T.get_put, Nat.reduceEqDiff, reduceIte] at w9); have v8 := w9; clear w9; have w9 := he 9 rfl; (try simp only [T.get_put, Nat.reduceEqDiff, reduceIte] at w9); have v9 := w9; clear w9; have w9 := he 17 rfl; (try simp only [T.get_put, Nat.reduceEqDiff, reduceIte] at w9); have v17 := w9; clear w9; have w9 := he 21 rfl; (try simp only [T.get_put, Nat.reduceEqDiff, reduceIte] at w9); have v21 := w9; clear w9; have w9 := he 30 rfl; (try simp only [T.get_put, Nat.reduceEqDiff, reduceIte] at w9); have v30 := w9; clear w9; clear he)
  repeat' (first
    | with_reducible apply wc_seq
    | ((with_reducible apply wc_region); (· (rfl)))
    | with_reducible apply wo_some
    | ((with_reducible apply wc_cond); (· (simp (disch := (first | assumption | omega)) only [ev, Option.some.injEq, v17, v21, v30] <;> rfl)); all_goals (intro hg; (try (try simp only [Bool.not_eq_eq_eq_not, Bool.not_true, Bool.not_false, decide_eq_true_eq, decide_eq_false_iff_not] at hg)); first | (exfalso; exact Bool.noConfusion hg) | (exfalso; exact hg) | skip))
    | with_reducible apply wc_skip
    | with_reducible apply wc_ret
    | with_reducible apply nx_r
    | (simp only [cells_int, repl_z, ti3] at H)
    | ((with_reducible apply nx_c (fun i => Nat.beq i 0 || Nat.beq i 1 || Nat.beq i 2 || Nat.beq i 6 || Nat.beq i 7 || Nat.beq i 8 || Nat.beq i 9 || Nat.beq i 17 || Nat.beq i 21 || Nat.beq i 30)); intro e he; have w0 := he 0 rfl; have w1 := he 1 rfl; have w2 := he 2 rfl; have w6 := he 6 rfl; have w7 := he 7 rfl; have w8 := he 8 rfl; have w9 := he 9 rfl; have w17 := he 17 rfl; have w21 := he 21 rfl; have w30 := he 30 rfl; (try simp only [T.get_put, Nat.reduceEqDiff, reduceIte, v0, v1, v2, v6, v7, v8, v9, v17, v21, v30] at w0 w1 w2 w6 w7 w8 w9 w17 w21 w30); clear he v0 v1 v2 v6 v7 v8 v9 v17 v21 v30; have v0 := w0; have v1 := w1; have v2 := w2; have v6 := w6; have v7 := w7; have v8 := w8; have v9 := w9; have v17 := w17; have v21 := w21; have v30 := w30; clear w0 w1 w2 w6 w7 w8 w9 w17 w21 w30)
    | ((with_reducible apply wo_eq); (· (simp (disch := (first | assumption | omega)) only [beq_self_eq_true, eq_self, opsA_cons, opsA_nil, wantedA, guardA, yieldA, stepA_t, callA, calleeA, targetA, runOp_c, runOp_n, opA, ev, evs, evo, consO, consOO, pickA, afterA_s, putA, T.get_put, Nat.reduceEqDiff, reduceIte, List.getElem?_cons_zero, List.getElem?_cons_succ, oBuiltin, oBin, binA, binG, binL, aggO, litA, I, Bo, oExtract, ii_lss, ii_gtr, ii_neq, withH_s, oBuildSlice, oSlice, evParts, dec_f, v0, v1, v2, v8, v9, List.length_map]; exact rfl)))
    | (((with_reducible apply wo_call); (· ((with_reducible apply c10); (· (omega)); (· (exact H.lok (by (with_reducible repeat' first | exact mem_h _ _ | apply mem_t); done))); (· (exact hl2)))); rintro _ h ⟨rfl, rfl⟩))
    | (((with_reducible apply wo_call); (· ((with_reducible apply c25); (· (omega)); (· (exact H.lok (by (with_reducible repeat' first | exact mem_h _ _ | apply mem_t); done))); (· (exact H.lok (by (with_reducible repeat' first | exact mem_h _ _ | apply mem_t); done))); (· (exact gx)); (· (exact ((chk_iff ys).1 (by assumption)).1)))); rintro _ h ⟨u1, rfl, l1, x1, f1⟩; have fc1 := H.fr.c; replace H := H.freshz x1 (x := lc false u1 _) l1 (fun n hn => f1 n (nmO_mem.1 hn)); replace H := H.zsub (z := lc false u1 _) (z' := isl u1 _) (.head _) l1.isL (fun n hn => hn); replace f1 := fun n hn => Nat.le_trans fc1 (f1 n hn); clear x1 fc1))
    | (((with_reducible apply wo_slb H); (· ((with_reducible repeat' first | exact mem_h _ _ | apply mem_t); done)); (· (exact ty22)); (· (rfl)); (· (exact ty3)); (· (rfl)); (· (first | rfl | assumption)); (· (simp only [List.length_map]; omega)); clear H; intro s9 r9 hn9 H; simp only [← List.map_take] at H))
    | (((with_reducible apply wo_sla H); (· ((with_reducible repeat' first | exact mem_h _ _ | apply mem_t); done)); (· (exact ty22)); (· (rfl)); (· (exact ty3)); (· (rfl)); (· (first | rfl | assumption)); (· (simp only [List.length_map]; omega)); clear H; intro s9 r9 hn9 H; simp only [← List.map_drop] at H))
    | (((with_reducible apply wo_appe H); (· (exact ty22)); (· (rfl)); (· (exact ty3)); (· (rfl)); (· (kernel_rfl)); (· ((with_reducible repeat' first | exact mem_h _ _ | apply mem_t); done)); (· (exact ones_I _)); (· ((simp only [List.length_map, List.length_take]; omega))); clear H; intro u9 h H; simp only [List.length_map] at H))
    | (((with_reducible apply wo_appz H); (· ((with_reducible repeat' first | exact PickF.here _ _ | apply PickF.there); done)); (· (exact ty22)); (· (rfl)); (· (exact ty3)); (· (rfl)); (· (kernel_rfl)); (· ((with_reducible repeat' first | exact mem_h _ _ | apply mem_t); done)); (· (exact ones_I _)); (· ((simp only [List.length_map, List.length_take, List.length_drop]; omega))); clear H; intro u9 h H; simp only [List.length_map] at H))
    | ((with_reducible apply wo_len H); (· ((with_reducible repeat' first | exact mem_h _ _ | apply mem_t); done)); (· (exact ty22)); (· (rfl)))
    | ((with_reducible apply wo_bs H); (· (exact ty22)); (· (rfl)); (· (exact ty3)); (· (kernel_rfl)); (· ((first | rfl | (simp only [fillA_nil, fillA_cons, repl_z, repl_s, cells_int, cells_bool, cells_str, cells_float, cells_np, cells_nil, cells_nf, cells_ptr, cells_slice, cells_fn, cells_agg, cells_lagg, v0, v1, v2, v6, v7, v8, v9, v17, v21, v30, List.length_map]; rfl)))); clear H; intro n h H0n H)
    | ((first | with_reducible apply wv_ret | with_reducible apply wv_end); (· ((repeat' (first | with_reducible exact rs_nil | ((with_reducible apply rs_tmp); (· (simp (disch := (first | assumption | omega)) only [Option.some.injEq, v6, v7] <;> rfl))) | ((with_reducible apply rs_cell); (· (simp (disch := (first | assumption | omega)) only [ev, T.get_put, Nat.reduceEqDiff, reduceIte, Option.some.injEq, dec_t, dec_f, Bool.not_true, Bool.not_false, v0, v1, v2, v6, v7, v8, v9, v17, v21, v30, List.length_map] <;> rfl)); (· (kernel_rfl)); (· (rfl)); (· (exact H.ld1 (by (with_reducible repeat' first | exact mem_h _ _ | apply mem_t); done) rfl))) | ((with_reducible apply rs_celln); (· (simp (disch := (first | assumption | omega)) only [ev, T.get_put, Nat.reduceEqDiff, reduceIte, Option.some.injEq, dec_t, dec_f, Bool.not_true, Bool.not_false, v0, v1, v2, v6, v7, v8, v9, v17, v21, v30, List.length_map] <;> rfl)); (· (kernel_rfl)); (· (rfl)); (· (exact H.ldn (by (with_reducible repeat' first | exact mem_h _ _ | apply mem_t); done) rfl rfl))))); done))))

  all_goals (first | first | (exfalso; omega) | (have hc9 : ¬ chk ys = 0 := (by assumption); rw [insE_e hc9, okL_e hc9]; exact rw_nil rfl H.toExt rfl) | (have hc9 : chk ys = 0 := (by assumption); have hj9 : ¬ joinE xs ys = 0 := (by assumption); rw [insE_0 hc9, okL_e hj9]; exact rw_nil rfl H.toExt rfl) | (have hc9 : chk ys = 0 := (by assumption); have hj9 : joinE xs ys = 0 := (by assumption); rw [insE_0 hc9, okL_0 hj9, hj9]; exact rw_gr H (by (with_reducible repeat' first | exact PickF.here _ _ | apply PickF.there); done) rfl (by unfold insL; rw [List.map_append, List.map_append]) (by unfold insL; rw [List.length_append, List.length_append])) | trace_state)
set_option maxHeartbeats 4000000 in
theorem c27e {n : Nat} (hn : 3 ≤ n) {b : Hp} {w : AV} {xs : List Int} {c : Bool} (hv : Lc c b w (xs.map I)) (hl : xs.length ≤ 4500) {i : Int} {w2 : AV} (hi : i < 0 ∨ (xs.length : Int) < i) : Wv (runA ctx 5000 n 27 [w, I i, w2] b) (fun x h' => RW b h' x 4 []) := by
  obtain ⟨k, rfl⟩ : ∃ k, n = k + 1 := ⟨n - 1, by omega⟩
  have H := ((Hs.start b).z0 (z := lc c w (xs.map I)) hv).z0 (z := isl w (xs.map I)) hv.isL
  refine wv_run fn27 rfl ?_
  have a0 : (enterEnv [w, I i, w2] Try.f27.ntmps).get 0 = some (w) := enter_get1 _ _ _
  have a1 : (enterEnv [w, I i, w2] Try.f27.ntmps).get 1 = some (I i) := enter_get2 _ _ _ _
  have a2 : (enterEnv [w, I i, w2] Try.f27.ntmps).get 2 = some (w2) := enter_get3 _ _ _ _ _
  generalize enterEnv [w, I i, w2] Try.f27.ntmps = e at a0 a1 a2 ⊢
  unfold Try.f27
  dsimp only
  ((with_reducible apply wc_c (fun i => Nat.beq i 0 || Nat.beq i 1 || Nat.beq i 2 || Nat.beq i 6 || Nat.beq i 7 || Nat.beq i 8 || Nat.beq i 9 || Nat.beq i 17 || Nat.beq i 21 || Nat.beq i 30)); intro e he; have w9 := he 0 rfl; (try simp only [a0] at w9); have v0 := w9; clear w9; have w9 := he 1 rfl; (try simp only [a1] at w9); have v1 := w9; clear w9; have w9 := he 2 rfl; (try simp only [a2] at w9); have v2 := w9; clear w9; have w9 := he 6 rfl; (try simp only [T.get_put, Nat.reduceEqDiff, reduceIte] at w9); have v6 := w9; clear w9; have w9 := he 7 rfl; (try simp only [T.get_put, Nat.reduceEqDiff, reduceIte] at w9); have v7 := w9; clear w9; have w9 := he 8 rfl; (try simp only [T.get_put, Nat.reduceEqDiff, reduceIte] at w9); have v8 := w9; clear w9; have w9 := he 9 rfl; (try simp only [T.get_put, Nat.reduceEqDiff, reduceIte] at w9); have v9 := w9; clear w9; have w9 := he 17 rfl; (try simp only [T.get_put, Nat.reduceEqDiff, reduceIte] at w9); have v17 := w9; clear w9; have w9 := he 21 rfl; (try simp only [T.get_put, Nat.reduceEqDiff, reduceIte] at w9); have v21 := w9; clear w9; have w9 := he 30 rfl; (try simp only [T.get_put, Nat.reduceEqDiff, reduceIte] at w9); have v30 := w9; clear w9; clear he)
  repeat' (first
    | with_reducible apply wc_seq
    | ((with_reducible apply wc_region); (· (rfl)))
    | with_reducible apply wo_some
    | ((with_reducible apply wc_cond); (· (simp (disch := (first | assumption | omega)) only [ev, Option.some.injEq, v17] <;> rfl)); all_goals (intro hg; (try (try simp only [Bool.not_eq_true'] at hg)); first | (exfalso; exact Bool.noConfusion hg) | (exfalso; exact hg) | skip))
    | with_reducible apply wc_ret
    | with_reducible apply nx_r
    | ((with_reducible apply nx_c (fun i => Nat.beq i 0 || Nat.beq i 1 || Nat.beq i 2 || Nat.beq i 6 || Nat.beq i 7 || Nat.beq i 8 || Nat.beq i 9 || Nat.beq i 17 || Nat.beq i 21 || Nat.beq i 30)); intro e he; have w0 := he 0 rfl; have w1 := he 1 rfl; have w2 := he 2 rfl; have w6 := he 6 rfl; have w7 := he 7 rfl; have w8 := he 8 rfl; have w9 := he 9 rfl; have w17 := he 17 rfl; have w21 := he 21 rfl; have w30 := he 30 rfl; (try simp only [T.get_put, Nat.reduceEqDiff, reduceIte, v0, v1, v2, v6, v7, v8, v9, v17, v21, v30] at w0 w1 w2 w6 w7 w8 w9 w17 w21 w30); clear he v0 v1 v2 v6 v7 v8 v9 v17 v21 v30; have v0 := w0; have v1 := w1; have v2 := w2; have v6 := w6; have v7 := w7; have v8 := w8; have v9 := w9; have v17 := w17; have v21 := w21; have v30 := w30; clear w0 w1 w2 w6 w7 w8 w9 w17 w21 w30)
    | ((with_reducible apply wo_eq); (· (simp (disch := (first | assumption | omega)) only [beq_self_eq_true, eq_self, opsA_cons, opsA_nil, wantedA, guardA, yieldA, stepA_t, stepA_f, callA, calleeA, runOp_n, opA, ev, evs, consO, consOO, pickA, afterA_s, putA, T.get_put, Nat.reduceEqDiff, reduceIte, List.getElem?_cons_zero, List.getElem?_cons_succ, oBuiltin, oBin, binA, binG, binL, aggO, litA, tf_beq, I, Bo, ii_lss, ii_gtr, withH_s, dec_t, dec_f, v0, v1, List.length_map]; exact rfl)))
    | ((with_reducible apply wo_len H); (· ((with_reducible repeat' first | exact mem_h _ _ | apply mem_t); done)); (· (exact ty22)); (· (rfl)))
    | ((with_reducible apply wo_step) <;> intro hg <;> (try simp only [beq_false, Bool.not_eq_eq_eq_not, Bool.not_true, Bool.not_false, decide_eq_true_eq, decide_eq_false_iff_not] at hg) <;> (try subst hg) <;> (first | (exfalso; exact Bool.noConfusion hg) | skip))
    | ((first | with_reducible apply wv_ret | with_reducible apply wv_end); (· ((repeat' (first | with_reducible exact rs_nil | ((with_reducible apply rs_tmp); (· (simp (disch := (first | assumption | omega)) only [Option.some.injEq, v6, v7] <;> rfl))) | ((with_reducible apply rs_cell); (· (simp (disch := (first | assumption | omega)) only [ev, T.get_put, Nat.reduceEqDiff, reduceIte, Option.some.injEq, dec_t, dec_f, Bool.not_true, Bool.not_false, v0, v1, v2, v6, v7, v8, v9, v17, v21, v30, List.length_map] <;> rfl)); (· (kernel_rfl)); (· (rfl)); (· (exact H.ld1 (by (with_reducible repeat' first | exact mem_h _ _ | apply mem_t); done) rfl))) | ((with_reducible apply rs_celln); (· (simp (disch := (first | assumption | omega)) only [ev, T.get_put, Nat.reduceEqDiff, reduceIte, Option.some.injEq, dec_t, dec_f, Bool.not_true, Bool.not_false, v0, v1, v2, v6, v7, v8, v9, v17, v21, v30, List.length_map] <;> rfl)); (· (kernel_rfl)); (· (rfl)); (· (exact H.ldn (by (with_reducible repeat' first | exact mem_h _ _ | apply mem_t); done) rfl rfl))))); done))))

  all_goals (first | first | exact rw_nil rfl H.toExt rfl | (exfalso; omega) | trace_state)


end Go.Proofs.Ytpioenfglmimgaa
