import Derived.Test.YtpioenfglmimgaaVH
import Derived.KernelRfl
namespace Go.Proofs.Ytpioenfglmimgaa
open Go Go.Proofs Go.RowKit Go.Proofs.Abs
set_option linter.unusedSimpArgs false
set_option linter.unusedVariables false
theorem pre_le {l : List Int} (g : GT.Good l) {j : Nat} {v : Int} (h : l[j]? = some v) : 0 ≤ (l.take j).sum ∧ 0 ≤ v ∧ (l.take j).sum + v ≤ l.sum := by
  have h1 := sum_take h
  have h2 := sum_sub (List.take_sublist (j + 1) l) g.1
  exact ⟨GT.sum_nn (good_take g j).1, g.1 v (List.mem_of_getElem? h), by omega⟩
set_option maxHeartbeats 4000000 in
theorem c20 {n : Nat} (hn : 3 ≤ n) {b : Hp} {g : GT} (pg : g.ok b) (gd : GT.Good g.lst) (bl : g.bal) {i : Nat} {x v : Int} (hv : g.lst[i]? = some v) (hx1 : (g.lst.take i).sum ≤ x) (hx2 : x < (g.lst.take i).sum + v) : Wv (runA ctx 5000 n 20 [.agg [g.val], I x] b) (fun r h' => r = .tup [I (i : Int), I (x - (g.lst.take i).sum), I 0] ∧ Ext b h') := by
  obtain ⟨k, rfl⟩ : ∃ k, n = k + 1 := ⟨n - 1, by omega⟩
  have s1 := gd.sm
  have hh := GT.bal_hgt bl s1.2.2
  have hlen := GT.len g
  have H := (Hs.start b).z0 (z := tre g) pg
  have hp9 := pre_le gd hv
  have hsm : g.lst.sum = g.sm := rfl
  rw [hsm] at hp9
  have hil := (List.getElem?_eq_some_iff.1 hv).1
  refine wv_run fn20 rfl ?_
  have a0 : (enterEnv [.agg [g.val], I x] Try.f20.ntmps).get 0 = some (.agg [g.val]) := enter_get1 _ _ _
  have a1 : (enterEnv [.agg [g.val], I x] Try.f20.ntmps).get 1 = some (I x) := enter_get2 _ _ _ _
  generalize enterEnv [.agg [g.val], I x] Try.f20.ntmps = e at a0 a1 ⊢
  unfold Try.f20
  dsimp only
  ((with_reducible apply wc_c (fun i => Nat.beq i 0 || Nat.beq i 1 || Nat.beq i 2 || Nat.beq i 4 || Nat.beq i 5 || Nat.beq i 6 || Nat.beq i 7 || Nat.beq i 15 || Nat.beq i 24 || Nat.beq i 48)); intro e he; have w9 := he 0 rfl; (try simp only [a0] at w9); have v0 := w9; clear w9; have w9 := he 1 rfl; (try simp only [a1] at w9); have v1 := w9; clear w9; have w9 := he 2 rfl; (try simp only [T.get_put, Nat.reduceEqDiff, reduceIte] at w9); have v2 := w9; clear w9; have w9 := he 4 rfl; (try simp only [T.get_put, Nat.reduceEqDiff, reduceIte] at w9); have v4 := w9; clear w9; have w9 := he 5 rfl; (try simp only [T.get_put, Nat.reduceEqDiff, reduceIte] at w9); have v5 := w9; clear w9; have w9 := he 6 rfl; (try simp only [T.get_put, Nat.reduceEqDiff, reduceIte] at w9); have v6 := w9; clear w9; have w9 := he 7 rfl; (try simp only [T.get_put, Nat.reduceEqDiff, reduceIte] at w9); have v7 := w9; clear w9; have w9 := he 15 rfl; (try simp only [T.get_put, Nat.reduceEqDiff, reduceIte] at w9); have v15 := w9; clear w9; have w9 := he 24 rfl; (try simp only [T.get_put, Nat.reduceEqDiff, reduceIte] at w9); have v24 := w9; clear w9; have w9 := he 48 rfl; (try simp only [T.get_put, Nat.reduceEqDiff, reduceIte] at w9); have v48 := w9; clear w9; clear he)
  repeat' (first
    | with_reducible apply wc_seq
    | ((with_reducible apply wc_region); (· (rfl)))
    | with_reducible apply wo_some
    | ((with_reducible apply wc_cond); (· (simp (disch := (first | assumption | omega)) only [ev, Option.some.injEq, v15] <;> rfl)); all_goals (intro hg; (try (try simp only [Bool.not_eq_true'] at hg)); first | (exfalso; exact Bool.noConfusion hg) | (exfalso; exact hg) | skip))
    | with_reducible apply wc_block
    | with_reducible apply wc_skip
    | (simp only [cells_agg] at H)
    | ((with_reducible apply nx_c (fun i => Nat.beq i 0 || Nat.beq i 1 || Nat.beq i 2 || Nat.beq i 4 || Nat.beq i 5 || Nat.beq i 6 || Nat.beq i 7 || Nat.beq i 15 || Nat.beq i 24 || Nat.beq i 48)); intro e he; have w0 := he 0 rfl; have w1 := he 1 rfl; have w2 := he 2 rfl; have w4 := he 4 rfl; have w5 := he 5 rfl; have w6 := he 6 rfl; have w7 := he 7 rfl; have w15 := he 15 rfl; have w24 := he 24 rfl; have w48 := he 48 rfl; (try simp only [T.get_put, Nat.reduceEqDiff, reduceIte, v0, v1, v2, v4, v5, v6, v7, v15, v24, v48] at w0 w1 w2 w4 w5 w6 w7 w15 w24 w48); clear he v0 v1 v2 v4 v5 v6 v7 v15 v24 v48; have v0 := w0; have v1 := w1; have v2 := w2; have v4 := w4; have v5 := w5; have v6 := w6; have v7 := w7; have v15 := w15; have v24 := w24; have v48 := w48; clear w0 w1 w2 w4 w5 w6 w7 w15 w24 w48)
    | ((with_reducible apply wo_eq); (· (simp (disch := (first | assumption | omega)) only [beq_self_eq_true, eq_self, opsA_cons, opsA_nil, wantedA, guardA, yieldA, stepA_t, callA, calleeA, targetA, runOp_c, runOp_n, opA, ev, evs, consO, consOO, pickA, afterA_s, putA, T.get_put, Nat.reduceEqDiff, reduceIte, List.getElem?_toArray, List.getElem?_cons_zero, List.getElem?_cons_succ, oBin, binA, binG, binL, aggO, litA, cond_true, Bool.not_true, blt_eq, I, Bo, fieldAddrA, oFieldAddr, Nat.add_zero, Nat.reduceLT, ty25, ti25, ty27, ti27, ii_lss, ii_geq, withH_s, dec_t, dec_f, id_eq, List.take_succ_cons, List.take_zero, List.drop_zero, Nat.add_zero, v0, v1, v2]; exact rfl)))
    | (((with_reducible apply wo_call); (· ((with_reducible apply c26); (· (omega)); (· (exact H.tok (by (with_reducible repeat' first | exact mem_h _ _ | apply mem_t); done))))); rintro _ h ⟨rfl, x1⟩; replace H := H.ext x1; clear x1))
    | ((with_reducible apply wo_box H); clear H; intro n h H0n H)
    | ((with_reducible apply wo_load1 H); (· ((with_reducible repeat' first | exact mem_h _ _ | apply mem_t); done)); (· (rfl)); (· ((first | rfl | assumption))))
    | ((with_reducible apply wo_loadn H); (· ((with_reducible repeat' first | exact mem_h _ _ | apply mem_t); done)); (· (rfl)); (· (rfl)); (· (rfl)))
    | simp (disch := (first | assumption | omega)) only [I])

  all_goals first | (exfalso; omega) | skip
  refine wc_loop (fun m e h' => ∃ (t : GT) (j i0 : Nat) (y : Int), m = t.hgt ∧ e.get 1 = some (I y) ∧ e.get 4 = some (I (i0 : Int)) ∧ e.get 7 = some t.val ∧ t.lst[j]? = some v ∧ (t.lst.take j).sum ≤ y ∧ y < (t.lst.take j).sum + v ∧ i0 + j = i ∧ y - (t.lst.take j).sum = x - (g.lst.take i).sum ∧ GT.Good t.lst ∧ t.ok h' ∧ h' = h) g.hgt ?_ ⟨g, i, 0, x, rfl, v1, v4, v7, hv, hx1, hx2, by omega, rfl, gd, H.tok (by (with_reducible repeat' first | exact mem_h _ _ | apply mem_t); done), rfl⟩ ?_
  · omega
  · clear v1 v4 v7
    rintro m e h ⟨t, j, i0, y, rfl, v1, v4, v7, ht, hy1, hy2, hij, hyd, gt, tok, rfl⟩
    cases t with
    | nil => simp [GT.lst] at ht
    | nd n1 l s r =>
      have Q := rdn tok
      simp only [ti2, ti25] at Q
      have hlc := GT.len l
      have hrc := GT.len r
      have hhl := GT.hgt_nd n1 l s r
      have g3 := GT.Good.three (l := l) (r := r) (s := s) gt
      have gl : GT.Good l.lst := GT.Good.left (b := s :: r.lst) gt
      have gr : GT.Good r.lst := (GT.Good.right (a := l.lst) (b := s :: r.lst) gt).tail
      have hsl : l.lst.sum = l.sm := rfl
      have hil9 := (List.getElem?_eq_some_iff.1 ht).1
      rw [GT.len, GT.cnt_nd] at hil9
      have hlst := (List.getElem?_eq_some_iff.1 hv).1
      have hgc := gd.2.2
      rw [GT.lst] at ht hy1 hy2 hyd
      rcases Nat.lt_trichotomy j l.cnt with h3 | h3 | h3
      · rw [get_l (by omega)] at ht
        rw [take_l (by omega)] at hy1 hy2 hyd
        have hp := pre_le gl ht
        rw [hsl] at hp
        have hc1 : y < l.sm := by omega
        ((with_reducible apply wc_c (fun i => Nat.beq i 0 || Nat.beq i 1 || Nat.beq i 2 || Nat.beq i 4 || Nat.beq i 5 || Nat.beq i 6 || Nat.beq i 7 || Nat.beq i 15 || Nat.beq i 24 || Nat.beq i 48)); intro e he; have w9 := he 0 rfl; (try simp only [T.get_put, Nat.reduceEqDiff, reduceIte] at w9); have v0 := w9; clear w9; have w9 := he 1 rfl; (try simp only [v1] at w9); replace v1 := w9; clear w9; have w9 := he 2 rfl; (try simp only [T.get_put, Nat.reduceEqDiff, reduceIte] at w9); have v2 := w9; clear w9; have w9 := he 4 rfl; (try simp only [v4] at w9); replace v4 := w9; clear w9; have w9 := he 5 rfl; (try simp only [T.get_put, Nat.reduceEqDiff, reduceIte] at w9); have v5 := w9; clear w9; have w9 := he 6 rfl; (try simp only [T.get_put, Nat.reduceEqDiff, reduceIte] at w9); have v6 := w9; clear w9; have w9 := he 7 rfl; (try simp only [v7] at w9); replace v7 := w9; clear w9; have w9 := he 15 rfl; (try simp only [T.get_put, Nat.reduceEqDiff, reduceIte] at w9); have v15 := w9; clear w9; have w9 := he 24 rfl; (try simp only [T.get_put, Nat.reduceEqDiff, reduceIte] at w9); have v24 := w9; clear w9; have w9 := he 48 rfl; (try simp only [T.get_put, Nat.reduceEqDiff, reduceIte] at w9); have v48 := w9; clear w9; clear he)
        repeat' (first
          | with_reducible apply wc_seq
          | ((with_reducible apply wc_region); (· (rfl)))
          | with_reducible apply wo_some
          | ((with_reducible apply wc_cond); (· (simp (disch := (first | assumption | omega)) only [ev, Option.some.injEq, v24] <;> rfl)); all_goals (intro hg; (try (try simp only [Bool.not_eq_true'] at hg)); first | (exfalso; exact Bool.noConfusion hg) | (exfalso; exact hg) | skip))
          | with_reducible apply wc_block
          | with_reducible apply wc_exit
          | with_reducible apply nx_e
          | ((with_reducible apply bx_hit); (· (rfl)))
          | ((with_reducible apply nx_c (fun i => Nat.beq i 0 || Nat.beq i 1 || Nat.beq i 2 || Nat.beq i 4 || Nat.beq i 5 || Nat.beq i 6 || Nat.beq i 7 || Nat.beq i 15 || Nat.beq i 24 || Nat.beq i 48)); intro e he; have w0 := he 0 rfl; have w1 := he 1 rfl; have w2 := he 2 rfl; have w4 := he 4 rfl; have w5 := he 5 rfl; have w6 := he 6 rfl; have w7 := he 7 rfl; have w15 := he 15 rfl; have w24 := he 24 rfl; have w48 := he 48 rfl; (try simp only [T.get_put, Nat.reduceEqDiff, reduceIte, v0, v1, v2, v4, v5, v6, v7, v15, v24, v48] at w0 w1 w2 w4 w5 w6 w7 w15 w24 w48); clear he v0 v1 v2 v4 v5 v6 v7 v15 v24 v48; have v0 := w0; have v1 := w1; have v2 := w2; have v4 := w4; have v5 := w5; have v6 := w6; have v7 := w7; have v15 := w15; have v24 := w24; have v48 := w48; clear w0 w1 w2 w4 w5 w6 w7 w15 w24 w48)
          | ((with_reducible apply wo_eq); (· (simp (disch := (first | assumption | omega)) only [eq_self, opsA_cons, opsA_nil, wantedA, stepA_t, callA, calleeA, targetA, runOp_c, runOp_n, opA, ev, evs, consO, consOO, afterA_s, putA, T.get_put, Nat.reduceEqDiff, reduceIte, List.getElem?_toArray, List.getElem?_cons_zero, oBin, binA, binG, binL, aggO, litA, cond_true, blt_eq, I, Bo, fieldAddrA, oFieldAddr, Nat.add_zero, Nat.reduceLT, ty25, ti25, ty75, ti75, ii_lss, withH_s, nck, dec_t, Nat.add_zero, v1, v7, Q]; exact rfl)))
          | (((with_reducible apply wo_call); (· ((with_reducible apply c44); (· (omega)); (· (first | exact tok.2.1 | exact tok.2.2)))); rintro _ h ⟨rfl, rfl⟩))
          | simp (disch := (first | assumption | omega)) only [eq_self, Option.some.injEq, I, v1, v4, v7])
        all_goals (first | first | (exfalso; omega) | exact ⟨l.hgt, by omega, l, j, i0, y, rfl, by trivial, by trivial, by trivial, ht, hy1, hy2, hij, hyd, gl, tok.2.1, by trivial⟩ | trace_state)
      · obtain rfl : j = l.lst.length := by omega
        rw [get_m] at ht
        have hsv : s = v := Option.some.inj ht
        rw [List.take_left] at hy1 hy2 hyd
        rw [hsl] at hy1 hy2 hyd
        have hc1 : ¬ y < l.sm := by omega
        have hc2 : y - l.sm < s := by omega
        have hi9 : (i0 : Int) + (l.cnt : Int) = (i : Int) := by omega
        ((with_reducible apply wc_c (fun i => Nat.beq i 0 || Nat.beq i 1 || Nat.beq i 2 || Nat.beq i 4 || Nat.beq i 5 || Nat.beq i 6 || Nat.beq i 7 || Nat.beq i 15 || Nat.beq i 24 || Nat.beq i 48)); intro e he; have w9 := he 0 rfl; (try simp only [T.get_put, Nat.reduceEqDiff, reduceIte] at w9); have v0 := w9; clear w9; have w9 := he 1 rfl; (try simp only [v1] at w9); replace v1 := w9; clear w9; have w9 := he 2 rfl; (try simp only [T.get_put, Nat.reduceEqDiff, reduceIte] at w9); have v2 := w9; clear w9; have w9 := he 4 rfl; (try simp only [v4] at w9); replace v4 := w9; clear w9; have w9 := he 5 rfl; (try simp only [T.get_put, Nat.reduceEqDiff, reduceIte] at w9); have v5 := w9; clear w9; have w9 := he 6 rfl; (try simp only [T.get_put, Nat.reduceEqDiff, reduceIte] at w9); have v6 := w9; clear w9; have w9 := he 7 rfl; (try simp only [v7] at w9); replace v7 := w9; clear w9; have w9 := he 15 rfl; (try simp only [T.get_put, Nat.reduceEqDiff, reduceIte] at w9); have v15 := w9; clear w9; have w9 := he 24 rfl; (try simp only [T.get_put, Nat.reduceEqDiff, reduceIte] at w9); have v24 := w9; clear w9; have w9 := he 48 rfl; (try simp only [T.get_put, Nat.reduceEqDiff, reduceIte] at w9); have v48 := w9; clear w9; clear he)
        repeat' (first
          | with_reducible apply wc_seq
          | ((with_reducible apply wc_region); (· (rfl)))
          | with_reducible apply wo_some
          | ((with_reducible apply wc_cond); (· (simp (disch := (first | assumption | omega)) only [ev, Option.some.injEq, v24, v48] <;> rfl)); all_goals (intro hg; (try (try simp only [Bool.not_eq_true'] at hg)); first | (exfalso; exact Bool.noConfusion hg) | (exfalso; exact hg) | skip))
          | with_reducible apply wc_block
          | with_reducible apply wc_skip
          | with_reducible apply wc_ret
          | with_reducible apply nx_r
          | with_reducible apply bx_r
          | ((with_reducible apply nx_c (fun i => Nat.beq i 0 || Nat.beq i 1 || Nat.beq i 2 || Nat.beq i 4 || Nat.beq i 5 || Nat.beq i 6 || Nat.beq i 7 || Nat.beq i 15 || Nat.beq i 24 || Nat.beq i 48)); intro e he; have w0 := he 0 rfl; have w1 := he 1 rfl; have w2 := he 2 rfl; have w4 := he 4 rfl; have w5 := he 5 rfl; have w6 := he 6 rfl; have w7 := he 7 rfl; have w15 := he 15 rfl; have w24 := he 24 rfl; have w48 := he 48 rfl; (try simp only [T.get_put, Nat.reduceEqDiff, reduceIte, v0, v1, v2, v4, v5, v6, v7, v15, v24, v48] at w0 w1 w2 w4 w5 w6 w7 w15 w24 w48); clear he v0 v1 v2 v4 v5 v6 v7 v15 v24 v48; have v0 := w0; have v1 := w1; have v2 := w2; have v4 := w4; have v5 := w5; have v6 := w6; have v7 := w7; have v15 := w15; have v24 := w24; have v48 := w48; clear w0 w1 w2 w4 w5 w6 w7 w15 w24 w48)
          | ((with_reducible apply wo_eq); (· (simp (disch := (first | assumption | omega)) only [eq_self, opsA_cons, opsA_nil, wantedA, stepA_t, callA, calleeA, targetA, runOp_c, runOp_n, opA, ev, evs, consO, consOO, afterA_s, putA, T.get_put, Nat.reduceEqDiff, reduceIte, List.getElem?_toArray, List.getElem?_cons_zero, List.getElem?_cons_succ, oBin, binA, binG, binL, aggO, litA, cond_true, blt_eq, I, Bo, fieldAddrA, oFieldAddr, Nat.zero_add, Nat.add_zero, Nat.reduceLT, ty2, ti2, ty25, ti25, ty75, ti75, ii_add, ii_sub, ii_lss, withH_s, nck, dec_t, dec_f, wrap_ok, Nat.zero_add, Nat.add_zero, v1, v4, v7, Q]; exact rfl)))
          | (((with_reducible apply wo_call); (· ((with_reducible apply c44); (· (omega)); (· (first | exact tok.2.1 | exact tok.2.2)))); rintro _ h ⟨rfl, rfl⟩))
          | (((with_reducible apply wo_call); (· ((with_reducible apply c42); (· (omega)); (· (first | exact tok.2.1 | exact tok.2.2)))); rintro _ h ⟨rfl, rfl⟩))
          | ((first | with_reducible apply wv_ret | with_reducible apply wv_end); (· ((repeat' (first | with_reducible exact rs_nil | ((with_reducible apply rs_tmp); (· (simp (disch := (first | assumption | omega)) only [Option.some.injEq, v4, v5, v6] <;> rfl))) | ((with_reducible apply rs_cell); (· (simp (disch := (first | assumption | omega)) only [ev, T.get_put, Nat.reduceEqDiff, reduceIte, Option.some.injEq, dec_t, dec_f, Bool.not_true, Bool.not_false, v0, v1, v2, v4, v5, v6, v7, v15, v24, v48, Q] <;> rfl)); (· (kernel_rfl)); (· (rfl)); (· (exact H.ld1 (by (with_reducible repeat' first | exact mem_h _ _ | apply mem_t); done) rfl))) | ((with_reducible apply rs_celln); (· (simp (disch := (first | assumption | omega)) only [ev, T.get_put, Nat.reduceEqDiff, reduceIte, Option.some.injEq, dec_t, dec_f, Bool.not_true, Bool.not_false, v0, v1, v2, v4, v5, v6, v7, v15, v24, v48, Q] <;> rfl)); (· (kernel_rfl)); (· (rfl)); (· (exact H.ldn (by (with_reducible repeat' first | exact mem_h _ _ | apply mem_t); done) rfl rfl))))); done))))
        all_goals (first | first | (exfalso; omega) | exact ⟨by rw [← hyd, ← hi9]; rfl, H.toExt⟩ | trace_state)
      · obtain ⟨k2, rfl⟩ : ∃ k2, j = l.lst.length + 1 + k2 := ⟨j - l.cnt - 1, by omega⟩
        rw [get_r] at ht
        rw [take_r, GT.sum_app, List.sum_cons, hsl] at hy1 hy2 hyd
        have hp := pre_le gr ht
        have hsr : r.lst.sum = r.sm := rfl
        rw [hsr] at hp
        have hc1 : ¬ y < l.sm := by omega
        have hc2 : ¬ y - l.sm < s := by omega
        have hi9 : (i0 : Int) + (l.cnt : Int) + 1 = ((i0 + l.cnt + 1 : Nat) : Int) := by omega
        ((with_reducible apply wc_c (fun i => Nat.beq i 0 || Nat.beq i 1 || Nat.beq i 2 || Nat.beq i 4 || Nat.beq i 5 || Nat.beq i 6 || Nat.beq i 7 || Nat.beq i 15 || Nat.beq i 24 || Nat.beq i 48)); intro e he; have w9 := he 0 rfl; (try simp only [T.get_put, Nat.reduceEqDiff, reduceIte] at w9); have v0 := w9; clear w9; have w9 := he 1 rfl; (try simp only [v1] at w9); replace v1 := w9; clear w9; have w9 := he 2 rfl; (try simp only [T.get_put, Nat.reduceEqDiff, reduceIte] at w9); have v2 := w9; clear w9; have w9 := he 4 rfl; (try simp only [v4] at w9); replace v4 := w9; clear w9; have w9 := he 5 rfl; (try simp only [T.get_put, Nat.reduceEqDiff, reduceIte] at w9); have v5 := w9; clear w9; have w9 := he 6 rfl; (try simp only [T.get_put, Nat.reduceEqDiff, reduceIte] at w9); have v6 := w9; clear w9; have w9 := he 7 rfl; (try simp only [v7] at w9); replace v7 := w9; clear w9; have w9 := he 15 rfl; (try simp only [T.get_put, Nat.reduceEqDiff, reduceIte] at w9); have v15 := w9; clear w9; have w9 := he 24 rfl; (try simp only [T.get_put, Nat.reduceEqDiff, reduceIte] at w9); have v24 := w9; clear w9; have w9 := he 48 rfl; (try simp only [T.get_put, Nat.reduceEqDiff, reduceIte] at w9); have v48 := w9; clear w9; clear he)
        repeat' (first
          | with_reducible apply wc_seq
          | ((with_reducible apply wc_region); (· (rfl)))
          | with_reducible apply wo_some
          | ((with_reducible apply wc_cond); (· (simp (disch := (first | assumption | omega)) only [ev, Option.some.injEq, v24, v48] <;> rfl)); all_goals (intro hg; (try (try simp only [Bool.not_eq_true'] at hg)); first | (exfalso; exact Bool.noConfusion hg) | (exfalso; exact hg) | skip))
          | with_reducible apply wc_block
          | with_reducible apply wc_skip
          | with_reducible apply bx_n
          | ((with_reducible apply nx_c (fun i => Nat.beq i 0 || Nat.beq i 1 || Nat.beq i 2 || Nat.beq i 4 || Nat.beq i 5 || Nat.beq i 6 || Nat.beq i 7 || Nat.beq i 15 || Nat.beq i 24 || Nat.beq i 48)); intro e he; have w0 := he 0 rfl; have w1 := he 1 rfl; have w2 := he 2 rfl; have w4 := he 4 rfl; have w5 := he 5 rfl; have w6 := he 6 rfl; have w7 := he 7 rfl; have w15 := he 15 rfl; have w24 := he 24 rfl; have w48 := he 48 rfl; (try simp only [T.get_put, Nat.reduceEqDiff, reduceIte, v0, v1, v2, v4, v5, v6, v7, v15, v24, v48] at w0 w1 w2 w4 w5 w6 w7 w15 w24 w48); clear he v0 v1 v2 v4 v5 v6 v7 v15 v24 v48; have v0 := w0; have v1 := w1; have v2 := w2; have v4 := w4; have v5 := w5; have v6 := w6; have v7 := w7; have v15 := w15; have v24 := w24; have v48 := w48; clear w0 w1 w2 w4 w5 w6 w7 w15 w24 w48)
          | ((with_reducible apply wo_eq); (· (simp (disch := (first | assumption | omega)) only [eq_self, opsA_cons, opsA_nil, wantedA, stepA_t, callA, calleeA, targetA, runOp_c, runOp_n, opA, ev, evs, consO, consOO, afterA_s, putA, T.get_put, Nat.reduceEqDiff, reduceIte, List.getElem?_toArray, List.getElem?_cons_zero, List.getElem?_cons_succ, oBin, binA, binG, binL, aggO, litA, cond_true, blt_eq, I, Bo, fieldAddrA, oFieldAddr, Nat.zero_add, Nat.add_zero, Nat.reduceLT, ty2, ti2, ty25, ti25, ty75, ti75, ii_add, ii_sub, ii_lss, withH_s, nck, dec_t, dec_f, wrap_ok, Nat.zero_add, Nat.add_zero, v1, v4, v7, Q]; exact rfl)))
          | (((with_reducible apply wo_call); (· ((with_reducible apply c44); (· (omega)); (· (first | exact tok.2.1 | exact tok.2.2)))); rintro _ h ⟨rfl, rfl⟩))
          | (((with_reducible apply wo_call); (· ((with_reducible apply c42); (· (omega)); (· (first | exact tok.2.1 | exact tok.2.2)))); rintro _ h ⟨rfl, rfl⟩))
          | simp (disch := (first | assumption | omega)) only [eq_self, Option.some.injEq, I, v1, v4, v7])
        all_goals (first | first | (exfalso; omega) | exact ⟨r.hgt, by omega, r, k2, i0 + l.cnt + 1, y - l.sm - s, rfl, by trivial, by rw [← hi9], by trivial, ht, by omega, by omega, by omega, by omega, gr, tok.2.2, by trivial⟩ | trace_state)
set_option maxHeartbeats 4000000 in
theorem c20e {n : Nat} (hn : 3 ≤ n) {b : Hp} {g : GT} (pg : g.ok b) (gd : GT.Good g.lst) (bl : g.bal) {x : Int} (hx : x < 0 ∨ g.sm ≤ x) : Wv (runA ctx 5000 n 20 [.agg [g.val], I x] b) (fun r h' => r = .tup [I 0, I 0, I 4] ∧ Ext b h') := by
  obtain ⟨k, rfl⟩ : ∃ k, n = k + 1 := ⟨n - 1, by omega⟩
  have s1 := gd.sm
  have hh := GT.bal_hgt bl s1.2.2
  have hlen := GT.len g
  have H := (Hs.start b).z0 (z := tre g) pg
  refine wv_run fn20 rfl ?_
  have a0 : (enterEnv [.agg [g.val], I x] Try.f20.ntmps).get 0 = some (.agg [g.val]) := enter_get1 _ _ _
  have a1 : (enterEnv [.agg [g.val], I x] Try.f20.ntmps).get 1 = some (I x) := enter_get2 _ _ _ _
  generalize enterEnv [.agg [g.val], I x] Try.f20.ntmps = e at a0 a1 ⊢
  unfold Try.f20
  dsimp only
  ((with_reducible apply wc_c (fun i => Nat.beq i 0 || Nat.beq i 1 || Nat.beq i 2 || Nat.beq i 4 || Nat.beq i 5 || Nat.beq i 6 || Nat.beq i 7 || Nat.beq i 15 || Nat.beq i 24 || Nat.beq i 48)); intro e he; have w9 := he 0 rfl; (try simp only [a0] at w9); have v0 := w9; clear w9; have w9 := he 1 rfl; (try simp only [a1] at w9); have v1 := w9; clear w9; have w9 := he 2 rfl; (try simp only [T.get_put, Nat.reduceEqDiff, reduceIte] at w9); have v2 := w9; clear w9; have w9 := he 4 rfl; (try simp only [T.get_put, Nat.reduceEqDiff, reduceIte] at w9); have v4 := w9; clear w9; have w9 := he 5 rfl; (try simp only [T.get_put, Nat.reduceEqDiff, reduceIte] at w9); have v5 := w9; clear w9; have w9 := he 6 rfl; (try simp only [T.get_put, Nat.reduceEqDiff, reduceIte] at w9); have v6 := w9; clear w9; have w9 := he 7 rfl; (try simp only [T.get_put, Nat.reduceEqDiff, reduceIte] at w9); have v7 := w9; clear w9; have w9 := he 15 rfl; (try simp only [T.get_put, Nat.reduceEqDiff, reduceIte] at w9); have v15 := w9; clear w9; have w9 := he 24 rfl; (try simp only [T.get_put, Nat.reduceEqDiff, reduceIte] at w9); have v24 := w9; clear w9; have w9 := he 48 rfl; (try simp only [T.get_put, Nat.reduceEqDiff, reduceIte] at w9); have v48 := w9; clear w9; clear he)
  repeat' (first
    | with_reducible apply wc_seq
    | ((with_reducible apply wc_region); (· (rfl)))
    | with_reducible apply wo_some
    | ((with_reducible apply wc_cond); (· (simp (disch := (first | assumption | omega)) only [ev, Option.some.injEq, v15] <;> rfl)); all_goals (intro hg; (try (try simp only [Bool.not_eq_true'] at hg)); first | (exfalso; exact Bool.noConfusion hg) | (exfalso; exact hg) | skip))
    | with_reducible apply wc_ret
    | with_reducible apply nx_r
    | (simp only [cells_agg] at H)
    | ((with_reducible apply nx_c (fun i => Nat.beq i 0 || Nat.beq i 1 || Nat.beq i 2 || Nat.beq i 4 || Nat.beq i 5 || Nat.beq i 6 || Nat.beq i 7 || Nat.beq i 15 || Nat.beq i 24 || Nat.beq i 48)); intro e he; have w0 := he 0 rfl; have w1 := he 1 rfl; have w2 := he 2 rfl; have w4 := he 4 rfl; have w5 := he 5 rfl; have w6 := he 6 rfl; have w7 := he 7 rfl; have w15 := he 15 rfl; have w24 := he 24 rfl; have w48 := he 48 rfl; (try simp only [T.get_put, Nat.reduceEqDiff, reduceIte, v0, v1, v2, v4, v5, v6, v7, v15, v24, v48] at w0 w1 w2 w4 w5 w6 w7 w15 w24 w48); clear he v0 v1 v2 v4 v5 v6 v7 v15 v24 v48; have v0 := w0; have v1 := w1; have v2 := w2; have v4 := w4; have v5 := w5; have v6 := w6; have v7 := w7; have v15 := w15; have v24 := w24; have v48 := w48; clear w0 w1 w2 w4 w5 w6 w7 w15 w24 w48)
    | ((with_reducible apply wo_eq); (· (simp (disch := (first | assumption | omega)) only [beq_self_eq_true, eq_self, opsA_cons, opsA_nil, wantedA, guardA, yieldA, stepA_t, stepA_f, callA, calleeA, targetA, runOp_c, runOp_n, opA, ev, evs, consO, consOO, pickA, afterA_s, putA, T.get_put, Nat.reduceEqDiff, reduceIte, List.getElem?_cons_zero, List.getElem?_cons_succ, oBin, binA, binG, binL, aggO, litA, Bool.not_false, tf_beq, I, Bo, ty27, ti27, ii_lss, ii_geq, withH_s, dec_t, dec_f, List.take_succ_cons, List.take_zero, List.drop_zero, v0, v1, v2]; exact rfl)))
    | (((with_reducible apply wo_call); (· ((with_reducible apply c26); (· (omega)); (· (exact H.tok (by (with_reducible repeat' first | exact mem_h _ _ | apply mem_t); done))))); rintro _ h ⟨rfl, x1⟩; replace H := H.ext x1; clear x1))
    | ((with_reducible apply wo_box H); clear H; intro n h H0n H)
    | ((with_reducible apply wo_loadn H); (· ((with_reducible repeat' first | exact mem_h _ _ | apply mem_t); done)); (· (rfl)); (· (rfl)); (· (rfl)))
    | ((with_reducible apply wo_step) <;> intro hg <;> (try simp only [beq_false, Bool.not_eq_eq_eq_not, Bool.not_true, Bool.not_false, decide_eq_true_eq, decide_eq_false_iff_not] at hg) <;> (try subst hg) <;> (first | (exfalso; exact Bool.noConfusion hg) | skip))
    | ((first | with_reducible apply wv_ret | with_reducible apply wv_end); (· ((repeat' (first | with_reducible exact rs_nil | ((with_reducible apply rs_tmp); (· (simp (disch := (first | assumption | omega)) only [Option.some.injEq, v4, v5, v6] <;> rfl))) | ((with_reducible apply rs_cell); (· (simp (disch := (first | assumption | omega)) only [ev, T.get_put, Nat.reduceEqDiff, reduceIte, Option.some.injEq, dec_t, dec_f, Bool.not_true, Bool.not_false, v0, v1, v2, v4, v5, v6, v7, v15, v24, v48, GT.cells_val] <;> rfl)); (· (kernel_rfl)); (· (rfl)); (· (exact H.ld1 (by (with_reducible repeat' first | exact mem_h _ _ | apply mem_t); done) rfl))) | ((with_reducible apply rs_celln); (· (simp (disch := (first | assumption | omega)) only [ev, T.get_put, Nat.reduceEqDiff, reduceIte, Option.some.injEq, dec_t, dec_f, Bool.not_true, Bool.not_false, v0, v1, v2, v4, v5, v6, v7, v15, v24, v48, GT.cells_val] <;> rfl)); (· (kernel_rfl)); (· (rfl)); (· (exact H.ldn (by (with_reducible repeat' first | exact mem_h _ _ | apply mem_t); done) rfl rfl))))); done)))
    | simp (disch := (first | assumption | omega)) only [I])

  all_goals (first | first | (exfalso; omega) | exact ⟨rfl, H.toExt⟩ | trace_state)


end Go.Proofs.Ytpioenfglmimgaa
