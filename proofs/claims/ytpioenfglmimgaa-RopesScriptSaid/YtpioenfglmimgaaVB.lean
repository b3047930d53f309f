import Derived.Test.YtpioenfglmimgaaVA
import Derived.KernelRfl
namespace Go.Proofs.Ytpioenfglmimgaa
open Go Go.Proofs Go.RowKit Go.Proofs.Abs
set_option linter.unusedSimpArgs false
set_option linter.unusedVariables false
set_option maxHeartbeats 4000000 in
theorem c61a {n : Nat} (hn : 4 ≤ n) {b : Hp} {r ll lr : GT} {n1 : Nat} {ls : Int} {s : Int} (pl : GT.ok b (.nd n1 ll ls lr)) (pr : GT.ok b r) (gd : GT.Good (GT.lst (.nd n1 ll ls lr) ++ s :: GT.lst r)) (h1 : r.hgt + 1 < (GT.nd n1 ll ls lr).hgt) (h2 : lr.hgt ≤ ll.hgt) : Wv (runA ctx 5000 n 61 [GT.val (.nd n1 ll ls lr), I s, GT.val r] b) (fun x h' => RT b h' x (GT.names (.nd n1 ll ls lr) ++ GT.names r) (fun g => ∃ m m2, g = .nd m ll ls (.nd m2 lr s r))) := by
  obtain ⟨k, rfl⟩ : ∃ k, n = k + 1 := ⟨n - 1, by omega⟩
  have g3 := gd.three
  have hl9 := GT.hgt_le (.nd n1 ll ls lr)
  have hr9 := GT.hgt_le r
  have H := ((Hs.start b).z0 (z := tre r) pr).z0 (z := tre (.nd n1 ll ls lr)) pl
  replace H := H.topen (n := n1) (l := ll) (s := ls) (r := lr) (by (with_reducible repeat' first | exact mem_h _ _ | apply mem_t); done)
  have hx9 := GT.hgt_le ll
  have hy9 := GT.hgt_le lr
  have hz9 := GT.hgt_nd n1 ll ls lr
  have hw9 := GT.cnt_nd n1 ll ls lr
  refine wv_run fn61 rfl ?_
  have a0 : (enterEnv [GT.val (.nd n1 ll ls lr), I s, GT.val r] Try.f61.ntmps).get 0 = some (GT.val (.nd n1 ll ls lr)) := enter_get1 _ _ _
  have a1 : (enterEnv [GT.val (.nd n1 ll ls lr), I s, GT.val r] Try.f61.ntmps).get 1 = some (I s) := enter_get2 _ _ _ _
  have a2 : (enterEnv [GT.val (.nd n1 ll ls lr), I s, GT.val r] Try.f61.ntmps).get 2 = some (GT.val r) := enter_get3 _ _ _ _ _
  generalize enterEnv [GT.val (.nd n1 ll ls lr), I s, GT.val r] Try.f61.ntmps = e at a0 a1 a2 ⊢
  unfold Try.f61
  dsimp only
  ((with_reducible apply wc_c (fun i => Nat.beq i 0 || Nat.beq i 1 || Nat.beq i 2 || Nat.beq i 3 || Nat.beq i 4 || Nat.beq i 5 || Nat.beq i 6 || Nat.beq i 7 || Nat.beq i 9 || Nat.beq i 30 || Nat.beq i 38 || Nat.beq i 59)); intro e he; have w9 := he 0 rfl; (try simp only [a0] at w9); have v0 := w9; clear w9; have w9 := he 1 rfl; (try simp only [a1] at w9); have v1 := w9; clear w9; have w9 := he 2 rfl; (try simp only [a2] at w9); have v2 := w9; clear w9; have w9 := he 3 rfl; (try simp only [T.get_put, Nat.reduceEqDiff, reduceIte] at w9); have v3 := w9; clear w9; have w9 := he 4 rfl; (try simp only [T.get_put, Nat.reduceEqDiff, reduceIte] at w9); have v4 := w9; clear w9; have w9 := he 5 rfl; (try simp only [T.get_put, Nat.reduceEqDiff, reduceIte] at w9); have v5 := w9; clear w9; have w9 := he 6 rfl; (try simp only [T.get_put, Nat.reduceEqDiff, reduceIte] at w9); have v6 := w9; clear w9; have w9 := he 7 rfl; (try simp only [T.get_put, Nat.reduceEqDiff, reduceIte] at w9); have v7 := w9; clear w9; have w9 := he 9 rfl; (try simp only [T.get_put, Nat.reduceEqDiff, reduceIte] at w9); have v9 := w9; clear w9; have w9 := he 30 rfl; (try simp only [T.get_put, Nat.reduceEqDiff, reduceIte] at w9); have v30 := w9; clear w9; have w9 := he 38 rfl; (try simp only [T.get_put, Nat.reduceEqDiff, reduceIte] at w9); have v38 := w9; clear w9; have w9 := he 59 rfl; (try simp only [T.get_put, Nat.reduceEqDiff, reduceIte] at w9); have v59 := w9; clear w9; clear he)
  repeat' (first
    | with_reducible apply wc_seq
    | ((with_reducible apply wc_region); (· (rfl)))
    | with_reducible apply wo_some
    | ((with_reducible apply wc_cond); (· (simp (disch := (first | assumption | omega)) only [ev, Option.some.injEq, v9] <;> rfl)); all_goals (intro hg; (try (try simp only [Bool.not_eq_true'] at hg)); first | (exfalso; exact Bool.noConfusion hg) | (exfalso; exact hg) | skip))
    | with_reducible apply wc_block
    | with_reducible apply wc_ret
    | with_reducible apply bx_n
    | (simp only [cells_int, GT.cells_val] at H)
    | ((with_reducible apply nx_c (fun i => Nat.beq i 0 || Nat.beq i 1 || Nat.beq i 2 || Nat.beq i 3 || Nat.beq i 4 || Nat.beq i 5 || Nat.beq i 6 || Nat.beq i 7 || Nat.beq i 9 || Nat.beq i 30 || Nat.beq i 38 || Nat.beq i 59)); intro e he; have w0 := he 0 rfl; have w1 := he 1 rfl; have w2 := he 2 rfl; have w3 := he 3 rfl; have w4 := he 4 rfl; have w5 := he 5 rfl; have w6 := he 6 rfl; have w7 := he 7 rfl; have w9 := he 9 rfl; have w30 := he 30 rfl; have w38 := he 38 rfl; have w59 := he 59 rfl; (try simp only [T.get_put, Nat.reduceEqDiff, reduceIte, v0, v1, v2, v3, v4, v5, v6, v7, v9, v30, v38, v59] at w0 w1 w2 w3 w4 w5 w6 w7 w9 w30 w38 w59); clear he v0 v1 v2 v3 v4 v5 v6 v7 v9 v30 v38 v59; have v0 := w0; have v1 := w1; have v2 := w2; have v3 := w3; have v4 := w4; have v5 := w5; have v6 := w6; have v7 := w7; have v9 := w9; have v30 := w30; have v38 := w38; have v59 := w59; clear w0 w1 w2 w3 w4 w5 w6 w7 w9 w30 w38 w59)
    | (((with_reducible apply wo_call); (· ((with_reducible apply c52); (· (omega)); (· (exact H.tok (by (with_reducible repeat' first | exact mem_h _ _ | apply mem_t); done))))); rintro _ h ⟨rfl, rfl⟩))
    | (((with_reducible apply wo_call); (· ((with_reducible apply c63); (· (omega)); (· (exact H.bok (by (with_reducible repeat' first | exact mem_h _ _ | apply mem_t); done))); (· (exact H.bok (by (with_reducible repeat' first | exact mem_h _ _ | apply mem_t); done))); (· (exact H.bok (by (with_reducible repeat' first | exact mem_h _ _ | apply mem_t); done))); (· (exact H.tok (by (with_reducible repeat' first | exact mem_h _ _ | apply mem_t); done))); (· (exact H.tok (by (with_reducible repeat' first | exact mem_h _ _ | apply mem_t); done))); (· (exact gd)))); rintro _ h ⟨_, rfl, pg1, xg1, ng1, hg1⟩; have fc := H.fr.c; replace H := H.tnew xg1 pg1 ng1 (src2t (by (with_reducible repeat' first | exact mem_h _ _ | apply mem_t); done) (by (with_reducible repeat' first | exact mem_h _ _ | apply mem_t); done)); replace ng1 := fun n hn => (ng1 n hn).imp id (Nat.le_trans fc); clear xg1 fc))
    | (((with_reducible apply wc_dynW (id := 2) (p := (2, 1)) (ps := [(12, 11), (15, 11)])); (· (kernel_rfl)); have Q := (And.intro (rdc (H.bok (cs := [GT.val (.nd n1 ll ls lr)]) (by (with_reducible repeat' first | exact mem_h _ _ | apply mem_t); done))) (And.intro (rdc (H.bok (cs := [GT.val r]) (by (with_reducible repeat' first | exact mem_h _ _ | apply mem_t); done))) (rdn (H.tok (g := .nd n1 _ _ _) (by (with_reducible repeat' first | exact mem_h _ _ | apply mem_t); done))))); simp only [ti2, ti25] at Q))
    | (with_reducible apply wt_cons)
    | (((with_reducible apply wt_nil); refine And.intro ?_ (Exists.intro _ (Exists.intro _ (And.intro rfl ?_))); (· (simp (disch := (first | assumption | omega)) only [beq_self_eq_true, eq_self, wantedA, guardA, yieldA, opA, ev, T.get_put, Nat.reduceEqDiff, reduceIte, List.getElem?_cons_zero, List.getElem?_cons_succ, Bool.and_true, ty25, ti25, v3, v5, Q, checksD_nil, checksD_cons, checkD, checkG, sameR, GT.av_val]; done))))
    | ((with_reducible apply wo_box H); clear H; intro n h H0n H)
    | ((with_reducible apply wo_load1 H); (· ((with_reducible repeat' first | exact mem_h _ _ | apply mem_t); done)); (· (rfl)); (· ((first | rfl | assumption))))
    | ((with_reducible apply wo_load1z H); (· ((with_reducible repeat' first | exact mem_h _ _ | apply mem_t); done)); (· (rfl)); (· ((first | rfl | assumption))))
    | ((first | with_reducible apply wv_ret | with_reducible apply wv_end); (· ((repeat' (first | with_reducible exact rs_nil | ((with_reducible apply rs_tmp); (· (simp (disch := (first | assumption | omega)) only [Option.some.injEq, v6] <;> rfl))) | ((with_reducible apply rs_cell); (· (simp (disch := (first | assumption | omega)) only [ev, T.get_put, Nat.reduceEqDiff, reduceIte, Option.some.injEq, dec_t, dec_f, Bool.not_true, Bool.not_false, v0, v1, v2, v3, v4, v5, v6, v7, v9, v30, v38, v59, GT.cells_val] <;> rfl)); (· (kernel_rfl)); (· (rfl)); (· (exact H.ld1 (by (with_reducible repeat' first | exact mem_h _ _ | apply mem_t); done) rfl))) | ((with_reducible apply rs_celln); (· (simp (disch := (first | assumption | omega)) only [ev, T.get_put, Nat.reduceEqDiff, reduceIte, Option.some.injEq, dec_t, dec_f, Bool.not_true, Bool.not_false, v0, v1, v2, v3, v4, v5, v6, v7, v9, v30, v38, v59, GT.cells_val] <;> rfl)); (· (kernel_rfl)); (· (rfl)); (· (exact H.ldn (by (with_reducible repeat' first | exact mem_h _ _ | apply mem_t); done) rfl rfl))))); done)))
    | simp (disch := (first | assumption | omega)) only [beq_self_eq_true, eq_self, opsA_cons, opsA_nil, wantedA, guardA, yieldA, stepA_t, callA, calleeA, targetA, runOp_c, runOp_n, opA, ev, evs, consO, consOO, pickA, afterA_s, putA, T.get_put, Nat.reduceEqDiff, reduceIte, List.getElem?_toArray, List.getElem?_cons_zero, List.getElem?_cons_succ, oBin, binA, binG, binL, aggO, litA, cond_true, Bool.not_false, decide_true, blt_eq, I, Bo, fieldAddrA, oFieldAddr, List.length_cons, List.length_nil, Nat.reduceAdd, Nat.zero_add, Nat.add_zero, Nat.reduceLT, ty25, ti25, ty75, ti75, ii_add, ii_gtr, ii_geq, withH_s, nck, oFn, dec_t, dec_f, wrap_ok, id_eq, List.nil_append, Nat.zero_add, Nat.add_zero, Nat.reduceAdd, v0, v1, v2, v3, v4, v5, v7])

  all_goals (first | exact ⟨_, rfl, H.tok (.head _), H.toExt, ng1, hg1⟩ | trace_state)
set_option maxHeartbeats 4000000 in
theorem c61b {n : Nat} (hn : 4 ≤ n) {b : Hp} {r ll a c : GT} {n1 n2 : Nat} {ls t : Int} {s : Int} (pl : GT.ok b (.nd n1 ll ls (.nd n2 a t c))) (pr : GT.ok b r) (gd : GT.Good (GT.lst (.nd n1 ll ls (.nd n2 a t c)) ++ s :: GT.lst r)) (h1 : r.hgt + 1 < (GT.nd n1 ll ls (.nd n2 a t c)).hgt) (h2 : ll.hgt < (GT.nd n2 a t c).hgt) : Wv (runA ctx 5000 n 61 [GT.val (.nd n1 ll ls (.nd n2 a t c)), I s, GT.val r] b) (fun x h' => RT b h' x (GT.names (.nd n1 ll ls (.nd n2 a t c)) ++ GT.names r) (fun g => ∃ m m2 m3, g = .nd m (.nd m2 ll ls a) t (.nd m3 c s r))) := by
  obtain ⟨k, rfl⟩ : ∃ k, n = k + 1 := ⟨n - 1, by omega⟩
  have g3 := gd.three
  have hl9 := GT.hgt_le (.nd n1 ll ls (.nd n2 a t c))
  have hr9 := GT.hgt_le r
  have H := ((Hs.start b).z0 (z := tre r) pr).z0 (z := tre (.nd n1 ll ls (.nd n2 a t c))) pl
  replace H := H.topen (n := n1) (l := ll) (s := ls) (r := (.nd n2 a t c)) (by (with_reducible repeat' first | exact mem_h _ _ | apply mem_t); done)
  have hx9 := GT.hgt_le ll
  have hy9 := GT.hgt_le (.nd n2 a t c)
  have hz9 := GT.hgt_nd n1 ll ls (.nd n2 a t c)
  have hw9 := GT.cnt_nd n1 ll ls (.nd n2 a t c)
  refine wv_run fn61 rfl ?_
  have a0 : (enterEnv [GT.val (.nd n1 ll ls (.nd n2 a t c)), I s, GT.val r] Try.f61.ntmps).get 0 = some (GT.val (.nd n1 ll ls (.nd n2 a t c))) := enter_get1 _ _ _
  have a1 : (enterEnv [GT.val (.nd n1 ll ls (.nd n2 a t c)), I s, GT.val r] Try.f61.ntmps).get 1 = some (I s) := enter_get2 _ _ _ _
  have a2 : (enterEnv [GT.val (.nd n1 ll ls (.nd n2 a t c)), I s, GT.val r] Try.f61.ntmps).get 2 = some (GT.val r) := enter_get3 _ _ _ _ _
  generalize enterEnv [GT.val (.nd n1 ll ls (.nd n2 a t c)), I s, GT.val r] Try.f61.ntmps = e at a0 a1 a2 ⊢
  unfold Try.f61
  dsimp only
  ((with_reducible apply wc_c (fun i => Nat.beq i 0 || Nat.beq i 1 || Nat.beq i 2 || Nat.beq i 3 || Nat.beq i 4 || Nat.beq i 5 || Nat.beq i 6 || Nat.beq i 7 || Nat.beq i 9 || Nat.beq i 30 || Nat.beq i 38 || Nat.beq i 59)); intro e he; have w9 := he 0 rfl; (try simp only [a0] at w9); have v0 := w9; clear w9; have w9 := he 1 rfl; (try simp only [a1] at w9); have v1 := w9; clear w9; have w9 := he 2 rfl; (try simp only [a2] at w9); have v2 := w9; clear w9; have w9 := he 3 rfl; (try simp only [T.get_put, Nat.reduceEqDiff, reduceIte] at w9); have v3 := w9; clear w9; have w9 := he 4 rfl; (try simp only [T.get_put, Nat.reduceEqDiff, reduceIte] at w9); have v4 := w9; clear w9; have w9 := he 5 rfl; (try simp only [T.get_put, Nat.reduceEqDiff, reduceIte] at w9); have v5 := w9; clear w9; have w9 := he 6 rfl; (try simp only [T.get_put, Nat.reduceEqDiff, reduceIte] at w9); have v6 := w9; clear w9; have w9 := he 7 rfl; (try simp only [T.get_put, Nat.reduceEqDiff, reduceIte] at w9); have v7 := w9; clear w9; have w9 := he 9 rfl; (try simp only [T.get_put, Nat.reduceEqDiff, reduceIte] at w9); have v9 := w9; clear w9; have w9 := he 30 rfl; (try simp only [T.get_put, Nat.reduceEqDiff, reduceIte] at w9); have v30 := w9; clear w9; have w9 := he 38 rfl; (try simp only [T.get_put, Nat.reduceEqDiff, reduceIte] at w9); have v38 := w9; clear w9; have w9 := he 59 rfl; (try simp only [T.get_put, Nat.reduceEqDiff, reduceIte] at w9); have v59 := w9; clear w9; clear he)
  repeat' (first
    | with_reducible apply wc_seq
    | ((with_reducible apply wc_region); (· (rfl)))
    | with_reducible apply wo_some
    | ((with_reducible apply wc_cond); (· (simp (disch := (first | assumption | omega)) only [ev, Option.some.injEq, v9, v30] <;> rfl)); all_goals (intro hg; (try (try simp only [Bool.not_eq_true'] at hg)); first | (exfalso; exact Bool.noConfusion hg) | (exfalso; exact hg) | skip))
    | with_reducible apply wc_block
    | with_reducible apply wc_ret
    | with_reducible apply bx_n
    | (simp only [cells_int, GT.cells_val] at H)
    | ((with_reducible apply nx_c (fun i => Nat.beq i 0 || Nat.beq i 1 || Nat.beq i 2 || Nat.beq i 3 || Nat.beq i 4 || Nat.beq i 5 || Nat.beq i 6 || Nat.beq i 7 || Nat.beq i 9 || Nat.beq i 30 || Nat.beq i 38 || Nat.beq i 59)); intro e he; have w0 := he 0 rfl; have w1 := he 1 rfl; have w2 := he 2 rfl; have w3 := he 3 rfl; have w4 := he 4 rfl; have w5 := he 5 rfl; have w6 := he 6 rfl; have w7 := he 7 rfl; have w9 := he 9 rfl; have w30 := he 30 rfl; have w38 := he 38 rfl; have w59 := he 59 rfl; (try simp only [T.get_put, Nat.reduceEqDiff, reduceIte, v0, v1, v2, v3, v4, v5, v6, v7, v9, v30, v38, v59] at w0 w1 w2 w3 w4 w5 w6 w7 w9 w30 w38 w59); clear he v0 v1 v2 v3 v4 v5 v6 v7 v9 v30 v38 v59; have v0 := w0; have v1 := w1; have v2 := w2; have v3 := w3; have v4 := w4; have v5 := w5; have v6 := w6; have v7 := w7; have v9 := w9; have v30 := w30; have v38 := w38; have v59 := w59; clear w0 w1 w2 w3 w4 w5 w6 w7 w9 w30 w38 w59)
    | (((with_reducible apply wo_call); (· ((with_reducible apply c52); (· (omega)); (· (exact H.tok (by (with_reducible repeat' first | exact mem_h _ _ | apply mem_t); done))))); rintro _ h ⟨rfl, rfl⟩))
    | (((with_reducible apply wo_call); (· ((with_reducible apply c64); (· (omega)); (· (exact H.bok (by (with_reducible repeat' first | exact mem_h _ _ | apply mem_t); done))); (· (exact H.bok (by (with_reducible repeat' first | exact mem_h _ _ | apply mem_t); done))); (· (exact H.bok (by (with_reducible repeat' first | exact mem_h _ _ | apply mem_t); done))); (· (exact H.tok (by (with_reducible repeat' first | exact mem_h _ _ | apply mem_t); done))); (· (exact H.tok (by (with_reducible repeat' first | exact mem_h _ _ | apply mem_t); done))); (· (exact gd)))); rintro _ h ⟨_, rfl, pg1, xg1, ng1, hg1⟩; have fc := H.fr.c; replace H := H.tnew xg1 pg1 ng1 (src2t (by (with_reducible repeat' first | exact mem_h _ _ | apply mem_t); done) (by (with_reducible repeat' first | exact mem_h _ _ | apply mem_t); done)); replace ng1 := fun n hn => (ng1 n hn).imp id (Nat.le_trans fc); clear xg1 fc))
    | (((with_reducible apply wc_dynW (id := 2) (p := (2, 1)) (ps := [(12, 11), (15, 11)])); (· (kernel_rfl)); have Q := (And.intro (rdc (H.bok (cs := [GT.val (.nd n1 ll ls (.nd n2 a t c))]) (by (with_reducible repeat' first | exact mem_h _ _ | apply mem_t); done))) (And.intro (rdc (H.bok (cs := [GT.val r]) (by (with_reducible repeat' first | exact mem_h _ _ | apply mem_t); done))) (rdn (H.tok (g := .nd n1 _ _ _) (by (with_reducible repeat' first | exact mem_h _ _ | apply mem_t); done))))); simp only [ti2, ti25] at Q))
    | (((with_reducible apply wc_dynW (id := 4) (p := (2, 1)) (ps := [])); (· (kernel_rfl)); have Q := (And.intro (rdc (H.bok (cs := [GT.val (.nd n1 ll ls (.nd n2 a t c))]) (by (with_reducible repeat' first | exact mem_h _ _ | apply mem_t); done))) (And.intro (rdc (H.bok (cs := [GT.val r]) (by (with_reducible repeat' first | exact mem_h _ _ | apply mem_t); done))) (rdn (H.tok (g := .nd n1 _ _ _) (by (with_reducible repeat' first | exact mem_h _ _ | apply mem_t); done))))); simp only [ti2, ti25] at Q))
    | (with_reducible apply wt_cons)
    | (((with_reducible apply wt_nil); refine And.intro ?_ (Exists.intro _ (Exists.intro _ (And.intro rfl ?_))); (· (simp (disch := (first | assumption | omega)) only [beq_self_eq_true, eq_self, wantedA, guardA, yieldA, opA, ev, T.get_put, Nat.reduceEqDiff, reduceIte, List.getElem?_cons_zero, List.getElem?_cons_succ, Bool.and_true, ty25, ti25, v3, v5, Q, checksD_nil, checksD_cons, checkD, checkG, sameR, GT.av_val]; done))))
    | ((with_reducible apply wo_box H); clear H; intro n h H0n H)
    | ((with_reducible apply wo_load1 H); (· ((with_reducible repeat' first | exact mem_h _ _ | apply mem_t); done)); (· (rfl)); (· ((first | rfl | assumption))))
    | ((with_reducible apply wo_load1z H); (· ((with_reducible repeat' first | exact mem_h _ _ | apply mem_t); done)); (· (rfl)); (· ((first | rfl | assumption))))
    | ((first | with_reducible apply wv_ret | with_reducible apply wv_end); (· ((repeat' (first | with_reducible exact rs_nil | ((with_reducible apply rs_tmp); (· (simp (disch := (first | assumption | omega)) only [Option.some.injEq, v6] <;> rfl))) | ((with_reducible apply rs_cell); (· (simp (disch := (first | assumption | omega)) only [ev, T.get_put, Nat.reduceEqDiff, reduceIte, Option.some.injEq, dec_t, dec_f, Bool.not_true, Bool.not_false, v0, v1, v2, v3, v4, v5, v6, v7, v9, v30, v38, v59, GT.cells_val] <;> rfl)); (· (kernel_rfl)); (· (rfl)); (· (exact H.ld1 (by (with_reducible repeat' first | exact mem_h _ _ | apply mem_t); done) rfl))) | ((with_reducible apply rs_celln); (· (simp (disch := (first | assumption | omega)) only [ev, T.get_put, Nat.reduceEqDiff, reduceIte, Option.some.injEq, dec_t, dec_f, Bool.not_true, Bool.not_false, v0, v1, v2, v3, v4, v5, v6, v7, v9, v30, v38, v59, GT.cells_val] <;> rfl)); (· (kernel_rfl)); (· (rfl)); (· (exact H.ldn (by (with_reducible repeat' first | exact mem_h _ _ | apply mem_t); done) rfl rfl))))); done)))
    | simp (disch := (first | assumption | omega)) only [beq_self_eq_true, eq_self, opsA_cons, opsA_nil, wantedA, guardA, yieldA, stepA_t, callA, calleeA, targetA, runOp_c, runOp_n, opA, ev, evs, consO, consOO, pickA, afterA_s, putA, T.get_put, Nat.reduceEqDiff, reduceIte, List.getElem?_toArray, List.getElem?_cons_zero, List.getElem?_cons_succ, oBin, binA, binG, binL, aggO, litA, cond_true, Bool.not_true, decide_true, blt_eq, I, Bo, fieldAddrA, oFieldAddr, List.length_cons, List.length_nil, Nat.reduceAdd, Nat.zero_add, Nat.add_zero, Nat.reduceLT, ty25, ti25, ty75, ti75, ii_add, ii_gtr, ii_geq, withH_s, nck, oFn, dec_t, wrap_ok, id_eq, List.nil_append, Nat.zero_add, Nat.add_zero, Nat.reduceAdd, v0, v1, v2, v3, v4, v5, v7])

  all_goals (first | exact ⟨_, rfl, H.tok (.head _), H.toExt, ng1, hg1⟩ | trace_state)
set_option maxHeartbeats 4000000 in
theorem c61c {n : Nat} (hn : 4 ≤ n) {b : Hp} {l rl rr : GT} {n1 : Nat} {rs : Int} {s : Int} (pl : GT.ok b l) (pr : GT.ok b (.nd n1 rl rs rr)) (gd : GT.Good (GT.lst l ++ s :: GT.lst (.nd n1 rl rs rr))) (h1 : l.hgt + 1 < (GT.nd n1 rl rs rr).hgt) (h2 : rl.hgt ≤ rr.hgt) : Wv (runA ctx 5000 n 61 [GT.val l, I s, GT.val (.nd n1 rl rs rr)] b) (fun x h' => RT b h' x (GT.names l ++ GT.names (.nd n1 rl rs rr)) (fun g => ∃ m m2, g = .nd m (.nd m2 l s rl) rs rr)) := by
  obtain ⟨k, rfl⟩ : ∃ k, n = k + 1 := ⟨n - 1, by omega⟩
  have g3 := gd.three
  have hl9 := GT.hgt_le l
  have hr9 := GT.hgt_le (.nd n1 rl rs rr)
  have H := ((Hs.start b).z0 (z := tre (.nd n1 rl rs rr)) pr).z0 (z := tre l) pl
  replace H := H.topen (n := n1) (l := rl) (s := rs) (r := rr) (by (with_reducible repeat' first | exact mem_h _ _ | apply mem_t); done)
  have hx9 := GT.hgt_le rl
  have hy9 := GT.hgt_le rr
  have hz9 := GT.hgt_nd n1 rl rs rr
  have hw9 := GT.cnt_nd n1 rl rs rr
  refine wv_run fn61 rfl ?_
  have a0 : (enterEnv [GT.val l, I s, GT.val (.nd n1 rl rs rr)] Try.f61.ntmps).get 0 = some (GT.val l) := enter_get1 _ _ _
  have a1 : (enterEnv [GT.val l, I s, GT.val (.nd n1 rl rs rr)] Try.f61.ntmps).get 1 = some (I s) := enter_get2 _ _ _ _
  have a2 : (enterEnv [GT.val l, I s, GT.val (.nd n1 rl rs rr)] Try.f61.ntmps).get 2 = some (GT.val (.nd n1 rl rs rr)) := enter_get3 _ _ _ _ _
  generalize enterEnv [GT.val l, I s, GT.val (.nd n1 rl rs rr)] Try.f61.ntmps = e at a0 a1 a2 ⊢
  unfold Try.f61
  dsimp only
  ((with_reducible apply wc_c (fun i => Nat.beq i 0 || Nat.beq i 1 || Nat.beq i 2 || Nat.beq i 3 || Nat.beq i 4 || Nat.beq i 5 || Nat.beq i 6 || Nat.beq i 7 || Nat.beq i 9 || Nat.beq i 30 || Nat.beq i 38 || Nat.beq i 59)); intro e he; have w9 := he 0 rfl; (try simp only [a0] at w9); have v0 := w9; clear w9; have w9 := he 1 rfl; (try simp only [a1] at w9); have v1 := w9; clear w9; have w9 := he 2 rfl; (try simp only [a2] at w9); have v2 := w9; clear w9; have w9 := he 3 rfl; (try simp only [T.get_put, Nat.reduceEqDiff, reduceIte] at w9); have v3 := w9; clear w9; have w9 := he 4 rfl; (try simp only [T.get_put, Nat.reduceEqDiff, reduceIte] at w9); have v4 := w9; clear w9; have w9 := he 5 rfl; (try simp only [T.get_put, Nat.reduceEqDiff, reduceIte] at w9); have v5 := w9; clear w9; have w9 := he 6 rfl; (try simp only [T.get_put, Nat.reduceEqDiff, reduceIte] at w9); have v6 := w9; clear w9; have w9 := he 7 rfl; (try simp only [T.get_put, Nat.reduceEqDiff, reduceIte] at w9); have v7 := w9; clear w9; have w9 := he 9 rfl; (try simp only [T.get_put, Nat.reduceEqDiff, reduceIte] at w9); have v9 := w9; clear w9; have w9 := he 30 rfl; (try simp only [T.get_put, Nat.reduceEqDiff, reduceIte] at w9); have v30 := w9; clear w9; have w9 := he 38 rfl; (try simp only [T.get_put, Nat.reduceEqDiff, reduceIte] at w9); have v38 := w9; clear w9; have w9 := he 59 rfl; (try simp only [T.get_put, Nat.reduceEqDiff, reduceIte] at w9); have v59 := w9; clear w9; clear he)
  repeat' (first
    | with_reducible apply wc_seq
    | ((with_reducible apply wc_region); (· (rfl)))
    | with_reducible apply wo_some
    | ((with_reducible apply wc_cond); (· (simp (disch := (first | assumption | omega)) only [ev, Option.some.injEq, v9, v30, v38] <;> rfl)); all_goals (intro hg; (try (try simp only [Bool.not_eq_true'] at hg)); first | (exfalso; exact Bool.noConfusion hg) | (exfalso; exact hg) | skip))
    | with_reducible apply wc_block
    | with_reducible apply wc_ret
    | with_reducible apply bx_n
    | (simp only [cells_int, GT.cells_val] at H)
    | ((with_reducible apply nx_c (fun i => Nat.beq i 0 || Nat.beq i 1 || Nat.beq i 2 || Nat.beq i 3 || Nat.beq i 4 || Nat.beq i 5 || Nat.beq i 6 || Nat.beq i 7 || Nat.beq i 9 || Nat.beq i 30 || Nat.beq i 38 || Nat.beq i 59)); intro e he; have w0 := he 0 rfl; have w1 := he 1 rfl; have w2 := he 2 rfl; have w3 := he 3 rfl; have w4 := he 4 rfl; have w5 := he 5 rfl; have w6 := he 6 rfl; have w7 := he 7 rfl; have w9 := he 9 rfl; have w30 := he 30 rfl; have w38 := he 38 rfl; have w59 := he 59 rfl; (try simp only [T.get_put, Nat.reduceEqDiff, reduceIte, v0, v1, v2, v3, v4, v5, v6, v7, v9, v30, v38, v59] at w0 w1 w2 w3 w4 w5 w6 w7 w9 w30 w38 w59); clear he v0 v1 v2 v3 v4 v5 v6 v7 v9 v30 v38 v59; have v0 := w0; have v1 := w1; have v2 := w2; have v3 := w3; have v4 := w4; have v5 := w5; have v6 := w6; have v7 := w7; have v9 := w9; have v30 := w30; have v38 := w38; have v59 := w59; clear w0 w1 w2 w3 w4 w5 w6 w7 w9 w30 w38 w59)
    | (((with_reducible apply wo_call); (· ((with_reducible apply c52); (· (omega)); (· (exact H.tok (by (with_reducible repeat' first | exact mem_h _ _ | apply mem_t); done))))); rintro _ h ⟨rfl, rfl⟩))
    | (((with_reducible apply wo_call); (· ((with_reducible apply c65); (· (omega)); (· (exact H.bok (by (with_reducible repeat' first | exact mem_h _ _ | apply mem_t); done))); (· (exact H.bok (by (with_reducible repeat' first | exact mem_h _ _ | apply mem_t); done))); (· (exact H.bok (by (with_reducible repeat' first | exact mem_h _ _ | apply mem_t); done))); (· (exact H.tok (by (with_reducible repeat' first | exact mem_h _ _ | apply mem_t); done))); (· (exact H.tok (by (with_reducible repeat' first | exact mem_h _ _ | apply mem_t); done))); (· (exact gd)))); rintro _ h ⟨_, rfl, pg1, xg1, ng1, hg1⟩; have fc := H.fr.c; replace H := H.tnew xg1 pg1 ng1 (src2t (by (with_reducible repeat' first | exact mem_h _ _ | apply mem_t); done) (by (with_reducible repeat' first | exact mem_h _ _ | apply mem_t); done)); replace ng1 := fun n hn => (ng1 n hn).imp id (Nat.le_trans fc); clear xg1 fc))
    | (((with_reducible apply wc_dynW (id := 2) (p := (2, 1)) (ps := [(12, 11), (15, 11)])); (· (kernel_rfl)); have Q := (And.intro (rdc (H.bok (cs := [GT.val l]) (by (with_reducible repeat' first | exact mem_h _ _ | apply mem_t); done))) (And.intro (rdc (H.bok (cs := [GT.val (.nd n1 rl rs rr)]) (by (with_reducible repeat' first | exact mem_h _ _ | apply mem_t); done))) (rdn (H.tok (g := .nd n1 _ _ _) (by (with_reducible repeat' first | exact mem_h _ _ | apply mem_t); done))))); simp only [ti2, ti25] at Q))
    | (((with_reducible apply wc_dynW (id := 4) (p := (2, 1)) (ps := [])); (· (kernel_rfl)); have Q := (And.intro (rdc (H.bok (cs := [GT.val l]) (by (with_reducible repeat' first | exact mem_h _ _ | apply mem_t); done))) (And.intro (rdc (H.bok (cs := [GT.val (.nd n1 rl rs rr)]) (by (with_reducible repeat' first | exact mem_h _ _ | apply mem_t); done))) (rdn (H.tok (g := .nd n1 _ _ _) (by (with_reducible repeat' first | exact mem_h _ _ | apply mem_t); done))))); simp only [ti2, ti25] at Q))
    | (((with_reducible apply wc_dynW (id := 6) (p := (2, 1)) (ps := [(12, 11), (15, 11)])); (· (kernel_rfl)); have Q := (And.intro (rdc (H.bok (cs := [GT.val l]) (by (with_reducible repeat' first | exact mem_h _ _ | apply mem_t); done))) (And.intro (rdc (H.bok (cs := [GT.val (.nd n1 rl rs rr)]) (by (with_reducible repeat' first | exact mem_h _ _ | apply mem_t); done))) (rdn (H.tok (g := .nd n1 _ _ _) (by (with_reducible repeat' first | exact mem_h _ _ | apply mem_t); done))))); simp only [ti2, ti25] at Q))
    | (with_reducible apply wt_cons)
    | (((with_reducible apply wt_nil); refine And.intro ?_ (Exists.intro _ (Exists.intro _ (And.intro rfl ?_))); (· (simp (disch := (first | assumption | omega)) only [beq_self_eq_true, eq_self, wantedA, guardA, yieldA, opA, ev, T.get_put, Nat.reduceEqDiff, reduceIte, List.getElem?_cons_zero, List.getElem?_cons_succ, ft_beq, Bool.and_true, ty25, ti25, v3, v5, Q, checksD_nil, checksD_cons, checkD, checkG, sameR, GT.av_val]; done))))
    | ((with_reducible apply wo_box H); clear H; intro n h H0n H)
    | ((with_reducible apply wo_load1 H); (· ((with_reducible repeat' first | exact mem_h _ _ | apply mem_t); done)); (· (rfl)); (· ((first | rfl | assumption))))
    | ((with_reducible apply wo_load1z H); (· ((with_reducible repeat' first | exact mem_h _ _ | apply mem_t); done)); (· (rfl)); (· ((first | rfl | assumption))))
    | ((first | with_reducible apply wv_ret | with_reducible apply wv_end); (· ((repeat' (first | with_reducible exact rs_nil | ((with_reducible apply rs_tmp); (· (simp (disch := (first | assumption | omega)) only [Option.some.injEq, v6] <;> rfl))) | ((with_reducible apply rs_cell); (· (simp (disch := (first | assumption | omega)) only [ev, T.get_put, Nat.reduceEqDiff, reduceIte, Option.some.injEq, dec_t, dec_f, Bool.not_true, Bool.not_false, v0, v1, v2, v3, v4, v5, v6, v7, v9, v30, v38, v59, GT.cells_val] <;> rfl)); (· (kernel_rfl)); (· (rfl)); (· (exact H.ld1 (by (with_reducible repeat' first | exact mem_h _ _ | apply mem_t); done) rfl))) | ((with_reducible apply rs_celln); (· (simp (disch := (first | assumption | omega)) only [ev, T.get_put, Nat.reduceEqDiff, reduceIte, Option.some.injEq, dec_t, dec_f, Bool.not_true, Bool.not_false, v0, v1, v2, v3, v4, v5, v6, v7, v9, v30, v38, v59, GT.cells_val] <;> rfl)); (· (kernel_rfl)); (· (rfl)); (· (exact H.ldn (by (with_reducible repeat' first | exact mem_h _ _ | apply mem_t); done) rfl rfl))))); done)))
    | simp (disch := (first | assumption | omega)) only [beq_self_eq_true, eq_self, opsA_cons, opsA_nil, wantedA, guardA, yieldA, stepA_t, stepA_f, callA, calleeA, targetA, runOp_c, runOp_n, opA, ev, evs, consO, consOO, pickA, afterA_s, putA, T.get_put, Nat.reduceEqDiff, reduceIte, List.getElem?_toArray, List.getElem?_cons_zero, List.getElem?_cons_succ, oBin, binA, binG, binL, aggO, litA, cond_true, Bool.not_false, blt_eq, ft_beq, I, Bo, fieldAddrA, oFieldAddr, List.length_cons, List.length_nil, Nat.reduceAdd, Nat.zero_add, Nat.add_zero, Nat.reduceLT, ty25, ti25, ty75, ti75, ii_add, ii_gtr, ii_geq, withH_s, nck, oFn, dec_t, dec_f, wrap_ok, id_eq, List.nil_append, Nat.zero_add, Nat.add_zero, Nat.reduceAdd, v0, v1, v2, v3, v4, v5, v7])

  all_goals (first | exact ⟨_, rfl, H.tok (.head _), H.toExt, ng1, hg1⟩ | trace_state)
set_option maxHeartbeats 4000000 in
theorem c61d {n : Nat} (hn : 4 ≤ n) {b : Hp} {l rr a c : GT} {n1 n2 : Nat} {rs t : Int} {s : Int} (pl : GT.ok b l) (pr : GT.ok b (.nd n1 (.nd n2 a t c) rs rr)) (gd : GT.Good (GT.lst l ++ s :: GT.lst (.nd n1 (.nd n2 a t c) rs rr))) (h1 : l.hgt + 1 < (GT.nd n1 (.nd n2 a t c) rs rr).hgt) (h2 : rr.hgt < (GT.nd n2 a t c).hgt) : Wv (runA ctx 5000 n 61 [GT.val l, I s, GT.val (.nd n1 (.nd n2 a t c) rs rr)] b) (fun x h' => RT b h' x (GT.names l ++ GT.names (.nd n1 (.nd n2 a t c) rs rr)) (fun g => ∃ m m2 m3, g = .nd m (.nd m2 l s a) t (.nd m3 c rs rr))) := by
  obtain ⟨k, rfl⟩ : ∃ k, n = k + 1 := ⟨n - 1, by omega⟩
  have g3 := gd.three
  have hl9 := GT.hgt_le l
  have hr9 := GT.hgt_le (.nd n1 (.nd n2 a t c) rs rr)
  have H := ((Hs.start b).z0 (z := tre (.nd n1 (.nd n2 a t c) rs rr)) pr).z0 (z := tre l) pl
  replace H := H.topen (n := n1) (l := (.nd n2 a t c)) (s := rs) (r := rr) (by (with_reducible repeat' first | exact mem_h _ _ | apply mem_t); done)
  have hx9 := GT.hgt_le (.nd n2 a t c)
  have hy9 := GT.hgt_le rr
  have hz9 := GT.hgt_nd n1 (.nd n2 a t c) rs rr
  have hw9 := GT.cnt_nd n1 (.nd n2 a t c) rs rr
  refine wv_run fn61 rfl ?_
  have a0 : (enterEnv [GT.val l, I s, GT.val (.nd n1 (.nd n2 a t c) rs rr)] Try.f61.ntmps).get 0 = some (GT.val l) := enter_get1 _ _ _
  have a1 : (enterEnv [GT.val l, I s, GT.val (.nd n1 (.nd n2 a t c) rs rr)] Try.f61.ntmps).get 1 = some (I s) := enter_get2 _ _ _ _
  have a2 : (enterEnv [GT.val l, I s, GT.val (.nd n1 (.nd n2 a t c) rs rr)] Try.f61.ntmps).get 2 = some (GT.val (.nd n1 (.nd n2 a t c) rs rr)) := enter_get3 _ _ _ _ _
  generalize enterEnv [GT.val l, I s, GT.val (.nd n1 (.nd n2 a t c) rs rr)] Try.f61.ntmps = e at a0 a1 a2 ⊢
  unfold Try.f61
  dsimp only
  ((with_reducible apply wc_c (fun i => Nat.beq i 0 || Nat.beq i 1 || Nat.beq i 2 || Nat.beq i 3 || Nat.beq i 4 || Nat.beq i 5 || Nat.beq i 6 || Nat.beq i 7 || Nat.beq i 9 || Nat.beq i 30 || Nat.beq i 38 || Nat.beq i 59)); intro e he; have w9 := he 0 rfl; (try simp only [a0] at w9); have v0 := w9; clear w9; have w9 := he 1 rfl; (try simp only [a1] at w9); have v1 := w9; clear w9; have w9 := he 2 rfl; (try simp only [a2] at w9); have v2 := w9; clear w9; have w9 := he 3 rfl; (try simp only [T.get_put, Nat.reduceEqDiff, reduceIte] at w9); have v3 := w9; clear w9; have w9 := he 4 rfl; (try simp only [T.get_put, Nat.reduceEqDiff, reduceIte] at w9); have v4 := w9; clear w9; have w9 := he 5 rfl; (try simp only [T.get_put, Nat.reduceEqDiff, reduceIte] at w9); have v5 := w9; clear w9; have w9 := he 6 rfl; (try simp only [T.get_put, Nat.reduceEqDiff, reduceIte] at w9); have v6 := w9; clear w9; have w9 := he 7 rfl; (try simp only [T.get_put, Nat.reduceEqDiff, reduceIte] at w9); have v7 := w9; clear w9; have w9 := he 9 rfl; (try simp only [T.get_put, Nat.reduceEqDiff, reduceIte] at w9); have v9 := w9; clear w9; have w9 := he 30 rfl; (try simp only [T.get_put, Nat.reduceEqDiff, reduceIte] at w9); have v30 := w9; clear w9; have w9 := he 38 rfl; (try simp only [T.get_put, Nat.reduceEqDiff, reduceIte] at w9); have v38 := w9; clear w9; have w9 := he 59 rfl; (try simp only [T.get_put, Nat.reduceEqDiff, reduceIte] at w9); have v59 := w9; clear w9; clear he)
  repeat' (first
    | with_reducible apply wc_seq
    | ((with_reducible apply wc_region); (· (rfl)))
    | with_reducible apply wo_some
    | ((with_reducible apply wc_cond); (· (simp (disch := (first | assumption | omega)) only [ev, Option.some.injEq, v9, v30, v38, v59] <;> rfl)); all_goals (intro hg; (try (try simp only [Bool.not_eq_true'] at hg)); first | (exfalso; exact Bool.noConfusion hg) | (exfalso; exact hg) | skip))
    | with_reducible apply wc_block
    | with_reducible apply wc_ret
    | with_reducible apply bx_n
    | (simp only [cells_int, GT.cells_val] at H)
    | ((with_reducible apply nx_c (fun i => Nat.beq i 0 || Nat.beq i 1 || Nat.beq i 2 || Nat.beq i 3 || Nat.beq i 4 || Nat.beq i 5 || Nat.beq i 6 || Nat.beq i 7 || Nat.beq i 9 || Nat.beq i 30 || Nat.beq i 38 || Nat.beq i 59)); intro e he; have w0 := he 0 rfl; have w1 := he 1 rfl; have w2 := he 2 rfl; have w3 := he 3 rfl; have w4 := he 4 rfl; have w5 := he 5 rfl; have w6 := he 6 rfl; have w7 := he 7 rfl; have w9 := he 9 rfl; have w30 := he 30 rfl; have w38 := he 38 rfl; have w59 := he 59 rfl; (try simp only [T.get_put, Nat.reduceEqDiff, reduceIte, v0, v1, v2, v3, v4, v5, v6, v7, v9, v30, v38, v59] at w0 w1 w2 w3 w4 w5 w6 w7 w9 w30 w38 w59); clear he v0 v1 v2 v3 v4 v5 v6 v7 v9 v30 v38 v59; have v0 := w0; have v1 := w1; have v2 := w2; have v3 := w3; have v4 := w4; have v5 := w5; have v6 := w6; have v7 := w7; have v9 := w9; have v30 := w30; have v38 := w38; have v59 := w59; clear w0 w1 w2 w3 w4 w5 w6 w7 w9 w30 w38 w59)
    | (((with_reducible apply wo_call); (· ((with_reducible apply c52); (· (omega)); (· (exact H.tok (by (with_reducible repeat' first | exact mem_h _ _ | apply mem_t); done))))); rintro _ h ⟨rfl, rfl⟩))
    | (((with_reducible apply wo_call); (· ((with_reducible apply c66); (· (omega)); (· (exact H.bok (by (with_reducible repeat' first | exact mem_h _ _ | apply mem_t); done))); (· (exact H.bok (by (with_reducible repeat' first | exact mem_h _ _ | apply mem_t); done))); (· (exact H.bok (by (with_reducible repeat' first | exact mem_h _ _ | apply mem_t); done))); (· (exact H.tok (by (with_reducible repeat' first | exact mem_h _ _ | apply mem_t); done))); (· (exact H.tok (by (with_reducible repeat' first | exact mem_h _ _ | apply mem_t); done))); (· (exact gd)))); rintro _ h ⟨_, rfl, pg1, xg1, ng1, hg1⟩; have fc := H.fr.c; replace H := H.tnew xg1 pg1 ng1 (src2t (by (with_reducible repeat' first | exact mem_h _ _ | apply mem_t); done) (by (with_reducible repeat' first | exact mem_h _ _ | apply mem_t); done)); replace ng1 := fun n hn => (ng1 n hn).imp id (Nat.le_trans fc); clear xg1 fc))
    | (((with_reducible apply wc_dynW (id := 2) (p := (2, 1)) (ps := [(12, 11), (15, 11)])); (· (kernel_rfl)); have Q := (And.intro (rdc (H.bok (cs := [GT.val l]) (by (with_reducible repeat' first | exact mem_h _ _ | apply mem_t); done))) (And.intro (rdc (H.bok (cs := [GT.val (.nd n1 (.nd n2 a t c) rs rr)]) (by (with_reducible repeat' first | exact mem_h _ _ | apply mem_t); done))) (rdn (H.tok (g := .nd n1 _ _ _) (by (with_reducible repeat' first | exact mem_h _ _ | apply mem_t); done))))); simp only [ti2, ti25] at Q))
    | (((with_reducible apply wc_dynW (id := 4) (p := (2, 1)) (ps := [])); (· (kernel_rfl)); have Q := (And.intro (rdc (H.bok (cs := [GT.val l]) (by (with_reducible repeat' first | exact mem_h _ _ | apply mem_t); done))) (And.intro (rdc (H.bok (cs := [GT.val (.nd n1 (.nd n2 a t c) rs rr)]) (by (with_reducible repeat' first | exact mem_h _ _ | apply mem_t); done))) (rdn (H.tok (g := .nd n1 _ _ _) (by (with_reducible repeat' first | exact mem_h _ _ | apply mem_t); done))))); simp only [ti2, ti25] at Q))
    | (((with_reducible apply wc_dynW (id := 6) (p := (2, 1)) (ps := [(12, 11), (15, 11)])); (· (kernel_rfl)); have Q := (And.intro (rdc (H.bok (cs := [GT.val l]) (by (with_reducible repeat' first | exact mem_h _ _ | apply mem_t); done))) (And.intro (rdc (H.bok (cs := [GT.val (.nd n1 (.nd n2 a t c) rs rr)]) (by (with_reducible repeat' first | exact mem_h _ _ | apply mem_t); done))) (rdn (H.tok (g := .nd n1 _ _ _) (by (with_reducible repeat' first | exact mem_h _ _ | apply mem_t); done))))); simp only [ti2, ti25] at Q))
    | (((with_reducible apply wc_dynW (id := 8) (p := (2, 1)) (ps := [])); (· (kernel_rfl)); have Q := (And.intro (rdc (H.bok (cs := [GT.val l]) (by (with_reducible repeat' first | exact mem_h _ _ | apply mem_t); done))) (And.intro (rdc (H.bok (cs := [GT.val (.nd n1 (.nd n2 a t c) rs rr)]) (by (with_reducible repeat' first | exact mem_h _ _ | apply mem_t); done))) (rdn (H.tok (g := .nd n1 _ _ _) (by (with_reducible repeat' first | exact mem_h _ _ | apply mem_t); done))))); simp only [ti2, ti25] at Q))
    | (with_reducible apply wt_cons)
    | (((with_reducible apply wt_nil); refine And.intro ?_ (Exists.intro _ (Exists.intro _ (And.intro rfl ?_))); (· (simp (disch := (first | assumption | omega)) only [beq_self_eq_true, eq_self, wantedA, guardA, yieldA, opA, ev, T.get_put, Nat.reduceEqDiff, reduceIte, List.getElem?_cons_zero, List.getElem?_cons_succ, ft_beq, Bool.and_true, ty25, ti25, v3, v5, Q, checksD_nil, checksD_cons, checkD, checkG, sameR, GT.av_val]; done))))
    | ((with_reducible apply wo_box H); clear H; intro n h H0n H)
    | ((with_reducible apply wo_load1 H); (· ((with_reducible repeat' first | exact mem_h _ _ | apply mem_t); done)); (· (rfl)); (· ((first | rfl | assumption))))
    | ((with_reducible apply wo_load1z H); (· ((with_reducible repeat' first | exact mem_h _ _ | apply mem_t); done)); (· (rfl)); (· ((first | rfl | assumption))))
    | ((first | with_reducible apply wv_ret | with_reducible apply wv_end); (· ((repeat' (first | with_reducible exact rs_nil | ((with_reducible apply rs_tmp); (· (simp (disch := (first | assumption | omega)) only [Option.some.injEq, v6] <;> rfl))) | ((with_reducible apply rs_cell); (· (simp (disch := (first | assumption | omega)) only [ev, T.get_put, Nat.reduceEqDiff, reduceIte, Option.some.injEq, dec_t, dec_f, Bool.not_true, Bool.not_false, v0, v1, v2, v3, v4, v5, v6, v7, v9, v30, v38, v59, GT.cells_val] <;> rfl)); (· (kernel_rfl)); (· (rfl)); (· (exact H.ld1 (by (with_reducible repeat' first | exact mem_h _ _ | apply mem_t); done) rfl))) | ((with_reducible apply rs_celln); (· (simp (disch := (first | assumption | omega)) only [ev, T.get_put, Nat.reduceEqDiff, reduceIte, Option.some.injEq, dec_t, dec_f, Bool.not_true, Bool.not_false, v0, v1, v2, v3, v4, v5, v6, v7, v9, v30, v38, v59, GT.cells_val] <;> rfl)); (· (kernel_rfl)); (· (rfl)); (· (exact H.ldn (by (with_reducible repeat' first | exact mem_h _ _ | apply mem_t); done) rfl rfl))))); done)))
    | simp (disch := (first | assumption | omega)) only [beq_self_eq_true, eq_self, opsA_cons, opsA_nil, wantedA, guardA, yieldA, stepA_t, stepA_f, callA, calleeA, targetA, runOp_c, runOp_n, opA, ev, evs, consO, consOO, pickA, afterA_s, putA, T.get_put, Nat.reduceEqDiff, reduceIte, List.getElem?_toArray, List.getElem?_cons_zero, List.getElem?_cons_succ, oBin, binA, binG, binL, aggO, litA, cond_true, Bool.not_true, blt_eq, ft_beq, I, Bo, fieldAddrA, oFieldAddr, List.length_cons, List.length_nil, Nat.reduceAdd, Nat.zero_add, Nat.add_zero, Nat.reduceLT, ty25, ti25, ty75, ti75, ii_add, ii_gtr, ii_geq, withH_s, nck, oFn, dec_t, dec_f, wrap_ok, id_eq, List.nil_append, Nat.zero_add, Nat.add_zero, Nat.reduceAdd, v0, v1, v2, v3, v4, v5, v7])

  all_goals (first | exact ⟨_, rfl, H.tok (.head _), H.toExt, ng1, hg1⟩ | trace_state)
set_option maxHeartbeats 4000000 in
theorem c61e {n : Nat} (hn : 4 ≤ n) {b : Hp} {l r : GT} {s : Int} (pl : GT.ok b l) (pr : GT.ok b r) (gd : GT.Good (GT.lst l ++ s :: GT.lst r)) (h1 : l.hgt ≤ r.hgt + 1) (h2 : r.hgt ≤ l.hgt + 1) : Wv (runA ctx 5000 n 61 [GT.val l, I s, GT.val r] b) (fun x h' => RT b h' x (GT.names l ++ GT.names r) (fun g => ∃ m, g = .nd m l s r)) := by
  obtain ⟨k, rfl⟩ : ∃ k, n = k + 1 := ⟨n - 1, by omega⟩
  have g3 := gd.three
  have hl9 := GT.hgt_le l
  have hr9 := GT.hgt_le r
  have H := ((Hs.start b).z0 (z := tre r) pr).z0 (z := tre l) pl
  refine wv_run fn61 rfl ?_
  have a0 : (enterEnv [GT.val l, I s, GT.val r] Try.f61.ntmps).get 0 = some (GT.val l) := enter_get1 _ _ _
  have a1 : (enterEnv [GT.val l, I s, GT.val r] Try.f61.ntmps).get 1 = some (I s) := enter_get2 _ _ _ _
  have a2 : (enterEnv [GT.val l, I s, GT.val r] Try.f61.ntmps).get 2 = some (GT.val r) := enter_get3 _ _ _ _ _
  generalize enterEnv [GT.val l, I s, GT.val r] Try.f61.ntmps = e at a0 a1 a2 ⊢
  unfold Try.f61
  dsimp only
  ((with_reducible apply wc_c (fun i => Nat.beq i 0 || Nat.beq i 1 || Nat.beq i 2 || Nat.beq i 3 || Nat.beq i 4 || Nat.beq i 5 || Nat.beq i 6 || Nat.beq i 7 || Nat.beq i 9 || Nat.beq i 30 || Nat.beq i 38 || Nat.beq i 59)); intro e he; have w9 := he 0 rfl; (try simp only [a0] at w9); have v0 := w9; clear w9; have w9 := he 1 rfl; (try simp only [a1] at w9); have v1 := w9; clear w9; have w9 := he 2 rfl; (try simp only [a2] at w9); have v2 := w9; clear w9; have w9 := he 3 rfl; (try simp only [T.get_put, Nat.reduceEqDiff, reduceIte] at w9); have v3 := w9; clear w9; have w9 := he 4 rfl; (try simp only [T.get_put, Nat.reduceEqDiff, reduceIte] at w9); have v4 := w9; clear w9; have w9 := he 5 rfl; (try simp only [T.get_put, Nat.reduceEqDiff, reduceIte] at w9); have v5 := w9; clear w9; have w9 := he 6 rfl; (try simp only [T.get_put, Nat.reduceEqDiff, reduceIte] at w9); have v6 := w9; clear w9; have w9 := he 7 rfl; (try simp only [T.get_put, Nat.reduceEqDiff, reduceIte] at w9); have v7 := w9; clear w9; have w9 := he 9 rfl; (try simp only [T.get_put, Nat.reduceEqDiff, reduceIte] at w9); have v9 := w9; clear w9; have w9 := he 30 rfl; (try simp only [T.get_put, Nat.reduceEqDiff, reduceIte] at w9); have v30 := w9; clear w9; have w9 := he 38 rfl; (try simp only [T.get_put, Nat.reduceEqDiff, reduceIte] at w9); have v38 := w9; clear w9; have w9 := he 59 rfl; (try simp only [T.get_put, Nat.reduceEqDiff, reduceIte] at w9); have v59 := w9; clear w9; clear he)
  repeat' (first
    | with_reducible apply wc_seq
    | ((with_reducible apply wc_region); (· (rfl)))
    | with_reducible apply wo_some
    | ((with_reducible apply wc_cond); (· (simp (disch := (first | assumption | omega)) only [ev, Option.some.injEq, v9, v30, v38, v59] <;> rfl)); all_goals (intro hg; (try (try simp only [Bool.not_eq_true'] at hg)); first | (exfalso; exact Bool.noConfusion hg) | (exfalso; exact hg) | skip))
    | with_reducible apply wc_block
    | with_reducible apply wc_skip
    | with_reducible apply wc_ret
    | with_reducible apply bx_n
    | (simp only [cells_int, GT.cells_val] at H)
    | ((with_reducible apply nx_c (fun i => Nat.beq i 0 || Nat.beq i 1 || Nat.beq i 2 || Nat.beq i 3 || Nat.beq i 4 || Nat.beq i 5 || Nat.beq i 6 || Nat.beq i 7 || Nat.beq i 9 || Nat.beq i 30 || Nat.beq i 38 || Nat.beq i 59)); intro e he; have w0 := he 0 rfl; have w1 := he 1 rfl; have w2 := he 2 rfl; have w3 := he 3 rfl; have w4 := he 4 rfl; have w5 := he 5 rfl; have w6 := he 6 rfl; have w7 := he 7 rfl; have w9 := he 9 rfl; have w30 := he 30 rfl; have w38 := he 38 rfl; have w59 := he 59 rfl; (try simp only [T.get_put, Nat.reduceEqDiff, reduceIte, v0, v1, v2, v3, v4, v5, v6, v7, v9, v30, v38, v59] at w0 w1 w2 w3 w4 w5 w6 w7 w9 w30 w38 w59); clear he v0 v1 v2 v3 v4 v5 v6 v7 v9 v30 v38 v59; have v0 := w0; have v1 := w1; have v2 := w2; have v3 := w3; have v4 := w4; have v5 := w5; have v6 := w6; have v7 := w7; have v9 := w9; have v30 := w30; have v38 := w38; have v59 := w59; clear w0 w1 w2 w3 w4 w5 w6 w7 w9 w30 w38 w59)
    | (((with_reducible apply wo_call); (· ((with_reducible apply c52); (· (omega)); (· (exact H.tok (by (with_reducible repeat' first | exact mem_h _ _ | apply mem_t); done))))); rintro _ h ⟨rfl, rfl⟩))
    | (((with_reducible apply wo_call); (· ((with_reducible apply c62); (· (omega)); (· (exact H.bok (by (with_reducible repeat' first | exact mem_h _ _ | apply mem_t); done))); (· (exact H.bok (by (with_reducible repeat' first | exact mem_h _ _ | apply mem_t); done))); (· (exact H.bok (by (with_reducible repeat' first | exact mem_h _ _ | apply mem_t); done))); (· (exact H.tok (by (with_reducible repeat' first | exact mem_h _ _ | apply mem_t); done))); (· (exact H.tok (by (with_reducible repeat' first | exact mem_h _ _ | apply mem_t); done))); (· (exact gd)))); rintro _ h ⟨_, rfl, pg1, xg1, ng1, hg1⟩; have fc := H.fr.c; replace H := H.tnew xg1 pg1 ng1 (src2t (by (with_reducible repeat' first | exact mem_h _ _ | apply mem_t); done) (by (with_reducible repeat' first | exact mem_h _ _ | apply mem_t); done)); replace ng1 := fun n hn => (ng1 n hn).imp id (Nat.le_trans fc); clear xg1 fc))
    | (((with_reducible apply wc_dynW (id := 2) (p := (2, 1)) (ps := [(12, 11), (15, 11)])); (· (kernel_rfl)); have Q := (And.intro (rdc (H.bok (cs := [GT.val l]) (by (with_reducible repeat' first | exact mem_h _ _ | apply mem_t); done))) (rdc (H.bok (cs := [GT.val r]) (by (with_reducible repeat' first | exact mem_h _ _ | apply mem_t); done)))); simp only [ti2, ti25] at Q))
    | (((with_reducible apply wc_dynW (id := 4) (p := (2, 1)) (ps := [])); (· (kernel_rfl)); have Q := (And.intro (rdc (H.bok (cs := [GT.val l]) (by (with_reducible repeat' first | exact mem_h _ _ | apply mem_t); done))) (rdc (H.bok (cs := [GT.val r]) (by (with_reducible repeat' first | exact mem_h _ _ | apply mem_t); done)))); simp only [ti2, ti25] at Q))
    | (((with_reducible apply wc_dynW (id := 6) (p := (2, 1)) (ps := [(12, 11), (15, 11)])); (· (kernel_rfl)); have Q := (And.intro (rdc (H.bok (cs := [GT.val l]) (by (with_reducible repeat' first | exact mem_h _ _ | apply mem_t); done))) (rdc (H.bok (cs := [GT.val r]) (by (with_reducible repeat' first | exact mem_h _ _ | apply mem_t); done)))); simp only [ti2, ti25] at Q))
    | (((with_reducible apply wc_dynW (id := 8) (p := (2, 1)) (ps := [])); (· (kernel_rfl)); have Q := (And.intro (rdc (H.bok (cs := [GT.val l]) (by (with_reducible repeat' first | exact mem_h _ _ | apply mem_t); done))) (rdc (H.bok (cs := [GT.val r]) (by (with_reducible repeat' first | exact mem_h _ _ | apply mem_t); done)))); simp only [ti2, ti25] at Q))
    | (with_reducible apply wt_cons)
    | (((with_reducible apply wt_nil); refine And.intro ?_ (Exists.intro _ (Exists.intro _ (And.intro rfl ?_))); (· (simp (disch := (first | assumption | omega)) only [eq_self, wantedA, guardA, yieldA, opA, ev, T.get_put, Nat.reduceEqDiff, reduceIte, List.getElem?_cons_zero, List.getElem?_cons_succ, ft_beq, Bool.and_true, ty25, ti25, v3, v5, Q, checksD_nil, checksD_cons, checkD, checkG, sameR, GT.av_val]; done))))
    | ((with_reducible apply wo_box H); clear H; intro n h H0n H)
    | ((with_reducible apply wo_load1 H); (· ((with_reducible repeat' first | exact mem_h _ _ | apply mem_t); done)); (· (rfl)); (· ((first | rfl | assumption))))
    | ((first | with_reducible apply wv_ret | with_reducible apply wv_end); (· ((repeat' (first | with_reducible exact rs_nil | ((with_reducible apply rs_tmp); (· (simp (disch := (first | assumption | omega)) only [Option.some.injEq, v6] <;> rfl))) | ((with_reducible apply rs_cell); (· (simp (disch := (first | assumption | omega)) only [ev, T.get_put, Nat.reduceEqDiff, reduceIte, Option.some.injEq, dec_t, dec_f, Bool.not_true, Bool.not_false, v0, v1, v2, v3, v4, v5, v6, v7, v9, v30, v38, v59, GT.cells_val] <;> rfl)); (· (kernel_rfl)); (· (rfl)); (· (exact H.ld1 (by (with_reducible repeat' first | exact mem_h _ _ | apply mem_t); done) rfl))) | ((with_reducible apply rs_celln); (· (simp (disch := (first | assumption | omega)) only [ev, T.get_put, Nat.reduceEqDiff, reduceIte, Option.some.injEq, dec_t, dec_f, Bool.not_true, Bool.not_false, v0, v1, v2, v3, v4, v5, v6, v7, v9, v30, v38, v59, GT.cells_val] <;> rfl)); (· (kernel_rfl)); (· (rfl)); (· (exact H.ldn (by (with_reducible repeat' first | exact mem_h _ _ | apply mem_t); done) rfl rfl))))); done)))
    | simp (disch := (first | assumption | omega)) only [eq_self, opsA_cons, opsA_nil, wantedA, guardA, yieldA, stepA_t, stepA_f, callA, calleeA, targetA, runOp_c, runOp_n, opA, ev, evs, consO, consOO, pickA, afterA_s, putA, T.get_put, Nat.reduceEqDiff, reduceIte, List.getElem?_cons_zero, List.getElem?_cons_succ, oBin, binA, binG, binL, aggO, litA, ft_beq, I, Bo, List.length_cons, List.length_nil, Nat.reduceAdd, Nat.zero_add, ty25, ti25, ii_add, ii_gtr, withH_s, oFn, dec_f, wrap_ok, id_eq, List.nil_append, Nat.zero_add, Nat.reduceAdd, v0, v1, v2, v3, v4, v5, v7])

  all_goals (first | exact ⟨_, rfl, H.tok (.head _), H.toExt, ng1, hg1⟩ | trace_state)


theorem rt_mono {b h' : Hp} {x : AV} {src : List Nat} {P Q : GT → Prop} (h : RT b h' x src P) (hq : ∀ g, P g → Q g) : RT b h' x src Q := by
  obtain ⟨g, h1, h2, h3, h4, h5⟩ := h
  exact ⟨g, h1, h2, h3, h4, hq g h5⟩
theorem c61 {n : Nat} (hn : 4 ≤ n) {b : Hp} {l r : GT} {s : Int} (pl : GT.ok b l) (pr : GT.ok b r) (gd : GT.Good (GT.lst l ++ s :: GT.lst r)) (bl : l.bal) (br : r.bal) (hlr : l.hgt ≤ r.hgt + 2) (hrl : r.hgt ≤ l.hgt + 2) : Wv (runA ctx 5000 n 61 [GT.val l, I s, GT.val r] b) (fun x h' => RT b h' x (GT.names l ++ GT.names r) (fun g => g.lst = GT.lst l ++ s :: GT.lst r ∧ g.bal ∧ (GT.hgt l ≤ g.hgt ∧ GT.hgt r ≤ g.hgt) ∧ (g.hgt ≤ GT.hgt l + 1 ∨ g.hgt ≤ GT.hgt r + 1) ∧ (GT.hgt l ≤ GT.hgt r + 1 → GT.hgt r ≤ GT.hgt l + 1 → g.hgt = max (GT.hgt l) (GT.hgt r) + 1))) := by
  by_cases h1 : r.hgt + 1 < l.hgt
  · cases l with
    | nil => rw [GT.hgt_nil] at h1; omega
    | nd n1 ll ls lr =>
      obtain ⟨b1, b2, b3, b4⟩ := bl
      by_cases h2 : lr.hgt ≤ ll.hgt
      · refine (c61a hn pl pr gd h1 h2).mono (fun x h' hr => rt_mono hr ?_)
        rintro g ⟨m, m2, rfl⟩
        simp only [GT.hgt_nd] at *
        refine ⟨by simp [GT.lst], ?_⟩
        simp only [GT.bal, GT.hgt_nd, b1, b2, br, true_and]
        omega
      · cases lr with
        | nil => rw [GT.hgt_nil] at h2; omega
        | nd n2 a t c =>
          obtain ⟨d1, d2, d3, d4⟩ := b2
          refine (c61b hn pl pr gd h1 (by omega)).mono (fun x h' hr => rt_mono hr ?_)
          rintro g ⟨m, m2, m3, rfl⟩
          simp only [GT.hgt_nd] at *
          refine ⟨by simp [GT.lst], ?_⟩
          simp only [GT.bal, GT.hgt_nd, b1, d1, d2, br, true_and]
          omega
  · by_cases h3 : l.hgt + 1 < r.hgt
    · cases r with
      | nil => rw [GT.hgt_nil] at h3; omega
      | nd n1 rl rs rr =>
        obtain ⟨b1, b2, b3, b4⟩ := br
        by_cases h2 : rl.hgt ≤ rr.hgt
        · refine (c61c hn pl pr gd h3 h2).mono (fun x h' hr => rt_mono hr ?_)
          rintro g ⟨m, m2, rfl⟩
          simp only [GT.hgt_nd] at *
          refine ⟨by simp [GT.lst], ?_⟩
          simp only [GT.bal, GT.hgt_nd, b1, b2, bl, true_and]
          omega
        · cases rl with
          | nil => rw [GT.hgt_nil] at h2; omega
          | nd n2 a t c =>
            obtain ⟨d1, d2, d3, d4⟩ := b1
            refine (c61d hn pl pr gd h3 (by omega)).mono (fun x h' hr => rt_mono hr ?_)
            rintro g ⟨m, m2, m3, rfl⟩
            simp only [GT.hgt_nd] at *
            refine ⟨by simp [GT.lst], ?_⟩
            simp only [GT.bal, GT.hgt_nd, b2, d1, d2, bl, true_and]
            omega
    · refine (c61e hn pl pr gd (by omega) (by omega)).mono (fun x h' hr => rt_mono hr ?_)
      rintro g ⟨m, rfl⟩
      simp only [GT.hgt_nd] at *
      refine ⟨by simp [GT.lst], ?_⟩
      simp only [GT.bal, GT.hgt_nd, bl, br, true_and]
      exact ⟨⟨by omega, by omega⟩, ⟨by omega, by omega⟩, by omega, fun _ _ => by first | rfl | trivial⟩


set_option maxHeartbeats 4000000 in
theorem k59a (m : Nat) (ih : ∀ (n : Nat) (b : Hp) (l r : GT) (s : Int), l.hgt + r.hgt ≤ m → m + 5 ≤ n → l.ok b → r.ok b → GT.Good (l.lst ++ s :: r.lst) → l.bal → r.bal → Wv (runA ctx 5000 n 59 [l.val, I s, r.val] b) (fun x h' => RT b h' x (l.names ++ r.names) (fun g => g.lst = GT.lst l ++ s :: GT.lst r ∧ g.bal ∧ (GT.hgt l ≤ g.hgt ∧ GT.hgt r ≤ g.hgt) ∧ (g.hgt ≤ GT.hgt l + 1 ∨ g.hgt ≤ GT.hgt r + 1)))) {n : Nat} (hn : m + 6 ≤ n) {b : Hp} {ll lr r : GT} {n1 : Nat} {ls s : Int} (hm : (GT.nd n1 ll ls lr).hgt + r.hgt ≤ m + 1) (pl : GT.ok b (.nd n1 ll ls lr)) (pr : r.ok b) (gd : GT.Good ((GT.nd n1 ll ls lr).lst ++ s :: r.lst)) (bl : (GT.nd n1 ll ls lr).bal) (br : r.bal) (h1 : r.hgt + 1 < (GT.nd n1 ll ls lr).hgt) : Wv (runA ctx 5000 n 59 [(GT.nd n1 ll ls lr).val, I s, r.val] b) (fun x h' => RT b h' x ((GT.nd n1 ll ls lr).names ++ r.names) (fun g => g.lst = GT.lst (.nd n1 ll ls lr) ++ s :: GT.lst r ∧ g.bal ∧ (GT.hgt (.nd n1 ll ls lr) ≤ g.hgt ∧ GT.hgt r ≤ g.hgt) ∧ (g.hgt ≤ GT.hgt (.nd n1 ll ls lr) + 1 ∨ g.hgt ≤ GT.hgt r + 1))) := by
  obtain ⟨k, rfl⟩ : ∃ k, n = k + 1 := ⟨n - 1, by omega⟩
  have g3 := gd.three
  have hz9 := GT.hgt_nd n1 ll ls lr
  have hl9 := GT.hgt_le (.nd n1 ll ls lr)
  have hr9 := GT.hgt_le r
  obtain ⟨b1, b2, b3, b4⟩ := bl
  have gq1 : GT.Good (lr.lst ++ s :: r.lst) := GT.Good.right (a := ll.lst ++ [ls]) (by simpa only [GT.lst, List.append_assoc, List.cons_append, List.nil_append] using gd)
  have H := ((Hs.start b).z0 (z := tre r) pr).z0 (z := tre (.nd n1 ll ls lr)) pl
  replace H := H.topen (n := n1) (l := ll) (s := ls) (r := lr) (by (with_reducible repeat' first | exact mem_h _ _ | apply mem_t); done)
  have Q := rdn (H.tok (g := .nd n1 ll ls lr) (by (with_reducible repeat' first | exact mem_h _ _ | apply mem_t); done))
  simp only [ti2, ti25] at Q
  refine wv_run fn59 rfl ?_
  have a0 : (enterEnv [(GT.nd n1 ll ls lr).val, I s, r.val] Try.f59.ntmps).get 0 = some ((GT.nd n1 ll ls lr).val) := enter_get1 _ _ _
  have a1 : (enterEnv [(GT.nd n1 ll ls lr).val, I s, r.val] Try.f59.ntmps).get 1 = some (I s) := enter_get2 _ _ _ _
  have a2 : (enterEnv [(GT.nd n1 ll ls lr).val, I s, r.val] Try.f59.ntmps).get 2 = some (r.val) := enter_get3 _ _ _ _ _
  generalize enterEnv [(GT.nd n1 ll ls lr).val, I s, r.val] Try.f59.ntmps = e at a0 a1 a2 ⊢
  unfold Try.f59
  dsimp only
  ((with_reducible apply wc_c (fun i => Nat.beq i 0 || Nat.beq i 1 || Nat.beq i 2 || Nat.beq i 6 || Nat.beq i 7 || Nat.beq i 30)); intro e he; have w9 := he 0 rfl; (try simp only [a0] at w9); have v0 := w9; clear w9; have w9 := he 1 rfl; (try simp only [a1] at w9); have v1 := w9; clear w9; have w9 := he 2 rfl; (try simp only [a2] at w9); have v2 := w9; clear w9; have w9 := he 6 rfl; (try simp only [T.get_put, Nat.reduceEqDiff, reduceIte] at w9); have v6 := w9; clear w9; have w9 := he 7 rfl; (try simp only [T.get_put, Nat.reduceEqDiff, reduceIte] at w9); have v7 := w9; clear w9; have w9 := he 30 rfl; (try simp only [T.get_put, Nat.reduceEqDiff, reduceIte] at w9); have v30 := w9; clear w9; clear he)
  repeat' (first
    | with_reducible apply wc_seq
    | ((with_reducible apply wc_region); (· (rfl)))
    | with_reducible apply wo_some
    | ((with_reducible apply wc_cond); (· (simp (disch := (first | assumption | omega)) only [ev, Option.some.injEq, v7] <;> rfl)); all_goals (intro hg; (try (try simp only [Bool.not_eq_true'] at hg)); first | (exfalso; exact Bool.noConfusion hg) | (exfalso; exact hg) | skip))
    | with_reducible apply wc_block
    | with_reducible apply wc_ret
    | with_reducible apply nx_r
    | with_reducible apply bx_r
    | ((with_reducible apply nx_c (fun i => Nat.beq i 0 || Nat.beq i 1 || Nat.beq i 2 || Nat.beq i 6 || Nat.beq i 7 || Nat.beq i 30)); intro e he; have w0 := he 0 rfl; have w1 := he 1 rfl; have w2 := he 2 rfl; have w6 := he 6 rfl; have w7 := he 7 rfl; have w30 := he 30 rfl; (try simp only [T.get_put, Nat.reduceEqDiff, reduceIte, v0, v1, v2, v6, v7, v30] at w0 w1 w2 w6 w7 w30); clear he v0 v1 v2 v6 v7 v30; have v0 := w0; have v1 := w1; have v2 := w2; have v6 := w6; have v7 := w7; have v30 := w30; clear w0 w1 w2 w6 w7 w30)
    | (((with_reducible apply wo_call); (· ((with_reducible apply c52); (· (omega)); (· (exact H.tok (by (with_reducible repeat' first | exact mem_h _ _ | apply mem_t); done))))); rintro _ h ⟨rfl, rfl⟩))
    | (((with_reducible apply wo_call); (· ((with_reducible apply ih); (· (omega)); (· (omega)); (· (exact H.tok (by (with_reducible repeat' first | exact mem_h _ _ | apply mem_t); done))); (· (exact H.tok (by (with_reducible repeat' first | exact mem_h _ _ | apply mem_t); done))); (· (exact gq1)); (· (exact b2)); (· (exact br)))); rintro _ h ⟨g1, rfl, pg1, xg1, ng1, e1, c1, u1, v1'⟩; have fc := H.fr.c; replace H := H.tnew xg1 pg1 ng1 (src2t (by (with_reducible repeat' first | exact mem_h _ _ | apply mem_t); done) (by (with_reducible repeat' first | exact mem_h _ _ | apply mem_t); done)); replace ng1 := fun n hn => (ng1 n hn).imp id (Nat.le_trans fc); clear xg1 fc; replace Q := And.intro Q (rdn (H.tok (g := .nd n1 _ _ _) (by (with_reducible repeat' first | exact mem_h _ _ | apply mem_t); done))); simp only [ti2, ti25] at Q))
    | (((with_reducible apply wo_call); (· ((with_reducible apply c61); (· (omega)); (· (exact H.tok (by (with_reducible repeat' first | exact mem_h _ _ | apply mem_t); done))); (· (exact H.tok (by (with_reducible repeat' first | exact mem_h _ _ | apply mem_t); done))); (· ((rw [e1]; simpa only [GT.lst, List.append_assoc, List.cons_append] using gd))); (· (exact b1)); (· (exact c1)); (· (omega)); (· (omega)))); rintro _ h ⟨g2, rfl, pg2, xg2, ng2, e2, c2, u2, v2', w2'⟩; have fc := H.fr.c; replace H := H.tnew xg2 pg2 ng2 (src2t (by (with_reducible repeat' first | exact mem_h _ _ | apply mem_t); done) (by (with_reducible repeat' first | exact mem_h _ _ | apply mem_t); done)); replace ng2 := fun n hn => (ng2 n hn).imp id (Nat.le_trans fc); clear xg2 fc; replace Q := And.intro Q (rdn (H.tok (g := .nd n1 _ _ _) (by (with_reducible repeat' first | exact mem_h _ _ | apply mem_t); done))); simp only [ti2, ti25] at Q))
    | (((with_reducible apply wc_dynW (id := 2) (p := (3, 15)) (ps := [(7, 15)])); (· (kernel_rfl)); skip))
    | (with_reducible apply wt_cons)
    | (((with_reducible apply wt_nil); refine And.intro ?_ (Exists.intro _ (Exists.intro _ (And.intro rfl ?_))); (· (simp (disch := (first | assumption | omega)) only [eq_self, wantedA, opA, ev, T.get_put, Nat.reduceEqDiff, reduceIte, List.getElem?_cons_zero, List.getElem?_cons_succ, Bool.and_true, I, ty2, ti2, ty25, ti25, Q, checksD_nil, checksD_cons, checkD, checkG, sameR, GT.av_val, av_int]; done))))
    | ((first | with_reducible apply wv_ret | with_reducible apply wv_end); (· ((repeat' (first | with_reducible exact rs_nil | ((with_reducible apply rs_tmp); (· (simp (disch := (first | assumption | omega)) only [Option.some.injEq, v6] <;> rfl))) | ((with_reducible apply rs_cell); (· (simp (disch := (first | assumption | omega)) only [ev, T.get_put, Nat.reduceEqDiff, reduceIte, Option.some.injEq, dec_t, dec_f, Bool.not_true, Bool.not_false, v0, v1, v2, v6, v7, v30, Q] <;> rfl)); (· (kernel_rfl)); (· (rfl)); (· (exact H.ld1 (by (with_reducible repeat' first | exact mem_h _ _ | apply mem_t); done) rfl))) | ((with_reducible apply rs_celln); (· (simp (disch := (first | assumption | omega)) only [ev, T.get_put, Nat.reduceEqDiff, reduceIte, Option.some.injEq, dec_t, dec_f, Bool.not_true, Bool.not_false, v0, v1, v2, v6, v7, v30, Q] <;> rfl)); (· (kernel_rfl)); (· (rfl)); (· (exact H.ldn (by (with_reducible repeat' first | exact mem_h _ _ | apply mem_t); done) rfl rfl))))); done)))
    | simp (disch := (first | assumption | omega)) only [eq_self, opsA_cons, opsA_nil, wantedA, stepA_t, callA, calleeA, targetA, runOp_c, runOp_n, opA, ev, evs, consO, consOO, afterA_s, putA, T.get_put, Nat.reduceEqDiff, reduceIte, List.getElem?_toArray, List.getElem?_cons_zero, List.getElem?_cons_succ, oBin, binA, binG, binL, aggO, litA, cond_true, blt_eq, I, Bo, fieldAddrA, oFieldAddr, List.length_cons, List.length_nil, Nat.reduceAdd, Nat.zero_add, Nat.add_zero, Nat.reduceLT, ty2, ti2, ty25, ti25, ty75, ti75, ii_add, ii_gtr, withH_s, nck, dec_t, wrap_ok, Nat.zero_add, Nat.add_zero, Nat.reduceAdd, v0, v1, v2, Q])

  all_goals (first | exact ⟨_, rfl, H.tok (.head _), H.toExt, by (intro n hn; simp only [GT.names, List.mem_append, List.mem_cons] at *; grind), by rw [e2, e1]; simp only [GT.lst, List.append_assoc, List.cons_append], c2, by omega, by omega⟩ | trace_state)
set_option maxHeartbeats 4000000 in
theorem k59b (m : Nat) (ih : ∀ (n : Nat) (b : Hp) (l r : GT) (s : Int), l.hgt + r.hgt ≤ m → m + 5 ≤ n → l.ok b → r.ok b → GT.Good (l.lst ++ s :: r.lst) → l.bal → r.bal → Wv (runA ctx 5000 n 59 [l.val, I s, r.val] b) (fun x h' => RT b h' x (l.names ++ r.names) (fun g => g.lst = GT.lst l ++ s :: GT.lst r ∧ g.bal ∧ (GT.hgt l ≤ g.hgt ∧ GT.hgt r ≤ g.hgt) ∧ (g.hgt ≤ GT.hgt l + 1 ∨ g.hgt ≤ GT.hgt r + 1)))) {n : Nat} (hn : m + 6 ≤ n) {b : Hp} {l rl rr : GT} {n1 : Nat} {rs s : Int} (hm : l.hgt + (GT.nd n1 rl rs rr).hgt ≤ m + 1) (pl : l.ok b) (pr : GT.ok b (.nd n1 rl rs rr)) (gd : GT.Good (l.lst ++ s :: (GT.nd n1 rl rs rr).lst)) (bl : l.bal) (br : (GT.nd n1 rl rs rr).bal) (h1 : l.hgt + 1 < (GT.nd n1 rl rs rr).hgt) : Wv (runA ctx 5000 n 59 [l.val, I s, (GT.nd n1 rl rs rr).val] b) (fun x h' => RT b h' x (l.names ++ (GT.nd n1 rl rs rr).names) (fun g => g.lst = GT.lst l ++ s :: GT.lst (.nd n1 rl rs rr) ∧ g.bal ∧ (GT.hgt l ≤ g.hgt ∧ GT.hgt (.nd n1 rl rs rr) ≤ g.hgt) ∧ (g.hgt ≤ GT.hgt l + 1 ∨ g.hgt ≤ GT.hgt (.nd n1 rl rs rr) + 1))) := by
  obtain ⟨k, rfl⟩ : ∃ k, n = k + 1 := ⟨n - 1, by omega⟩
  have g3 := gd.three
  have hz9 := GT.hgt_nd n1 rl rs rr
  have hl9 := GT.hgt_le (.nd n1 rl rs rr)
  have hr9 := GT.hgt_le l
  obtain ⟨b1, b2, b3, b4⟩ := br
  have gq1 : GT.Good (l.lst ++ s :: rl.lst) := GT.Good.left (b := rs :: rr.lst) (by simpa only [GT.lst, List.append_assoc, List.cons_append, List.nil_append] using gd)
  have H := ((Hs.start b).z0 (z := tre (.nd n1 rl rs rr)) pr).z0 (z := tre l) pl
  replace H := H.topen (n := n1) (l := rl) (s := rs) (r := rr) (by (with_reducible repeat' first | exact mem_h _ _ | apply mem_t); done)
  have Q := rdn (H.tok (g := .nd n1 rl rs rr) (by (with_reducible repeat' first | exact mem_h _ _ | apply mem_t); done))
  simp only [ti2, ti25] at Q
  refine wv_run fn59 rfl ?_
  have a0 : (enterEnv [l.val, I s, (GT.nd n1 rl rs rr).val] Try.f59.ntmps).get 0 = some (l.val) := enter_get1 _ _ _
  have a1 : (enterEnv [l.val, I s, (GT.nd n1 rl rs rr).val] Try.f59.ntmps).get 1 = some (I s) := enter_get2 _ _ _ _
  have a2 : (enterEnv [l.val, I s, (GT.nd n1 rl rs rr).val] Try.f59.ntmps).get 2 = some ((GT.nd n1 rl rs rr).val) := enter_get3 _ _ _ _ _
  generalize enterEnv [l.val, I s, (GT.nd n1 rl rs rr).val] Try.f59.ntmps = e at a0 a1 a2 ⊢
  unfold Try.f59
  dsimp only
  ((with_reducible apply wc_c (fun i => Nat.beq i 0 || Nat.beq i 1 || Nat.beq i 2 || Nat.beq i 6 || Nat.beq i 7 || Nat.beq i 30)); intro e he; have w9 := he 0 rfl; (try simp only [a0] at w9); have v0 := w9; clear w9; have w9 := he 1 rfl; (try simp only [a1] at w9); have v1 := w9; clear w9; have w9 := he 2 rfl; (try simp only [a2] at w9); have v2 := w9; clear w9; have w9 := he 6 rfl; (try simp only [T.get_put, Nat.reduceEqDiff, reduceIte] at w9); have v6 := w9; clear w9; have w9 := he 7 rfl; (try simp only [T.get_put, Nat.reduceEqDiff, reduceIte] at w9); have v7 := w9; clear w9; have w9 := he 30 rfl; (try simp only [T.get_put, Nat.reduceEqDiff, reduceIte] at w9); have v30 := w9; clear w9; clear he)
  repeat' (first
    | with_reducible apply wc_seq
    | ((with_reducible apply wc_region); (· (rfl)))
    | with_reducible apply wo_some
    | ((with_reducible apply wc_cond); (· (simp (disch := (first | assumption | omega)) only [ev, Option.some.injEq, v7, v30] <;> rfl)); all_goals (intro hg; (try (try simp only [Bool.not_eq_true'] at hg)); first | (exfalso; exact Bool.noConfusion hg) | (exfalso; exact hg) | skip))
    | with_reducible apply wc_block
    | with_reducible apply wc_ret
    | with_reducible apply nx_r
    | with_reducible apply bx_r
    | ((with_reducible apply nx_c (fun i => Nat.beq i 0 || Nat.beq i 1 || Nat.beq i 2 || Nat.beq i 6 || Nat.beq i 7 || Nat.beq i 30)); intro e he; have w0 := he 0 rfl; have w1 := he 1 rfl; have w2 := he 2 rfl; have w6 := he 6 rfl; have w7 := he 7 rfl; have w30 := he 30 rfl; (try simp only [T.get_put, Nat.reduceEqDiff, reduceIte, v0, v1, v2, v6, v7, v30] at w0 w1 w2 w6 w7 w30); clear he v0 v1 v2 v6 v7 v30; have v0 := w0; have v1 := w1; have v2 := w2; have v6 := w6; have v7 := w7; have v30 := w30; clear w0 w1 w2 w6 w7 w30)
    | (((with_reducible apply wo_call); (· ((with_reducible apply c52); (· (omega)); (· (exact H.tok (by (with_reducible repeat' first | exact mem_h _ _ | apply mem_t); done))))); rintro _ h ⟨rfl, rfl⟩))
    | (((with_reducible apply wo_call); (· ((with_reducible apply ih); (· (omega)); (· (omega)); (· (exact H.tok (by (with_reducible repeat' first | exact mem_h _ _ | apply mem_t); done))); (· (exact H.tok (by (with_reducible repeat' first | exact mem_h _ _ | apply mem_t); done))); (· (exact gq1)); (· (exact bl)); (· (exact b1)))); rintro _ h ⟨g1, rfl, pg1, xg1, ng1, e1, c1, u1, v1'⟩; have fc := H.fr.c; replace H := H.tnew xg1 pg1 ng1 (src2t (by (with_reducible repeat' first | exact mem_h _ _ | apply mem_t); done) (by (with_reducible repeat' first | exact mem_h _ _ | apply mem_t); done)); replace ng1 := fun n hn => (ng1 n hn).imp id (Nat.le_trans fc); clear xg1 fc; replace Q := And.intro Q (rdn (H.tok (g := .nd n1 _ _ _) (by (with_reducible repeat' first | exact mem_h _ _ | apply mem_t); done))); simp only [ti2, ti25] at Q))
    | (((with_reducible apply wo_call); (· ((with_reducible apply c61); (· (omega)); (· (exact H.tok (by (with_reducible repeat' first | exact mem_h _ _ | apply mem_t); done))); (· (exact H.tok (by (with_reducible repeat' first | exact mem_h _ _ | apply mem_t); done))); (· ((rw [e1]; simpa only [GT.lst, List.append_assoc, List.cons_append] using gd))); (· (exact c1)); (· (exact b2)); (· (omega)); (· (omega)))); rintro _ h ⟨g2, rfl, pg2, xg2, ng2, e2, c2, u2, v2', w2'⟩; have fc := H.fr.c; replace H := H.tnew xg2 pg2 ng2 (src2t (by (with_reducible repeat' first | exact mem_h _ _ | apply mem_t); done) (by (with_reducible repeat' first | exact mem_h _ _ | apply mem_t); done)); replace ng2 := fun n hn => (ng2 n hn).imp id (Nat.le_trans fc); clear xg2 fc; replace Q := And.intro Q (rdn (H.tok (g := .nd n1 _ _ _) (by (with_reducible repeat' first | exact mem_h _ _ | apply mem_t); done))); simp only [ti2, ti25] at Q))
    | (((with_reducible apply wc_dynW (id := 4) (p := (10, 6)) (ps := [(14, 6)])); (· (kernel_rfl)); skip))
    | (with_reducible apply wt_cons)
    | (((with_reducible apply wt_nil); refine And.intro ?_ (Exists.intro _ (Exists.intro _ (And.intro rfl ?_))); (· (simp (disch := (first | assumption | omega)) only [eq_self, wantedA, opA, ev, T.get_put, Nat.reduceEqDiff, reduceIte, List.getElem?_cons_zero, List.getElem?_cons_succ, Bool.and_true, I, ty2, ti2, ty25, ti25, Q, checksD_nil, checksD_cons, checkD, checkG, sameR, GT.av_val, av_int]; done))))
    | ((first | with_reducible apply wv_ret | with_reducible apply wv_end); (· ((repeat' (first | with_reducible exact rs_nil | ((with_reducible apply rs_tmp); (· (simp (disch := (first | assumption | omega)) only [Option.some.injEq, v6] <;> rfl))) | ((with_reducible apply rs_cell); (· (simp (disch := (first | assumption | omega)) only [ev, T.get_put, Nat.reduceEqDiff, reduceIte, Option.some.injEq, dec_t, dec_f, Bool.not_true, Bool.not_false, v0, v1, v2, v6, v7, v30, Q] <;> rfl)); (· (kernel_rfl)); (· (rfl)); (· (exact H.ld1 (by (with_reducible repeat' first | exact mem_h _ _ | apply mem_t); done) rfl))) | ((with_reducible apply rs_celln); (· (simp (disch := (first | assumption | omega)) only [ev, T.get_put, Nat.reduceEqDiff, reduceIte, Option.some.injEq, dec_t, dec_f, Bool.not_true, Bool.not_false, v0, v1, v2, v6, v7, v30, Q] <;> rfl)); (· (kernel_rfl)); (· (rfl)); (· (exact H.ldn (by (with_reducible repeat' first | exact mem_h _ _ | apply mem_t); done) rfl rfl))))); done)))
    | simp (disch := (first | assumption | omega)) only [eq_self, opsA_cons, opsA_nil, wantedA, stepA_t, callA, calleeA, targetA, runOp_c, runOp_n, opA, ev, evs, consO, consOO, afterA_s, putA, T.get_put, Nat.reduceEqDiff, reduceIte, List.getElem?_toArray, List.getElem?_cons_zero, List.getElem?_cons_succ, oBin, binA, binG, binL, aggO, litA, cond_true, blt_eq, I, Bo, fieldAddrA, oFieldAddr, List.length_cons, List.length_nil, Nat.reduceAdd, Nat.zero_add, Nat.add_zero, Nat.reduceLT, ty2, ti2, ty25, ti25, ty75, ti75, ii_add, ii_gtr, withH_s, nck, dec_t, dec_f, wrap_ok, Nat.zero_add, Nat.add_zero, Nat.reduceAdd, v0, v1, v2, Q])

  all_goals (first | exact ⟨_, rfl, H.tok (.head _), H.toExt, by (intro n hn; simp only [GT.names, List.mem_append, List.mem_cons] at *; grind), by rw [e2, e1]; simp only [GT.lst, List.append_assoc, List.cons_append], c2, by omega, by omega⟩ | trace_state)
set_option maxHeartbeats 4000000 in
theorem k59c {n : Nat} (hn : 5 ≤ n) {b : Hp} {l r : GT} {s : Int} (pl : l.ok b) (pr : r.ok b) (gd : GT.Good (l.lst ++ s :: r.lst)) (bl : l.bal) (br : r.bal) (h1 : l.hgt ≤ r.hgt + 1) (h2 : r.hgt ≤ l.hgt + 1) : Wv (runA ctx 5000 n 59 [l.val, I s, r.val] b) (fun x h' => RT b h' x (l.names ++ r.names) (fun g => g.lst = GT.lst l ++ s :: GT.lst r ∧ g.bal ∧ (GT.hgt l ≤ g.hgt ∧ GT.hgt r ≤ g.hgt) ∧ (g.hgt ≤ GT.hgt l + 1 ∨ g.hgt ≤ GT.hgt r + 1))) := by
  obtain ⟨k, rfl⟩ : ∃ k, n = k + 1 := ⟨n - 1, by omega⟩
  have g3 := gd.three
  have hl9 := GT.hgt_le l
  have hr9 := GT.hgt_le r
  have H := ((Hs.start b).z0 (z := tre r) pr).z0 (z := tre l) pl
  refine wv_run fn59 rfl ?_
  have a0 : (enterEnv [l.val, I s, r.val] Try.f59.ntmps).get 0 = some (l.val) := enter_get1 _ _ _
  have a1 : (enterEnv [l.val, I s, r.val] Try.f59.ntmps).get 1 = some (I s) := enter_get2 _ _ _ _
  have a2 : (enterEnv [l.val, I s, r.val] Try.f59.ntmps).get 2 = some (r.val) := enter_get3 _ _ _ _ _
  generalize enterEnv [l.val, I s, r.val] Try.f59.ntmps = e at a0 a1 a2 ⊢
  unfold Try.f59
  dsimp only
  ((with_reducible apply wc_c (fun i => Nat.beq i 0 || Nat.beq i 1 || Nat.beq i 2 || Nat.beq i 6 || Nat.beq i 7 || Nat.beq i 30)); intro e he; have w9 := he 0 rfl; (try simp only [a0] at w9); have v0 := w9; clear w9; have w9 := he 1 rfl; (try simp only [a1] at w9); have v1 := w9; clear w9; have w9 := he 2 rfl; (try simp only [a2] at w9); have v2 := w9; clear w9; have w9 := he 6 rfl; (try simp only [T.get_put, Nat.reduceEqDiff, reduceIte] at w9); have v6 := w9; clear w9; have w9 := he 7 rfl; (try simp only [T.get_put, Nat.reduceEqDiff, reduceIte] at w9); have v7 := w9; clear w9; have w9 := he 30 rfl; (try simp only [T.get_put, Nat.reduceEqDiff, reduceIte] at w9); have v30 := w9; clear w9; clear he)
  repeat' (first
    | with_reducible apply wc_seq
    | ((with_reducible apply wc_region); (· (rfl)))
    | with_reducible apply wo_some
    | ((with_reducible apply wc_cond); (· (simp (disch := (first | assumption | omega)) only [ev, Option.some.injEq, v7, v30] <;> rfl)); all_goals (intro hg; (try (try simp only [Bool.not_eq_true'] at hg)); first | (exfalso; exact Bool.noConfusion hg) | (exfalso; exact hg) | skip))
    | with_reducible apply wc_block
    | with_reducible apply wc_skip
    | with_reducible apply wc_ret
    | with_reducible apply bx_n
    | ((with_reducible apply nx_c (fun i => Nat.beq i 0 || Nat.beq i 1 || Nat.beq i 2 || Nat.beq i 6 || Nat.beq i 7 || Nat.beq i 30)); intro e he; have w0 := he 0 rfl; have w1 := he 1 rfl; have w2 := he 2 rfl; have w6 := he 6 rfl; have w7 := he 7 rfl; have w30 := he 30 rfl; (try simp only [T.get_put, Nat.reduceEqDiff, reduceIte, v0, v1, v2, v6, v7, v30] at w0 w1 w2 w6 w7 w30); clear he v0 v1 v2 v6 v7 v30; have v0 := w0; have v1 := w1; have v2 := w2; have v6 := w6; have v7 := w7; have v30 := w30; clear w0 w1 w2 w6 w7 w30)
    | (((with_reducible apply wo_call); (· ((with_reducible apply c52); (· (omega)); (· (exact H.tok (by (with_reducible repeat' first | exact mem_h _ _ | apply mem_t); done))))); rintro _ h ⟨rfl, rfl⟩))
    | (((with_reducible apply wo_call); (· ((with_reducible apply c53); (· (omega)); (· (exact H.tok (by (with_reducible repeat' first | exact mem_h _ _ | apply mem_t); done))); (· (exact H.tok (by (with_reducible repeat' first | exact mem_h _ _ | apply mem_t); done))); (· (exact gd)))); rintro _ h ⟨_, rfl, pg1, xg1, ng1, m1, rfl⟩; have fc := H.fr.c; replace H := H.tnew xg1 pg1 ng1 (src2t (by (with_reducible repeat' first | exact mem_h _ _ | apply mem_t); done) (by (with_reducible repeat' first | exact mem_h _ _ | apply mem_t); done)); replace ng1 := fun n hn => (ng1 n hn).imp id (Nat.le_trans fc); clear xg1 fc))
    | ((first | with_reducible apply wv_ret | with_reducible apply wv_end); (· ((repeat' (first | with_reducible exact rs_nil | ((with_reducible apply rs_tmp); (· (simp (disch := (first | assumption | omega)) only [Option.some.injEq, v6] <;> rfl))) | ((with_reducible apply rs_cell); (· (simp (disch := (first | assumption | omega)) only [ev, T.get_put, Nat.reduceEqDiff, reduceIte, Option.some.injEq, dec_t, dec_f, Bool.not_true, Bool.not_false, v0, v1, v2, v6, v7, v30] <;> rfl)); (· (kernel_rfl)); (· (rfl)); (· (exact H.ld1 (by (with_reducible repeat' first | exact mem_h _ _ | apply mem_t); done) rfl))) | ((with_reducible apply rs_celln); (· (simp (disch := (first | assumption | omega)) only [ev, T.get_put, Nat.reduceEqDiff, reduceIte, Option.some.injEq, dec_t, dec_f, Bool.not_true, Bool.not_false, v0, v1, v2, v6, v7, v30] <;> rfl)); (· (kernel_rfl)); (· (rfl)); (· (exact H.ldn (by (with_reducible repeat' first | exact mem_h _ _ | apply mem_t); done) rfl rfl))))); done)))
    | simp (disch := (first | assumption | omega)) only [eq_self, opsA_cons, opsA_nil, wantedA, stepA_t, callA, calleeA, targetA, runOp_c, runOp_n, opA, ev, evs, consO, consOO, afterA_s, putA, T.get_put, Nat.reduceEqDiff, reduceIte, oBin, binA, binG, binL, aggO, litA, I, Bo, ii_add, ii_gtr, withH_s, dec_f, wrap_ok, v0, v1, v2])

  all_goals (first | exact ⟨_, rfl, H.tok (.head _), H.toExt, ng1, by simp only [GT.lst], ⟨bl, br, h1, h2⟩, by rw [GT.hgt_nd]; omega, by rw [GT.hgt_nd]; omega⟩ | trace_state)
theorem c59 : ∀ (m n : Nat) (b : Hp) (l r : GT) (s : Int), l.hgt + r.hgt ≤ m → m + 5 ≤ n → l.ok b → r.ok b → GT.Good (l.lst ++ s :: r.lst) → l.bal → r.bal → Wv (runA ctx 5000 n 59 [l.val, I s, r.val] b) (fun x h' => RT b h' x (l.names ++ r.names) (fun g => g.lst = GT.lst l ++ s :: GT.lst r ∧ g.bal ∧ (GT.hgt l ≤ g.hgt ∧ GT.hgt r ≤ g.hgt) ∧ (g.hgt ≤ GT.hgt l + 1 ∨ g.hgt ≤ GT.hgt r + 1))) := by
  intro m
  induction m with
  | zero => exact fun n b l r s hm hn pl pr gd bl br => k59c (by omega) pl pr gd bl br (by omega) (by omega)
  | succ m ih =>
    intro n b l r s hm hn pl pr gd bl br
    by_cases h1 : r.hgt + 1 < l.hgt
    · cases l with
      | nil => rw [GT.hgt_nil] at h1; omega
      | nd n1 ll ls lr => exact k59a m ih (by omega) hm pl pr gd bl br h1
    · by_cases h2 : l.hgt + 1 < r.hgt
      · cases r with
        | nil => rw [GT.hgt_nil] at h2; omega
        | nd n1 rl rs rr => exact k59b m ih (by omega) hm pl pr gd bl br h2
      · exact k59c (by omega) pl pr gd bl br (by omega) (by omega)


end Go.Proofs.Ytpioenfglmimgaa
