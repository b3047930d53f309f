import Derived.Test.YtpioenfglmimgaaVC
import Derived.Test.YtpioenfglmimgaaTA2
import Derived.KernelRfl
namespace Go.Proofs.Ytpioenfglmimgaa
open Go Go.Proofs Go.RowKit Go.Proofs.Abs
set_option linter.unusedSimpArgs false
set_option linter.unusedVariables false
set_option maxHeartbeats 4000000 in
theorem c36 {n : Nat} (hn : 2 ≤ n) {b : Hp} {g : GT} (pg : g.ok b) : Wv (runA ctx 5000 n 36 [.agg [g.val]] b) (fun r h' => r = I (g.cnt : Int) ∧ Ext b h') := by
  obtain ⟨k, rfl⟩ : ∃ k, n = k + 1 := ⟨n - 1, by omega⟩
  have H := (Hs.start b).z0 (z := tre g) pg
  refine wv_run fn36 rfl ?_
  have a0 : (enterEnv [.agg [g.val]] Try.f36.ntmps).get 0 = some (.agg [g.val]) := enter_get1 _ _ _
  generalize enterEnv [.agg [g.val]] Try.f36.ntmps = e at a0 ⊢
  unfold Try.f36
  dsimp only
  ((with_reducible apply wc_c (fun i => Nat.beq i 0 || Nat.beq i 1 || Nat.beq i 2)); intro e he; have w9 := he 0 rfl; (try simp only [a0] at w9); have v0 := w9; clear w9; have w9 := he 1 rfl; (try simp only [T.get_put, Nat.reduceEqDiff, reduceIte] at w9); have v1 := w9; clear w9; have w9 := he 2 rfl; (try simp only [T.get_put, Nat.reduceEqDiff, reduceIte] at w9); have v2 := w9; clear w9; clear he)
  repeat' (first
    | with_reducible apply wc_seq
    | ((with_reducible apply wc_region); (· (rfl)))
    | with_reducible apply wo_some
    | with_reducible apply wc_ret
    | (simp only [cells_agg] at H)
    | ((with_reducible apply nx_c (fun i => Nat.beq i 0 || Nat.beq i 1 || Nat.beq i 2)); intro e he; have w0 := he 0 rfl; have w1 := he 1 rfl; have w2 := he 2 rfl; (try simp only [T.get_put, Nat.reduceEqDiff, reduceIte, v0, v1, v2] at w0 w1 w2); clear he v0 v1 v2; have v0 := w0; have v1 := w1; have v2 := w2; clear w0 w1 w2)
    | ((with_reducible apply wo_eq); (· (simp (disch := (first | assumption | omega)) only [eq_self, opsA_cons, opsA_nil, wantedA, stepA_t, callA, calleeA, targetA, runOp_c, runOp_n, opA, ev, evs, consO, consOO, afterA_s, putA, T.get_put, Nat.reduceEqDiff, reduceIte, List.getElem?_toArray, List.getElem?_cons_zero, cond_true, decide_true, blt_eq, I, fieldAddrA, oFieldAddr, Nat.add_zero, Nat.reduceLT, ty25, ti25, ty27, ti27, withH_s, id_eq, Nat.add_zero, v0, v1]; exact rfl)))
    | (((with_reducible apply wo_call); (· ((with_reducible apply c42); (· (omega)); (· (exact H.tok (by (with_reducible repeat' first | exact mem_h _ _ | apply mem_t); done))))); rintro _ h ⟨rfl, rfl⟩))
    | ((with_reducible apply wo_box H); clear H; intro n h H0n H)
    | ((with_reducible apply wo_load1 H); (· ((with_reducible repeat' first | exact mem_h _ _ | apply mem_t); done)); (· (rfl)); (· ((first | rfl | assumption))))
    | ((first | with_reducible apply wv_ret | with_reducible apply wv_end); (· ((repeat' (first | with_reducible exact rs_nil | ((with_reducible apply rs_tmp); (· (simp (disch := (first | assumption | omega)) only [Option.some.injEq, v2] <;> rfl))) | ((with_reducible apply rs_cell); (· (simp (disch := (first | assumption | omega)) only [ev, T.get_put, Nat.reduceEqDiff, reduceIte, Option.some.injEq, dec_t, dec_f, Bool.not_true, Bool.not_false, v0, v1, v2, GT.cells_val] <;> rfl)); (· (kernel_rfl)); (· (rfl)); (· (exact H.ld1 (by (with_reducible repeat' first | exact mem_h _ _ | apply mem_t); done) rfl))) | ((with_reducible apply rs_celln); (· (simp (disch := (first | assumption | omega)) only [ev, T.get_put, Nat.reduceEqDiff, reduceIte, Option.some.injEq, dec_t, dec_f, Bool.not_true, Bool.not_false, v0, v1, v2, GT.cells_val] <;> rfl)); (· (kernel_rfl)); (· (rfl)); (· (exact H.ldn (by (with_reducible repeat' first | exact mem_h _ _ | apply mem_t); done) rfl rfl))))); done)))
    | simp (disch := (first | assumption | omega)) only [I])

  all_goals (first | exact ⟨rfl, H.toExt⟩ | trace_state)
set_option maxHeartbeats 4000000 in
theorem c26 {n : Nat} (hn : 2 ≤ n) {b : Hp} {g : GT} (pg : g.ok b) : Wv (runA ctx 5000 n 26 [.agg [g.val]] b) (fun r h' => r = I g.sm ∧ Ext b h') := by
  obtain ⟨k, rfl⟩ : ∃ k, n = k + 1 := ⟨n - 1, by omega⟩
  have H := (Hs.start b).z0 (z := tre g) pg
  refine wv_run fn26 rfl ?_
  have a0 : (enterEnv [.agg [g.val]] Try.f26.ntmps).get 0 = some (.agg [g.val]) := enter_get1 _ _ _
  generalize enterEnv [.agg [g.val]] Try.f26.ntmps = e at a0 ⊢
  unfold Try.f26
  dsimp only
  ((with_reducible apply wc_c (fun i => Nat.beq i 0 || Nat.beq i 1 || Nat.beq i 2)); intro e he; have w9 := he 0 rfl; (try simp only [a0] at w9); have v0 := w9; clear w9; have w9 := he 1 rfl; (try simp only [T.get_put, Nat.reduceEqDiff, reduceIte] at w9); have v1 := w9; clear w9; have w9 := he 2 rfl; (try simp only [T.get_put, Nat.reduceEqDiff, reduceIte] at w9); have v2 := w9; clear w9; clear he)
  repeat' (first
    | with_reducible apply wc_seq
    | ((with_reducible apply wc_region); (· (rfl)))
    | with_reducible apply wo_some
    | with_reducible apply wc_ret
    | (simp only [cells_agg] at H)
    | ((with_reducible apply nx_c (fun i => Nat.beq i 0 || Nat.beq i 1 || Nat.beq i 2)); intro e he; have w0 := he 0 rfl; have w1 := he 1 rfl; have w2 := he 2 rfl; (try simp only [T.get_put, Nat.reduceEqDiff, reduceIte, v0, v1, v2] at w0 w1 w2); clear he v0 v1 v2; have v0 := w0; have v1 := w1; have v2 := w2; clear w0 w1 w2)
    | ((with_reducible apply wo_eq); (· (simp (disch := (first | assumption | omega)) only [eq_self, opsA_cons, opsA_nil, wantedA, stepA_t, callA, calleeA, targetA, runOp_c, runOp_n, opA, ev, evs, consO, consOO, afterA_s, putA, T.get_put, Nat.reduceEqDiff, reduceIte, List.getElem?_toArray, List.getElem?_cons_zero, cond_true, decide_true, blt_eq, I, fieldAddrA, oFieldAddr, Nat.add_zero, Nat.reduceLT, ty25, ti25, ty27, ti27, withH_s, id_eq, Nat.add_zero, v0, v1]; exact rfl)))
    | (((with_reducible apply wo_call); (· ((with_reducible apply c44); (· (omega)); (· (exact H.tok (by (with_reducible repeat' first | exact mem_h _ _ | apply mem_t); done))))); rintro _ h ⟨rfl, rfl⟩))
    | ((with_reducible apply wo_box H); clear H; intro n h H0n H)
    | ((with_reducible apply wo_load1 H); (· ((with_reducible repeat' first | exact mem_h _ _ | apply mem_t); done)); (· (rfl)); (· ((first | rfl | assumption))))
    | ((first | with_reducible apply wv_ret | with_reducible apply wv_end); (· ((repeat' (first | with_reducible exact rs_nil | ((with_reducible apply rs_tmp); (· (simp (disch := (first | assumption | omega)) only [Option.some.injEq, v2] <;> rfl))) | ((with_reducible apply rs_cell); (· (simp (disch := (first | assumption | omega)) only [ev, T.get_put, Nat.reduceEqDiff, reduceIte, Option.some.injEq, dec_t, dec_f, Bool.not_true, Bool.not_false, v0, v1, v2, GT.cells_val] <;> rfl)); (· (kernel_rfl)); (· (rfl)); (· (exact H.ld1 (by (with_reducible repeat' first | exact mem_h _ _ | apply mem_t); done) rfl))) | ((with_reducible apply rs_celln); (· (simp (disch := (first | assumption | omega)) only [ev, T.get_put, Nat.reduceEqDiff, reduceIte, Option.some.injEq, dec_t, dec_f, Bool.not_true, Bool.not_false, v0, v1, v2, GT.cells_val] <;> rfl)); (· (kernel_rfl)); (· (rfl)); (· (exact H.ldn (by (with_reducible repeat' first | exact mem_h _ _ | apply mem_t); done) rfl rfl))))); done)))
    | simp (disch := (first | assumption | omega)) only [I])

  all_goals (first | exact ⟨rfl, H.toExt⟩ | trace_state)
set_option maxHeartbeats 4000000 in
theorem c35 {n : Nat} (hn : 2 ≤ n) {b : Hp} {g : GT} (pg : g.ok b) : Wv (runA ctx 5000 n 35 [.agg [g.val]] b) (fun r h' => r = I (g.hgt : Int) ∧ Ext b h') := by
  obtain ⟨k, rfl⟩ : ∃ k, n = k + 1 := ⟨n - 1, by omega⟩
  have H := (Hs.start b).z0 (z := tre g) pg
  refine wv_run fn35 rfl ?_
  have a0 : (enterEnv [.agg [g.val]] Try.f35.ntmps).get 0 = some (.agg [g.val]) := enter_get1 _ _ _
  generalize enterEnv [.agg [g.val]] Try.f35.ntmps = e at a0 ⊢
  unfold Try.f35
  dsimp only
  ((with_reducible apply wc_c (fun i => Nat.beq i 0 || Nat.beq i 1 || Nat.beq i 2)); intro e he; have w9 := he 0 rfl; (try simp only [a0] at w9); have v0 := w9; clear w9; have w9 := he 1 rfl; (try simp only [T.get_put, Nat.reduceEqDiff, reduceIte] at w9); have v1 := w9; clear w9; have w9 := he 2 rfl; (try simp only [T.get_put, Nat.reduceEqDiff, reduceIte] at w9); have v2 := w9; clear w9; clear he)
  repeat' (first
    | with_reducible apply wc_seq
    | ((with_reducible apply wc_region); (· (rfl)))
    | with_reducible apply wo_some
    | with_reducible apply wc_ret
    | (simp only [cells_agg] at H)
    | ((with_reducible apply nx_c (fun i => Nat.beq i 0 || Nat.beq i 1 || Nat.beq i 2)); intro e he; have w0 := he 0 rfl; have w1 := he 1 rfl; have w2 := he 2 rfl; (try simp only [T.get_put, Nat.reduceEqDiff, reduceIte, v0, v1, v2] at w0 w1 w2); clear he v0 v1 v2; have v0 := w0; have v1 := w1; have v2 := w2; clear w0 w1 w2)
    | ((with_reducible apply wo_eq); (· (simp (disch := (first | assumption | omega)) only [eq_self, opsA_cons, opsA_nil, wantedA, stepA_t, callA, calleeA, targetA, runOp_c, runOp_n, opA, ev, evs, consO, consOO, afterA_s, putA, T.get_put, Nat.reduceEqDiff, reduceIte, List.getElem?_toArray, List.getElem?_cons_zero, cond_true, decide_true, blt_eq, I, fieldAddrA, oFieldAddr, Nat.add_zero, Nat.reduceLT, ty25, ti25, ty27, ti27, withH_s, id_eq, Nat.add_zero, v0, v1]; exact rfl)))
    | (((with_reducible apply wo_call); (· ((with_reducible apply c52); (· (omega)); (· (exact H.tok (by (with_reducible repeat' first | exact mem_h _ _ | apply mem_t); done))))); rintro _ h ⟨rfl, rfl⟩))
    | ((with_reducible apply wo_box H); clear H; intro n h H0n H)
    | ((with_reducible apply wo_load1 H); (· ((with_reducible repeat' first | exact mem_h _ _ | apply mem_t); done)); (· (rfl)); (· ((first | rfl | assumption))))
    | ((first | with_reducible apply wv_ret | with_reducible apply wv_end); (· ((repeat' (first | with_reducible exact rs_nil | ((with_reducible apply rs_tmp); (· (simp (disch := (first | assumption | omega)) only [Option.some.injEq, v2] <;> rfl))) | ((with_reducible apply rs_cell); (· (simp (disch := (first | assumption | omega)) only [ev, T.get_put, Nat.reduceEqDiff, reduceIte, Option.some.injEq, dec_t, dec_f, Bool.not_true, Bool.not_false, v0, v1, v2, GT.cells_val] <;> rfl)); (· (kernel_rfl)); (· (rfl)); (· (exact H.ld1 (by (with_reducible repeat' first | exact mem_h _ _ | apply mem_t); done) rfl))) | ((with_reducible apply rs_celln); (· (simp (disch := (first | assumption | omega)) only [ev, T.get_put, Nat.reduceEqDiff, reduceIte, Option.some.injEq, dec_t, dec_f, Bool.not_true, Bool.not_false, v0, v1, v2, GT.cells_val] <;> rfl)); (· (kernel_rfl)); (· (rfl)); (· (exact H.ldn (by (with_reducible repeat' first | exact mem_h _ _ | apply mem_t); done) rfl rfl))))); done)))
    | simp (disch := (first | assumption | omega)) only [I])

  all_goals (first | exact ⟨rfl, H.toExt⟩ | trace_state)
set_option maxHeartbeats 4000000 in
theorem k54n {n : Nat} (hn : 1 ≤ n) {b : Hp} {pl pa pv N j : Nat} {A : List AV} (hA : A.length = N) (H : Hs [pl, pa] b b [blk id pl [.slice pa 0 (j) false N 0], blk id pa A] [blk id pv [.fn (.func 54) [.ptr pv 0, .ptr pl 0]], tre .nil]) : Wv (runA ctx 5000 n 54 [.lit (.pointer none), .ptr pv 0, .ptr pl 0] b) (fun w h' => w = .tup [] ∧ Hs [pl, pa] b h' [blk id pl [.slice pa 0 (j + GT.cnt .nil) false N 0], blk id pa (pat A j ((GT.lst .nil).map I))] [blk id pv [.fn (.func 54) [.ptr pv 0, .ptr pl 0]], tre .nil]) := by
  obtain ⟨k, rfl⟩ : ∃ k, n = k + 1 := ⟨n - 1, by omega⟩
  refine wv_run fn54 rfl ?_
  have a0 : (enterEnv [.lit (.pointer none), .ptr pv 0, .ptr pl 0] Try.f54.ntmps).get 0 = some (.lit (.pointer none)) := enter_get1 _ _ _
  have a1 : (enterEnv [.lit (.pointer none), .ptr pv 0, .ptr pl 0] Try.f54.ntmps).get 1 = some (.ptr pv 0) := enter_get2 _ _ _ _
  have a2 : (enterEnv [.lit (.pointer none), .ptr pv 0, .ptr pl 0] Try.f54.ntmps).get 2 = some (.ptr pl 0) := enter_get3 _ _ _ _ _
  generalize enterEnv [.lit (.pointer none), .ptr pv 0, .ptr pl 0] Try.f54.ntmps = e at a0 a1 a2 ⊢
  unfold Try.f54
  dsimp only
  ((with_reducible apply wc_c (fun i => Nat.beq i 0 || Nat.beq i 1 || Nat.beq i 2 || Nat.beq i 5)); intro e he; have w9 := he 0 rfl; (try simp only [a0] at w9); have v0 := w9; clear w9; have w9 := he 1 rfl; (try simp only [a1] at w9); have v1 := w9; clear w9; have w9 := he 2 rfl; (try simp only [a2] at w9); have v2 := w9; clear w9; have w9 := he 5 rfl; (try simp only [T.get_put, Nat.reduceEqDiff, reduceIte] at w9); have v5 := w9; clear w9; clear he)
  repeat' (first
    | with_reducible apply wc_seq
    | ((with_reducible apply wc_region); (· (rfl)))
    | with_reducible apply wo_some
    | ((with_reducible apply wc_cond); (· (simp (disch := (first | assumption | omega)) only [ev, Option.some.injEq, v5] <;> rfl)); all_goals (intro hg; (try (try simp only [Bool.not_eq_true'] at hg)); first | (exfalso; exact Bool.noConfusion hg) | (exfalso; exact hg) | skip))
    | with_reducible apply wc_ret
    | with_reducible apply nx_r
    | ((with_reducible apply nx_c (fun i => Nat.beq i 0 || Nat.beq i 1 || Nat.beq i 2 || Nat.beq i 5)); intro e he; have w0 := he 0 rfl; have w1 := he 1 rfl; have w2 := he 2 rfl; have w5 := he 5 rfl; (try simp only [T.get_put, Nat.reduceEqDiff, reduceIte, v0, v1, v2, v5] at w0 w1 w2 w5); clear he v0 v1 v2 v5; have v0 := w0; have v1 := w1; have v2 := w2; have v5 := w5; clear w0 w1 w2 w5)
    | ((with_reducible apply wo_eq); (· (simp (disch := (first | assumption | omega)) only [eq_self, opsA_cons, opsA_nil, wantedA, stepA_t, callA, runOp_n, opA, ev, afterA_s, putA, T.get_put, reduceIte, oBin, binA, binG, binL, aggO, litA, ty25, ti25, withH_s, eqA, eqD, eqOp, v0]; exact rfl)))
    | ((first | with_reducible apply wv_ret | with_reducible apply wv_end); (· ((repeat' (first | with_reducible exact rs_nil | ((with_reducible apply rs_tmp); (· (simp (disch := (first | assumption | omega)) only [ev, T.get_put, Nat.reduceEqDiff, reduceIte, Option.some.injEq, dec_t, dec_f, Bool.not_true, Bool.not_false, v0, v1, v2, v5] <;> rfl))) | ((with_reducible apply rs_cell); (· (simp (disch := (first | assumption | omega)) only [ev, T.get_put, Nat.reduceEqDiff, reduceIte, Option.some.injEq, dec_t, dec_f, Bool.not_true, Bool.not_false, v0, v1, v2, v5] <;> rfl)); (· (kernel_rfl)); (· (rfl)); (· (exact H.ld1 (by (with_reducible repeat' first | exact mem_h _ _ | apply mem_t); done) rfl))) | ((with_reducible apply rs_celln); (· (simp (disch := (first | assumption | omega)) only [ev, T.get_put, Nat.reduceEqDiff, reduceIte, Option.some.injEq, dec_t, dec_f, Bool.not_true, Bool.not_false, v0, v1, v2, v5] <;> rfl)); (· (kernel_rfl)); (· (rfl)); (· (exact H.ldn (by (with_reducible repeat' first | exact mem_h _ _ | apply mem_t); done) rfl rfl))))); done))))

  all_goals (first | exact ⟨rfl, by rw [GT.lst, List.map_nil, pat_nil]; exact H⟩ | trace_state)
set_option maxHeartbeats 4000000 in
theorem k54a {pl pa pv N : Nat} (hN : N ≤ 4096) (m : Nat) (ih : ∀ (n : Nat) (b : Hp) (g : GT) (x : AV) (j : Nat) (A : List AV), g.hgt ≤ m → m + 1 ≤ n → g.val = x → A.length = N → j + g.cnt ≤ N → Hs [pl, pa] b b [blk id pl [.slice pa 0 (j) false N 0], blk id pa A] [blk id pv [.fn (.func 54) [.ptr pv 0, .ptr pl 0]], tre g] → Wv (runA ctx 5000 n 54 [x, .ptr pv 0, .ptr pl 0] b) (fun w h' => w = .tup [] ∧ Hs [pl, pa] b h' [blk id pl [.slice pa 0 (j + GT.cnt g) false N 0], blk id pa (pat A j ((GT.lst g).map I))] [blk id pv [.fn (.func 54) [.ptr pv 0, .ptr pl 0]], tre g])) {n : Nat} (hn : m + 2 ≤ n) {b : Hp} {m1 j : Nat} {l r : GT} {s : Int} {A : List AV} (hm : GT.hgt (.nd m1 l s r) ≤ m + 1) (hA : A.length = N) (hj : j + GT.cnt (.nd m1 l s r) ≤ N) (H : Hs [pl, pa] b b [blk id pl [.slice pa 0 (j) false N 0], blk id pa A] [blk id pv [.fn (.func 54) [.ptr pv 0, .ptr pl 0]], tre (.nd m1 l s r)]) : Wv (runA ctx 5000 n 54 [.ptr m1 0, .ptr pv 0, .ptr pl 0] b) (fun w h' => w = .tup [] ∧ Hs [pl, pa] b h' [blk id pl [.slice pa 0 (j + GT.cnt (.nd m1 l s r)) false N 0], blk id pa (pat A j ((GT.lst (.nd m1 l s r)).map I))] [blk id pv [.fn (.func 54) [.ptr pv 0, .ptr pl 0]], tre (.nd m1 l s r)]) := by
  obtain ⟨k, rfl⟩ : ∃ k, n = k + 1 := ⟨n - 1, by omega⟩
  have hz9 := GT.hgt_nd m1 l s r
  rw [GT.cnt_nd] at hj
  have hll := GT.len l
  have hrl := GT.len r
  have hp1 : (pat A j (l.lst.map I)).length = N := by rw [pat_len (by rw [List.length_map]; omega)]; exact hA
  replace H := H.topen (n := m1) (l := l) (s := s) (r := r) (by (with_reducible repeat' first | exact mem_h _ _ | apply mem_t); done)
  refine wv_run fn54 rfl ?_
  have a0 : (enterEnv [.ptr m1 0, .ptr pv 0, .ptr pl 0] Try.f54.ntmps).get 0 = some (.ptr m1 0) := enter_get1 _ _ _
  have a1 : (enterEnv [.ptr m1 0, .ptr pv 0, .ptr pl 0] Try.f54.ntmps).get 1 = some (.ptr pv 0) := enter_get2 _ _ _ _
  have a2 : (enterEnv [.ptr m1 0, .ptr pv 0, .ptr pl 0] Try.f54.ntmps).get 2 = some (.ptr pl 0) := enter_get3 _ _ _ _ _
  generalize enterEnv [.ptr m1 0, .ptr pv 0, .ptr pl 0] Try.f54.ntmps = e at a0 a1 a2 ⊢
  unfold Try.f54
  dsimp only
  ((with_reducible apply wc_c (fun i => Nat.beq i 0 || Nat.beq i 1 || Nat.beq i 2 || Nat.beq i 5)); intro e he; have w9 := he 0 rfl; (try simp only [a0] at w9); have v0 := w9; clear w9; have w9 := he 1 rfl; (try simp only [a1] at w9); have v1 := w9; clear w9; have w9 := he 2 rfl; (try simp only [a2] at w9); have v2 := w9; clear w9; have w9 := he 5 rfl; (try simp only [T.get_put, Nat.reduceEqDiff, reduceIte] at w9); have v5 := w9; clear w9; clear he)
  repeat' (first
    | with_reducible apply wc_seq
    | ((with_reducible apply wc_region); (· (rfl)))
    | with_reducible apply wo_some
    | ((with_reducible apply wc_cond); (· (simp (disch := (first | assumption | omega)) only [ev, Option.some.injEq, v5] <;> rfl)); all_goals (intro hg; (try (try simp only [Bool.not_eq_true'] at hg)); first | (exfalso; exact Bool.noConfusion hg) | (exfalso; exact hg) | skip))
    | with_reducible apply wc_skip
    | (simp only [rep1, List.set_cons_zero, cells_int, putAt_z, over_nil, over_cons, repl_one, Nat.mul_one, ti2] at H)
    | ((with_reducible apply nx_c (fun i => Nat.beq i 0 || Nat.beq i 1 || Nat.beq i 2 || Nat.beq i 5)); intro e he; have w0 := he 0 rfl; have w1 := he 1 rfl; have w2 := he 2 rfl; have w5 := he 5 rfl; (try simp only [T.get_put, Nat.reduceEqDiff, reduceIte, v0, v1, v2, v5] at w0 w1 w2 w5); clear he v0 v1 v2 v5; have v0 := w0; have v1 := w1; have v2 := w2; have v5 := w5; clear w0 w1 w2 w5)
    | ((with_reducible apply wo_eq); (· (simp (disch := (first | assumption | omega)) only [eq_self, opsA_cons, opsA_nil, wantedA, stepA_t, callA, calleeA, targetA, runOp_c, runOp_n, opA, ev, evs, consO, consOO, afterA_s, putA, T.get_put, Nat.reduceEqDiff, reduceIte, List.getElem?_toArray, List.getElem?_cons_zero, List.getElem?_cons_succ, oBuiltin, oBin, binA, binG, binL, aggO, cond_true, blt_eq, I, fieldAddrA, oFieldAddr, Nat.zero_add, Nat.add_zero, Nat.reduceLT, ty2, ti2, ty22, ti22, ty25, ti25, ty75, ti75, ty87, ti87, withH_s, eqA, eqD, eqOp, nckp, oBuildSlice, evParts, consP, dec_t, id_eq, List.cons_append, List.nil_append, Nat.zero_add, Nat.add_zero, v0, v1, v2]; exact rfl)))
    | (((fail_if_success have := G1); ((with_reducible apply wo_call); (· ((with_reducible apply (ih k _ l _ j A)); (· (omega)); (· (omega)); (· (rfl)); (· (exact hA)); (· (omega)); (· (exact Hs.begin (L1 := [blk id pl _, blk id pa _]) (L2 := []) H (by (repeat' (first | exact znil | (apply zcons; (· ((with_reducible repeat' first | exact mem_h _ _ | apply mem_t); done))))); done))))); rintro _ h ⟨rfl, G1⟩; replace H := Hs.two (L1 := [blk id pl _, blk id pa _]) (L2 := []) H G1; simp only [List.append_nil] at H)))
    | (((have := G1); (have H2 := H.sub (L' := [blk id pl _, blk id pa _]) (Z' := _) (.cons _ (.refl _)) (fun z hz => hz); (with_reducible apply wo_call); (· ((with_reducible apply (ih k _ r _ (j + l.cnt + 1) (pat A j (l.lst.map I ++ [I s])))); (· (omega)); (· (omega)); (· (rfl)); (· (exact hp2)); (· (omega)); (· (exact Hs.begin (L1 := [blk id pl _, blk id pa _]) (L2 := []) H2 (by (repeat' (first | exact znil | (apply zcons; (· ((with_reducible repeat' first | exact mem_h _ _ | apply mem_t); done))))); done))))); rintro _ h ⟨rfl, G2⟩; replace H := Hs.two (L1 := [blk id pl _, blk id pa _]) (L2 := []) H2 G2; simp only [List.append_nil] at H)))
    | (((with_reducible apply wo_appc H); (· ((with_reducible repeat' first | exact Pick.here _ _ _ | apply Pick.there); done)); (· (omega)); (· ((first | assumption | omega))); (· (exact ty22)); (· (rfl)); (· (exact ty2)); (· (rfl)); (· (kernel_rfl)); (· ((with_reducible repeat' first | exact mem_h _ _ | apply mem_t); done)); (· (rfl)); clear H; intro h H; rw [pat_one (by omega)] at H; have hq9 := pat_app (A := A) (i := j) (xs := l.lst.map I) (ys := [I s]) (by rw [List.length_map, List.length_singleton]; omega); rw [List.length_map, hll] at hq9; rw [hq9] at H; clear hq9; have hp2 : (pat A j (l.lst.map I ++ [I s])).length = N := by rw [pat_len (by rw [List.length_append, List.length_map, List.length_singleton]; omega)]; exact hA))
    | ((with_reducible apply wo_load1 H); (· ((with_reducible repeat' first | exact mem_h _ _ | apply mem_t); done)); (· (rfl)); (· ((first | rfl | assumption))))
    | ((with_reducible apply wo_load1z H); (· ((with_reducible repeat' first | exact mem_h _ _ | apply mem_t); done)); (· (rfl)); (· ((first | rfl | assumption))))
    | ((with_reducible apply wo_store1 H); (· ((with_reducible repeat' first | exact Pick.here _ _ _ | apply Pick.there); done)); (· ((first | rfl | assumption))); (· ((first | rfl | assumption | exact cells_one (H.pz (by (with_reducible repeat' first | exact mem_h _ _ | apply mem_t); done))))); (· ((first | rfl | assumption))); (· (rfl)); (· ((first | exact Nat.le_of_ble_eq_true rfl | omega | (simp only [List.length_set, List.length_replicate, List.length_map, List.length_cons, List.length_nil]; omega) | (simp; done) | (simp; omega)))); clear H; intro h H)
    | ((with_reducible apply wo_bs H); (· (exact ty22)); (· (rfl)); (· (exact ty2)); (· (kernel_rfl)); (· ((first | rfl | (simp only [fillA_nil, fillA_cons, repl_z, repl_s, cells_int, cells_bool, cells_str, cells_float, cells_np, cells_nil, cells_nf, cells_ptr, cells_slice, cells_fn, cells_agg, cells_lagg, v0, v1, v2, v5]; rfl)))); clear H; intro n h H0n H)
    | ((first | with_reducible apply wv_ret | with_reducible apply wv_end); (· ((repeat' (first | with_reducible exact rs_nil | ((with_reducible apply rs_tmp); (· (simp (disch := (first | assumption | omega)) only [ev, T.get_put, Nat.reduceEqDiff, reduceIte, Option.some.injEq, dec_t, dec_f, Bool.not_true, Bool.not_false, v0, v1, v2, v5] <;> rfl))) | ((with_reducible apply rs_cell); (· (simp (disch := (first | assumption | omega)) only [ev, T.get_put, Nat.reduceEqDiff, reduceIte, Option.some.injEq, dec_t, dec_f, Bool.not_true, Bool.not_false, v0, v1, v2, v5] <;> rfl)); (· (kernel_rfl)); (· (rfl)); (· (exact H.ld1 (by (with_reducible repeat' first | exact mem_h _ _ | apply mem_t); done) rfl))) | ((with_reducible apply rs_celln); (· (simp (disch := (first | assumption | omega)) only [ev, T.get_put, Nat.reduceEqDiff, reduceIte, Option.some.injEq, dec_t, dec_f, Bool.not_true, Bool.not_false, v0, v1, v2, v5] <;> rfl)); (· (kernel_rfl)); (· (rfl)); (· (exact H.ldn (by (with_reducible repeat' first | exact mem_h _ _ | apply mem_t); done) rfl rfl))))); done))))

  all_goals (first | skip | trace_state)
  all_goals (
    have hq9 := pat_app (A := A) (i := j) (xs := l.lst.map I ++ [I s]) (ys := r.lst.map I) (by rw [List.length_append, List.length_map, List.length_map, List.length_singleton]; omega)
    rw [List.length_append, List.length_map, List.length_singleton, hll, show j + (l.cnt + 1) = j + l.cnt + 1 from by omega] at hq9
    rw [hq9] at H
    refine ⟨rfl, ?_⟩
    rw [GT.lst, GT.cnt_nd, List.map_append, List.map_cons, show j + (l.cnt + 1 + r.cnt) = j + l.cnt + 1 + r.cnt from by omega]
    rw [List.append_assoc, List.singleton_append] at H
    exact H.sub (List.Sublist.refl _) (by (repeat' (first | exact znil | (apply zcons; (· ((with_reducible repeat' first | exact mem_h _ _ | apply mem_t); done))))); done))
theorem c54 {pl pa pv N : Nat} (hN : N ≤ 4096) : ∀ (m : Nat), ∀ (n : Nat) (b : Hp) (g : GT) (x : AV) (j : Nat) (A : List AV), g.hgt ≤ m → m + 1 ≤ n → g.val = x → A.length = N → j + g.cnt ≤ N → Hs [pl, pa] b b [blk id pl [.slice pa 0 (j) false N 0], blk id pa A] [blk id pv [.fn (.func 54) [.ptr pv 0, .ptr pl 0]], tre g] → Wv (runA ctx 5000 n 54 [x, .ptr pv 0, .ptr pl 0] b) (fun w h' => w = .tup [] ∧ Hs [pl, pa] b h' [blk id pl [.slice pa 0 (j + GT.cnt g) false N 0], blk id pa (pat A j ((GT.lst g).map I))] [blk id pv [.fn (.func 54) [.ptr pv 0, .ptr pl 0]], tre g]) := by
  intro m
  induction m with
  | zero =>
    intro n b g x j A hm hn hx hA hj H
    subst hx
    cases g with
    | nil => exact k54n (by omega) hA H
    | nd n1 l s r => rw [GT.hgt_nd] at hm; omega
  | succ m ih =>
    intro n b g x j A hm hn hx hA hj H
    subst hx
    cases g with
    | nil => exact k54n (by omega) hA H
    | nd n1 l s r => exact k54a hN m ih (by omega) hm hA hj H


def chkG : Int → List Int → Int
  | _, [] => 0
  | t, x :: r => if x < 0 ∨ 2305843009213693952 < x then 12 else if 4611686018427387904 < t + x then 13 else chkG (t + x) r
def chk (xs : List Int) : Int := if 4096 < xs.length then 3 else chkG 0 xs
def Val (xs : List Int) : Prop := GT.Good xs ∧ ∀ x, x ∈ xs → x ≤ 2305843009213693952
theorem chkG_iff : ∀ (xs : List Int) (t : Int), t ≤ 4611686018427387904 → (chkG t xs = 0 ↔ (∀ x, x ∈ xs → 0 ≤ x ∧ x ≤ 2305843009213693952) ∧ t + xs.sum ≤ 4611686018427387904) := by
  intro xs
  induction xs with
  | nil => intro t ht; simp [chkG, ht]
  | cons x r ih =>
    intro t ht
    rw [chkG, List.sum_cons]
    by_cases h1 : x < 0 ∨ 2305843009213693952 < x
    · rw [if_pos h1]
      refine ⟨fun h => (by cases h), fun h => ?_⟩
      have := h.1 x (.head _)
      omega
    · rw [if_neg h1]
      by_cases h2 : 4611686018427387904 < t + x
      · rw [if_pos h2]
        refine ⟨fun h => (by cases h), fun h => ?_⟩
        have := GT.sum_nn (l := r) (fun y hy => (h.1 y (.tail _ hy)).1)
        omega
      · rw [if_neg h2, ih _ (by omega)]
        constructor
        · rintro ⟨h3, h4⟩
          refine ⟨fun y hy => ?_, by omega⟩
          rcases List.mem_cons.1 hy with rfl | hy
          · omega
          · exact h3 y hy
        · rintro ⟨h3, h4⟩
          exact ⟨fun y hy => h3 y (.tail _ hy), by omega⟩
theorem chk_iff (xs : List Int) : chk xs = 0 ↔ Val xs := by
  unfold chk Val GT.Good
  by_cases h : 4096 < xs.length
  · rw [if_pos h]
    exact ⟨fun h => (by cases h), fun h2 => (by omega)⟩
  · rw [if_neg h, chkG_iff _ _ (by omega)]
    constructor
    · rintro ⟨h1, h2⟩
      exact ⟨⟨fun x hx => (h1 x hx).1, by omega, by omega⟩, fun x hx => (h1 x hx).2⟩
    · rintro ⟨⟨h1, h2, h3⟩, h4⟩
      exact ⟨fun x hx => ⟨h1 x hx, h4 x hx⟩, by omega⟩
theorem sum_take {xs : List Int} {k : Nat} {x : Int} (h : xs[k]? = some x) : (xs.take (k + 1)).sum = (xs.take k).sum + x := by
  rw [take_at h, GT.sum_app, List.sum_cons, List.sum_nil]
  omega
theorem F_42 : GT.F 42 = 701408732 := by kernel_rfl
set_option maxHeartbeats 4000000 in
theorem c22 {n : Nat} (hn : 1 ≤ n) {b : Hp} {w : AV} {xs : List Int} {c : Bool} (hv : Lc c b w (xs.map I)) (gd : GT.Good xs) {j : Nat} (hj : j ≤ xs.length) : Wv (runA ctx 5000 n 22 [w, I (j : Int)] b) (fun r h' => r = I (xs.take j).sum ∧ h' = b) := by
  obtain ⟨k, rfl⟩ : ∃ k, n = k + 1 := ⟨n - 1, by omega⟩
  have hln := gd.2.2
  have H := (Hs.start b).z0 (z := isl w (xs.map I)) hv.isL
  refine wv_run fn22 rfl ?_
  have a0 : (enterEnv [w, I (j : Int)] Try.f22.ntmps).get 0 = some (w) := enter_get1 _ _ _
  have a1 : (enterEnv [w, I (j : Int)] Try.f22.ntmps).get 1 = some (I (j : Int)) := enter_get2 _ _ _ _
  generalize enterEnv [w, I (j : Int)] Try.f22.ntmps = e at a0 a1 ⊢
  unfold Try.f22
  dsimp only
  ((with_reducible apply wc_c (fun i => Nat.beq i 0 || Nat.beq i 1 || Nat.beq i 4 || Nat.beq i 5 || Nat.beq i 6 || Nat.beq i 9)); intro e he; have w9 := he 0 rfl; (try simp only [a0] at w9); have v0 := w9; clear w9; have w9 := he 1 rfl; (try simp only [a1] at w9); have v1 := w9; clear w9; have w9 := he 4 rfl; (try simp only [T.get_put, Nat.reduceEqDiff, reduceIte] at w9); have v4 := w9; clear w9; have w9 := he 5 rfl; (try simp only [T.get_put, Nat.reduceEqDiff, reduceIte] at w9); have v5 := w9; clear w9; have w9 := he 6 rfl; (try simp only [T.get_put, Nat.reduceEqDiff, reduceIte] at w9); have v6 := w9; clear w9; have w9 := he 9 rfl; (try simp only [T.get_put, Nat.reduceEqDiff, reduceIte] at w9); have v9 := w9; clear w9; clear he)
  repeat' (first
    | with_reducible apply wc_seq
    | ((with_reducible apply wc_region); (· (rfl)))
    | with_reducible apply wo_some
    | with_reducible apply wc_block
    | ((with_reducible apply nx_c (fun i => Nat.beq i 0 || Nat.beq i 1 || Nat.beq i 4 || Nat.beq i 5 || Nat.beq i 6 || Nat.beq i 9)); intro e he; have w0 := he 0 rfl; have w1 := he 1 rfl; have w4 := he 4 rfl; have w5 := he 5 rfl; have w6 := he 6 rfl; have w9 := he 9 rfl; (try simp only [T.get_put, Nat.reduceEqDiff, reduceIte, v0, v1, v4, v5, v6, v9] at w0 w1 w4 w5 w6 w9); clear he v0 v1 v4 v5 v6 v9; have v0 := w0; have v1 := w1; have v4 := w4; have v5 := w5; have v6 := w6; have v9 := w9; clear w0 w1 w4 w5 w6 w9)
    | ((with_reducible apply wo_eq); (· (simp (disch := (first | assumption | omega)) only [opsA_cons, opsA_nil, wantedA, stepA_t, callA, runOp_n, opA, ev, afterA_s, putA, withH_s]; exact rfl)))
    | simp (disch := (first | assumption | omega)) only [I])

  refine wc_loop (fun m e h' => ∃ k, m = j - k ∧ k ≤ j ∧ e.get 0 = some (w) ∧ e.get 1 = some (I (j : Int)) ∧ e.get 5 = some (I (xs.take k).sum) ∧ e.get 6 = some (I (k : Int)) ∧ h' = b) (j) ?_ ⟨0, rfl, Nat.zero_le _, v0, v1, v5, v6, rfl⟩ ?_
  · omega
  · clear v0 v1 v5 v6
    rintro m e h ⟨k, rfl, hk, v0, v1, v5, v6, rfl⟩
    by_cases hlt : k < j
    · obtain ⟨x, hx⟩ := at_some (show k < xs.length by omega)
      have hxs := at_map hx
      have hs9 := sum_take hx
      have hb9 := (good_take gd (k + 1)).2.1
      have hb8 := GT.sum_nn (good_take gd (k + 1)).1
      have hb7 := (good_take gd k).2.1
      have hb6 := GT.sum_nn (good_take gd k).1
      ((with_reducible apply wc_c (fun i => Nat.beq i 0 || Nat.beq i 1 || Nat.beq i 4 || Nat.beq i 5 || Nat.beq i 6 || Nat.beq i 9)); intro e he; have w9 := he 0 rfl; (try simp only [v0] at w9); replace v0 := w9; clear w9; have w9 := he 1 rfl; (try simp only [v1] at w9); replace v1 := w9; clear w9; have w9 := he 4 rfl; (try simp only [T.get_put, Nat.reduceEqDiff, reduceIte] at w9); have v4 := w9; clear w9; have w9 := he 5 rfl; (try simp only [v5] at w9); replace v5 := w9; clear w9; have w9 := he 6 rfl; (try simp only [v6] at w9); replace v6 := w9; clear w9; have w9 := he 9 rfl; (try simp only [T.get_put, Nat.reduceEqDiff, reduceIte] at w9); have v9 := w9; clear w9; clear he)
      repeat' (first
        | with_reducible apply wc_seq
        | ((with_reducible apply wc_region); (· (rfl)))
        | with_reducible apply wo_some
        | ((with_reducible apply wc_cond); (· (simp (disch := (first | assumption | omega)) only [ev, Option.some.injEq, v9] <;> rfl)); all_goals (intro hg; (try (try simp only [Bool.not_eq_true'] at hg)); first | (exfalso; exact Bool.noConfusion hg) | (exfalso; exact hg) | skip))
        | with_reducible apply wc_block
        | with_reducible apply wc_skip
        | with_reducible apply bx_n
        | ((with_reducible apply nx_c (fun i => Nat.beq i 0 || Nat.beq i 1 || Nat.beq i 4 || Nat.beq i 5 || Nat.beq i 6 || Nat.beq i 9)); intro e he; have w0 := he 0 rfl; have w1 := he 1 rfl; have w4 := he 4 rfl; have w5 := he 5 rfl; have w6 := he 6 rfl; have w9 := he 9 rfl; (try simp only [T.get_put, Nat.reduceEqDiff, reduceIte, v0, v1, v4, v5, v6, v9] at w0 w1 w4 w5 w6 w9); clear he v0 v1 v4 v5 v6 v9; have v0 := w0; have v1 := w1; have v4 := w4; have v5 := w5; have v6 := w6; have v9 := w9; clear w0 w1 w4 w5 w6 w9)
        | ((with_reducible apply wo_eq); (· (simp (disch := (first | assumption | omega)) only [eq_self, opsA_cons, opsA_nil, wantedA, stepA_t, callA, runOp_n, opA, ev, afterA_s, putA, T.get_put, Nat.reduceEqDiff, reduceIte, oBin, binA, binG, binL, aggO, litA, oIndexAddr, I, Bo, ty2, ti2, ii_add, ii_lss, withH_s, dec_t, wrap_ok, v0, v1, v5, v6]; exact rfl)))
        | ((with_reducible apply wo_loadc H); (· ((with_reducible repeat' first | exact mem_h _ _ | apply mem_t); done)); (· (rfl)))
        | ((with_reducible apply wo_ia H); (· ((with_reducible repeat' first | exact mem_h _ _ | apply mem_t); done)); (· (exact ty22)); (· (rfl)); (· (exact ty2)); (· (rfl)); (· (rfl)); (· (assumption)); clear H; intro n o H)
        | simp (disch := (first | assumption | omega)) only [eq_self, Option.some.injEq, I, v0, v1, v5, v6])

      all_goals (first | exact ⟨j - (k + 1), by omega, k + 1, rfl, by omega, by trivial, by trivial, by rw [hs9], by rw [show ((k + 1 : Nat) : Int) = (k : Int) + 1 from by omega], by trivial⟩ | trace_state)
    · obtain rfl : k = j := by omega
      ((with_reducible apply wc_c (fun i => Nat.beq i 0 || Nat.beq i 1 || Nat.beq i 4 || Nat.beq i 5 || Nat.beq i 6 || Nat.beq i 9)); intro e he; have w9 := he 0 rfl; (try simp only [v0] at w9); replace v0 := w9; clear w9; have w9 := he 1 rfl; (try simp only [v1] at w9); replace v1 := w9; clear w9; have w9 := he 4 rfl; (try simp only [T.get_put, Nat.reduceEqDiff, reduceIte] at w9); have v4 := w9; clear w9; have w9 := he 5 rfl; (try simp only [v5] at w9); replace v5 := w9; clear w9; have w9 := he 6 rfl; (try simp only [v6] at w9); replace v6 := w9; clear w9; have w9 := he 9 rfl; (try simp only [T.get_put, Nat.reduceEqDiff, reduceIte] at w9); have v9 := w9; clear w9; clear he)
      repeat' (first
        | with_reducible apply wc_seq
        | ((with_reducible apply wc_region); (· (rfl)))
        | with_reducible apply wo_some
        | ((with_reducible apply wc_cond); (· (simp (disch := (first | assumption | omega)) only [ev, Option.some.injEq, v9] <;> rfl)); all_goals (intro hg; (try (try simp only [Bool.not_eq_true'] at hg)); first | (exfalso; exact Bool.noConfusion hg) | (exfalso; exact hg) | skip))
        | with_reducible apply wc_exit
        | with_reducible apply wc_ret
        | with_reducible apply nx_e
        | ((with_reducible apply bx_hit); (· (rfl)))
        | ((with_reducible apply nx_c (fun i => Nat.beq i 0 || Nat.beq i 1 || Nat.beq i 4 || Nat.beq i 5 || Nat.beq i 6 || Nat.beq i 9)); intro e he; have w0 := he 0 rfl; have w1 := he 1 rfl; have w4 := he 4 rfl; have w5 := he 5 rfl; have w6 := he 6 rfl; have w9 := he 9 rfl; (try simp only [T.get_put, Nat.reduceEqDiff, reduceIte, v0, v1, v4, v5, v6, v9] at w0 w1 w4 w5 w6 w9); clear he v0 v1 v4 v5 v6 v9; have v0 := w0; have v1 := w1; have v4 := w4; have v5 := w5; have v6 := w6; have v9 := w9; clear w0 w1 w4 w5 w6 w9)
        | ((with_reducible apply wo_eq); (· (simp (disch := (first | assumption | omega)) only [eq_self, opsA_cons, opsA_nil, wantedA, stepA_t, callA, runOp_n, opA, ev, afterA_s, putA, T.get_put, Nat.reduceEqDiff, reduceIte, oBin, binA, binG, binL, aggO, litA, I, Bo, ii_lss, withH_s, dec_f, v1, v5, v6]; exact rfl)))
        | ((first | with_reducible apply wv_ret | with_reducible apply wv_end); (· ((repeat' (first | with_reducible exact rs_nil | ((with_reducible apply rs_tmp); (· (simp (disch := (first | assumption | omega)) only [Option.some.injEq, v4] <;> rfl))) | ((with_reducible apply rs_cell); (· (simp (disch := (first | assumption | omega)) only [ev, T.get_put, Nat.reduceEqDiff, reduceIte, Option.some.injEq, dec_t, dec_f, Bool.not_true, Bool.not_false, v0, v1, v4, v5, v6, v9] <;> rfl)); (· (kernel_rfl)); (· (rfl)); (· (exact H.ld1 (by (with_reducible repeat' first | exact mem_h _ _ | apply mem_t); done) rfl))) | ((with_reducible apply rs_celln); (· (simp (disch := (first | assumption | omega)) only [ev, T.get_put, Nat.reduceEqDiff, reduceIte, Option.some.injEq, dec_t, dec_f, Bool.not_true, Bool.not_false, v0, v1, v4, v5, v6, v9] <;> rfl)); (· (kernel_rfl)); (· (rfl)); (· (exact H.ldn (by (with_reducible repeat' first | exact mem_h _ _ | apply mem_t); done) rfl rfl))))); done)))
        | simp (disch := (first | assumption | omega)) only [eq_self])

      all_goals (first | exact ⟨rfl, by trivial⟩ | trace_state)
set_option maxHeartbeats 4000000 in
theorem c40 {n : Nat} (hn : 1 ≤ n) {b : Hp} {d : Nat} (hd : d ≤ 40) : Wv (runA ctx 5000 n 40 [I (d : Int)] b) (fun r h' => r = I (GT.F d : Int) ∧ h' = b) := by
  obtain ⟨k, rfl⟩ : ∃ k, n = k + 1 := ⟨n - 1, by omega⟩
  have H := Hs.start b
  refine wv_run fn40 rfl ?_
  have a0 : (enterEnv [I (d : Int)] Try.f40.ntmps).get 0 = some (I (d : Int)) := enter_get1 _ _ _
  generalize enterEnv [I (d : Int)] Try.f40.ntmps = e at a0 ⊢
  unfold Try.f40
  dsimp only
  ((with_reducible apply wc_c (fun i => Nat.beq i 0 || Nat.beq i 2 || Nat.beq i 3 || Nat.beq i 4 || Nat.beq i 5 || Nat.beq i 8)); intro e he; have w9 := he 0 rfl; (try simp only [a0] at w9); have v0 := w9; clear w9; have w9 := he 2 rfl; (try simp only [T.get_put, Nat.reduceEqDiff, reduceIte] at w9); have v2 := w9; clear w9; have w9 := he 3 rfl; (try simp only [T.get_put, Nat.reduceEqDiff, reduceIte] at w9); have v3 := w9; clear w9; have w9 := he 4 rfl; (try simp only [T.get_put, Nat.reduceEqDiff, reduceIte] at w9); have v4 := w9; clear w9; have w9 := he 5 rfl; (try simp only [T.get_put, Nat.reduceEqDiff, reduceIte] at w9); have v5 := w9; clear w9; have w9 := he 8 rfl; (try simp only [T.get_put, Nat.reduceEqDiff, reduceIte] at w9); have v8 := w9; clear w9; clear he)
  repeat' (first
    | with_reducible apply wc_seq
    | ((with_reducible apply wc_region); (· (rfl)))
    | with_reducible apply wo_some
    | with_reducible apply wc_block
    | ((with_reducible apply nx_c (fun i => Nat.beq i 0 || Nat.beq i 2 || Nat.beq i 3 || Nat.beq i 4 || Nat.beq i 5 || Nat.beq i 8)); intro e he; have w0 := he 0 rfl; have w2 := he 2 rfl; have w3 := he 3 rfl; have w4 := he 4 rfl; have w5 := he 5 rfl; have w8 := he 8 rfl; (try simp only [T.get_put, Nat.reduceEqDiff, reduceIte, v0, v2, v3, v4, v5, v8] at w0 w2 w3 w4 w5 w8); clear he v0 v2 v3 v4 v5 v8; have v0 := w0; have v2 := w2; have v3 := w3; have v4 := w4; have v5 := w5; have v8 := w8; clear w0 w2 w3 w4 w5 w8)
    | ((with_reducible apply wo_eq); (· (simp (disch := (first | assumption | omega)) only [opsA_cons, opsA_nil, wantedA, stepA_t, callA, runOp_n, opA, ev, afterA_s, putA, withH_s]; exact rfl)))
    | simp (disch := (first | assumption | omega)) only [I])

  refine wc_loop (fun m e h' => ∃ k, m = d - k ∧ k ≤ d ∧ e.get 0 = some (I (d : Int)) ∧ e.get 3 = some (I (GT.F k : Int)) ∧ e.get 4 = some (I (GT.F (k + 1) : Int)) ∧ e.get 5 = some (I (k : Int)) ∧ h' = b) (d) ?_ ⟨0, rfl, Nat.zero_le _, v0, v3, v4, v5, rfl⟩ ?_
  · omega
  · clear v0 v3 v4 v5
    rintro m e h ⟨k, rfl, hk, v0, v3, v4, v5, rfl⟩
    by_cases hlt : k < d
    · have h9 := GT.F_mono (show k + 2 ≤ 42 by omega)
      rw [F_42] at h9
      have h8 := GT.F_two k
      ((with_reducible apply wc_c (fun i => Nat.beq i 0 || Nat.beq i 2 || Nat.beq i 3 || Nat.beq i 4 || Nat.beq i 5 || Nat.beq i 8)); intro e he; have w9 := he 0 rfl; (try simp only [v0] at w9); replace v0 := w9; clear w9; have w9 := he 2 rfl; (try simp only [T.get_put, Nat.reduceEqDiff, reduceIte] at w9); have v2 := w9; clear w9; have w9 := he 3 rfl; (try simp only [v3] at w9); replace v3 := w9; clear w9; have w9 := he 4 rfl; (try simp only [v4] at w9); replace v4 := w9; clear w9; have w9 := he 5 rfl; (try simp only [v5] at w9); replace v5 := w9; clear w9; have w9 := he 8 rfl; (try simp only [T.get_put, Nat.reduceEqDiff, reduceIte] at w9); have v8 := w9; clear w9; clear he)
      repeat' (first
        | with_reducible apply wc_seq
        | ((with_reducible apply wc_region); (· (rfl)))
        | with_reducible apply wo_some
        | ((with_reducible apply wc_cond); (· (simp (disch := (first | assumption | omega)) only [ev, Option.some.injEq, v8] <;> rfl)); all_goals (intro hg; (try (try simp only [Bool.not_eq_true'] at hg)); first | (exfalso; exact Bool.noConfusion hg) | (exfalso; exact hg) | skip))
        | with_reducible apply wc_block
        | with_reducible apply wc_skip
        | with_reducible apply bx_n
        | ((with_reducible apply nx_c (fun i => Nat.beq i 0 || Nat.beq i 2 || Nat.beq i 3 || Nat.beq i 4 || Nat.beq i 5 || Nat.beq i 8)); intro e he; have w0 := he 0 rfl; have w2 := he 2 rfl; have w3 := he 3 rfl; have w4 := he 4 rfl; have w5 := he 5 rfl; have w8 := he 8 rfl; (try simp only [T.get_put, Nat.reduceEqDiff, reduceIte, v0, v2, v3, v4, v5, v8] at w0 w2 w3 w4 w5 w8); clear he v0 v2 v3 v4 v5 v8; have v0 := w0; have v2 := w2; have v3 := w3; have v4 := w4; have v5 := w5; have v8 := w8; clear w0 w2 w3 w4 w5 w8)
        | ((with_reducible apply wo_eq); (· (simp (disch := (first | assumption | omega)) only [eq_self, opsA_cons, opsA_nil, wantedA, stepA_t, callA, runOp_n, opA, ev, afterA_s, putA, T.get_put, Nat.reduceEqDiff, reduceIte, oBin, binA, binG, binL, aggO, litA, I, Bo, ii_add, ii_lss, withH_s, dec_t, wrap_ok, v0, v3, v4, v5]; exact rfl)))
        | simp (disch := (first | assumption | omega)) only [eq_self, Option.some.injEq, I, v0, v3, v4, v5])

      all_goals (first | exact ⟨d - (k + 1), by omega, k + 1, rfl, by omega, by trivial, by trivial, by rw [show GT.F (k + 1 + 1) = GT.F k + GT.F (k + 1) + 1 from h8]; simp only [Int.natCast_add, Int.natCast_one], by rw [show ((k + 1 : Nat) : Int) = (k : Int) + 1 from by omega], by trivial⟩ | trace_state)
    · obtain rfl : k = d := by omega
      ((with_reducible apply wc_c (fun i => Nat.beq i 0 || Nat.beq i 2 || Nat.beq i 3 || Nat.beq i 4 || Nat.beq i 5 || Nat.beq i 8)); intro e he; have w9 := he 0 rfl; (try simp only [v0] at w9); replace v0 := w9; clear w9; have w9 := he 2 rfl; (try simp only [T.get_put, Nat.reduceEqDiff, reduceIte] at w9); have v2 := w9; clear w9; have w9 := he 3 rfl; (try simp only [v3] at w9); replace v3 := w9; clear w9; have w9 := he 4 rfl; (try simp only [v4] at w9); replace v4 := w9; clear w9; have w9 := he 5 rfl; (try simp only [v5] at w9); replace v5 := w9; clear w9; have w9 := he 8 rfl; (try simp only [T.get_put, Nat.reduceEqDiff, reduceIte] at w9); have v8 := w9; clear w9; clear he)
      repeat' (first
        | with_reducible apply wc_seq
        | ((with_reducible apply wc_region); (· (rfl)))
        | with_reducible apply wo_some
        | ((with_reducible apply wc_cond); (· (simp (disch := (first | assumption | omega)) only [ev, Option.some.injEq, v8] <;> rfl)); all_goals (intro hg; (try (try simp only [Bool.not_eq_true'] at hg)); first | (exfalso; exact Bool.noConfusion hg) | (exfalso; exact hg) | skip))
        | with_reducible apply wc_exit
        | with_reducible apply wc_ret
        | with_reducible apply nx_e
        | ((with_reducible apply bx_hit); (· (rfl)))
        | ((with_reducible apply nx_c (fun i => Nat.beq i 0 || Nat.beq i 2 || Nat.beq i 3 || Nat.beq i 4 || Nat.beq i 5 || Nat.beq i 8)); intro e he; have w0 := he 0 rfl; have w2 := he 2 rfl; have w3 := he 3 rfl; have w4 := he 4 rfl; have w5 := he 5 rfl; have w8 := he 8 rfl; (try simp only [T.get_put, Nat.reduceEqDiff, reduceIte, v0, v2, v3, v4, v5, v8] at w0 w2 w3 w4 w5 w8); clear he v0 v2 v3 v4 v5 v8; have v0 := w0; have v2 := w2; have v3 := w3; have v4 := w4; have v5 := w5; have v8 := w8; clear w0 w2 w3 w4 w5 w8)
        | ((with_reducible apply wo_eq); (· (simp (disch := (first | assumption | omega)) only [eq_self, opsA_cons, opsA_nil, wantedA, stepA_t, callA, runOp_n, opA, ev, afterA_s, putA, T.get_put, Nat.reduceEqDiff, reduceIte, oBin, binA, binG, binL, aggO, litA, I, Bo, ii_lss, withH_s, dec_f, v0, v3, v5]; exact rfl)))
        | ((first | with_reducible apply wv_ret | with_reducible apply wv_end); (· ((repeat' (first | with_reducible exact rs_nil | ((with_reducible apply rs_tmp); (· (simp (disch := (first | assumption | omega)) only [Option.some.injEq, v2] <;> rfl))) | ((with_reducible apply rs_cell); (· (simp (disch := (first | assumption | omega)) only [ev, T.get_put, Nat.reduceEqDiff, reduceIte, Option.some.injEq, dec_t, dec_f, Bool.not_true, Bool.not_false, v0, v2, v3, v4, v5, v8] <;> rfl)); (· (kernel_rfl)); (· (rfl)); (· (exact H.ld1 (by (with_reducible repeat' first | exact mem_h _ _ | apply mem_t); done) rfl))) | ((with_reducible apply rs_celln); (· (simp (disch := (first | assumption | omega)) only [ev, T.get_put, Nat.reduceEqDiff, reduceIte, Option.some.injEq, dec_t, dec_f, Bool.not_true, Bool.not_false, v0, v2, v3, v4, v5, v8] <;> rfl)); (· (kernel_rfl)); (· (rfl)); (· (exact H.ldn (by (with_reducible repeat' first | exact mem_h _ _ | apply mem_t); done) rfl rfl))))); done)))
        | simp (disch := (first | assumption | omega)) only [eq_self])

      all_goals (first | exact ⟨rfl, by trivial⟩ | trace_state)
set_option maxHeartbeats 4000000 in
theorem c37 {n : Nat} (hn : 1 ≤ n) {b : Hp} {w : AV} {xs : List Int} {c : Bool} (hv : Lc c b w (xs.map I)) (hx0 : xs.length ≤ 5000) : Wv (runA ctx 5000 n 37 [w] b) (fun r h' => r = I (chk xs) ∧ h' = b) := by
  obtain ⟨k, rfl⟩ : ∃ k, n = k + 1 := ⟨n - 1, by omega⟩
  have H := (Hs.start b).z0 (z := isl w (xs.map I)) hv.isL
  by_cases hln : 4096 < xs.length
  · have hc : chk xs = 3 := if_pos hln
    refine wv_run fn37 rfl ?_
    have a0 : (enterEnv [w] Try.f37.ntmps).get 0 = some (w) := enter_get1 _ _ _
    generalize enterEnv [w] Try.f37.ntmps = e at a0 ⊢
    unfold Try.f37
    dsimp only
    ((with_reducible apply wc_c (fun i => Nat.beq i 0 || Nat.beq i 2 || Nat.beq i 3 || Nat.beq i 5 || Nat.beq i 8 || Nat.beq i 9 || Nat.beq i 10 || Nat.beq i 11 || Nat.beq i 12 || Nat.beq i 20 || Nat.beq i 25)); intro e he; have w9 := he 0 rfl; (try simp only [a0] at w9); have v0 := w9; clear w9; have w9 := he 2 rfl; (try simp only [T.get_put, Nat.reduceEqDiff, reduceIte] at w9); have v2 := w9; clear w9; have w9 := he 3 rfl; (try simp only [T.get_put, Nat.reduceEqDiff, reduceIte] at w9); have v3 := w9; clear w9; have w9 := he 5 rfl; (try simp only [T.get_put, Nat.reduceEqDiff, reduceIte] at w9); have v5 := w9; clear w9; have w9 := he 8 rfl; (try simp only [T.get_put, Nat.reduceEqDiff, reduceIte] at w9); have v8 := w9; clear w9; have w9 := he 9 rfl; (try simp only [T.get_put, Nat.reduceEqDiff, reduceIte] at w9); have v9 := w9; clear w9; have w9 := he 10 rfl; (try simp only [T.get_put, Nat.reduceEqDiff, reduceIte] at w9); have v10 := w9; clear w9; have w9 := he 11 rfl; (try simp only [T.get_put, Nat.reduceEqDiff, reduceIte] at w9); have v11 := w9; clear w9; have w9 := he 12 rfl; (try simp only [T.get_put, Nat.reduceEqDiff, reduceIte] at w9); have v12 := w9; clear w9; have w9 := he 20 rfl; (try simp only [T.get_put, Nat.reduceEqDiff, reduceIte] at w9); have v20 := w9; clear w9; have w9 := he 25 rfl; (try simp only [T.get_put, Nat.reduceEqDiff, reduceIte] at w9); have v25 := w9; clear w9; clear he)
    repeat' (first
      | with_reducible apply wc_seq
      | ((with_reducible apply wc_region); (· (rfl)))
      | with_reducible apply wo_some
      | ((with_reducible apply wc_cond); (· (simp (disch := (first | assumption | omega)) only [ev, Option.some.injEq, v8] <;> rfl)); all_goals (intro hg; (try (try simp only [Bool.not_eq_true'] at hg)); first | (exfalso; exact Bool.noConfusion hg) | (exfalso; exact hg) | skip))
      | with_reducible apply wc_ret
      | with_reducible apply nx_r
      | ((with_reducible apply nx_c (fun i => Nat.beq i 0 || Nat.beq i 2 || Nat.beq i 3 || Nat.beq i 5 || Nat.beq i 8 || Nat.beq i 9 || Nat.beq i 10 || Nat.beq i 11 || Nat.beq i 12 || Nat.beq i 20 || Nat.beq i 25)); intro e he; have w0 := he 0 rfl; have w2 := he 2 rfl; have w3 := he 3 rfl; have w5 := he 5 rfl; have w8 := he 8 rfl; have w9 := he 9 rfl; have w10 := he 10 rfl; have w11 := he 11 rfl; have w12 := he 12 rfl; have w20 := he 20 rfl; have w25 := he 25 rfl; (try simp only [T.get_put, Nat.reduceEqDiff, reduceIte, v0, v2, v3, v5, v8, v9, v10, v11, v12, v20, v25] at w0 w2 w3 w5 w8 w9 w10 w11 w12 w20 w25); clear he v0 v2 v3 v5 v8 v9 v10 v11 v12 v20 v25; have v0 := w0; have v2 := w2; have v3 := w3; have v5 := w5; have v8 := w8; have v9 := w9; have v10 := w10; have v11 := w11; have v12 := w12; have v20 := w20; have v25 := w25; clear w0 w2 w3 w5 w8 w9 w10 w11 w12 w20 w25)
      | ((with_reducible apply wo_eq); (· (simp (disch := (first | assumption | omega)) only [eq_self, opsA_cons, opsA_nil, wantedA, stepA_t, callA, calleeA, runOp_n, opA, ev, evs, consO, consOO, afterA_s, putA, T.get_put, Nat.reduceEqDiff, reduceIte, oBuiltin, oBin, binA, binG, binL, aggO, litA, I, Bo, ii_gtr, withH_s, dec_t, v0, List.length_map]; exact rfl)))
      | ((with_reducible apply wo_len H); (· ((with_reducible repeat' first | exact mem_h _ _ | apply mem_t); done)); (· (exact ty22)); (· (rfl)))
      | ((first | with_reducible apply wv_ret | with_reducible apply wv_end); (· ((repeat' (first | with_reducible exact rs_nil | ((with_reducible apply rs_tmp); (· (simp (disch := (first | assumption | omega)) only [Option.some.injEq, v2] <;> rfl))) | ((with_reducible apply rs_cell); (· (simp (disch := (first | assumption | omega)) only [ev, T.get_put, Nat.reduceEqDiff, reduceIte, Option.some.injEq, dec_t, dec_f, Bool.not_true, Bool.not_false, v0, v2, v3, v5, v8, v9, v10, v11, v12, v20, v25, List.length_map] <;> rfl)); (· (kernel_rfl)); (· (rfl)); (· (exact H.ld1 (by (with_reducible repeat' first | exact mem_h _ _ | apply mem_t); done) rfl))) | ((with_reducible apply rs_celln); (· (simp (disch := (first | assumption | omega)) only [ev, T.get_put, Nat.reduceEqDiff, reduceIte, Option.some.injEq, dec_t, dec_f, Bool.not_true, Bool.not_false, v0, v2, v3, v5, v8, v9, v10, v11, v12, v20, v25, List.length_map] <;> rfl)); (· (kernel_rfl)); (· (rfl)); (· (exact H.ldn (by (with_reducible repeat' first | exact mem_h _ _ | apply mem_t); done) rfl rfl))))); done)))
      | simp (disch := (first | assumption | omega)) only [eq_self, I])

    all_goals (first | exact ⟨by rw [hc]; rfl, by trivial⟩ | trace_state)
  have hc : chk xs = chkG 0 (xs.drop 0) := if_neg hln
  refine wv_run fn37 rfl ?_
  have a0 : (enterEnv [w] Try.f37.ntmps).get 0 = some (w) := enter_get1 _ _ _
  generalize enterEnv [w] Try.f37.ntmps = e at a0 ⊢
  unfold Try.f37
  dsimp only
  ((with_reducible apply wc_c (fun i => Nat.beq i 0 || Nat.beq i 2 || Nat.beq i 3 || Nat.beq i 5 || Nat.beq i 8 || Nat.beq i 9 || Nat.beq i 10 || Nat.beq i 11 || Nat.beq i 12 || Nat.beq i 20 || Nat.beq i 25)); intro e he; have w9 := he 0 rfl; (try simp only [a0] at w9); have v0 := w9; clear w9; have w9 := he 2 rfl; (try simp only [T.get_put, Nat.reduceEqDiff, reduceIte] at w9); have v2 := w9; clear w9; have w9 := he 3 rfl; (try simp only [T.get_put, Nat.reduceEqDiff, reduceIte] at w9); have v3 := w9; clear w9; have w9 := he 5 rfl; (try simp only [T.get_put, Nat.reduceEqDiff, reduceIte] at w9); have v5 := w9; clear w9; have w9 := he 8 rfl; (try simp only [T.get_put, Nat.reduceEqDiff, reduceIte] at w9); have v8 := w9; clear w9; have w9 := he 9 rfl; (try simp only [T.get_put, Nat.reduceEqDiff, reduceIte] at w9); have v9 := w9; clear w9; have w9 := he 10 rfl; (try simp only [T.get_put, Nat.reduceEqDiff, reduceIte] at w9); have v10 := w9; clear w9; have w9 := he 11 rfl; (try simp only [T.get_put, Nat.reduceEqDiff, reduceIte] at w9); have v11 := w9; clear w9; have w9 := he 12 rfl; (try simp only [T.get_put, Nat.reduceEqDiff, reduceIte] at w9); have v12 := w9; clear w9; have w9 := he 20 rfl; (try simp only [T.get_put, Nat.reduceEqDiff, reduceIte] at w9); have v20 := w9; clear w9; have w9 := he 25 rfl; (try simp only [T.get_put, Nat.reduceEqDiff, reduceIte] at w9); have v25 := w9; clear w9; clear he)
  repeat' (first
    | with_reducible apply wc_seq
    | ((with_reducible apply wc_region); (· (rfl)))
    | with_reducible apply wo_some
    | ((with_reducible apply wc_cond); (· (simp (disch := (first | assumption | omega)) only [ev, Option.some.injEq, v8] <;> rfl)); all_goals (intro hg; (try (try simp only [Bool.not_eq_true'] at hg)); first | (exfalso; exact Bool.noConfusion hg) | (exfalso; exact hg) | skip))
    | with_reducible apply wc_block
    | with_reducible apply wc_skip
    | ((with_reducible apply nx_c (fun i => Nat.beq i 0 || Nat.beq i 2 || Nat.beq i 3 || Nat.beq i 5 || Nat.beq i 8 || Nat.beq i 9 || Nat.beq i 10 || Nat.beq i 11 || Nat.beq i 12 || Nat.beq i 20 || Nat.beq i 25)); intro e he; have w0 := he 0 rfl; have w2 := he 2 rfl; have w3 := he 3 rfl; have w5 := he 5 rfl; have w8 := he 8 rfl; have w9 := he 9 rfl; have w10 := he 10 rfl; have w11 := he 11 rfl; have w12 := he 12 rfl; have w20 := he 20 rfl; have w25 := he 25 rfl; (try simp only [T.get_put, Nat.reduceEqDiff, reduceIte, v0, v2, v3, v5, v8, v9, v10, v11, v12, v20, v25] at w0 w2 w3 w5 w8 w9 w10 w11 w12 w20 w25); clear he v0 v2 v3 v5 v8 v9 v10 v11 v12 v20 v25; have v0 := w0; have v2 := w2; have v3 := w3; have v5 := w5; have v8 := w8; have v9 := w9; have v10 := w10; have v11 := w11; have v12 := w12; have v20 := w20; have v25 := w25; clear w0 w2 w3 w5 w8 w9 w10 w11 w12 w20 w25)
    | ((with_reducible apply wo_eq); (· (simp (disch := (first | assumption | omega)) only [eq_self, opsA_cons, opsA_nil, wantedA, stepA_t, callA, calleeA, runOp_n, opA, ev, evs, consO, consOO, afterA_s, putA, T.get_put, Nat.reduceEqDiff, reduceIte, oBuiltin, oBin, binA, binG, binL, aggO, litA, I, Bo, ii_gtr, withH_s, dec_f, v0, v9, List.length_map]; exact rfl)))
    | ((with_reducible apply wo_len H); (· ((with_reducible repeat' first | exact mem_h _ _ | apply mem_t); done)); (· (exact ty22)); (· (rfl)))
    | simp (disch := (first | assumption | omega)) only [I])

  refine wc_loop (fun m e h' => ∃ k t, m = xs.length - k ∧ k ≤ xs.length ∧ e.get 3 = some (I t) ∧ e.get 9 = some (w) ∧ e.get 10 = some (I (xs.length : Int)) ∧ e.get 11 = some (I (k : Int)) ∧ (chk xs = chkG t (xs.drop k)) ∧ (0 ≤ t ∧ t ≤ 4611686018427387904) ∧ h' = b) (xs.length) ?_ ⟨0, 0, rfl, Nat.zero_le _, v3, v9, v10, v11, hc, ⟨by omega, by omega⟩, rfl⟩ ?_
  · omega
  · clear v3 v9 v10 v11
    rintro m e h ⟨k, t, rfl, hk, v3, v9, v10, v11, iv0, iv1, rfl⟩
    by_cases hlt : k < xs.length
    · obtain ⟨x, hx⟩ := at_some hlt
      have hxs := at_map hx
      rw [drop_at hx, chkG] at iv0
      ((with_reducible apply wc_c (fun i => Nat.beq i 0 || Nat.beq i 2 || Nat.beq i 3 || Nat.beq i 5 || Nat.beq i 8 || Nat.beq i 9 || Nat.beq i 10 || Nat.beq i 11 || Nat.beq i 12 || Nat.beq i 20 || Nat.beq i 25)); intro e he; have w9 := he 0 rfl; (try simp only [T.get_put, Nat.reduceEqDiff, reduceIte] at w9); have v0 := w9; clear w9; have w9 := he 2 rfl; (try simp only [T.get_put, Nat.reduceEqDiff, reduceIte] at w9); have v2 := w9; clear w9; have w9 := he 3 rfl; (try simp only [v3] at w9); replace v3 := w9; clear w9; have w9 := he 5 rfl; (try simp only [T.get_put, Nat.reduceEqDiff, reduceIte] at w9); have v5 := w9; clear w9; have w9 := he 8 rfl; (try simp only [T.get_put, Nat.reduceEqDiff, reduceIte] at w9); have v8 := w9; clear w9; have w9 := he 9 rfl; (try simp only [v9] at w9); replace v9 := w9; clear w9; have w9 := he 10 rfl; (try simp only [v10] at w9); replace v10 := w9; clear w9; have w9 := he 11 rfl; (try simp only [v11] at w9); replace v11 := w9; clear w9; have w9 := he 12 rfl; (try simp only [T.get_put, Nat.reduceEqDiff, reduceIte] at w9); have v12 := w9; clear w9; have w9 := he 20 rfl; (try simp only [T.get_put, Nat.reduceEqDiff, reduceIte] at w9); have v20 := w9; clear w9; have w9 := he 25 rfl; (try simp only [T.get_put, Nat.reduceEqDiff, reduceIte] at w9); have v25 := w9; clear w9; clear he)
      repeat' (first
        | with_reducible apply wc_seq
        | ((with_reducible apply wc_region); (· (rfl)))
        | with_reducible apply wo_some
        | ((with_reducible apply wc_cond); (· (simp (disch := (first | assumption | omega)) only [ev, Option.some.injEq, v12, v20, v25] <;> rfl)); all_goals (intro hg; (try (try simp only [decide_eq_true_eq, decide_eq_false_iff_not] at hg)); first | (exfalso; exact Bool.noConfusion hg) | (exfalso; exact hg) | skip))
        | with_reducible apply wc_block
        | with_reducible apply wc_skip
        | with_reducible apply wc_ret
        | with_reducible apply nx_r
        | with_reducible apply bx_n
        | with_reducible apply bx_r
        | ((with_reducible apply nx_c (fun i => Nat.beq i 0 || Nat.beq i 2 || Nat.beq i 3 || Nat.beq i 5 || Nat.beq i 8 || Nat.beq i 9 || Nat.beq i 10 || Nat.beq i 11 || Nat.beq i 12 || Nat.beq i 20 || Nat.beq i 25)); intro e he; have w0 := he 0 rfl; have w2 := he 2 rfl; have w3 := he 3 rfl; have w5 := he 5 rfl; have w8 := he 8 rfl; have w9 := he 9 rfl; have w10 := he 10 rfl; have w11 := he 11 rfl; have w12 := he 12 rfl; have w20 := he 20 rfl; have w25 := he 25 rfl; (try simp only [T.get_put, Nat.reduceEqDiff, reduceIte, v0, v2, v3, v5, v8, v9, v10, v11, v12, v20, v25] at w0 w2 w3 w5 w8 w9 w10 w11 w12 w20 w25); clear he v0 v2 v3 v5 v8 v9 v10 v11 v12 v20 v25; have v0 := w0; have v2 := w2; have v3 := w3; have v5 := w5; have v8 := w8; have v9 := w9; have v10 := w10; have v11 := w11; have v12 := w12; have v20 := w20; have v25 := w25; clear w0 w2 w3 w5 w8 w9 w10 w11 w12 w20 w25)
        | ((with_reducible apply wo_eq); (· (simp (disch := (first | assumption | omega)) only [beq_self_eq_true, eq_self, opsA_cons, opsA_nil, wantedA, guardA, yieldA, stepA_t, stepA_f, callA, runOp_n, opA, ev, pickA, afterA_s, putA, T.get_put, Nat.reduceEqDiff, reduceIte, List.getElem?_cons_zero, List.getElem?_cons_succ, oBin, binA, binG, binL, aggO, litA, oIndexAddr, tf_beq, I, Bo, ty2, ti2, ii_add, ii_lss, ii_gtr, withH_s, dec_t, dec_f, wrap_ok, v3, v5, v9, v10, v11]; exact rfl)))
        | ((with_reducible apply wo_loadc H); (· ((with_reducible repeat' first | exact mem_h _ _ | apply mem_t); done)); (· (rfl)))
        | ((with_reducible apply wo_ia H); (· ((with_reducible repeat' first | exact mem_h _ _ | apply mem_t); done)); (· (exact ty22)); (· (rfl)); (· (exact ty2)); (· (rfl)); (· (rfl)); (· (assumption)); clear H; intro n o H)
        | ((with_reducible apply wo_step) <;> intro hg <;> (try simp only [beq_false, Bool.not_eq_eq_eq_not, Bool.not_true, Bool.not_false, decide_eq_true_eq, decide_eq_false_iff_not] at hg) <;> (try subst hg) <;> (first | (exfalso; exact Bool.noConfusion hg) | skip))
        | ((first | with_reducible apply wv_ret | with_reducible apply wv_end); (· ((repeat' (first | with_reducible exact rs_nil | ((with_reducible apply rs_tmp); (· (simp (disch := (first | assumption | omega)) only [Option.some.injEq, v2] <;> rfl))) | ((with_reducible apply rs_cell); (· (simp (disch := (first | assumption | omega)) only [ev, T.get_put, Nat.reduceEqDiff, reduceIte, Option.some.injEq, dec_t, dec_f, Bool.not_true, Bool.not_false, v0, v2, v3, v5, v8, v9, v10, v11, v12, v20, v25, List.length_map] <;> rfl)); (· (kernel_rfl)); (· (rfl)); (· (exact H.ld1 (by (with_reducible repeat' first | exact mem_h _ _ | apply mem_t); done) rfl))) | ((with_reducible apply rs_celln); (· (simp (disch := (first | assumption | omega)) only [ev, T.get_put, Nat.reduceEqDiff, reduceIte, Option.some.injEq, dec_t, dec_f, Bool.not_true, Bool.not_false, v0, v2, v3, v5, v8, v9, v10, v11, v12, v20, v25, List.length_map] <;> rfl)); (· (kernel_rfl)); (· (rfl)); (· (exact H.ldn (by (with_reducible repeat' first | exact mem_h _ _ | apply mem_t); done) rfl rfl))))); done)))
        | simp (disch := (first | assumption | omega)) only [eq_self, Option.some.injEq, I, v3, v9, v10, v11])

      all_goals (first | first | exact ⟨by rw [iv0, if_pos (by omega)]; rfl, by trivial⟩ | exact ⟨by rw [iv0, if_neg (by omega), if_pos (by omega)]; rfl, by trivial⟩ | exact ⟨xs.length - (k + 1), by omega, k + 1, t + x, rfl, by omega, by trivial, by trivial, by trivial, by rw [show ((k + 1 : Nat) : Int) = (k : Int) + 1 from by omega], by rw [iv0, if_neg (by omega), if_neg (by omega)], ⟨by omega, by omega⟩, by trivial⟩ | trace_state)
    · obtain rfl : k = xs.length := by omega
      rw [List.drop_length, chkG] at iv0
      ((with_reducible apply wc_c (fun i => Nat.beq i 0 || Nat.beq i 2 || Nat.beq i 3 || Nat.beq i 5 || Nat.beq i 8 || Nat.beq i 9 || Nat.beq i 10 || Nat.beq i 11 || Nat.beq i 12 || Nat.beq i 20 || Nat.beq i 25)); intro e he; have w9 := he 0 rfl; (try simp only [T.get_put, Nat.reduceEqDiff, reduceIte] at w9); have v0 := w9; clear w9; have w9 := he 2 rfl; (try simp only [T.get_put, Nat.reduceEqDiff, reduceIte] at w9); have v2 := w9; clear w9; have w9 := he 3 rfl; (try simp only [v3] at w9); replace v3 := w9; clear w9; have w9 := he 5 rfl; (try simp only [T.get_put, Nat.reduceEqDiff, reduceIte] at w9); have v5 := w9; clear w9; have w9 := he 8 rfl; (try simp only [T.get_put, Nat.reduceEqDiff, reduceIte] at w9); have v8 := w9; clear w9; have w9 := he 9 rfl; (try simp only [v9] at w9); replace v9 := w9; clear w9; have w9 := he 10 rfl; (try simp only [v10] at w9); replace v10 := w9; clear w9; have w9 := he 11 rfl; (try simp only [v11] at w9); replace v11 := w9; clear w9; have w9 := he 12 rfl; (try simp only [T.get_put, Nat.reduceEqDiff, reduceIte] at w9); have v12 := w9; clear w9; have w9 := he 20 rfl; (try simp only [T.get_put, Nat.reduceEqDiff, reduceIte] at w9); have v20 := w9; clear w9; have w9 := he 25 rfl; (try simp only [T.get_put, Nat.reduceEqDiff, reduceIte] at w9); have v25 := w9; clear w9; clear he)
      repeat' (first
        | with_reducible apply wc_seq
        | ((with_reducible apply wc_region); (· (rfl)))
        | with_reducible apply wo_some
        | ((with_reducible apply wc_cond); (· (simp (disch := (first | assumption | omega)) only [ev, Option.some.injEq, v12] <;> rfl)); all_goals (intro hg; (try (try simp only [Bool.not_eq_true'] at hg)); first | (exfalso; exact Bool.noConfusion hg) | (exfalso; exact hg) | skip))
        | with_reducible apply wc_exit
        | with_reducible apply wc_ret
        | with_reducible apply nx_e
        | ((with_reducible apply bx_hit); (· (rfl)))
        | ((with_reducible apply nx_c (fun i => Nat.beq i 0 || Nat.beq i 2 || Nat.beq i 3 || Nat.beq i 5 || Nat.beq i 8 || Nat.beq i 9 || Nat.beq i 10 || Nat.beq i 11 || Nat.beq i 12 || Nat.beq i 20 || Nat.beq i 25)); intro e he; have w0 := he 0 rfl; have w2 := he 2 rfl; have w3 := he 3 rfl; have w5 := he 5 rfl; have w8 := he 8 rfl; have w9 := he 9 rfl; have w10 := he 10 rfl; have w11 := he 11 rfl; have w12 := he 12 rfl; have w20 := he 20 rfl; have w25 := he 25 rfl; (try simp only [T.get_put, Nat.reduceEqDiff, reduceIte, v0, v2, v3, v5, v8, v9, v10, v11, v12, v20, v25] at w0 w2 w3 w5 w8 w9 w10 w11 w12 w20 w25); clear he v0 v2 v3 v5 v8 v9 v10 v11 v12 v20 v25; have v0 := w0; have v2 := w2; have v3 := w3; have v5 := w5; have v8 := w8; have v9 := w9; have v10 := w10; have v11 := w11; have v12 := w12; have v20 := w20; have v25 := w25; clear w0 w2 w3 w5 w8 w9 w10 w11 w12 w20 w25)
        | ((with_reducible apply wo_eq); (· (simp (disch := (first | assumption | omega)) only [opsA_cons, opsA_nil, wantedA, stepA_t, callA, runOp_n, opA, ev, afterA_s, putA, oBin, binA, binG, binL, aggO, litA, I, Bo, ii_lss, withH_s, dec_f, v10, v11]; exact rfl)))
        | ((first | with_reducible apply wv_ret | with_reducible apply wv_end); (· ((repeat' (first | with_reducible exact rs_nil | ((with_reducible apply rs_tmp); (· (simp (disch := (first | assumption | omega)) only [Option.some.injEq, v2] <;> rfl))) | ((with_reducible apply rs_cell); (· (simp (disch := (first | assumption | omega)) only [ev, T.get_put, Nat.reduceEqDiff, reduceIte, Option.some.injEq, dec_t, dec_f, Bool.not_true, Bool.not_false, v0, v2, v3, v5, v8, v9, v10, v11, v12, v20, v25, List.length_map] <;> rfl)); (· (kernel_rfl)); (· (rfl)); (· (exact H.ld1 (by (with_reducible repeat' first | exact mem_h _ _ | apply mem_t); done) rfl))) | ((with_reducible apply rs_celln); (· (simp (disch := (first | assumption | omega)) only [ev, T.get_put, Nat.reduceEqDiff, reduceIte, Option.some.injEq, dec_t, dec_f, Bool.not_true, Bool.not_false, v0, v2, v3, v5, v8, v9, v10, v11, v12, v20, v25, List.length_map] <;> rfl)); (· (kernel_rfl)); (· (rfl)); (· (exact H.ldn (by (with_reducible repeat' first | exact mem_h _ _ | apply mem_t); done) rfl rfl))))); done)))
        | simp (disch := (first | assumption | omega)) only [eq_self])

      all_goals (first | exact ⟨by rw [iv0]; rfl, by trivial⟩ | trace_state)
end Go.Proofs.Ytpioenfglmimgaa
