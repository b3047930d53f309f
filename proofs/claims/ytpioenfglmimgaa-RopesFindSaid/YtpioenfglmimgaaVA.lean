import Derived.Test.YtpioenfglmimgaaCtx
import Derived.Test.YtpioenfglmimgaaTA
import Derived.KernelRfl
namespace Go.Proofs.Ytpioenfglmimgaa
open Go Go.Proofs Go.RowKit Go.Proofs.Abs
set_option linter.unusedSimpArgs false
set_option linter.unusedVariables false
open Go.Proofs.Abs
theorem fn4 : ctx.funs.get 4 = some Try.f4 := by kernel_rfl
theorem fn11 : ctx.funs.get 11 = some Try.f11 := by kernel_rfl
theorem fn12 : ctx.funs.get 12 = some Try.f12 := by kernel_rfl
theorem fn13 : ctx.funs.get 13 = some Try.f13 := by kernel_rfl
theorem fn14 : ctx.funs.get 14 = some Try.f14 := by kernel_rfl
theorem fn15 : ctx.funs.get 15 = some Try.f15 := by kernel_rfl
theorem fn16 : ctx.funs.get 16 = some Try.f16 := by kernel_rfl
theorem fn17 : ctx.funs.get 17 = some Try.f17 := by kernel_rfl
theorem fn18 : ctx.funs.get 18 = some Try.f18 := by kernel_rfl
theorem fn19 : ctx.funs.get 19 = some Try.f19 := by kernel_rfl
theorem fn20 : ctx.funs.get 20 = some Try.f20 := by kernel_rfl
theorem fn21 : ctx.funs.get 21 = some Try.f21 := by kernel_rfl
theorem fn22 : ctx.funs.get 22 = some Try.f22 := by kernel_rfl
theorem fn26 : ctx.funs.get 26 = some Try.f26 := by kernel_rfl
theorem fn35 : ctx.funs.get 35 = some Try.f35 := by kernel_rfl
theorem fn36 : ctx.funs.get 36 = some Try.f36 := by kernel_rfl
theorem fn37 : ctx.funs.get 37 = some Try.f37 := by kernel_rfl
theorem fn38 : ctx.funs.get 38 = some Try.f38 := by kernel_rfl
theorem fn39 : ctx.funs.get 39 = some Try.f39 := by kernel_rfl
theorem fn40 : ctx.funs.get 40 = some Try.f40 := by kernel_rfl
theorem fn41 : ctx.funs.get 41 = some Try.f41 := by kernel_rfl
theorem fn42 : ctx.funs.get 42 = some Try.f42 := by kernel_rfl
theorem fn43 : ctx.funs.get 43 = some Try.f43 := by kernel_rfl
theorem fn44 : ctx.funs.get 44 = some Try.f44 := by kernel_rfl
theorem fn45 : ctx.funs.get 45 = some Try.f45 := by kernel_rfl
theorem fn52 : ctx.funs.get 52 = some Try.f52 := by kernel_rfl
theorem fn53 : ctx.funs.get 53 = some Try.f53 := by kernel_rfl
theorem fn54 : ctx.funs.get 54 = some Try.f54 := by kernel_rfl
theorem fn55 : ctx.funs.get 55 = some Try.f55 := by kernel_rfl
theorem fn56 : ctx.funs.get 56 = some Try.f56 := by kernel_rfl
theorem ty2 : ctx.tys.get 2 = some ti2 := by kernel_rfl
theorem ty3 : ctx.tys.get 3 = some ti3 := by kernel_rfl
theorem ty4 : ctx.tys.get 4 = some ti4 := by kernel_rfl
theorem ty5 : ctx.tys.get 5 = some ti5 := by kernel_rfl
theorem ty22 : ctx.tys.get 22 = some ti22 := by kernel_rfl
theorem ty25 : ctx.tys.get 25 = some ti25 := by kernel_rfl
theorem ty27 : ctx.tys.get 27 = some ti27 := by kernel_rfl
theorem ty28 : ctx.tys.get 28 = some ti28 := by kernel_rfl
theorem ty33 : ctx.tys.get 33 = some ti33 := by kernel_rfl
theorem ty35 : ctx.tys.get 35 = some ti35 := by kernel_rfl
theorem ty37 : ctx.tys.get 37 = some ti37 := by kernel_rfl
theorem ty71 : ctx.tys.get 71 = some ti71 := by kernel_rfl
theorem ty75 : ctx.tys.get 75 = some ti75 := by kernel_rfl
theorem ty79 : ctx.tys.get 79 = some ti79 := by kernel_rfl
theorem ty87 : ctx.tys.get 87 = some ti87 := by kernel_rfl
theorem nck (h : Hp) (n : Nat) (l : GT) (s : Int) (r : GT) : nilCheckA h (some (GT.nd n l s r).val) = some (.ptr n 0, h) := rfl
theorem nckp (h : Hp) (n o : Nat) : nilCheckA h (some (.ptr n o)) = some (.ptr n o, h) := rfl
theorem rdn {h : Hp} {n : Nat} {l r : GT} {s : Int} (p : GT.ok h (.nd n l s r)) : oLoad h (some ti25) (some (.ptr n 0)) = some (l.val, h) ∧ oLoad h (some ti25) (some (.ptr n 1)) = some (r.val, h) ∧ oLoad h (some ti2) (some (.ptr n 2)) = some (I s, h) := ⟨(GT.rd p ti25 rfl).1, (GT.rd p ti25 rfl).2.1, (GT.rd p ti2 rfl).2.2.1⟩
set_option maxHeartbeats 4000000 in
theorem c42 {n : Nat} (hn : 1 ≤ n) {b : Hp} {g : GT} (pg : g.ok b) : Wv (runA ctx 5000 n 42 [g.val] b) (fun r h' => r = I (g.cnt : Int) ∧ h' = b) := by
  obtain ⟨k, rfl⟩ : ∃ k, n = k + 1 := ⟨n - 1, by omega⟩
  have H := (Hs.start b).z0 (z := tre g) pg
  cases g with
  | nil =>
    replace H : Hs [] b b [] [tre .nil] := H
    refine wv_run fn42 rfl ?_
    have a0 : (enterEnv [GT.nil.val] Try.f42.ntmps).get 0 = some (GT.nil.val) := enter_get1 _ _ _
    generalize enterEnv [GT.nil.val] Try.f42.ntmps = e at a0 ⊢
    unfold Try.f42
    dsimp only
    ((with_reducible apply wc_c (fun i => Nat.beq i 0 || Nat.beq i 2 || Nat.beq i 4)); intro e he; have w9 := he 0 rfl; (try simp only [a0] at w9); have v0 := w9; clear w9; have w9 := he 2 rfl; (try simp only [T.get_put, Nat.reduceEqDiff, reduceIte] at w9); have v2 := w9; clear w9; have w9 := he 4 rfl; (try simp only [T.get_put, Nat.reduceEqDiff, reduceIte] at w9); have v4 := w9; clear w9; clear he)
    simp only [GT.val_nil] at *
    repeat' (first
      | with_reducible apply wc_seq
      | ((with_reducible apply wc_region); (· (rfl)))
      | with_reducible apply wo_some
      | ((with_reducible apply wc_cond); (· (simp (disch := (first | assumption | omega)) only [ev, Option.some.injEq, v4] <;> rfl)); all_goals (intro hg; (try (try simp only [Bool.not_eq_true'] at hg)); first | (exfalso; exact Bool.noConfusion hg) | (exfalso; exact hg) | skip))
      | with_reducible apply wc_ret
      | with_reducible apply nx_r
      | ((with_reducible apply nx_c (fun i => Nat.beq i 0 || Nat.beq i 2 || Nat.beq i 4)); intro e he; have w0 := he 0 rfl; have w2 := he 2 rfl; have w4 := he 4 rfl; (try simp only [T.get_put, Nat.reduceEqDiff, reduceIte, v0, v2, v4] at w0 w2 w4); clear he v0 v2 v4; have v0 := w0; have v2 := w2; have v4 := w4; clear w0 w2 w4)
      | ((first | with_reducible apply wv_ret | with_reducible apply wv_end); (· ((repeat' (first | with_reducible exact rs_nil | ((with_reducible apply rs_tmp); (· (simp (disch := (first | assumption | omega)) only [Option.some.injEq, v2] <;> rfl))) | ((with_reducible apply rs_cell); (· (simp (disch := (first | assumption | omega)) only [ev, T.get_put, Nat.reduceEqDiff, reduceIte, Option.some.injEq, dec_t, dec_f, Bool.not_true, Bool.not_false, v0, v2, v4] <;> rfl)); (· (kernel_rfl)); (· (rfl)); (· (exact H.ld1 (by (with_reducible repeat' first | exact mem_h _ _ | apply mem_t); done) rfl))) | ((with_reducible apply rs_celln); (· (simp (disch := (first | assumption | omega)) only [ev, T.get_put, Nat.reduceEqDiff, reduceIte, Option.some.injEq, dec_t, dec_f, Bool.not_true, Bool.not_false, v0, v2, v4] <;> rfl)); (· (kernel_rfl)); (· (rfl)); (· (exact H.ldn (by (with_reducible repeat' first | exact mem_h _ _ | apply mem_t); done) rfl rfl))))); done)))
      | simp (disch := (first | assumption | omega)) only [eq_self, opsA_cons, opsA_nil, wantedA, stepA_t, callA, runOp_n, opA, ev, afterA_s, putA, T.get_put, reduceIte, oBin, binA, binG, binL, aggO, litA, I, ty25, ti25, withH_s, eqA, eqD, eqOp, v0])

    all_goals (first | exact ⟨rfl, rfl⟩ | exact ⟨rfl, trivial⟩ | trace_state)
  | nd m l s r =>
    replace H := H.topen (.head _)
    refine wv_run fn42 rfl ?_
    have a0 : (enterEnv [(GT.nd m l s r).val] Try.f42.ntmps).get 0 = some ((GT.nd m l s r).val) := enter_get1 _ _ _
    generalize enterEnv [(GT.nd m l s r).val] Try.f42.ntmps = e at a0 ⊢
    unfold Try.f42
    dsimp only
    ((with_reducible apply wc_c (fun i => Nat.beq i 0 || Nat.beq i 2 || Nat.beq i 4)); intro e he; have w9 := he 0 rfl; (try simp only [a0] at w9); have v0 := w9; clear w9; have w9 := he 2 rfl; (try simp only [T.get_put, Nat.reduceEqDiff, reduceIte] at w9); have v2 := w9; clear w9; have w9 := he 4 rfl; (try simp only [T.get_put, Nat.reduceEqDiff, reduceIte] at w9); have v4 := w9; clear w9; clear he)
    simp only [GT.val_nd] at *
    repeat' (first
      | with_reducible apply wc_seq
      | ((with_reducible apply wc_region); (· (rfl)))
      | with_reducible apply wo_some
      | ((with_reducible apply wc_cond); (· (simp (disch := (first | assumption | omega)) only [ev, Option.some.injEq, v4] <;> rfl)); all_goals (intro hg; (try (try simp only [Bool.not_eq_true'] at hg)); first | (exfalso; exact Bool.noConfusion hg) | (exfalso; exact hg) | skip))
      | with_reducible apply wc_skip
      | with_reducible apply wc_ret
      | ((with_reducible apply nx_c (fun i => Nat.beq i 0 || Nat.beq i 2 || Nat.beq i 4)); intro e he; have w0 := he 0 rfl; have w2 := he 2 rfl; have w4 := he 4 rfl; (try simp only [T.get_put, Nat.reduceEqDiff, reduceIte, v0, v2, v4] at w0 w2 w4); clear he v0 v2 v4; have v0 := w0; have v2 := w2; have v4 := w4; clear w0 w2 w4)
      | ((with_reducible apply wo_load1z H); (· ((with_reducible repeat' first | exact mem_h _ _ | apply mem_t); done)); (· (rfl)); (· ((first | rfl | assumption))))
      | ((first | with_reducible apply wv_ret | with_reducible apply wv_end); (· ((repeat' (first | with_reducible exact rs_nil | ((with_reducible apply rs_tmp); (· (simp (disch := (first | assumption | omega)) only [Option.some.injEq, v2] <;> rfl))) | ((with_reducible apply rs_cell); (· (simp (disch := (first | assumption | omega)) only [ev, T.get_put, Nat.reduceEqDiff, reduceIte, Option.some.injEq, dec_t, dec_f, Bool.not_true, Bool.not_false, v0, v2, v4] <;> rfl)); (· (kernel_rfl)); (· (rfl)); (· (exact H.ld1 (by (with_reducible repeat' first | exact mem_h _ _ | apply mem_t); done) rfl))) | ((with_reducible apply rs_celln); (· (simp (disch := (first | assumption | omega)) only [ev, T.get_put, Nat.reduceEqDiff, reduceIte, Option.some.injEq, dec_t, dec_f, Bool.not_true, Bool.not_false, v0, v2, v4] <;> rfl)); (· (kernel_rfl)); (· (rfl)); (· (exact H.ldn (by (with_reducible repeat' first | exact mem_h _ _ | apply mem_t); done) rfl rfl))))); done)))
      | simp (disch := (first | assumption | omega)) only [eq_self, opsA_cons, opsA_nil, wantedA, stepA_t, callA, runOp_n, opA, ev, afterA_s, putA, T.get_put, Nat.reduceEqDiff, reduceIte, List.getElem?_toArray, List.getElem?_cons_zero, List.getElem?_cons_succ, oBin, binA, binG, binL, aggO, cond_true, blt_eq, I, fieldAddrA, oFieldAddr, Nat.zero_add, Nat.reduceLT, ty3, ti3, ty25, ti25, ty75, ti75, withH_s, eqA, eqD, eqOp, nckp, dec_t, id_eq, Nat.zero_add, v0])

    all_goals (first | exact ⟨congrArg I (by rw [GT.cnt_nd]; omega), rfl⟩ | exact ⟨congrArg I (by rw [GT.cnt_nd]; omega), trivial⟩ | trace_state)
set_option maxHeartbeats 4000000 in
theorem c52 {n : Nat} (hn : 1 ≤ n) {b : Hp} {g : GT} (pg : g.ok b) : Wv (runA ctx 5000 n 52 [g.val] b) (fun r h' => r = I (g.hgt : Int) ∧ h' = b) := by
  obtain ⟨k, rfl⟩ : ∃ k, n = k + 1 := ⟨n - 1, by omega⟩
  have H := (Hs.start b).z0 (z := tre g) pg
  cases g with
  | nil =>
    replace H : Hs [] b b [] [tre .nil] := H
    refine wv_run fn52 rfl ?_
    have a0 : (enterEnv [GT.nil.val] Try.f52.ntmps).get 0 = some (GT.nil.val) := enter_get1 _ _ _
    generalize enterEnv [GT.nil.val] Try.f52.ntmps = e at a0 ⊢
    unfold Try.f52
    dsimp only
    ((with_reducible apply wc_c (fun i => Nat.beq i 0 || Nat.beq i 2 || Nat.beq i 4)); intro e he; have w9 := he 0 rfl; (try simp only [a0] at w9); have v0 := w9; clear w9; have w9 := he 2 rfl; (try simp only [T.get_put, Nat.reduceEqDiff, reduceIte] at w9); have v2 := w9; clear w9; have w9 := he 4 rfl; (try simp only [T.get_put, Nat.reduceEqDiff, reduceIte] at w9); have v4 := w9; clear w9; clear he)
    simp only [GT.val_nil] at *
    repeat' (first
      | with_reducible apply wc_seq
      | ((with_reducible apply wc_region); (· (rfl)))
      | with_reducible apply wo_some
      | ((with_reducible apply wc_cond); (· (simp (disch := (first | assumption | omega)) only [ev, Option.some.injEq, v4] <;> rfl)); all_goals (intro hg; (try (try simp only [Bool.not_eq_true'] at hg)); first | (exfalso; exact Bool.noConfusion hg) | (exfalso; exact hg) | skip))
      | with_reducible apply wc_ret
      | with_reducible apply nx_r
      | ((with_reducible apply nx_c (fun i => Nat.beq i 0 || Nat.beq i 2 || Nat.beq i 4)); intro e he; have w0 := he 0 rfl; have w2 := he 2 rfl; have w4 := he 4 rfl; (try simp only [T.get_put, Nat.reduceEqDiff, reduceIte, v0, v2, v4] at w0 w2 w4); clear he v0 v2 v4; have v0 := w0; have v2 := w2; have v4 := w4; clear w0 w2 w4)
      | ((first | with_reducible apply wv_ret | with_reducible apply wv_end); (· ((repeat' (first | with_reducible exact rs_nil | ((with_reducible apply rs_tmp); (· (simp (disch := (first | assumption | omega)) only [Option.some.injEq, v2] <;> rfl))) | ((with_reducible apply rs_cell); (· (simp (disch := (first | assumption | omega)) only [ev, T.get_put, Nat.reduceEqDiff, reduceIte, Option.some.injEq, dec_t, dec_f, Bool.not_true, Bool.not_false, v0, v2, v4] <;> rfl)); (· (kernel_rfl)); (· (rfl)); (· (exact H.ld1 (by (with_reducible repeat' first | exact mem_h _ _ | apply mem_t); done) rfl))) | ((with_reducible apply rs_celln); (· (simp (disch := (first | assumption | omega)) only [ev, T.get_put, Nat.reduceEqDiff, reduceIte, Option.some.injEq, dec_t, dec_f, Bool.not_true, Bool.not_false, v0, v2, v4] <;> rfl)); (· (kernel_rfl)); (· (rfl)); (· (exact H.ldn (by (with_reducible repeat' first | exact mem_h _ _ | apply mem_t); done) rfl rfl))))); done)))
      | simp (disch := (first | assumption | omega)) only [eq_self, opsA_cons, opsA_nil, wantedA, stepA_t, callA, runOp_n, opA, ev, afterA_s, putA, T.get_put, reduceIte, oBin, binA, binG, binL, aggO, litA, I, ty25, ti25, withH_s, eqA, eqD, eqOp, v0])

    all_goals (first | exact ⟨rfl, rfl⟩ | exact ⟨rfl, trivial⟩ | trace_state)
  | nd m l s r =>
    replace H := H.topen (.head _)
    refine wv_run fn52 rfl ?_
    have a0 : (enterEnv [(GT.nd m l s r).val] Try.f52.ntmps).get 0 = some ((GT.nd m l s r).val) := enter_get1 _ _ _
    generalize enterEnv [(GT.nd m l s r).val] Try.f52.ntmps = e at a0 ⊢
    unfold Try.f52
    dsimp only
    ((with_reducible apply wc_c (fun i => Nat.beq i 0 || Nat.beq i 2 || Nat.beq i 4)); intro e he; have w9 := he 0 rfl; (try simp only [a0] at w9); have v0 := w9; clear w9; have w9 := he 2 rfl; (try simp only [T.get_put, Nat.reduceEqDiff, reduceIte] at w9); have v2 := w9; clear w9; have w9 := he 4 rfl; (try simp only [T.get_put, Nat.reduceEqDiff, reduceIte] at w9); have v4 := w9; clear w9; clear he)
    simp only [GT.val_nd] at *
    repeat' (first
      | with_reducible apply wc_seq
      | ((with_reducible apply wc_region); (· (rfl)))
      | with_reducible apply wo_some
      | ((with_reducible apply wc_cond); (· (simp (disch := (first | assumption | omega)) only [ev, Option.some.injEq, v4] <;> rfl)); all_goals (intro hg; (try (try simp only [Bool.not_eq_true'] at hg)); first | (exfalso; exact Bool.noConfusion hg) | (exfalso; exact hg) | skip))
      | with_reducible apply wc_skip
      | with_reducible apply wc_ret
      | ((with_reducible apply nx_c (fun i => Nat.beq i 0 || Nat.beq i 2 || Nat.beq i 4)); intro e he; have w0 := he 0 rfl; have w2 := he 2 rfl; have w4 := he 4 rfl; (try simp only [T.get_put, Nat.reduceEqDiff, reduceIte, v0, v2, v4] at w0 w2 w4); clear he v0 v2 v4; have v0 := w0; have v2 := w2; have v4 := w4; clear w0 w2 w4)
      | ((with_reducible apply wo_load1z H); (· ((with_reducible repeat' first | exact mem_h _ _ | apply mem_t); done)); (· (rfl)); (· ((first | rfl | assumption))))
      | ((first | with_reducible apply wv_ret | with_reducible apply wv_end); (· ((repeat' (first | with_reducible exact rs_nil | ((with_reducible apply rs_tmp); (· (simp (disch := (first | assumption | omega)) only [Option.some.injEq, v2] <;> rfl))) | ((with_reducible apply rs_cell); (· (simp (disch := (first | assumption | omega)) only [ev, T.get_put, Nat.reduceEqDiff, reduceIte, Option.some.injEq, dec_t, dec_f, Bool.not_true, Bool.not_false, v0, v2, v4] <;> rfl)); (· (kernel_rfl)); (· (rfl)); (· (exact H.ld1 (by (with_reducible repeat' first | exact mem_h _ _ | apply mem_t); done) rfl))) | ((with_reducible apply rs_celln); (· (simp (disch := (first | assumption | omega)) only [ev, T.get_put, Nat.reduceEqDiff, reduceIte, Option.some.injEq, dec_t, dec_f, Bool.not_true, Bool.not_false, v0, v2, v4] <;> rfl)); (· (kernel_rfl)); (· (rfl)); (· (exact H.ldn (by (with_reducible repeat' first | exact mem_h _ _ | apply mem_t); done) rfl rfl))))); done)))
      | simp (disch := (first | assumption | omega)) only [eq_self, opsA_cons, opsA_nil, wantedA, stepA_t, callA, runOp_n, opA, ev, afterA_s, putA, T.get_put, Nat.reduceEqDiff, reduceIte, List.getElem?_toArray, List.getElem?_cons_zero, List.getElem?_cons_succ, oBin, binA, binG, binL, aggO, cond_true, blt_eq, I, fieldAddrA, oFieldAddr, Nat.zero_add, Nat.reduceLT, ty3, ti3, ty25, ti25, ty75, ti75, withH_s, eqA, eqD, eqOp, nckp, dec_t, id_eq, Nat.zero_add, v0])

    all_goals (first | exact ⟨congrArg I (by rw [GT.hgt_nd]; split <;> omega), rfl⟩ | exact ⟨congrArg I (by rw [GT.hgt_nd]; split <;> omega), trivial⟩ | trace_state)
set_option maxHeartbeats 4000000 in
theorem c44 {n : Nat} (hn : 1 ≤ n) {b : Hp} {g : GT} (pg : g.ok b) : Wv (runA ctx 5000 n 44 [g.val] b) (fun r h' => r = I g.sm ∧ h' = b) := by
  obtain ⟨k, rfl⟩ : ∃ k, n = k + 1 := ⟨n - 1, by omega⟩
  have H := (Hs.start b).z0 (z := tre g) pg
  cases g with
  | nil =>
    replace H : Hs [] b b [] [tre .nil] := H
    refine wv_run fn44 rfl ?_
    have a0 : (enterEnv [GT.nil.val] Try.f44.ntmps).get 0 = some (GT.nil.val) := enter_get1 _ _ _
    generalize enterEnv [GT.nil.val] Try.f44.ntmps = e at a0 ⊢
    unfold Try.f44
    dsimp only
    ((with_reducible apply wc_c (fun i => Nat.beq i 0 || Nat.beq i 2 || Nat.beq i 4)); intro e he; have w9 := he 0 rfl; (try simp only [a0] at w9); have v0 := w9; clear w9; have w9 := he 2 rfl; (try simp only [T.get_put, Nat.reduceEqDiff, reduceIte] at w9); have v2 := w9; clear w9; have w9 := he 4 rfl; (try simp only [T.get_put, Nat.reduceEqDiff, reduceIte] at w9); have v4 := w9; clear w9; clear he)
    simp only [GT.val_nil] at *
    repeat' (first
      | with_reducible apply wc_seq
      | ((with_reducible apply wc_region); (· (rfl)))
      | with_reducible apply wo_some
      | ((with_reducible apply wc_cond); (· (simp (disch := (first | assumption | omega)) only [ev, Option.some.injEq, v4] <;> rfl)); all_goals (intro hg; (try (try simp only [Bool.not_eq_true'] at hg)); first | (exfalso; exact Bool.noConfusion hg) | (exfalso; exact hg) | skip))
      | with_reducible apply wc_ret
      | with_reducible apply nx_r
      | ((with_reducible apply nx_c (fun i => Nat.beq i 0 || Nat.beq i 2 || Nat.beq i 4)); intro e he; have w0 := he 0 rfl; have w2 := he 2 rfl; have w4 := he 4 rfl; (try simp only [T.get_put, Nat.reduceEqDiff, reduceIte, v0, v2, v4] at w0 w2 w4); clear he v0 v2 v4; have v0 := w0; have v2 := w2; have v4 := w4; clear w0 w2 w4)
      | ((first | with_reducible apply wv_ret | with_reducible apply wv_end); (· ((repeat' (first | with_reducible exact rs_nil | ((with_reducible apply rs_tmp); (· (simp (disch := (first | assumption | omega)) only [Option.some.injEq, v2] <;> rfl))) | ((with_reducible apply rs_cell); (· (simp (disch := (first | assumption | omega)) only [ev, T.get_put, Nat.reduceEqDiff, reduceIte, Option.some.injEq, dec_t, dec_f, Bool.not_true, Bool.not_false, v0, v2, v4] <;> rfl)); (· (kernel_rfl)); (· (rfl)); (· (exact H.ld1 (by (with_reducible repeat' first | exact mem_h _ _ | apply mem_t); done) rfl))) | ((with_reducible apply rs_celln); (· (simp (disch := (first | assumption | omega)) only [ev, T.get_put, Nat.reduceEqDiff, reduceIte, Option.some.injEq, dec_t, dec_f, Bool.not_true, Bool.not_false, v0, v2, v4] <;> rfl)); (· (kernel_rfl)); (· (rfl)); (· (exact H.ldn (by (with_reducible repeat' first | exact mem_h _ _ | apply mem_t); done) rfl rfl))))); done)))
      | simp (disch := (first | assumption | omega)) only [eq_self, opsA_cons, opsA_nil, wantedA, stepA_t, callA, runOp_n, opA, ev, afterA_s, putA, T.get_put, reduceIte, oBin, binA, binG, binL, aggO, litA, I, ty25, ti25, withH_s, eqA, eqD, eqOp, v0])

    all_goals (first | exact ⟨rfl, rfl⟩ | exact ⟨rfl, trivial⟩ | trace_state)
  | nd m l s r =>
    replace H := H.topen (.head _)
    refine wv_run fn44 rfl ?_
    have a0 : (enterEnv [(GT.nd m l s r).val] Try.f44.ntmps).get 0 = some ((GT.nd m l s r).val) := enter_get1 _ _ _
    generalize enterEnv [(GT.nd m l s r).val] Try.f44.ntmps = e at a0 ⊢
    unfold Try.f44
    dsimp only
    ((with_reducible apply wc_c (fun i => Nat.beq i 0 || Nat.beq i 2 || Nat.beq i 4)); intro e he; have w9 := he 0 rfl; (try simp only [a0] at w9); have v0 := w9; clear w9; have w9 := he 2 rfl; (try simp only [T.get_put, Nat.reduceEqDiff, reduceIte] at w9); have v2 := w9; clear w9; have w9 := he 4 rfl; (try simp only [T.get_put, Nat.reduceEqDiff, reduceIte] at w9); have v4 := w9; clear w9; clear he)
    simp only [GT.val_nd] at *
    repeat' (first
      | with_reducible apply wc_seq
      | ((with_reducible apply wc_region); (· (rfl)))
      | with_reducible apply wo_some
      | ((with_reducible apply wc_cond); (· (simp (disch := (first | assumption | omega)) only [ev, Option.some.injEq, v4] <;> rfl)); all_goals (intro hg; (try (try simp only [Bool.not_eq_true'] at hg)); first | (exfalso; exact Bool.noConfusion hg) | (exfalso; exact hg) | skip))
      | with_reducible apply wc_skip
      | with_reducible apply wc_ret
      | ((with_reducible apply nx_c (fun i => Nat.beq i 0 || Nat.beq i 2 || Nat.beq i 4)); intro e he; have w0 := he 0 rfl; have w2 := he 2 rfl; have w4 := he 4 rfl; (try simp only [T.get_put, Nat.reduceEqDiff, reduceIte, v0, v2, v4] at w0 w2 w4); clear he v0 v2 v4; have v0 := w0; have v2 := w2; have v4 := w4; clear w0 w2 w4)
      | ((with_reducible apply wo_load1z H); (· ((with_reducible repeat' first | exact mem_h _ _ | apply mem_t); done)); (· (rfl)); (· ((first | rfl | assumption))))
      | ((first | with_reducible apply wv_ret | with_reducible apply wv_end); (· ((repeat' (first | with_reducible exact rs_nil | ((with_reducible apply rs_tmp); (· (simp (disch := (first | assumption | omega)) only [Option.some.injEq, v2] <;> rfl))) | ((with_reducible apply rs_cell); (· (simp (disch := (first | assumption | omega)) only [ev, T.get_put, Nat.reduceEqDiff, reduceIte, Option.some.injEq, dec_t, dec_f, Bool.not_true, Bool.not_false, v0, v2, v4] <;> rfl)); (· (kernel_rfl)); (· (rfl)); (· (exact H.ld1 (by (with_reducible repeat' first | exact mem_h _ _ | apply mem_t); done) rfl))) | ((with_reducible apply rs_celln); (· (simp (disch := (first | assumption | omega)) only [ev, T.get_put, Nat.reduceEqDiff, reduceIte, Option.some.injEq, dec_t, dec_f, Bool.not_true, Bool.not_false, v0, v2, v4] <;> rfl)); (· (kernel_rfl)); (· (rfl)); (· (exact H.ldn (by (with_reducible repeat' first | exact mem_h _ _ | apply mem_t); done) rfl rfl))))); done)))
      | simp (disch := (first | assumption | omega)) only [eq_self, opsA_cons, opsA_nil, wantedA, stepA_t, callA, runOp_n, opA, ev, afterA_s, putA, T.get_put, Nat.reduceEqDiff, reduceIte, List.getElem?_toArray, List.getElem?_cons_zero, List.getElem?_cons_succ, oBin, binA, binG, binL, aggO, cond_true, blt_eq, I, fieldAddrA, oFieldAddr, Nat.zero_add, Nat.reduceLT, ty2, ti2, ty25, ti25, ty75, ti75, withH_s, eqA, eqD, eqOp, nckp, dec_t, id_eq, Nat.zero_add, v0])

    all_goals (first | exact ⟨congrArg I (by rw [GT.sm_nd]), rfl⟩ | exact ⟨congrArg I (by rw [GT.sm_nd]), trivial⟩ | trace_state)


theorem nd_names {b : Hp} {m : Nat} {l r : GT} {s : Int} (h : b.c ≤ m) : ∀ n, n ∈ (GT.nd m l s r).names → n ∈ l.names ++ r.names ∨ b.c ≤ n := by
  intro n hn
  rcases List.mem_cons.1 hn with rfl | hn
  · exact .inr h
  · exact .inl hn
set_option maxHeartbeats 4000000 in
theorem c53 {n : Nat} (hn : 2 ≤ n) {b : Hp} {l r : GT} {s : Int} (pl : l.ok b) (pr : r.ok b) (gd : GT.Good (l.lst ++ s :: r.lst)) : Wv (runA ctx 5000 n 53 [l.val, I s, r.val] b) (fun x h' => RT b h' x (l.names ++ r.names) (fun g => ∃ m, g = .nd m l s r)) := by
  obtain ⟨k, rfl⟩ : ∃ k, n = k + 1 := ⟨n - 1, by omega⟩
  have g3 := gd.three
  have hl := GT.hgt_le l
  have hr := GT.hgt_le r
  have hm : 0 ≤ (if (l.hgt : Int) < (r.hgt : Int) then (r.hgt : Int) else (l.hgt : Int)) ∧ (if (l.hgt : Int) < (r.hgt : Int) then (r.hgt : Int) else (l.hgt : Int)) ≤ 4096 := by split <;> omega
  have H := ((Hs.start b).z0 (z := tre r) pr).z0 (z := tre l) pl
  refine wv_run fn53 rfl ?_
  have a0 : (enterEnv [l.val, I s, r.val] Try.f53.ntmps).get 0 = some (l.val) := enter_get1 _ _ _
  have a1 : (enterEnv [l.val, I s, r.val] Try.f53.ntmps).get 1 = some (I s) := enter_get2 _ _ _ _
  have a2 : (enterEnv [l.val, I s, r.val] Try.f53.ntmps).get 2 = some (r.val) := enter_get3 _ _ _ _ _
  generalize enterEnv [l.val, I s, r.val] Try.f53.ntmps = e at a0 a1 a2 ⊢
  unfold Try.f53
  dsimp only
  ((with_reducible apply wc_c (fun i => Nat.beq i 0 || Nat.beq i 1 || Nat.beq i 2 || Nat.beq i 6)); intro e he; have w9 := he 0 rfl; (try simp only [a0] at w9); have v0 := w9; clear w9; have w9 := he 1 rfl; (try simp only [a1] at w9); have v1 := w9; clear w9; have w9 := he 2 rfl; (try simp only [a2] at w9); have v2 := w9; clear w9; have w9 := he 6 rfl; (try simp only [T.get_put, Nat.reduceEqDiff, reduceIte] at w9); have v6 := w9; clear w9; clear he)
  repeat' (first
    | with_reducible apply wc_seq
    | ((with_reducible apply wc_region); (· (rfl)))
    | with_reducible apply wo_some
    | with_reducible apply wc_ret
    | (simp only [cells_agg] at H)
    | ((with_reducible apply nx_c (fun i => Nat.beq i 0 || Nat.beq i 1 || Nat.beq i 2 || Nat.beq i 6)); intro e he; have w0 := he 0 rfl; have w1 := he 1 rfl; have w2 := he 2 rfl; have w6 := he 6 rfl; (try simp only [T.get_put, Nat.reduceEqDiff, reduceIte, v0, v1, v2, v6] at w0 w1 w2 w6); clear he v0 v1 v2 v6; have v0 := w0; have v1 := w1; have v2 := w2; have v6 := w6; clear w0 w1 w2 w6)
    | (((with_reducible apply wo_call); (· ((with_reducible apply c42); (· (omega)); (· (exact H.tok (by (with_reducible repeat' first | exact mem_h _ _ | apply mem_t); done))))); rintro _ h ⟨rfl, rfl⟩))
    | (((with_reducible apply wo_call); (· ((with_reducible apply c52); (· (omega)); (· (exact H.tok (by (with_reducible repeat' first | exact mem_h _ _ | apply mem_t); done))))); rintro _ h ⟨rfl, rfl⟩))
    | (((with_reducible apply wo_call); (· ((with_reducible apply c44); (· (omega)); (· (exact H.tok (by (with_reducible repeat' first | exact mem_h _ _ | apply mem_t); done))))); rintro _ h ⟨rfl, rfl⟩))
    | ((with_reducible apply wo_box H); clear H; intro n h H0n H)
    | ((with_reducible apply wo_build); (· (exact ty75)); (· (rfl)); (· ((first | rfl | (simp only [fillA_nil, fillA_cons, cells_int, GT.cells_val]; rfl)))))
    | ((first | with_reducible apply wv_ret | with_reducible apply wv_end); (· ((repeat' (first | with_reducible exact rs_nil | ((with_reducible apply rs_tmp); (· (simp (disch := (first | assumption | omega)) only [Option.some.injEq, v6] <;> rfl))) | ((with_reducible apply rs_cell); (· (simp (disch := (first | assumption | omega)) only [ev, T.get_put, Nat.reduceEqDiff, reduceIte, Option.some.injEq, dec_t, dec_f, Bool.not_true, Bool.not_false, v0, v1, v2, v6, GT.cells_val] <;> rfl)); (· (kernel_rfl)); (· (rfl)); (· (exact H.ld1 (by (with_reducible repeat' first | exact mem_h _ _ | apply mem_t); done) rfl))) | ((with_reducible apply rs_celln); (· (simp (disch := (first | assumption | omega)) only [ev, T.get_put, Nat.reduceEqDiff, reduceIte, Option.some.injEq, dec_t, dec_f, Bool.not_true, Bool.not_false, v0, v1, v2, v6, GT.cells_val] <;> rfl)); (· (kernel_rfl)); (· (rfl)); (· (exact H.ldn (by (with_reducible repeat' first | exact mem_h _ _ | apply mem_t); done) rfl rfl))))); done)))
    | simp (disch := (first | assumption | omega)) only [eq_self, opsA_cons, opsA_nil, wantedA, stepA_t, callA, calleeA, targetA, runOp_c, runOp_n, opA, ev, evs, consO, consOO, afterA_s, putA, T.get_put, Nat.reduceEqDiff, reduceIte, oBuiltin, oBin, binA, binG, binL, aggO, litA, I, ti75, ii_add, bi_max, List.getElem_toArray, List.getElem_cons_zero, List.getElem_cons_succ, withH_s, oBuild, evParts, consP, wrap_ok, putAt_z, putAt_s, over_nil, over_cons, litCells_cons, litCells_nil, cells_lagg, v0, v1, v2])

  all_goals (first | exact ⟨.nd _ l s r, rfl, ⟨H.p (a := blk id _ [_, _, _, _, _, _]) (by (with_reducible repeat' first | exact mem_h _ _ | apply mem_t); done), H.tok (by (with_reducible repeat' first | exact mem_h _ _ | apply mem_t); done), H.tok (by (with_reducible repeat' first | exact mem_h _ _ | apply mem_t); done)⟩, H.toExt, nd_names (by assumption), _, rfl⟩ | trace_state)


theorem av_pt (n o : Nat) : avB 4 (.ptr n o) (.ptr n o) = true := by
  show ((n == n) && (o == o)) = true
  simp
theorem av_int (k : IntKind) (x : Int) : avB 4 (.lit (.int k x)) (.lit (.int k x)) = true := by
  show litB (.int k x) (.int k x) = true
  simp [litB]
end Go.Proofs.Ytpioenfglmimgaa
