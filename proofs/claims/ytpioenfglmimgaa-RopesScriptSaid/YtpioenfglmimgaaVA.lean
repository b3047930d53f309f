import Derived.Test.YtpioenfglmimgaaCtx
import Derived.Test.YtpioenfglmimgaaTA
import Derived.KernelRfl
namespace Go.Proofs.Ytpioenfglmimgaa
open Go Go.Proofs Go.RowKit Go.Proofs.Abs
set_option linter.unusedSimpArgs false
set_option linter.unusedVariables false
open Go.Proofs.Abs
theorem fn6 : ctx.funs.get 6 = some Try.f6 := by kernel_rfl
theorem fn10 : ctx.funs.get 10 = some Try.f10 := by kernel_rfl
theorem fn11 : ctx.funs.get 11 = some Try.f11 := by kernel_rfl
theorem fn12 : ctx.funs.get 12 = some Try.f12 := by kernel_rfl
theorem fn13 : ctx.funs.get 13 = some Try.f13 := by kernel_rfl
theorem fn16 : ctx.funs.get 16 = some Try.f16 := by kernel_rfl
theorem fn22 : ctx.funs.get 22 = some Try.f22 := by kernel_rfl
theorem fn23 : ctx.funs.get 23 = some Try.f23 := by kernel_rfl
theorem fn25 : ctx.funs.get 25 = some Try.f25 := by kernel_rfl
theorem fn26 : ctx.funs.get 26 = some Try.f26 := by kernel_rfl
theorem fn27 : ctx.funs.get 27 = some Try.f27 := by kernel_rfl
theorem fn28 : ctx.funs.get 28 = some Try.f28 := by kernel_rfl
theorem fn29 : ctx.funs.get 29 = some Try.f29 := by kernel_rfl
theorem fn30 : ctx.funs.get 30 = some Try.f30 := by kernel_rfl
theorem fn31 : ctx.funs.get 31 = some Try.f31 := by kernel_rfl
theorem fn32 : ctx.funs.get 32 = some Try.f32 := by kernel_rfl
theorem fn33 : ctx.funs.get 33 = some Try.f33 := by kernel_rfl
theorem fn34 : ctx.funs.get 34 = some Try.f34 := by kernel_rfl
theorem fn35 : ctx.funs.get 35 = some Try.f35 := by kernel_rfl
theorem fn36 : ctx.funs.get 36 = some Try.f36 := by kernel_rfl
theorem fn37 : ctx.funs.get 37 = some Try.f37 := by kernel_rfl
theorem fn38 : ctx.funs.get 38 = some Try.f38 := by kernel_rfl
theorem fn39 : ctx.funs.get 39 = some Try.f39 := by kernel_rfl
theorem fn40 : ctx.funs.get 40 = some Try.f40 := by kernel_rfl
theorem fn42 : ctx.funs.get 42 = some Try.f42 := by kernel_rfl
theorem fn44 : ctx.funs.get 44 = some Try.f44 := by kernel_rfl
theorem fn47 : ctx.funs.get 47 = some Try.f47 := by kernel_rfl
theorem fn48 : ctx.funs.get 48 = some Try.f48 := by kernel_rfl
theorem fn49 : ctx.funs.get 49 = some Try.f49 := by kernel_rfl
theorem fn50 : ctx.funs.get 50 = some Try.f50 := by kernel_rfl
theorem fn51 : ctx.funs.get 51 = some Try.f51 := by kernel_rfl
theorem fn52 : ctx.funs.get 52 = some Try.f52 := by kernel_rfl
theorem fn53 : ctx.funs.get 53 = some Try.f53 := by kernel_rfl
theorem fn54 : ctx.funs.get 54 = some Try.f54 := by kernel_rfl
theorem fn59 : ctx.funs.get 59 = some Try.f59 := by kernel_rfl
theorem fn60 : ctx.funs.get 60 = some Try.f60 := by kernel_rfl
theorem fn61 : ctx.funs.get 61 = some Try.f61 := by kernel_rfl
theorem fn62 : ctx.funs.get 62 = some Try.f62 := by kernel_rfl
theorem fn63 : ctx.funs.get 63 = some Try.f63 := by kernel_rfl
theorem fn64 : ctx.funs.get 64 = some Try.f64 := by kernel_rfl
theorem fn65 : ctx.funs.get 65 = some Try.f65 := by kernel_rfl
theorem fn66 : ctx.funs.get 66 = some Try.f66 := by kernel_rfl
theorem ty2 : ctx.tys.get 2 = some ti2 := by kernel_rfl
theorem ty3 : ctx.tys.get 3 = some ti3 := by kernel_rfl
theorem ty4 : ctx.tys.get 4 = some ti4 := by kernel_rfl
theorem ty5 : ctx.tys.get 5 = some ti5 := by kernel_rfl
theorem ty22 : ctx.tys.get 22 = some ti22 := by kernel_rfl
theorem ty25 : ctx.tys.get 25 = some ti25 := by kernel_rfl
theorem ty27 : ctx.tys.get 27 = some ti27 := by kernel_rfl
theorem ty28 : ctx.tys.get 28 = some ti28 := by kernel_rfl
theorem ty33 : ctx.tys.get 33 = some ti33 := by kernel_rfl
theorem ty35 : ctx.tys.get 35 = some ti35 := by kernel_rfl
theorem ty54 : ctx.tys.get 54 = some ti54 := by kernel_rfl
theorem ty56 : ctx.tys.get 56 = some ti56 := by kernel_rfl
theorem ty75 : ctx.tys.get 75 = some ti75 := by kernel_rfl
theorem ty87 : ctx.tys.get 87 = some ti87 := by kernel_rfl
theorem nck (h : Hp) (n : Nat) (l : GT) (s : Int) (r : GT) : nilCheckA h (some (GT.nd n l s r).val) = some (.ptr n 0, h) := rfl
theorem nckp (h : Hp) (n o : Nat) : nilCheckA h (some (.ptr n o)) = some (.ptr n o, h) := rfl
theorem rdn {h : Hp} {n : Nat} {l r : GT} {s : Int} (p : GT.ok h (.nd n l s r)) : oLoad h (some ti25) (some (.ptr n 0)) = some (l.val, h) ∧ oLoad h (some ti25) (some (.ptr n 1)) = some (r.val, h) ∧ oLoad h (some ti2) (some (.ptr n 2)) = some (I s, h) := ⟨(GT.rd p ti25 rfl).1, (GT.rd p ti25 rfl).2.1, (GT.rd p ti2 rfl).2.2.1⟩
set_option maxHeartbeats 4000000 in
theorem c42 {n : Nat} (hn : 1 ≤ n) {b : Hp} {g : GT} (pg : g.ok b) : Wv (runA ctx 5000 n 42 [g.val] b) (fun r h' => r = I (g.cnt : Int) ∧ h' = b) := by
  obtain ⟨k, rfl⟩ : ∃ k, n = k + 1 := ⟨n - 1, by omega⟩
  have H := (Hs.start b).z0 (z := tre g) pg
  cases g with
  | nil =>
    replace H : Hs [] b b [] [tre .nil] := H
    refine wv_run fn42 rfl ?_
    have a0 : (enterEnv [GT.nil.val] Try.f42.ntmps).get 0 = some (GT.nil.val) := enter_get1 _ _ _
    generalize enterEnv [GT.nil.val] Try.f42.ntmps = e at a0 ⊢
    unfold Try.f42
    dsimp only
    ((with_reducible apply wc_c (fun i => Nat.beq i 0 || Nat.beq i 2 || Nat.beq i 4)); intro e he; have w9 := he 0 rfl; (try simp only [a0] at w9); have v0 := w9; clear w9; have w9 := he 2 rfl; (try simp only [T.get_put, Nat.reduceEqDiff, reduceIte] at w9); have v2 := w9; clear w9; have w9 := he 4 rfl; (try simp only [T.get_put, Nat.reduceEqDiff, reduceIte] at w9); have v4 := w9; clear w9; clear he)
    simp only [GT.val_nil] at *
    repeat' (first
      | with_reducible apply wc_seq
      | ((with_reducible apply wc_region); (· (rfl)))
      | with_reducible apply wo_some
      | ((with_reducible apply wc_cond); (· (simp (disch := (first | assumption | omega)) only [ev, Option.some.injEq, v4] <;> rfl)); all_goals (intro hg; (try (try simp only [Bool.not_eq_true'] at hg)); first | (exfalso; exact Bool.noConfusion hg) | (exfalso; exact hg) | skip))
      | with_reducible apply wc_ret
      | with_reducible apply nx_r
      | ((with_reducible apply nx_c (fun i => Nat.beq i 0 || Nat.beq i 2 || Nat.beq i 4)); intro e he; have w0 := he 0 rfl; have w2 := he 2 rfl; have w4 := he 4 rfl; (try simp only [T.get_put, Nat.reduceEqDiff, reduceIte, v0, v2, v4] at w0 w2 w4); clear he v0 v2 v4; have v0 := w0; have v2 := w2; have v4 := w4; clear w0 w2 w4)
      | ((first | with_reducible apply wv_ret | with_reducible apply wv_end); (· ((repeat' (first | with_reducible exact rs_nil | ((with_reducible apply rs_tmp); (· (simp (disch := (first | assumption | omega)) only [Option.some.injEq, v2] <;> rfl))) | ((with_reducible apply rs_cell); (· (simp (disch := (first | assumption | omega)) only [ev, T.get_put, Nat.reduceEqDiff, reduceIte, Option.some.injEq, dec_t, dec_f, Bool.not_true, Bool.not_false, v0, v2, v4] <;> rfl)); (· (kernel_rfl)); (· (rfl)); (· (exact H.ld1 (by (with_reducible repeat' first | exact mem_h _ _ | apply mem_t); done) rfl))) | ((with_reducible apply rs_celln); (· (simp (disch := (first | assumption | omega)) only [ev, T.get_put, Nat.reduceEqDiff, reduceIte, Option.some.injEq, dec_t, dec_f, Bool.not_true, Bool.not_false, v0, v2, v4] <;> rfl)); (· (kernel_rfl)); (· (rfl)); (· (exact H.ldn (by (with_reducible repeat' first | exact mem_h _ _ | apply mem_t); done) rfl rfl))))); done)))
      | simp (disch := (first | assumption | omega)) only [eq_self, opsA_cons, opsA_nil, wantedA, stepA_t, callA, runOp_n, opA, ev, afterA_s, putA, T.get_put, reduceIte, oBin, binA, binG, binL, aggO, litA, I, ty25, ti25, withH_s, eqA, eqD, eqOp, v0])

    all_goals (first | exact ⟨rfl, rfl⟩ | exact ⟨rfl, trivial⟩ | trace_state)
  | nd m l s r =>
    replace H := H.topen (.head _)
    refine wv_run fn42 rfl ?_
    have a0 : (enterEnv [(GT.nd m l s r).val] Try.f42.ntmps).get 0 = some ((GT.nd m l s r).val) := enter_get1 _ _ _
    generalize enterEnv [(GT.nd m l s r).val] Try.f42.ntmps = e at a0 ⊢
    unfold Try.f42
    dsimp only
    ((with_reducible apply wc_c (fun i => Nat.beq i 0 || Nat.beq i 2 || Nat.beq i 4)); intro e he; have w9 := he 0 rfl; (try simp only [a0] at w9); have v0 := w9; clear w9; have w9 := he 2 rfl; (try simp only [T.get_put, Nat.reduceEqDiff, reduceIte] at w9); have v2 := w9; clear w9; have w9 := he 4 rfl; (try simp only [T.get_put, Nat.reduceEqDiff, reduceIte] at w9); have v4 := w9; clear w9; clear he)
    simp only [GT.val_nd] at *
    repeat' (first
      | with_reducible apply wc_seq
      | ((with_reducible apply wc_region); (· (rfl)))
      | with_reducible apply wo_some
      | ((with_reducible apply wc_cond); (· (simp (disch := (first | assumption | omega)) only [ev, Option.some.injEq, v4] <;> rfl)); all_goals (intro hg; (try (try simp only [Bool.not_eq_true'] at hg)); first | (exfalso; exact Bool.noConfusion hg) | (exfalso; exact hg) | skip))
      | with_reducible apply wc_skip
      | with_reducible apply wc_ret
      | ((with_reducible apply nx_c (fun i => Nat.beq i 0 || Nat.beq i 2 || Nat.beq i 4)); intro e he; have w0 := he 0 rfl; have w2 := he 2 rfl; have w4 := he 4 rfl; (try simp only [T.get_put, Nat.reduceEqDiff, reduceIte, v0, v2, v4] at w0 w2 w4); clear he v0 v2 v4; have v0 := w0; have v2 := w2; have v4 := w4; clear w0 w2 w4)
      | ((with_reducible apply wo_load1z H); (· ((with_reducible repeat' first | exact mem_h _ _ | apply mem_t); done)); (· (rfl)); (· ((first | rfl | assumption))))
      | ((first | with_reducible apply wv_ret | with_reducible apply wv_end); (· ((repeat' (first | with_reducible exact rs_nil | ((with_reducible apply rs_tmp); (· (simp (disch := (first | assumption | omega)) only [Option.some.injEq, v2] <;> rfl))) | ((with_reducible apply rs_cell); (· (simp (disch := (first | assumption | omega)) only [ev, T.get_put, Nat.reduceEqDiff, reduceIte, Option.some.injEq, dec_t, dec_f, Bool.not_true, Bool.not_false, v0, v2, v4] <;> rfl)); (· (kernel_rfl)); (· (rfl)); (· (exact H.ld1 (by (with_reducible repeat' first | exact mem_h _ _ | apply mem_t); done) rfl))) | ((with_reducible apply rs_celln); (· (simp (disch := (first | assumption | omega)) only [ev, T.get_put, Nat.reduceEqDiff, reduceIte, Option.some.injEq, dec_t, dec_f, Bool.not_true, Bool.not_false, v0, v2, v4] <;> rfl)); (· (kernel_rfl)); (· (rfl)); (· (exact H.ldn (by (with_reducible repeat' first | exact mem_h _ _ | apply mem_t); done) rfl rfl))))); done)))
      | simp (disch := (first | assumption | omega)) only [eq_self, opsA_cons, opsA_nil, wantedA, stepA_t, callA, runOp_n, opA, ev, afterA_s, putA, T.get_put, Nat.reduceEqDiff, reduceIte, List.getElem?_toArray, List.getElem?_cons_zero, List.getElem?_cons_succ, oBin, binA, binG, binL, aggO, cond_true, blt_eq, I, fieldAddrA, oFieldAddr, Nat.zero_add, Nat.reduceLT, ty3, ti3, ty25, ti25, ty75, ti75, withH_s, eqA, eqD, eqOp, nckp, dec_t, id_eq, Nat.zero_add, v0])

    all_goals (first | exact ⟨congrArg I (by rw [GT.cnt_nd]; omega), rfl⟩ | exact ⟨congrArg I (by rw [GT.cnt_nd]; omega), trivial⟩ | trace_state)
set_option maxHeartbeats 4000000 in
theorem c52 {n : Nat} (hn : 1 ≤ n) {b : Hp} {g : GT} (pg : g.ok b) : Wv (runA ctx 5000 n 52 [g.val] b) (fun r h' => r = I (g.hgt : Int) ∧ h' = b) := by
  obtain ⟨k, rfl⟩ : ∃ k, n = k + 1 := ⟨n - 1, by omega⟩
  have H := (Hs.start b).z0 (z := tre g) pg
  cases g with
  | nil =>
    replace H : Hs [] b b [] [tre .nil] := H
    refine wv_run fn52 rfl ?_
    have a0 : (enterEnv [GT.nil.val] Try.f52.ntmps).get 0 = some (GT.nil.val) := enter_get1 _ _ _
    generalize enterEnv [GT.nil.val] Try.f52.ntmps = e at a0 ⊢
    unfold Try.f52
    dsimp only
    ((with_reducible apply wc_c (fun i => Nat.beq i 0 || Nat.beq i 2 || Nat.beq i 4)); intro e he; have w9 := he 0 rfl; (try simp only [a0] at w9); have v0 := w9; clear w9; have w9 := he 2 rfl; (try simp only [T.get_put, Nat.reduceEqDiff, reduceIte] at w9); have v2 := w9; clear w9; have w9 := he 4 rfl; (try simp only [T.get_put, Nat.reduceEqDiff, reduceIte] at w9); have v4 := w9; clear w9; clear he)
    simp only [GT.val_nil] at *
    repeat' (first
      | with_reducible apply wc_seq
      | ((with_reducible apply wc_region); (· (rfl)))
      | with_reducible apply wo_some
      | ((with_reducible apply wc_cond); (· (simp (disch := (first | assumption | omega)) only [ev, Option.some.injEq, v4] <;> rfl)); all_goals (intro hg; (try (try simp only [Bool.not_eq_true'] at hg)); first | (exfalso; exact Bool.noConfusion hg) | (exfalso; exact hg) | skip))
      | with_reducible apply wc_ret
      | with_reducible apply nx_r
      | ((with_reducible apply nx_c (fun i => Nat.beq i 0 || Nat.beq i 2 || Nat.beq i 4)); intro e he; have w0 := he 0 rfl; have w2 := he 2 rfl; have w4 := he 4 rfl; (try simp only [T.get_put, Nat.reduceEqDiff, reduceIte, v0, v2, v4] at w0 w2 w4); clear he v0 v2 v4; have v0 := w0; have v2 := w2; have v4 := w4; clear w0 w2 w4)
      | ((first | with_reducible apply wv_ret | with_reducible apply wv_end); (· ((repeat' (first | with_reducible exact rs_nil | ((with_reducible apply rs_tmp); (· (simp (disch := (first | assumption | omega)) only [Option.some.injEq, v2] <;> rfl))) | ((with_reducible apply rs_cell); (· (simp (disch := (first | assumption | omega)) only [ev, T.get_put, Nat.reduceEqDiff, reduceIte, Option.some.injEq, dec_t, dec_f, Bool.not_true, Bool.not_false, v0, v2, v4] <;> rfl)); (· (kernel_rfl)); (· (rfl)); (· (exact H.ld1 (by (with_reducible repeat' first | exact mem_h _ _ | apply mem_t); done) rfl))) | ((with_reducible apply rs_celln); (· (simp (disch := (first | assumption | omega)) only [ev, T.get_put, Nat.reduceEqDiff, reduceIte, Option.some.injEq, dec_t, dec_f, Bool.not_true, Bool.not_false, v0, v2, v4] <;> rfl)); (· (kernel_rfl)); (· (rfl)); (· (exact H.ldn (by (with_reducible repeat' first | exact mem_h _ _ | apply mem_t); done) rfl rfl))))); done)))
      | simp (disch := (first | assumption | omega)) only [eq_self, opsA_cons, opsA_nil, wantedA, stepA_t, callA, runOp_n, opA, ev, afterA_s, putA, T.get_put, reduceIte, oBin, binA, binG, binL, aggO, litA, I, ty25, ti25, withH_s, eqA, eqD, eqOp, v0])

    all_goals (first | exact ⟨rfl, rfl⟩ | exact ⟨rfl, trivial⟩ | trace_state)
  | nd m l s r =>
    replace H := H.topen (.head _)
    refine wv_run fn52 rfl ?_
    have a0 : (enterEnv [(GT.nd m l s r).val] Try.f52.ntmps).get 0 = some ((GT.nd m l s r).val) := enter_get1 _ _ _
    generalize enterEnv [(GT.nd m l s r).val] Try.f52.ntmps = e at a0 ⊢
    unfold Try.f52
    dsimp only
    ((with_reducible apply wc_c (fun i => Nat.beq i 0 || Nat.beq i 2 || Nat.beq i 4)); intro e he; have w9 := he 0 rfl; (try simp only [a0] at w9); have v0 := w9; clear w9; have w9 := he 2 rfl; (try simp only [T.get_put, Nat.reduceEqDiff, reduceIte] at w9); have v2 := w9; clear w9; have w9 := he 4 rfl; (try simp only [T.get_put, Nat.reduceEqDiff, reduceIte] at w9); have v4 := w9; clear w9; clear he)
    simp only [GT.val_nd] at *
    repeat' (first
      | with_reducible apply wc_seq
      | ((with_reducible apply wc_region); (· (rfl)))
      | with_reducible apply wo_some
      | ((with_reducible apply wc_cond); (· (simp (disch := (first | assumption | omega)) only [ev, Option.some.injEq, v4] <;> rfl)); all_goals (intro hg; (try (try simp only [Bool.not_eq_true'] at hg)); first | (exfalso; exact Bool.noConfusion hg) | (exfalso; exact hg) | skip))
      | with_reducible apply wc_skip
      | with_reducible apply wc_ret
      | ((with_reducible apply nx_c (fun i => Nat.beq i 0 || Nat.beq i 2 || Nat.beq i 4)); intro e he; have w0 := he 0 rfl; have w2 := he 2 rfl; have w4 := he 4 rfl; (try simp only [T.get_put, Nat.reduceEqDiff, reduceIte, v0, v2, v4] at w0 w2 w4); clear he v0 v2 v4; have v0 := w0; have v2 := w2; have v4 := w4; clear w0 w2 w4)
      | ((with_reducible apply wo_load1z H); (· ((with_reducible repeat' first | exact mem_h _ _ | apply mem_t); done)); (· (rfl)); (· ((first | rfl | assumption))))
      | ((first | with_reducible apply wv_ret | with_reducible apply wv_end); (· ((repeat' (first | with_reducible exact rs_nil | ((with_reducible apply rs_tmp); (· (simp (disch := (first | assumption | omega)) only [Option.some.injEq, v2] <;> rfl))) | ((with_reducible apply rs_cell); (· (simp (disch := (first | assumption | omega)) only [ev, T.get_put, Nat.reduceEqDiff, reduceIte, Option.some.injEq, dec_t, dec_f, Bool.not_true, Bool.not_false, v0, v2, v4] <;> rfl)); (· (kernel_rfl)); (· (rfl)); (· (exact H.ld1 (by (with_reducible repeat' first | exact mem_h _ _ | apply mem_t); done) rfl))) | ((with_reducible apply rs_celln); (· (simp (disch := (first | assumption | omega)) only [ev, T.get_put, Nat.reduceEqDiff, reduceIte, Option.some.injEq, dec_t, dec_f, Bool.not_true, Bool.not_false, v0, v2, v4] <;> rfl)); (· (kernel_rfl)); (· (rfl)); (· (exact H.ldn (by (with_reducible repeat' first | exact mem_h _ _ | apply mem_t); done) rfl rfl))))); done)))
      | simp (disch := (first | assumption | omega)) only [eq_self, opsA_cons, opsA_nil, wantedA, stepA_t, callA, runOp_n, opA, ev, afterA_s, putA, T.get_put, Nat.reduceEqDiff, reduceIte, List.getElem?_toArray, List.getElem?_cons_zero, List.getElem?_cons_succ, oBin, binA, binG, binL, aggO, cond_true, blt_eq, I, fieldAddrA, oFieldAddr, Nat.zero_add, Nat.reduceLT, ty3, ti3, ty25, ti25, ty75, ti75, withH_s, eqA, eqD, eqOp, nckp, dec_t, id_eq, Nat.zero_add, v0])

    all_goals (first | exact ⟨congrArg I (by rw [GT.hgt_nd]; split <;> omega), rfl⟩ | exact ⟨congrArg I (by rw [GT.hgt_nd]; split <;> omega), trivial⟩ | trace_state)
set_option maxHeartbeats 4000000 in
theorem c44 {n : Nat} (hn : 1 ≤ n) {b : Hp} {g : GT} (pg : g.ok b) : Wv (runA ctx 5000 n 44 [g.val] b) (fun r h' => r = I g.sm ∧ h' = b) := by
  obtain ⟨k, rfl⟩ : ∃ k, n = k + 1 := ⟨n - 1, by omega⟩
  have H := (Hs.start b).z0 (z := tre g) pg
  cases g with
  | nil =>
    replace H : Hs [] b b [] [tre .nil] := H
    refine wv_run fn44 rfl ?_
    have a0 : (enterEnv [GT.nil.val] Try.f44.ntmps).get 0 = some (GT.nil.val) := enter_get1 _ _ _
    generalize enterEnv [GT.nil.val] Try.f44.ntmps = e at a0 ⊢
    unfold Try.f44
    dsimp only
    ((with_reducible apply wc_c (fun i => Nat.beq i 0 || Nat.beq i 2 || Nat.beq i 4)); intro e he; have w9 := he 0 rfl; (try simp only [a0] at w9); have v0 := w9; clear w9; have w9 := he 2 rfl; (try simp only [T.get_put, Nat.reduceEqDiff, reduceIte] at w9); have v2 := w9; clear w9; have w9 := he 4 rfl; (try simp only [T.get_put, Nat.reduceEqDiff, reduceIte] at w9); have v4 := w9; clear w9; clear he)
    simp only [GT.val_nil] at *
    repeat' (first
      | with_reducible apply wc_seq
      | ((with_reducible apply wc_region); (· (rfl)))
      | with_reducible apply wo_some
      | ((with_reducible apply wc_cond); (· (simp (disch := (first | assumption | omega)) only [ev, Option.some.injEq, v4] <;> rfl)); all_goals (intro hg; (try (try simp only [Bool.not_eq_true'] at hg)); first | (exfalso; exact Bool.noConfusion hg) | (exfalso; exact hg) | skip))
      | with_reducible apply wc_ret
      | with_reducible apply nx_r
      | ((with_reducible apply nx_c (fun i => Nat.beq i 0 || Nat.beq i 2 || Nat.beq i 4)); intro e he; have w0 := he 0 rfl; have w2 := he 2 rfl; have w4 := he 4 rfl; (try simp only [T.get_put, Nat.reduceEqDiff, reduceIte, v0, v2, v4] at w0 w2 w4); clear he v0 v2 v4; have v0 := w0; have v2 := w2; have v4 := w4; clear w0 w2 w4)
      | ((first | with_reducible apply wv_ret | with_reducible apply wv_end); (· ((repeat' (first | with_reducible exact rs_nil | ((with_reducible apply rs_tmp); (· (simp (disch := (first | assumption | omega)) only [Option.some.injEq, v2] <;> rfl))) | ((with_reducible apply rs_cell); (· (simp (disch := (first | assumption | omega)) only [ev, T.get_put, Nat.reduceEqDiff, reduceIte, Option.some.injEq, dec_t, dec_f, Bool.not_true, Bool.not_false, v0, v2, v4] <;> rfl)); (· (kernel_rfl)); (· (rfl)); (· (exact H.ld1 (by (with_reducible repeat' first | exact mem_h _ _ | apply mem_t); done) rfl))) | ((with_reducible apply rs_celln); (· (simp (disch := (first | assumption | omega)) only [ev, T.get_put, Nat.reduceEqDiff, reduceIte, Option.some.injEq, dec_t, dec_f, Bool.not_true, Bool.not_false, v0, v2, v4] <;> rfl)); (· (kernel_rfl)); (· (rfl)); (· (exact H.ldn (by (with_reducible repeat' first | exact mem_h _ _ | apply mem_t); done) rfl rfl))))); done)))
      | simp (disch := (first | assumption | omega)) only [eq_self, opsA_cons, opsA_nil, wantedA, stepA_t, callA, runOp_n, opA, ev, afterA_s, putA, T.get_put, reduceIte, oBin, binA, binG, binL, aggO, litA, I, ty25, ti25, withH_s, eqA, eqD, eqOp, v0])

    all_goals (first | exact ⟨rfl, rfl⟩ | exact ⟨rfl, trivial⟩ | trace_state)
  | nd m l s r =>
    replace H := H.topen (.head _)
    refine wv_run fn44 rfl ?_
    have a0 : (enterEnv [(GT.nd m l s r).val] Try.f44.ntmps).get 0 = some ((GT.nd m l s r).val) := enter_get1 _ _ _
    generalize enterEnv [(GT.nd m l s r).val] Try.f44.ntmps = e at a0 ⊢
    unfold Try.f44
    dsimp only
    ((with_reducible apply wc_c (fun i => Nat.beq i 0 || Nat.beq i 2 || Nat.beq i 4)); intro e he; have w9 := he 0 rfl; (try simp only [a0] at w9); have v0 := w9; clear w9; have w9 := he 2 rfl; (try simp only [T.get_put, Nat.reduceEqDiff, reduceIte] at w9); have v2 := w9; clear w9; have w9 := he 4 rfl; (try simp only [T.get_put, Nat.reduceEqDiff, reduceIte] at w9); have v4 := w9; clear w9; clear he)
    simp only [GT.val_nd] at *
    repeat' (first
      | with_reducible apply wc_seq
      | ((with_reducible apply wc_region); (· (rfl)))
      | with_reducible apply wo_some
      | ((with_reducible apply wc_cond); (· (simp (disch := (first | assumption | omega)) only [ev, Option.some.injEq, v4] <;> rfl)); all_goals (intro hg; (try (try simp only [Bool.not_eq_true'] at hg)); first | (exfalso; exact Bool.noConfusion hg) | (exfalso; exact hg) | skip))
      | with_reducible apply wc_skip
      | with_reducible apply wc_ret
      | ((with_reducible apply nx_c (fun i => Nat.beq i 0 || Nat.beq i 2 || Nat.beq i 4)); intro e he; have w0 := he 0 rfl; have w2 := he 2 rfl; have w4 := he 4 rfl; (try simp only [T.get_put, Nat.reduceEqDiff, reduceIte, v0, v2, v4] at w0 w2 w4); clear he v0 v2 v4; have v0 := w0; have v2 := w2; have v4 := w4; clear w0 w2 w4)
      | ((with_reducible apply wo_load1z H); (· ((with_reducible repeat' first | exact mem_h _ _ | apply mem_t); done)); (· (rfl)); (· ((first | rfl | assumption))))
      | ((first | with_reducible apply wv_ret | with_reducible apply wv_end); (· ((repeat' (first | with_reducible exact rs_nil | ((with_reducible apply rs_tmp); (· (simp (disch := (first | assumption | omega)) only [Option.some.injEq, v2] <;> rfl))) | ((with_reducible apply rs_cell); (· (simp (disch := (first | assumption | omega)) only [ev, T.get_put, Nat.reduceEqDiff, reduceIte, Option.some.injEq, dec_t, dec_f, Bool.not_true, Bool.not_false, v0, v2, v4] <;> rfl)); (· (kernel_rfl)); (· (rfl)); (· (exact H.ld1 (by (with_reducible repeat' first | exact mem_h _ _ | apply mem_t); done) rfl))) | ((with_reducible apply rs_celln); (· (simp (disch := (first | assumption | omega)) only [ev, T.get_put, Nat.reduceEqDiff, reduceIte, Option.some.injEq, dec_t, dec_f, Bool.not_true, Bool.not_false, v0, v2, v4] <;> rfl)); (· (kernel_rfl)); (· (rfl)); (· (exact H.ldn (by (with_reducible repeat' first | exact mem_h _ _ | apply mem_t); done) rfl rfl))))); done)))
      | simp (disch := (first | assumption | omega)) only [eq_self, opsA_cons, opsA_nil, wantedA, stepA_t, callA, runOp_n, opA, ev, afterA_s, putA, T.get_put, Nat.reduceEqDiff, reduceIte, List.getElem?_toArray, List.getElem?_cons_zero, List.getElem?_cons_succ, oBin, binA, binG, binL, aggO, cond_true, blt_eq, I, fieldAddrA, oFieldAddr, Nat.zero_add, Nat.reduceLT, ty2, ti2, ty25, ti25, ty75, ti75, withH_s, eqA, eqD, eqOp, nckp, dec_t, id_eq, Nat.zero_add, v0])

    all_goals (first | exact ⟨congrArg I (by rw [GT.sm_nd]), rfl⟩ | exact ⟨congrArg I (by rw [GT.sm_nd]), trivial⟩ | trace_state)


theorem nd_names {b : Hp} {m : Nat} {l r : GT} {s : Int} (h : b.c ≤ m) : ∀ n, n ∈ (GT.nd m l s r).names → n ∈ l.names ++ r.names ∨ b.c ≤ n := by
  intro n hn
  rcases List.mem_cons.1 hn with rfl | hn
  · exact .inr h
  · exact .inl hn
set_option maxHeartbeats 4000000 in
theorem c53 {n : Nat} (hn : 2 ≤ n) {b : Hp} {l r : GT} {s : Int} (pl : l.ok b) (pr : r.ok b) (gd : GT.Good (l.lst ++ s :: r.lst)) : Wv (runA ctx 5000 n 53 [l.val, I s, r.val] b) (fun x h' => RT b h' x (l.names ++ r.names) (fun g => ∃ m, g = .nd m l s r)) := by
  obtain ⟨k, rfl⟩ : ∃ k, n = k + 1 := ⟨n - 1, by omega⟩
  have g3 := gd.three
  have hl := GT.hgt_le l
  have hr := GT.hgt_le r
  have hm : 0 ≤ (if (l.hgt : Int) < (r.hgt : Int) then (r.hgt : Int) else (l.hgt : Int)) ∧ (if (l.hgt : Int) < (r.hgt : Int) then (r.hgt : Int) else (l.hgt : Int)) ≤ 4096 := by split <;> omega
  have H := ((Hs.start b).z0 (z := tre r) pr).z0 (z := tre l) pl
  refine wv_run fn53 rfl ?_
  have a0 : (enterEnv [l.val, I s, r.val] Try.f53.ntmps).get 0 = some (l.val) := enter_get1 _ _ _
  have a1 : (enterEnv [l.val, I s, r.val] Try.f53.ntmps).get 1 = some (I s) := enter_get2 _ _ _ _
  have a2 : (enterEnv [l.val, I s, r.val] Try.f53.ntmps).get 2 = some (r.val) := enter_get3 _ _ _ _ _
  generalize enterEnv [l.val, I s, r.val] Try.f53.ntmps = e at a0 a1 a2 ⊢
  unfold Try.f53
  dsimp only
  ((with_reducible apply wc_c (fun i => Nat.beq i 0 || Nat.beq i 1 || Nat.beq i 2 || Nat.beq i 6)); intro e he; have w9 := he 0 rfl; (try simp only [a0] at w9); have v0 := w9; clear w9; have w9 := he 1 rfl; (try simp only [a1] at w9); have v1 := w9; clear w9; have w9 := he 2 rfl; (try simp only [a2] at w9); have v2 := w9; clear w9; have w9 := he 6 rfl; (try simp only [T.get_put, Nat.reduceEqDiff, reduceIte] at w9); have v6 := w9; clear w9; clear he)
  repeat' (first
    | with_reducible apply wc_seq
    | ((with_reducible apply wc_region); (· (rfl)))
    | with_reducible apply wo_some
    | with_reducible apply wc_ret
    | (simp only [cells_agg] at H)
    | ((with_reducible apply nx_c (fun i => Nat.beq i 0 || Nat.beq i 1 || Nat.beq i 2 || Nat.beq i 6)); intro e he; have w0 := he 0 rfl; have w1 := he 1 rfl; have w2 := he 2 rfl; have w6 := he 6 rfl; (try simp only [T.get_put, Nat.reduceEqDiff, reduceIte, v0, v1, v2, v6] at w0 w1 w2 w6); clear he v0 v1 v2 v6; have v0 := w0; have v1 := w1; have v2 := w2; have v6 := w6; clear w0 w1 w2 w6)
    | (((with_reducible apply wo_call); (· ((with_reducible apply c42); (· (omega)); (· (exact H.tok (by (with_reducible repeat' first | exact mem_h _ _ | apply mem_t); done))))); rintro _ h ⟨rfl, rfl⟩))
    | (((with_reducible apply wo_call); (· ((with_reducible apply c52); (· (omega)); (· (exact H.tok (by (with_reducible repeat' first | exact mem_h _ _ | apply mem_t); done))))); rintro _ h ⟨rfl, rfl⟩))
    | (((with_reducible apply wo_call); (· ((with_reducible apply c44); (· (omega)); (· (exact H.tok (by (with_reducible repeat' first | exact mem_h _ _ | apply mem_t); done))))); rintro _ h ⟨rfl, rfl⟩))
    | ((with_reducible apply wo_box H); clear H; intro n h H0n H)
    | ((with_reducible apply wo_build); (· (exact ty75)); (· (rfl)); (· ((first | rfl | (simp only [fillA_nil, fillA_cons, cells_int, GT.cells_val]; rfl)))))
    | ((first | with_reducible apply wv_ret | with_reducible apply wv_end); (· ((repeat' (first | with_reducible exact rs_nil | ((with_reducible apply rs_tmp); (· (simp (disch := (first | assumption | omega)) only [Option.some.injEq, v6] <;> rfl))) | ((with_reducible apply rs_cell); (· (simp (disch := (first | assumption | omega)) only [ev, T.get_put, Nat.reduceEqDiff, reduceIte, Option.some.injEq, dec_t, dec_f, Bool.not_true, Bool.not_false, v0, v1, v2, v6, GT.cells_val] <;> rfl)); (· (kernel_rfl)); (· (rfl)); (· (exact H.ld1 (by (with_reducible repeat' first | exact mem_h _ _ | apply mem_t); done) rfl))) | ((with_reducible apply rs_celln); (· (simp (disch := (first | assumption | omega)) only [ev, T.get_put, Nat.reduceEqDiff, reduceIte, Option.some.injEq, dec_t, dec_f, Bool.not_true, Bool.not_false, v0, v1, v2, v6, GT.cells_val] <;> rfl)); (· (kernel_rfl)); (· (rfl)); (· (exact H.ldn (by (with_reducible repeat' first | exact mem_h _ _ | apply mem_t); done) rfl rfl))))); done)))
    | simp (disch := (first | assumption | omega)) only [eq_self, opsA_cons, opsA_nil, wantedA, stepA_t, callA, calleeA, targetA, runOp_c, runOp_n, opA, ev, evs, consO, consOO, afterA_s, putA, T.get_put, Nat.reduceEqDiff, reduceIte, oBuiltin, oBin, binA, binG, binL, aggO, litA, I, ti75, ii_add, bi_max, List.getElem_toArray, List.getElem_cons_zero, List.getElem_cons_succ, withH_s, oBuild, evParts, consP, wrap_ok, putAt_z, putAt_s, over_nil, over_cons, litCells_cons, litCells_nil, cells_lagg, v0, v1, v2])

  all_goals (first | exact ⟨.nd _ l s r, rfl, ⟨H.p (a := blk id _ [_, _, _, _, _, _]) (by (with_reducible repeat' first | exact mem_h _ _ | apply mem_t); done), H.tok (by (with_reducible repeat' first | exact mem_h _ _ | apply mem_t); done), H.tok (by (with_reducible repeat' first | exact mem_h _ _ | apply mem_t); done)⟩, H.toExt, nd_names (by assumption), _, rfl⟩ | trace_state)


theorem av_ag1 (g : GT) : avB 4 (.agg [g.val]) (.agg [g.val]) = true := by
  show (avB 3 g.val g.val && true) = true
  rw [GT.av_val]
  rfl
theorem av_int (k : IntKind) (x : Int) : avB 4 (.lit (.int k x)) (.lit (.int k x)) = true := by
  show litB (.int k x) (.int k x) = true
  simp [litB]
theorem rdc {h : Hp} {n : Nat} {v : AV} (b : Blks id h n [v]) : oLoad h (some ti25) (some (.ptr n 0)) = some (v, h) ∧ oLoad h (some ti2) (some (.ptr n 0)) = some (v, h) := ⟨oload1 rfl (ld1 (f := id) b rfl), oload1 rfl (ld1 (f := id) b rfl)⟩
set_option maxHeartbeats 4000000 in
theorem c62 {n : Nat} (hn : 3 ≤ n) {b : Hp} {p3 p4 p5 : Nat} {l : GT} {r : GT} {s : Int} (q3 : Blks id b p3 [l.val]) (q4 : Blks id b p4 [I s]) (q5 : Blks id b p5 [r.val]) (pl : l.ok b) (pr : r.ok b) (gd : GT.Good (l.lst ++ s :: r.lst)) : Wv (runA ctx 5000 n 62 [.ptr p3 0, .ptr p4 0, .ptr p5 0] b) (fun x h' => RT b h' x (l.names ++ r.names) (fun g => ∃ m, g = .nd m l s r)) := by
  obtain ⟨k, rfl⟩ : ∃ k, n = k + 1 := ⟨n - 1, by omega⟩
  have H := (((((Hs.start b).z0 (z := blk id p3 [l.val]) q3).z0 (z := blk id p4 [I s]) q4).z0 (z := blk id p5 [r.val]) q5).z0 (z := tre r) pr).z0 (z := tre l) pl
  have Q := (And.intro (rdc (H.pz (a := blk id p3 [_]) (by (with_reducible repeat' first | exact mem_h _ _ | apply mem_t); done))) (And.intro (rdc (H.pz (a := blk id p4 [_]) (by (with_reducible repeat' first | exact mem_h _ _ | apply mem_t); done))) (rdc (H.pz (a := blk id p5 [_]) (by (with_reducible repeat' first | exact mem_h _ _ | apply mem_t); done)))))
  simp only [ti2, ti25] at Q
  refine wv_run fn62 rfl ?_
  have a0 : (enterEnv [.ptr p3 0, .ptr p4 0, .ptr p5 0] Try.f62.ntmps).get 0 = some (.ptr p3 0) := enter_get1 _ _ _
  have a1 : (enterEnv [.ptr p3 0, .ptr p4 0, .ptr p5 0] Try.f62.ntmps).get 1 = some (.ptr p4 0) := enter_get2 _ _ _ _
  have a2 : (enterEnv [.ptr p3 0, .ptr p4 0, .ptr p5 0] Try.f62.ntmps).get 2 = some (.ptr p5 0) := enter_get3 _ _ _ _ _
  generalize enterEnv [.ptr p3 0, .ptr p4 0, .ptr p5 0] Try.f62.ntmps = e at a0 a1 a2 ⊢
  unfold Try.f62
  dsimp only
  ((with_reducible apply wc_c (fun i => Nat.beq i 0 || Nat.beq i 1 || Nat.beq i 2 || Nat.beq i 3)); intro e he; have w9 := he 0 rfl; (try simp only [a0] at w9); have v0 := w9; clear w9; have w9 := he 1 rfl; (try simp only [a1] at w9); have v1 := w9; clear w9; have w9 := he 2 rfl; (try simp only [a2] at w9); have v2 := w9; clear w9; have w9 := he 3 rfl; (try simp only [T.get_put, Nat.reduceEqDiff, reduceIte] at w9); have v3 := w9; clear w9; clear he)
  repeat' (first
    | with_reducible apply wc_seq
    | ((with_reducible apply wc_region); (· (rfl)))
    | with_reducible apply wo_some
    | with_reducible apply wc_ret
    | ((with_reducible apply nx_c (fun i => Nat.beq i 0 || Nat.beq i 1 || Nat.beq i 2 || Nat.beq i 3)); intro e he; have w0 := he 0 rfl; have w1 := he 1 rfl; have w2 := he 2 rfl; have w3 := he 3 rfl; (try simp only [T.get_put, Nat.reduceEqDiff, reduceIte, v0, v1, v2, v3] at w0 w1 w2 w3); clear he v0 v1 v2 v3; have v0 := w0; have v1 := w1; have v2 := w2; have v3 := w3; clear w0 w1 w2 w3)
    | ((fail_if_success have := ng1); ((with_reducible apply wo_call); (· ((with_reducible apply c53); (· (omega)); (· (exact H.tok (by (with_reducible repeat' first | exact mem_h _ _ | apply mem_t); done))); (· (exact H.tok (by (with_reducible repeat' first | exact mem_h _ _ | apply mem_t); done))); (· ((first | exact gd | exact gq1 | exact gq2 | exact gq2 _ | exact gq3 _ _))))); rintro _ h ⟨_, rfl, pg1, xg1, ng1, m1, rfl⟩; have fc := H.fr.c; replace H := H.tnew xg1 pg1 ng1 (src2t (by (with_reducible repeat' first | exact mem_h _ _ | apply mem_t); done) (by (with_reducible repeat' first | exact mem_h _ _ | apply mem_t); done)); replace ng1 := fun n hn => (ng1 n hn).imp id (Nat.le_trans fc); clear xg1 fc; replace Q := And.intro Q (And.intro (rdc (H.pz (a := blk id p3 [_]) (by (with_reducible repeat' first | exact mem_h _ _ | apply mem_t); done))) (And.intro (rdc (H.pz (a := blk id p4 [_]) (by (with_reducible repeat' first | exact mem_h _ _ | apply mem_t); done))) (rdc (H.pz (a := blk id p5 [_]) (by (with_reducible repeat' first | exact mem_h _ _ | apply mem_t); done))))); simp only [ti2, ti25] at Q))
    | ((first | with_reducible apply wv_ret | with_reducible apply wv_end); (· ((repeat' (first | with_reducible exact rs_nil | ((with_reducible apply rs_tmp); (· (simp (disch := (first | assumption | omega)) only [Option.some.injEq, v3] <;> rfl))) | ((with_reducible apply rs_cell); (· (simp (disch := (first | assumption | omega)) only [ev, T.get_put, Nat.reduceEqDiff, reduceIte, Option.some.injEq, dec_t, dec_f, Bool.not_true, Bool.not_false, v0, v1, v2, v3, Q] <;> rfl)); (· (kernel_rfl)); (· (rfl)); (· (exact H.ld1 (by (with_reducible repeat' first | exact mem_h _ _ | apply mem_t); done) rfl))) | ((with_reducible apply rs_celln); (· (simp (disch := (first | assumption | omega)) only [ev, T.get_put, Nat.reduceEqDiff, reduceIte, Option.some.injEq, dec_t, dec_f, Bool.not_true, Bool.not_false, v0, v1, v2, v3, Q] <;> rfl)); (· (kernel_rfl)); (· (rfl)); (· (exact H.ldn (by (with_reducible repeat' first | exact mem_h _ _ | apply mem_t); done) rfl rfl))))); done)))
    | simp (disch := (first | assumption | omega)) only [eq_self, opsA_cons, opsA_nil, wantedA, stepA_t, callA, calleeA, targetA, runOp_c, runOp_n, opA, ev, evs, consO, consOO, afterA_s, putA, T.get_put, Nat.reduceEqDiff, reduceIte, I, ty2, ti2, ty25, ti25, withH_s, v0, v1, v2, Q])

  all_goals (first | exact ⟨_, rfl, H.tok (.head _), H.toExt, by (intro n hn; simp only [GT.names, List.mem_append, List.mem_cons] at *; grind), by first | exact ⟨_, rfl⟩ | exact ⟨_, _, rfl⟩ | exact ⟨_, _, _, rfl⟩⟩ | trace_state)
set_option maxHeartbeats 4000000 in
theorem c63 {n : Nat} (hn : 3 ≤ n) {b : Hp} {p3 p4 p5 : Nat} {r : GT} {ll lr : GT} {n1 : Nat} {ls : Int} {s : Int} (q3 : Blks id b p3 [(GT.nd n1 ll ls lr).val]) (q4 : Blks id b p4 [I s]) (q5 : Blks id b p5 [r.val]) (pl : GT.ok b (.nd n1 ll ls lr)) (pr : r.ok b) (gd : GT.Good ((GT.nd n1 ll ls lr).lst ++ s :: r.lst)) : Wv (runA ctx 5000 n 63 [.ptr p3 0, .ptr p4 0, .ptr p5 0] b) (fun x h' => RT b h' x ((GT.nd n1 ll ls lr).names ++ r.names) (fun g => ∃ m m2, g = .nd m ll ls (.nd m2 lr s r))) := by
  obtain ⟨k, rfl⟩ : ∃ k, n = k + 1 := ⟨n - 1, by omega⟩
  have gq1 : GT.Good (lr.lst ++ s :: r.lst) := GT.Good.right (a := ll.lst ++ [ls]) (by simpa only [GT.lst, List.append_assoc, List.cons_append, List.nil_append] using gd)
  have gq2 : ∀ m, GT.Good (ll.lst ++ ls :: (GT.nd m lr s r).lst) := fun m => (by simpa only [GT.lst, List.append_assoc, List.cons_append, List.nil_append] using gd)
  have H := (((((Hs.start b).z0 (z := blk id p3 [(GT.nd n1 ll ls lr).val]) q3).z0 (z := blk id p4 [I s]) q4).z0 (z := blk id p5 [r.val]) q5).z0 (z := tre r) pr).z0 (z := tre (.nd n1 ll ls lr)) pl
  replace H := H.topen (.head _)
  have Q := (And.intro (rdc (H.pz (a := blk id p3 [_]) (by (with_reducible repeat' first | exact mem_h _ _ | apply mem_t); done))) (And.intro (rdc (H.pz (a := blk id p4 [_]) (by (with_reducible repeat' first | exact mem_h _ _ | apply mem_t); done))) (And.intro (rdc (H.pz (a := blk id p5 [_]) (by (with_reducible repeat' first | exact mem_h _ _ | apply mem_t); done))) (rdn (H.tok (g := .nd n1 _ _ _) (by (with_reducible repeat' first | exact mem_h _ _ | apply mem_t); done))))))
  simp only [ti2, ti25] at Q
  refine wv_run fn63 rfl ?_
  have a0 : (enterEnv [.ptr p3 0, .ptr p4 0, .ptr p5 0] Try.f63.ntmps).get 0 = some (.ptr p3 0) := enter_get1 _ _ _
  have a1 : (enterEnv [.ptr p3 0, .ptr p4 0, .ptr p5 0] Try.f63.ntmps).get 1 = some (.ptr p4 0) := enter_get2 _ _ _ _
  have a2 : (enterEnv [.ptr p3 0, .ptr p4 0, .ptr p5 0] Try.f63.ntmps).get 2 = some (.ptr p5 0) := enter_get3 _ _ _ _ _
  generalize enterEnv [.ptr p3 0, .ptr p4 0, .ptr p5 0] Try.f63.ntmps = e at a0 a1 a2 ⊢
  unfold Try.f63
  dsimp only
  ((with_reducible apply wc_c (fun i => Nat.beq i 0 || Nat.beq i 1 || Nat.beq i 2 || Nat.beq i 3)); intro e he; have w9 := he 0 rfl; (try simp only [a0] at w9); have v0 := w9; clear w9; have w9 := he 1 rfl; (try simp only [a1] at w9); have v1 := w9; clear w9; have w9 := he 2 rfl; (try simp only [a2] at w9); have v2 := w9; clear w9; have w9 := he 3 rfl; (try simp only [T.get_put, Nat.reduceEqDiff, reduceIte] at w9); have v3 := w9; clear w9; clear he)
  repeat' (first
    | with_reducible apply wc_seq
    | ((with_reducible apply wc_region); (· (rfl)))
    | with_reducible apply wo_some
    | with_reducible apply wc_ret
    | ((with_reducible apply nx_c (fun i => Nat.beq i 0 || Nat.beq i 1 || Nat.beq i 2 || Nat.beq i 3)); intro e he; have w0 := he 0 rfl; have w1 := he 1 rfl; have w2 := he 2 rfl; have w3 := he 3 rfl; (try simp only [T.get_put, Nat.reduceEqDiff, reduceIte, v0, v1, v2, v3] at w0 w1 w2 w3); clear he v0 v1 v2 v3; have v0 := w0; have v1 := w1; have v2 := w2; have v3 := w3; clear w0 w1 w2 w3)
    | ((fail_if_success have := ng1); ((with_reducible apply wo_call); (· ((with_reducible apply c53); (· (omega)); (· (exact H.tok (by (with_reducible repeat' first | exact mem_h _ _ | apply mem_t); done))); (· (exact H.tok (by (with_reducible repeat' first | exact mem_h _ _ | apply mem_t); done))); (· ((first | exact gd | exact gq1 | exact gq2 | exact gq2 _ | exact gq3 _ _))))); rintro _ h ⟨_, rfl, pg1, xg1, ng1, m1, rfl⟩; have fc := H.fr.c; replace H := H.tnew xg1 pg1 ng1 (src2t (by (with_reducible repeat' first | exact mem_h _ _ | apply mem_t); done) (by (with_reducible repeat' first | exact mem_h _ _ | apply mem_t); done)); replace ng1 := fun n hn => (ng1 n hn).imp id (Nat.le_trans fc); clear xg1 fc; replace Q := And.intro Q (And.intro (rdc (H.pz (a := blk id p3 [_]) (by (with_reducible repeat' first | exact mem_h _ _ | apply mem_t); done))) (And.intro (rdc (H.pz (a := blk id p4 [_]) (by (with_reducible repeat' first | exact mem_h _ _ | apply mem_t); done))) (And.intro (rdc (H.pz (a := blk id p5 [_]) (by (with_reducible repeat' first | exact mem_h _ _ | apply mem_t); done))) (rdn (H.tok (g := .nd n1 _ _ _) (by (with_reducible repeat' first | exact mem_h _ _ | apply mem_t); done)))))); simp only [ti2, ti25] at Q))
    | ((fail_if_success have := ng2); (have := ng1); ((with_reducible apply wo_call); (· ((with_reducible apply c53); (· (omega)); (· (exact H.tok (by (with_reducible repeat' first | exact mem_h _ _ | apply mem_t); done))); (· (exact H.tok (by (with_reducible repeat' first | exact mem_h _ _ | apply mem_t); done))); (· ((first | exact gd | exact gq1 | exact gq2 | exact gq2 _ | exact gq3 _ _))))); rintro _ h ⟨_, rfl, pg2, xg2, ng2, m2, rfl⟩; have fc := H.fr.c; replace H := H.tnew xg2 pg2 ng2 (src2t (by (with_reducible repeat' first | exact mem_h _ _ | apply mem_t); done) (by (with_reducible repeat' first | exact mem_h _ _ | apply mem_t); done)); replace ng2 := fun n hn => (ng2 n hn).imp id (Nat.le_trans fc); clear xg2 fc; replace Q := And.intro Q (And.intro (rdc (H.pz (a := blk id p3 [_]) (by (with_reducible repeat' first | exact mem_h _ _ | apply mem_t); done))) (And.intro (rdc (H.pz (a := blk id p4 [_]) (by (with_reducible repeat' first | exact mem_h _ _ | apply mem_t); done))) (And.intro (rdc (H.pz (a := blk id p5 [_]) (by (with_reducible repeat' first | exact mem_h _ _ | apply mem_t); done))) (rdn (H.tok (g := .nd n1 _ _ _) (by (with_reducible repeat' first | exact mem_h _ _ | apply mem_t); done)))))); simp only [ti2, ti25] at Q))
    | (((with_reducible apply wc_dynW (id := 1) (p := (0, 15)) (ps := [(3, 15), (4, 15), (7, 15)])); (· (kernel_rfl)); skip))
    | (with_reducible apply wt_cons)
    | (((with_reducible apply wt_nil); refine And.intro ?_ (Exists.intro _ (Exists.intro _ (And.intro rfl ?_))); (· (simp (disch := (first | assumption | omega)) only [eq_self, wantedA, opA, ev, T.get_put, Nat.reduceEqDiff, reduceIte, List.getElem?_cons_zero, List.getElem?_cons_succ, Bool.and_true, I, ty2, ti2, ty25, ti25, v0, Q, checksD_nil, checksD_cons, checkD, checkG, sameR, GT.av_val, av_int]; done))))
    | ((first | with_reducible apply wv_ret | with_reducible apply wv_end); (· ((repeat' (first | with_reducible exact rs_nil | ((with_reducible apply rs_tmp); (· (simp (disch := (first | assumption | omega)) only [Option.some.injEq, v3] <;> rfl))) | ((with_reducible apply rs_cell); (· (simp (disch := (first | assumption | omega)) only [ev, T.get_put, Nat.reduceEqDiff, reduceIte, Option.some.injEq, dec_t, dec_f, Bool.not_true, Bool.not_false, v0, v1, v2, v3, Q] <;> rfl)); (· (kernel_rfl)); (· (rfl)); (· (exact H.ld1 (by (with_reducible repeat' first | exact mem_h _ _ | apply mem_t); done) rfl))) | ((with_reducible apply rs_celln); (· (simp (disch := (first | assumption | omega)) only [ev, T.get_put, Nat.reduceEqDiff, reduceIte, Option.some.injEq, dec_t, dec_f, Bool.not_true, Bool.not_false, v0, v1, v2, v3, Q] <;> rfl)); (· (kernel_rfl)); (· (rfl)); (· (exact H.ldn (by (with_reducible repeat' first | exact mem_h _ _ | apply mem_t); done) rfl rfl))))); done)))
    | simp (disch := (first | assumption | omega)) only [eq_self, opsA_cons, opsA_nil, wantedA, stepA_t, callA, calleeA, targetA, runOp_c, runOp_n, opA, ev, evs, consO, consOO, afterA_s, putA, T.get_put, Nat.reduceEqDiff, reduceIte, List.getElem?_toArray, List.getElem?_cons_zero, List.getElem?_cons_succ, cond_true, decide_true, blt_eq, I, fieldAddrA, oFieldAddr, List.length_cons, List.length_nil, Nat.reduceAdd, Nat.zero_add, Nat.add_zero, Nat.reduceLT, ty2, ti2, ty25, ti25, ty75, ti75, withH_s, nck, Nat.zero_add, Nat.add_zero, Nat.reduceAdd, v0, v1, v2, Q])

  all_goals (first | exact ⟨_, rfl, H.tok (.head _), H.toExt, by (intro n hn; simp only [GT.names, List.mem_append, List.mem_cons] at *; grind), by first | exact ⟨_, rfl⟩ | exact ⟨_, _, rfl⟩ | exact ⟨_, _, _, rfl⟩⟩ | trace_state)
set_option maxHeartbeats 4000000 in
theorem c64 {n : Nat} (hn : 3 ≤ n) {b : Hp} {p3 p4 p5 : Nat} {r : GT} {ll a c : GT} {n1 n2 : Nat} {ls t : Int} {s : Int} (q3 : Blks id b p3 [(GT.nd n1 ll ls (.nd n2 a t c)).val]) (q4 : Blks id b p4 [I s]) (q5 : Blks id b p5 [r.val]) (pl : GT.ok b (.nd n1 ll ls (.nd n2 a t c))) (pr : r.ok b) (gd : GT.Good ((GT.nd n1 ll ls (.nd n2 a t c)).lst ++ s :: r.lst)) : Wv (runA ctx 5000 n 64 [.ptr p3 0, .ptr p4 0, .ptr p5 0] b) (fun x h' => RT b h' x ((GT.nd n1 ll ls (.nd n2 a t c)).names ++ r.names) (fun g => ∃ m m2 m3, g = .nd m (.nd m2 ll ls a) t (.nd m3 c s r))) := by
  obtain ⟨k, rfl⟩ : ∃ k, n = k + 1 := ⟨n - 1, by omega⟩
  have gq1 : GT.Good (ll.lst ++ ls :: a.lst) := GT.Good.left (b := t :: (c.lst ++ s :: r.lst)) (by simpa only [GT.lst, List.append_assoc, List.cons_append, List.nil_append] using gd)
  have gq2 : GT.Good (c.lst ++ s :: r.lst) := GT.Good.right (a := ll.lst ++ ls :: (a.lst ++ [t])) (by simpa only [GT.lst, List.append_assoc, List.cons_append, List.nil_append] using gd)
  have gq3 : ∀ m m2, GT.Good ((GT.nd m ll ls a).lst ++ t :: (GT.nd m2 c s r).lst) := fun m m2 => (by simpa only [GT.lst, List.append_assoc, List.cons_append, List.nil_append] using gd)
  have H := (((((Hs.start b).z0 (z := blk id p3 [(GT.nd n1 ll ls (.nd n2 a t c)).val]) q3).z0 (z := blk id p4 [I s]) q4).z0 (z := blk id p5 [r.val]) q5).z0 (z := tre r) pr).z0 (z := tre (.nd n1 ll ls (.nd n2 a t c))) pl
  replace H := H.topen (.head _)
  replace H := H.topen (n := n2) (l := a) (s := t) (r := c) (by (with_reducible repeat' first | exact mem_h _ _ | apply mem_t); done)
  have Q := (And.intro (rdc (H.pz (a := blk id p3 [_]) (by (with_reducible repeat' first | exact mem_h _ _ | apply mem_t); done))) (And.intro (rdc (H.pz (a := blk id p4 [_]) (by (with_reducible repeat' first | exact mem_h _ _ | apply mem_t); done))) (And.intro (rdc (H.pz (a := blk id p5 [_]) (by (with_reducible repeat' first | exact mem_h _ _ | apply mem_t); done))) (And.intro (rdn (H.tok (g := .nd n1 _ _ _) (by (with_reducible repeat' first | exact mem_h _ _ | apply mem_t); done))) (rdn (H.tok (g := .nd n2 _ _ _) (by (with_reducible repeat' first | exact mem_h _ _ | apply mem_t); done)))))))
  simp only [ti2, ti25] at Q
  refine wv_run fn64 rfl ?_
  have a0 : (enterEnv [.ptr p3 0, .ptr p4 0, .ptr p5 0] Try.f64.ntmps).get 0 = some (.ptr p3 0) := enter_get1 _ _ _
  have a1 : (enterEnv [.ptr p3 0, .ptr p4 0, .ptr p5 0] Try.f64.ntmps).get 1 = some (.ptr p4 0) := enter_get2 _ _ _ _
  have a2 : (enterEnv [.ptr p3 0, .ptr p4 0, .ptr p5 0] Try.f64.ntmps).get 2 = some (.ptr p5 0) := enter_get3 _ _ _ _ _
  generalize enterEnv [.ptr p3 0, .ptr p4 0, .ptr p5 0] Try.f64.ntmps = e at a0 a1 a2 ⊢
  unfold Try.f64
  dsimp only
  ((with_reducible apply wc_c (fun i => Nat.beq i 0 || Nat.beq i 1 || Nat.beq i 2 || Nat.beq i 3 || Nat.beq i 4)); intro e he; have w9 := he 0 rfl; (try simp only [a0] at w9); have v0 := w9; clear w9; have w9 := he 1 rfl; (try simp only [a1] at w9); have v1 := w9; clear w9; have w9 := he 2 rfl; (try simp only [a2] at w9); have v2 := w9; clear w9; have w9 := he 3 rfl; (try simp only [T.get_put, Nat.reduceEqDiff, reduceIte] at w9); have v3 := w9; clear w9; have w9 := he 4 rfl; (try simp only [T.get_put, Nat.reduceEqDiff, reduceIte] at w9); have v4 := w9; clear w9; clear he)
  repeat' (first
    | with_reducible apply wc_seq
    | ((with_reducible apply wc_region); (· (rfl)))
    | with_reducible apply wo_some
    | with_reducible apply wc_ret
    | ((with_reducible apply nx_c (fun i => Nat.beq i 0 || Nat.beq i 1 || Nat.beq i 2 || Nat.beq i 3 || Nat.beq i 4)); intro e he; have w0 := he 0 rfl; have w1 := he 1 rfl; have w2 := he 2 rfl; have w3 := he 3 rfl; have w4 := he 4 rfl; (try simp only [T.get_put, Nat.reduceEqDiff, reduceIte, v0, v1, v2, v3, v4] at w0 w1 w2 w3 w4); clear he v0 v1 v2 v3 v4; have v0 := w0; have v1 := w1; have v2 := w2; have v3 := w3; have v4 := w4; clear w0 w1 w2 w3 w4)
    | ((fail_if_success have := ng1); ((with_reducible apply wo_call); (· ((with_reducible apply c53); (· (omega)); (· (exact H.tok (by (with_reducible repeat' first | exact mem_h _ _ | apply mem_t); done))); (· (exact H.tok (by (with_reducible repeat' first | exact mem_h _ _ | apply mem_t); done))); (· ((first | exact gd | exact gq1 | exact gq2 | exact gq2 _ | exact gq3 _ _))))); rintro _ h ⟨_, rfl, pg1, xg1, ng1, m1, rfl⟩; have fc := H.fr.c; replace H := H.tnew xg1 pg1 ng1 (src2t (by (with_reducible repeat' first | exact mem_h _ _ | apply mem_t); done) (by (with_reducible repeat' first | exact mem_h _ _ | apply mem_t); done)); replace ng1 := fun n hn => (ng1 n hn).imp id (Nat.le_trans fc); clear xg1 fc; replace Q := And.intro Q (And.intro (rdc (H.pz (a := blk id p3 [_]) (by (with_reducible repeat' first | exact mem_h _ _ | apply mem_t); done))) (And.intro (rdc (H.pz (a := blk id p4 [_]) (by (with_reducible repeat' first | exact mem_h _ _ | apply mem_t); done))) (And.intro (rdc (H.pz (a := blk id p5 [_]) (by (with_reducible repeat' first | exact mem_h _ _ | apply mem_t); done))) (And.intro (rdn (H.tok (g := .nd n1 _ _ _) (by (with_reducible repeat' first | exact mem_h _ _ | apply mem_t); done))) (rdn (H.tok (g := .nd n2 _ _ _) (by (with_reducible repeat' first | exact mem_h _ _ | apply mem_t); done))))))); simp only [ti2, ti25] at Q))
    | ((fail_if_success have := ng2); (have := ng1); ((with_reducible apply wo_call); (· ((with_reducible apply c53); (· (omega)); (· (exact H.tok (by (with_reducible repeat' first | exact mem_h _ _ | apply mem_t); done))); (· (exact H.tok (by (with_reducible repeat' first | exact mem_h _ _ | apply mem_t); done))); (· ((first | exact gd | exact gq1 | exact gq2 | exact gq2 _ | exact gq3 _ _))))); rintro _ h ⟨_, rfl, pg2, xg2, ng2, m2, rfl⟩; have fc := H.fr.c; replace H := H.tnew xg2 pg2 ng2 (src2t (by (with_reducible repeat' first | exact mem_h _ _ | apply mem_t); done) (by (with_reducible repeat' first | exact mem_h _ _ | apply mem_t); done)); replace ng2 := fun n hn => (ng2 n hn).imp id (Nat.le_trans fc); clear xg2 fc; replace Q := And.intro Q (And.intro (rdc (H.pz (a := blk id p3 [_]) (by (with_reducible repeat' first | exact mem_h _ _ | apply mem_t); done))) (And.intro (rdc (H.pz (a := blk id p4 [_]) (by (with_reducible repeat' first | exact mem_h _ _ | apply mem_t); done))) (And.intro (rdc (H.pz (a := blk id p5 [_]) (by (with_reducible repeat' first | exact mem_h _ _ | apply mem_t); done))) (And.intro (rdn (H.tok (g := .nd n1 _ _ _) (by (with_reducible repeat' first | exact mem_h _ _ | apply mem_t); done))) (rdn (H.tok (g := .nd n2 _ _ _) (by (with_reducible repeat' first | exact mem_h _ _ | apply mem_t); done))))))); simp only [ti2, ti25] at Q))
    | ((fail_if_success have := ng3); (have := ng2); ((with_reducible apply wo_call); (· ((with_reducible apply c53); (· (omega)); (· (exact H.tok (by (with_reducible repeat' first | exact mem_h _ _ | apply mem_t); done))); (· (exact H.tok (by (with_reducible repeat' first | exact mem_h _ _ | apply mem_t); done))); (· ((first | exact gd | exact gq1 | exact gq2 | exact gq2 _ | exact gq3 _ _))))); rintro _ h ⟨_, rfl, pg3, xg3, ng3, m3, rfl⟩; have fc := H.fr.c; replace H := H.tnew xg3 pg3 ng3 (src2t (by (with_reducible repeat' first | exact mem_h _ _ | apply mem_t); done) (by (with_reducible repeat' first | exact mem_h _ _ | apply mem_t); done)); replace ng3 := fun n hn => (ng3 n hn).imp id (Nat.le_trans fc); clear xg3 fc; replace Q := And.intro Q (And.intro (rdc (H.pz (a := blk id p3 [_]) (by (with_reducible repeat' first | exact mem_h _ _ | apply mem_t); done))) (And.intro (rdc (H.pz (a := blk id p4 [_]) (by (with_reducible repeat' first | exact mem_h _ _ | apply mem_t); done))) (And.intro (rdc (H.pz (a := blk id p5 [_]) (by (with_reducible repeat' first | exact mem_h _ _ | apply mem_t); done))) (And.intro (rdn (H.tok (g := .nd n1 _ _ _) (by (with_reducible repeat' first | exact mem_h _ _ | apply mem_t); done))) (rdn (H.tok (g := .nd n2 _ _ _) (by (with_reducible repeat' first | exact mem_h _ _ | apply mem_t); done))))))); simp only [ti2, ti25] at Q))
    | (((with_reducible apply wc_dynW (id := 2) (p := (16, 12)) (ps := [(20, 12), (21, 12), (22, 12), (16, 24)])); (· (kernel_rfl)); skip))
    | (with_reducible apply wt_cons)
    | (((with_reducible apply wt_nil); refine And.intro ?_ (Exists.intro _ (Exists.intro _ (And.intro rfl ?_))); (· (simp (disch := (first | assumption | omega)) only [eq_self, wantedA, opA, ev, T.get_put, Nat.reduceEqDiff, reduceIte, List.getElem?_cons_zero, List.getElem?_cons_succ, Bool.and_true, I, ty2, ti2, ty25, ti25, v1, v2, Q, checksD_nil, checksD_cons, checkD, checkG, sameR, GT.av_val, av_int]; done))))
    | ((first | with_reducible apply wv_ret | with_reducible apply wv_end); (· ((repeat' (first | with_reducible exact rs_nil | ((with_reducible apply rs_tmp); (· (simp (disch := (first | assumption | omega)) only [Option.some.injEq, v3] <;> rfl))) | ((with_reducible apply rs_cell); (· (simp (disch := (first | assumption | omega)) only [ev, T.get_put, Nat.reduceEqDiff, reduceIte, Option.some.injEq, dec_t, dec_f, Bool.not_true, Bool.not_false, v0, v1, v2, v3, v4, Q] <;> rfl)); (· (kernel_rfl)); (· (rfl)); (· (exact H.ld1 (by (with_reducible repeat' first | exact mem_h _ _ | apply mem_t); done) rfl))) | ((with_reducible apply rs_celln); (· (simp (disch := (first | assumption | omega)) only [ev, T.get_put, Nat.reduceEqDiff, reduceIte, Option.some.injEq, dec_t, dec_f, Bool.not_true, Bool.not_false, v0, v1, v2, v3, v4, Q] <;> rfl)); (· (kernel_rfl)); (· (rfl)); (· (exact H.ldn (by (with_reducible repeat' first | exact mem_h _ _ | apply mem_t); done) rfl rfl))))); done)))
    | simp (disch := (first | assumption | omega)) only [eq_self, opsA_cons, opsA_nil, wantedA, stepA_t, callA, calleeA, targetA, runOp_c, runOp_n, opA, ev, evs, consO, consOO, afterA_s, putA, T.get_put, Nat.reduceEqDiff, reduceIte, List.getElem?_toArray, List.getElem?_cons_zero, List.getElem?_cons_succ, cond_true, decide_true, blt_eq, I, fieldAddrA, oFieldAddr, List.length_cons, List.length_nil, Nat.reduceAdd, Nat.zero_add, Nat.add_zero, Nat.reduceLT, ty2, ti2, ty25, ti25, ty75, ti75, withH_s, nck, Nat.zero_add, Nat.add_zero, Nat.reduceAdd, v0, v1, v2, v4, Q])

  all_goals (first | exact ⟨_, rfl, H.tok (.head _), H.toExt, by (intro n hn; simp only [GT.names, List.mem_append, List.mem_cons] at *; grind), by first | exact ⟨_, rfl⟩ | exact ⟨_, _, rfl⟩ | exact ⟨_, _, _, rfl⟩⟩ | trace_state)
set_option maxHeartbeats 4000000 in
theorem c65 {n : Nat} (hn : 3 ≤ n) {b : Hp} {p3 p4 p5 : Nat} {l : GT} {rl rr : GT} {n1 : Nat} {rs : Int} {s : Int} (q3 : Blks id b p3 [l.val]) (q4 : Blks id b p4 [I s]) (q5 : Blks id b p5 [(GT.nd n1 rl rs rr).val]) (pl : l.ok b) (pr : GT.ok b (.nd n1 rl rs rr)) (gd : GT.Good (l.lst ++ s :: (GT.nd n1 rl rs rr).lst)) : Wv (runA ctx 5000 n 65 [.ptr p3 0, .ptr p4 0, .ptr p5 0] b) (fun x h' => RT b h' x (l.names ++ (GT.nd n1 rl rs rr).names) (fun g => ∃ m m2, g = .nd m (.nd m2 l s rl) rs rr)) := by
  obtain ⟨k, rfl⟩ : ∃ k, n = k + 1 := ⟨n - 1, by omega⟩
  have gq1 : GT.Good (l.lst ++ s :: rl.lst) := GT.Good.left (b := rs :: rr.lst) (by simpa only [GT.lst, List.append_assoc, List.cons_append, List.nil_append] using gd)
  have gq2 : ∀ m, GT.Good ((GT.nd m l s rl).lst ++ rs :: rr.lst) := fun m => (by simpa only [GT.lst, List.append_assoc, List.cons_append, List.nil_append] using gd)
  have H := (((((Hs.start b).z0 (z := blk id p3 [l.val]) q3).z0 (z := blk id p4 [I s]) q4).z0 (z := blk id p5 [(GT.nd n1 rl rs rr).val]) q5).z0 (z := tre (.nd n1 rl rs rr)) pr).z0 (z := tre l) pl
  replace H := H.topen (n := n1) (l := rl) (s := rs) (r := rr) (by (with_reducible repeat' first | exact mem_h _ _ | apply mem_t); done)
  have Q := (And.intro (rdc (H.pz (a := blk id p3 [_]) (by (with_reducible repeat' first | exact mem_h _ _ | apply mem_t); done))) (And.intro (rdc (H.pz (a := blk id p4 [_]) (by (with_reducible repeat' first | exact mem_h _ _ | apply mem_t); done))) (And.intro (rdc (H.pz (a := blk id p5 [_]) (by (with_reducible repeat' first | exact mem_h _ _ | apply mem_t); done))) (rdn (H.tok (g := .nd n1 _ _ _) (by (with_reducible repeat' first | exact mem_h _ _ | apply mem_t); done))))))
  simp only [ti2, ti25] at Q
  refine wv_run fn65 rfl ?_
  have a0 : (enterEnv [.ptr p3 0, .ptr p4 0, .ptr p5 0] Try.f65.ntmps).get 0 = some (.ptr p3 0) := enter_get1 _ _ _
  have a1 : (enterEnv [.ptr p3 0, .ptr p4 0, .ptr p5 0] Try.f65.ntmps).get 1 = some (.ptr p4 0) := enter_get2 _ _ _ _
  have a2 : (enterEnv [.ptr p3 0, .ptr p4 0, .ptr p5 0] Try.f65.ntmps).get 2 = some (.ptr p5 0) := enter_get3 _ _ _ _ _
  generalize enterEnv [.ptr p3 0, .ptr p4 0, .ptr p5 0] Try.f65.ntmps = e at a0 a1 a2 ⊢
  unfold Try.f65
  dsimp only
  ((with_reducible apply wc_c (fun i => Nat.beq i 0 || Nat.beq i 1 || Nat.beq i 2 || Nat.beq i 3)); intro e he; have w9 := he 0 rfl; (try simp only [a0] at w9); have v0 := w9; clear w9; have w9 := he 1 rfl; (try simp only [a1] at w9); have v1 := w9; clear w9; have w9 := he 2 rfl; (try simp only [a2] at w9); have v2 := w9; clear w9; have w9 := he 3 rfl; (try simp only [T.get_put, Nat.reduceEqDiff, reduceIte] at w9); have v3 := w9; clear w9; clear he)
  repeat' (first
    | with_reducible apply wc_seq
    | ((with_reducible apply wc_region); (· (rfl)))
    | with_reducible apply wo_some
    | with_reducible apply wc_ret
    | ((with_reducible apply nx_c (fun i => Nat.beq i 0 || Nat.beq i 1 || Nat.beq i 2 || Nat.beq i 3)); intro e he; have w0 := he 0 rfl; have w1 := he 1 rfl; have w2 := he 2 rfl; have w3 := he 3 rfl; (try simp only [T.get_put, Nat.reduceEqDiff, reduceIte, v0, v1, v2, v3] at w0 w1 w2 w3); clear he v0 v1 v2 v3; have v0 := w0; have v1 := w1; have v2 := w2; have v3 := w3; clear w0 w1 w2 w3)
    | ((fail_if_success have := ng1); ((with_reducible apply wo_call); (· ((with_reducible apply c53); (· (omega)); (· (exact H.tok (by (with_reducible repeat' first | exact mem_h _ _ | apply mem_t); done))); (· (exact H.tok (by (with_reducible repeat' first | exact mem_h _ _ | apply mem_t); done))); (· ((first | exact gd | exact gq1 | exact gq2 | exact gq2 _ | exact gq3 _ _))))); rintro _ h ⟨_, rfl, pg1, xg1, ng1, m1, rfl⟩; have fc := H.fr.c; replace H := H.tnew xg1 pg1 ng1 (src2t (by (with_reducible repeat' first | exact mem_h _ _ | apply mem_t); done) (by (with_reducible repeat' first | exact mem_h _ _ | apply mem_t); done)); replace ng1 := fun n hn => (ng1 n hn).imp id (Nat.le_trans fc); clear xg1 fc; replace Q := And.intro Q (And.intro (rdc (H.pz (a := blk id p3 [_]) (by (with_reducible repeat' first | exact mem_h _ _ | apply mem_t); done))) (And.intro (rdc (H.pz (a := blk id p4 [_]) (by (with_reducible repeat' first | exact mem_h _ _ | apply mem_t); done))) (And.intro (rdc (H.pz (a := blk id p5 [_]) (by (with_reducible repeat' first | exact mem_h _ _ | apply mem_t); done))) (rdn (H.tok (g := .nd n1 _ _ _) (by (with_reducible repeat' first | exact mem_h _ _ | apply mem_t); done)))))); simp only [ti2, ti25] at Q))
    | ((fail_if_success have := ng2); (have := ng1); ((with_reducible apply wo_call); (· ((with_reducible apply c53); (· (omega)); (· (exact H.tok (by (with_reducible repeat' first | exact mem_h _ _ | apply mem_t); done))); (· (exact H.tok (by (with_reducible repeat' first | exact mem_h _ _ | apply mem_t); done))); (· ((first | exact gd | exact gq1 | exact gq2 | exact gq2 _ | exact gq3 _ _))))); rintro _ h ⟨_, rfl, pg2, xg2, ng2, m2, rfl⟩; have fc := H.fr.c; replace H := H.tnew xg2 pg2 ng2 (src2t (by (with_reducible repeat' first | exact mem_h _ _ | apply mem_t); done) (by (with_reducible repeat' first | exact mem_h _ _ | apply mem_t); done)); replace ng2 := fun n hn => (ng2 n hn).imp id (Nat.le_trans fc); clear xg2 fc; replace Q := And.intro Q (And.intro (rdc (H.pz (a := blk id p3 [_]) (by (with_reducible repeat' first | exact mem_h _ _ | apply mem_t); done))) (And.intro (rdc (H.pz (a := blk id p4 [_]) (by (with_reducible repeat' first | exact mem_h _ _ | apply mem_t); done))) (And.intro (rdc (H.pz (a := blk id p5 [_]) (by (with_reducible repeat' first | exact mem_h _ _ | apply mem_t); done))) (rdn (H.tok (g := .nd n1 _ _ _) (by (with_reducible repeat' first | exact mem_h _ _ | apply mem_t); done)))))); simp only [ti2, ti25] at Q))
    | (((with_reducible apply wc_dynW (id := 1) (p := (7, 6)) (ps := [(10, 6), (11, 6), (14, 6)])); (· (kernel_rfl)); skip))
    | (with_reducible apply wt_cons)
    | (((with_reducible apply wt_nil); refine And.intro ?_ (Exists.intro _ (Exists.intro _ (And.intro rfl ?_))); (· (simp (disch := (first | assumption | omega)) only [eq_self, wantedA, opA, ev, T.get_put, Nat.reduceEqDiff, reduceIte, List.getElem?_cons_zero, List.getElem?_cons_succ, Bool.and_true, I, ty2, ti2, ty25, ti25, v2, Q, checksD_nil, checksD_cons, checkD, checkG, sameR, GT.av_val, av_int]; done))))
    | ((first | with_reducible apply wv_ret | with_reducible apply wv_end); (· ((repeat' (first | with_reducible exact rs_nil | ((with_reducible apply rs_tmp); (· (simp (disch := (first | assumption | omega)) only [Option.some.injEq, v3] <;> rfl))) | ((with_reducible apply rs_cell); (· (simp (disch := (first | assumption | omega)) only [ev, T.get_put, Nat.reduceEqDiff, reduceIte, Option.some.injEq, dec_t, dec_f, Bool.not_true, Bool.not_false, v0, v1, v2, v3, Q] <;> rfl)); (· (kernel_rfl)); (· (rfl)); (· (exact H.ld1 (by (with_reducible repeat' first | exact mem_h _ _ | apply mem_t); done) rfl))) | ((with_reducible apply rs_celln); (· (simp (disch := (first | assumption | omega)) only [ev, T.get_put, Nat.reduceEqDiff, reduceIte, Option.some.injEq, dec_t, dec_f, Bool.not_true, Bool.not_false, v0, v1, v2, v3, Q] <;> rfl)); (· (kernel_rfl)); (· (rfl)); (· (exact H.ldn (by (with_reducible repeat' first | exact mem_h _ _ | apply mem_t); done) rfl rfl))))); done)))
    | simp (disch := (first | assumption | omega)) only [eq_self, opsA_cons, opsA_nil, wantedA, stepA_t, callA, calleeA, targetA, runOp_c, runOp_n, opA, ev, evs, consO, consOO, afterA_s, putA, T.get_put, Nat.reduceEqDiff, reduceIte, List.getElem?_toArray, List.getElem?_cons_zero, List.getElem?_cons_succ, cond_true, decide_true, blt_eq, I, fieldAddrA, oFieldAddr, List.length_cons, List.length_nil, Nat.reduceAdd, Nat.zero_add, Nat.add_zero, Nat.reduceLT, ty2, ti2, ty25, ti25, ty75, ti75, withH_s, nck, Nat.zero_add, Nat.add_zero, Nat.reduceAdd, v0, v1, v2, Q])

  all_goals (first | exact ⟨_, rfl, H.tok (.head _), H.toExt, by (intro n hn; simp only [GT.names, List.mem_append, List.mem_cons] at *; grind), by first | exact ⟨_, rfl⟩ | exact ⟨_, _, rfl⟩ | exact ⟨_, _, _, rfl⟩⟩ | trace_state)
set_option maxHeartbeats 4000000 in
theorem c66 {n : Nat} (hn : 3 ≤ n) {b : Hp} {p3 p4 p5 : Nat} {l : GT} {rr a c : GT} {n1 n2 : Nat} {rs t : Int} {s : Int} (q3 : Blks id b p3 [l.val]) (q4 : Blks id b p4 [I s]) (q5 : Blks id b p5 [(GT.nd n1 (.nd n2 a t c) rs rr).val]) (pl : l.ok b) (pr : GT.ok b (.nd n1 (.nd n2 a t c) rs rr)) (gd : GT.Good (l.lst ++ s :: (GT.nd n1 (.nd n2 a t c) rs rr).lst)) : Wv (runA ctx 5000 n 66 [.ptr p5 0, .ptr p3 0, .ptr p4 0] b) (fun x h' => RT b h' x (l.names ++ (GT.nd n1 (.nd n2 a t c) rs rr).names) (fun g => ∃ m m2 m3, g = .nd m (.nd m2 l s a) t (.nd m3 c rs rr))) := by
  obtain ⟨k, rfl⟩ : ∃ k, n = k + 1 := ⟨n - 1, by omega⟩
  have gq1 : GT.Good (l.lst ++ s :: a.lst) := GT.Good.left (b := t :: (c.lst ++ rs :: rr.lst)) (by simpa only [GT.lst, List.append_assoc, List.cons_append, List.nil_append] using gd)
  have gq2 : GT.Good (c.lst ++ rs :: rr.lst) := GT.Good.right (a := l.lst ++ s :: (a.lst ++ [t])) (by simpa only [GT.lst, List.append_assoc, List.cons_append, List.nil_append] using gd)
  have gq3 : ∀ m m2, GT.Good ((GT.nd m l s a).lst ++ t :: (GT.nd m2 c rs rr).lst) := fun m m2 => (by simpa only [GT.lst, List.append_assoc, List.cons_append, List.nil_append] using gd)
  have H := (((((Hs.start b).z0 (z := blk id p3 [l.val]) q3).z0 (z := blk id p4 [I s]) q4).z0 (z := blk id p5 [(GT.nd n1 (.nd n2 a t c) rs rr).val]) q5).z0 (z := tre (.nd n1 (.nd n2 a t c) rs rr)) pr).z0 (z := tre l) pl
  replace H := H.topen (n := n1) (l := (.nd n2 a t c)) (s := rs) (r := rr) (by (with_reducible repeat' first | exact mem_h _ _ | apply mem_t); done)
  replace H := H.topen (n := n2) (l := a) (s := t) (r := c) (by (with_reducible repeat' first | exact mem_h _ _ | apply mem_t); done)
  have Q := (And.intro (rdc (H.pz (a := blk id p3 [_]) (by (with_reducible repeat' first | exact mem_h _ _ | apply mem_t); done))) (And.intro (rdc (H.pz (a := blk id p4 [_]) (by (with_reducible repeat' first | exact mem_h _ _ | apply mem_t); done))) (And.intro (rdc (H.pz (a := blk id p5 [_]) (by (with_reducible repeat' first | exact mem_h _ _ | apply mem_t); done))) (And.intro (rdn (H.tok (g := .nd n1 _ _ _) (by (with_reducible repeat' first | exact mem_h _ _ | apply mem_t); done))) (rdn (H.tok (g := .nd n2 _ _ _) (by (with_reducible repeat' first | exact mem_h _ _ | apply mem_t); done)))))))
  simp only [ti2, ti25] at Q
  refine wv_run fn66 rfl ?_
  have a0 : (enterEnv [.ptr p5 0, .ptr p3 0, .ptr p4 0] Try.f66.ntmps).get 0 = some (.ptr p5 0) := enter_get1 _ _ _
  have a1 : (enterEnv [.ptr p5 0, .ptr p3 0, .ptr p4 0] Try.f66.ntmps).get 1 = some (.ptr p3 0) := enter_get2 _ _ _ _
  have a2 : (enterEnv [.ptr p5 0, .ptr p3 0, .ptr p4 0] Try.f66.ntmps).get 2 = some (.ptr p4 0) := enter_get3 _ _ _ _ _
  generalize enterEnv [.ptr p5 0, .ptr p3 0, .ptr p4 0] Try.f66.ntmps = e at a0 a1 a2 ⊢
  unfold Try.f66
  dsimp only
  ((with_reducible apply wc_c (fun i => Nat.beq i 0 || Nat.beq i 1 || Nat.beq i 2 || Nat.beq i 3 || Nat.beq i 4)); intro e he; have w9 := he 0 rfl; (try simp only [a0] at w9); have v0 := w9; clear w9; have w9 := he 1 rfl; (try simp only [a1] at w9); have v1 := w9; clear w9; have w9 := he 2 rfl; (try simp only [a2] at w9); have v2 := w9; clear w9; have w9 := he 3 rfl; (try simp only [T.get_put, Nat.reduceEqDiff, reduceIte] at w9); have v3 := w9; clear w9; have w9 := he 4 rfl; (try simp only [T.get_put, Nat.reduceEqDiff, reduceIte] at w9); have v4 := w9; clear w9; clear he)
  repeat' (first
    | with_reducible apply wc_seq
    | ((with_reducible apply wc_region); (· (rfl)))
    | with_reducible apply wo_some
    | with_reducible apply wc_ret
    | ((with_reducible apply nx_c (fun i => Nat.beq i 0 || Nat.beq i 1 || Nat.beq i 2 || Nat.beq i 3 || Nat.beq i 4)); intro e he; have w0 := he 0 rfl; have w1 := he 1 rfl; have w2 := he 2 rfl; have w3 := he 3 rfl; have w4 := he 4 rfl; (try simp only [T.get_put, Nat.reduceEqDiff, reduceIte, v0, v1, v2, v3, v4] at w0 w1 w2 w3 w4); clear he v0 v1 v2 v3 v4; have v0 := w0; have v1 := w1; have v2 := w2; have v3 := w3; have v4 := w4; clear w0 w1 w2 w3 w4)
    | ((fail_if_success have := ng1); ((with_reducible apply wo_call); (· ((with_reducible apply c53); (· (omega)); (· (exact H.tok (by (with_reducible repeat' first | exact mem_h _ _ | apply mem_t); done))); (· (exact H.tok (by (with_reducible repeat' first | exact mem_h _ _ | apply mem_t); done))); (· ((first | exact gd | exact gq1 | exact gq2 | exact gq2 _ | exact gq3 _ _))))); rintro _ h ⟨_, rfl, pg1, xg1, ng1, m1, rfl⟩; have fc := H.fr.c; replace H := H.tnew xg1 pg1 ng1 (src2t (by (with_reducible repeat' first | exact mem_h _ _ | apply mem_t); done) (by (with_reducible repeat' first | exact mem_h _ _ | apply mem_t); done)); replace ng1 := fun n hn => (ng1 n hn).imp id (Nat.le_trans fc); clear xg1 fc; replace Q := And.intro Q (And.intro (rdc (H.pz (a := blk id p3 [_]) (by (with_reducible repeat' first | exact mem_h _ _ | apply mem_t); done))) (And.intro (rdc (H.pz (a := blk id p4 [_]) (by (with_reducible repeat' first | exact mem_h _ _ | apply mem_t); done))) (And.intro (rdc (H.pz (a := blk id p5 [_]) (by (with_reducible repeat' first | exact mem_h _ _ | apply mem_t); done))) (And.intro (rdn (H.tok (g := .nd n1 _ _ _) (by (with_reducible repeat' first | exact mem_h _ _ | apply mem_t); done))) (rdn (H.tok (g := .nd n2 _ _ _) (by (with_reducible repeat' first | exact mem_h _ _ | apply mem_t); done))))))); simp only [ti2, ti25] at Q))
    | ((fail_if_success have := ng2); (have := ng1); ((with_reducible apply wo_call); (· ((with_reducible apply c53); (· (omega)); (· (exact H.tok (by (with_reducible repeat' first | exact mem_h _ _ | apply mem_t); done))); (· (exact H.tok (by (with_reducible repeat' first | exact mem_h _ _ | apply mem_t); done))); (· ((first | exact gd | exact gq1 | exact gq2 | exact gq2 _ | exact gq3 _ _))))); rintro _ h ⟨_, rfl, pg2, xg2, ng2, m2, rfl⟩; have fc := H.fr.c; replace H := H.tnew xg2 pg2 ng2 (src2t (by (with_reducible repeat' first | exact mem_h _ _ | apply mem_t); done) (by (with_reducible repeat' first | exact mem_h _ _ | apply mem_t); done)); replace ng2 := fun n hn => (ng2 n hn).imp id (Nat.le_trans fc); clear xg2 fc; replace Q := And.intro Q (And.intro (rdc (H.pz (a := blk id p3 [_]) (by (with_reducible repeat' first | exact mem_h _ _ | apply mem_t); done))) (And.intro (rdc (H.pz (a := blk id p4 [_]) (by (with_reducible repeat' first | exact mem_h _ _ | apply mem_t); done))) (And.intro (rdc (H.pz (a := blk id p5 [_]) (by (with_reducible repeat' first | exact mem_h _ _ | apply mem_t); done))) (And.intro (rdn (H.tok (g := .nd n1 _ _ _) (by (with_reducible repeat' first | exact mem_h _ _ | apply mem_t); done))) (rdn (H.tok (g := .nd n2 _ _ _) (by (with_reducible repeat' first | exact mem_h _ _ | apply mem_t); done))))))); simp only [ti2, ti25] at Q))
    | ((fail_if_success have := ng3); (have := ng2); ((with_reducible apply wo_call); (· ((with_reducible apply c53); (· (omega)); (· (exact H.tok (by (with_reducible repeat' first | exact mem_h _ _ | apply mem_t); done))); (· (exact H.tok (by (with_reducible repeat' first | exact mem_h _ _ | apply mem_t); done))); (· ((first | exact gd | exact gq1 | exact gq2 | exact gq2 _ | exact gq3 _ _))))); rintro _ h ⟨_, rfl, pg3, xg3, ng3, m3, rfl⟩; have fc := H.fr.c; replace H := H.tnew xg3 pg3 ng3 (src2t (by (with_reducible repeat' first | exact mem_h _ _ | apply mem_t); done) (by (with_reducible repeat' first | exact mem_h _ _ | apply mem_t); done)); replace ng3 := fun n hn => (ng3 n hn).imp id (Nat.le_trans fc); clear xg3 fc; replace Q := And.intro Q (And.intro (rdc (H.pz (a := blk id p3 [_]) (by (with_reducible repeat' first | exact mem_h _ _ | apply mem_t); done))) (And.intro (rdc (H.pz (a := blk id p4 [_]) (by (with_reducible repeat' first | exact mem_h _ _ | apply mem_t); done))) (And.intro (rdc (H.pz (a := blk id p5 [_]) (by (with_reducible repeat' first | exact mem_h _ _ | apply mem_t); done))) (And.intro (rdn (H.tok (g := .nd n1 _ _ _) (by (with_reducible repeat' first | exact mem_h _ _ | apply mem_t); done))) (rdn (H.tok (g := .nd n2 _ _ _) (by (with_reducible repeat' first | exact mem_h _ _ | apply mem_t); done))))))); simp only [ti2, ti25] at Q))
    | (((with_reducible apply wc_dynW (id := 2) (p := (10, 6)) (ps := [(14, 6), (15, 6), (18, 6), (19, 6), (22, 6), (10, 24)])); (· (kernel_rfl)); skip))
    | (with_reducible apply wt_cons)
    | (((with_reducible apply wt_nil); refine And.intro ?_ (Exists.intro _ (Exists.intro _ (And.intro rfl ?_))); (· (simp (disch := (first | assumption | omega)) only [eq_self, wantedA, opA, ev, T.get_put, Nat.reduceEqDiff, reduceIte, List.getElem?_cons_zero, List.getElem?_cons_succ, Bool.and_true, I, ty2, ti2, ty25, ti25, v0, Q, checksD_nil, checksD_cons, checkD, checkG, sameR, GT.av_val, av_int]; done))))
    | ((first | with_reducible apply wv_ret | with_reducible apply wv_end); (· ((repeat' (first | with_reducible exact rs_nil | ((with_reducible apply rs_tmp); (· (simp (disch := (first | assumption | omega)) only [Option.some.injEq, v3] <;> rfl))) | ((with_reducible apply rs_cell); (· (simp (disch := (first | assumption | omega)) only [ev, T.get_put, Nat.reduceEqDiff, reduceIte, Option.some.injEq, dec_t, dec_f, Bool.not_true, Bool.not_false, v0, v1, v2, v3, v4, Q] <;> rfl)); (· (kernel_rfl)); (· (rfl)); (· (exact H.ld1 (by (with_reducible repeat' first | exact mem_h _ _ | apply mem_t); done) rfl))) | ((with_reducible apply rs_celln); (· (simp (disch := (first | assumption | omega)) only [ev, T.get_put, Nat.reduceEqDiff, reduceIte, Option.some.injEq, dec_t, dec_f, Bool.not_true, Bool.not_false, v0, v1, v2, v3, v4, Q] <;> rfl)); (· (kernel_rfl)); (· (rfl)); (· (exact H.ldn (by (with_reducible repeat' first | exact mem_h _ _ | apply mem_t); done) rfl rfl))))); done)))
    | simp (disch := (first | assumption | omega)) only [eq_self, opsA_cons, opsA_nil, wantedA, stepA_t, callA, calleeA, targetA, runOp_c, runOp_n, opA, ev, evs, consO, consOO, afterA_s, putA, T.get_put, Nat.reduceEqDiff, reduceIte, List.getElem?_toArray, List.getElem?_cons_zero, List.getElem?_cons_succ, cond_true, decide_true, blt_eq, I, fieldAddrA, oFieldAddr, List.length_cons, List.length_nil, Nat.reduceAdd, Nat.zero_add, Nat.add_zero, Nat.reduceLT, ty2, ti2, ty25, ti25, ty75, ti75, withH_s, nck, Nat.zero_add, Nat.add_zero, Nat.reduceAdd, v0, v1, v2, v4, Q])

  all_goals (first | exact ⟨_, rfl, H.tok (.head _), H.toExt, by (intro n hn; simp only [GT.names, List.mem_append, List.mem_cons] at *; grind), by first | exact ⟨_, rfl⟩ | exact ⟨_, _, rfl⟩ | exact ⟨_, _, _, rfl⟩⟩ | trace_state)


end Go.Proofs.Ytpioenfglmimgaa
