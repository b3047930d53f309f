import Derived.Test.YtpioenfglmimgaaVB
import Derived.KernelRfl
namespace Go.Proofs.Ytpioenfglmimgaa
open Go Go.Proofs Go.RowKit Go.Proofs.Abs
set_option linter.unusedSimpArgs false
set_option linter.unusedVariables false
set_option maxHeartbeats 4000000 in
theorem k60a {n : Nat} (hn : 5 ≤ n) {b : Hp} {n1 : Nat} {r : GT} {s : Int} (p : GT.ok b (.nd n1 .nil s r)) (bl : GT.bal (.nd n1 .nil s r)) : Wv (runA ctx 5000 n 60 [.ptr n1 0] b) (fun x h' => ∃ v y, x = .tup [I v, y] ∧ RT b h' y (GT.names (.nd n1 .nil s r)) (fun g => v :: g.lst = GT.lst (.nd n1 .nil s r) ∧ g.bal ∧ g.hgt ≤ GT.hgt (.nd n1 .nil s r) ∧ GT.hgt (.nd n1 .nil s r) ≤ g.hgt + 1)) := by
  obtain ⟨k, rfl⟩ : ∃ k, n = k + 1 := ⟨n - 1, by omega⟩
  have H := (Hs.start b).z0 (z := tre (.nd n1 .nil s r)) p
  replace H := H.topen (n := n1) (l := .nil) (s := s) (r := r) (by (with_reducible repeat' first | exact mem_h _ _ | apply mem_t); done)
  have Q := rdn (H.tok (g := (.nd n1 .nil s r)) (by (with_reducible repeat' first | exact mem_h _ _ | apply mem_t); done))
  simp only [ti2, ti25, GT.val_nil] at Q
  refine wv_run fn60 rfl ?_
  have a0 : (enterEnv [.ptr n1 0] Try.f60.ntmps).get 0 = some (.ptr n1 0) := enter_get1 _ _ _
  generalize enterEnv [.ptr n1 0] Try.f60.ntmps = e at a0 ⊢
  unfold Try.f60
  dsimp only
  ((with_reducible apply wc_c (fun i => Nat.beq i 0 || Nat.beq i 2 || Nat.beq i 3 || Nat.beq i 4 || Nat.beq i 5 || Nat.beq i 10)); intro e he; have w9 := he 0 rfl; (try simp only [a0] at w9); have v0 := w9; clear w9; have w9 := he 2 rfl; (try simp only [T.get_put, Nat.reduceEqDiff, reduceIte] at w9); have v2 := w9; clear w9; have w9 := he 3 rfl; (try simp only [T.get_put, Nat.reduceEqDiff, reduceIte] at w9); have v3 := w9; clear w9; have w9 := he 4 rfl; (try simp only [T.get_put, Nat.reduceEqDiff, reduceIte] at w9); have v4 := w9; clear w9; have w9 := he 5 rfl; (try simp only [T.get_put, Nat.reduceEqDiff, reduceIte] at w9); have v5 := w9; clear w9; have w9 := he 10 rfl; (try simp only [T.get_put, Nat.reduceEqDiff, reduceIte] at w9); have v10 := w9; clear w9; clear he)
  repeat' (first
    | with_reducible apply wc_seq
    | ((with_reducible apply wc_region); (· (rfl)))
    | with_reducible apply wo_some
    | ((with_reducible apply wc_cond); (· (simp (disch := (first | assumption | omega)) only [ev, Option.some.injEq, v10] <;> rfl)); all_goals (intro hg; (try (try simp only [Bool.not_eq_true'] at hg)); first | (exfalso; exact Bool.noConfusion hg) | (exfalso; exact hg) | skip))
    | with_reducible apply wc_ret
    | with_reducible apply nx_r
    | ((with_reducible apply nx_c (fun i => Nat.beq i 0 || Nat.beq i 2 || Nat.beq i 3 || Nat.beq i 4 || Nat.beq i 5 || Nat.beq i 10)); intro e he; have w0 := he 0 rfl; have w2 := he 2 rfl; have w3 := he 3 rfl; have w4 := he 4 rfl; have w5 := he 5 rfl; have w10 := he 10 rfl; (try simp only [T.get_put, Nat.reduceEqDiff, reduceIte, v0, v2, v3, v4, v5, v10] at w0 w2 w3 w4 w5 w10); clear he v0 v2 v3 v4 v5 v10; have v0 := w0; have v2 := w2; have v3 := w3; have v4 := w4; have v5 := w5; have v10 := w10; clear w0 w2 w3 w4 w5 w10)
    | ((first | with_reducible apply wv_ret | with_reducible apply wv_end); (· ((repeat' (first | with_reducible exact rs_nil | ((with_reducible apply rs_tmp); (· (simp (disch := (first | assumption | omega)) only [Option.some.injEq, v2, v3] <;> rfl))) | ((with_reducible apply rs_cell); (· (simp (disch := (first | assumption | omega)) only [ev, T.get_put, Nat.reduceEqDiff, reduceIte, Option.some.injEq, dec_t, dec_f, Bool.not_true, Bool.not_false, v0, v2, v3, v4, v5, v10, Q, GT.val_nil] <;> rfl)); (· (kernel_rfl)); (· (rfl)); (· (exact H.ld1 (by (with_reducible repeat' first | exact mem_h _ _ | apply mem_t); done) rfl))) | ((with_reducible apply rs_celln); (· (simp (disch := (first | assumption | omega)) only [ev, T.get_put, Nat.reduceEqDiff, reduceIte, Option.some.injEq, dec_t, dec_f, Bool.not_true, Bool.not_false, v0, v2, v3, v4, v5, v10, Q, GT.val_nil] <;> rfl)); (· (kernel_rfl)); (· (rfl)); (· (exact H.ldn (by (with_reducible repeat' first | exact mem_h _ _ | apply mem_t); done) rfl rfl))))); done)))
    | simp (disch := (first | assumption | omega)) only [eq_self, opsA_cons, opsA_nil, wantedA, stepA_t, callA, runOp_n, opA, ev, afterA_s, putA, T.get_put, Nat.reduceEqDiff, reduceIte, List.getElem?_toArray, List.getElem?_cons_zero, List.getElem?_cons_succ, oBin, binA, binG, binL, aggO, litA, cond_true, decide_true, blt_eq, I, fieldAddrA, oFieldAddr, Nat.zero_add, Nat.add_zero, Nat.reduceLT, ty2, ti2, ty25, ti25, ty75, ti75, withH_s, eqA, eqD, eqOp, nckp, dec_t, Nat.zero_add, Nat.add_zero, v0, Q])

  all_goals (first | exact ⟨_, _, rfl, r, rfl, H.tok (by (with_reducible repeat' first | exact mem_h _ _ | apply mem_t); done), H.toExt, fun n hn => .inl (.tail _ (List.mem_append_right _ hn)), rfl, bl.2.1, by rw [GT.hgt_nd]; omega, by have := bl.2.2.2; rw [GT.hgt_nd, GT.hgt_nil] at *; omega⟩ | trace_state)
set_option maxHeartbeats 4000000 in
theorem k60b (m : Nat) (ih : ∀ (n : Nat) (b : Hp) (n1 : Nat) (l r : GT) (s : Int), (GT.nd n1 l s r).hgt ≤ m → m + 5 ≤ n → GT.ok b (.nd n1 l s r) → GT.Good (GT.nd n1 l s r).lst → (GT.nd n1 l s r).bal → Wv (runA ctx 5000 n 60 [.ptr n1 0] b) (fun x h' => ∃ v y, x = .tup [I v, y] ∧ RT b h' y (GT.nd n1 l s r).names (fun g => v :: g.lst = GT.lst (.nd n1 l s r) ∧ g.bal ∧ g.hgt ≤ GT.hgt (.nd n1 l s r) ∧ GT.hgt (.nd n1 l s r) ≤ g.hgt + 1))) {n : Nat} (hn : m + 6 ≤ n) {b : Hp} {n1 n2 : Nat} {a c r : GT} {s t : Int} (hm : GT.hgt (.nd n1 (.nd n2 a t c) s r) ≤ m + 1) (p : GT.ok b (.nd n1 (.nd n2 a t c) s r)) (gd : GT.Good (GT.lst (.nd n1 (.nd n2 a t c) s r))) (bl : GT.bal (.nd n1 (.nd n2 a t c) s r)) : Wv (runA ctx 5000 n 60 [.ptr n1 0] b) (fun x h' => ∃ v y, x = .tup [I v, y] ∧ RT b h' y (GT.names (.nd n1 (.nd n2 a t c) s r)) (fun g => v :: g.lst = GT.lst (.nd n1 (.nd n2 a t c) s r) ∧ g.bal ∧ g.hgt ≤ GT.hgt (.nd n1 (.nd n2 a t c) s r) ∧ GT.hgt (.nd n1 (.nd n2 a t c) s r) ≤ g.hgt + 1)) := by
  obtain ⟨k, rfl⟩ : ∃ k, n = k + 1 := ⟨n - 1, by omega⟩
  have hz9 := GT.hgt_nd n1 (.nd n2 a t c) s r
  obtain ⟨b1, b2, b3, b4⟩ := bl
  have gq1 : GT.Good (GT.lst (.nd n2 a t c)) := GT.Good.left (b := s :: r.lst) gd
  have H := (Hs.start b).z0 (z := tre (.nd n1 (.nd n2 a t c) s r)) p
  replace H := H.topen (n := n1) (l := (.nd n2 a t c)) (s := s) (r := r) (by (with_reducible repeat' first | exact mem_h _ _ | apply mem_t); done)
  have Q := rdn (H.tok (g := (.nd n1 (.nd n2 a t c) s r)) (by (with_reducible repeat' first | exact mem_h _ _ | apply mem_t); done))
  simp only [ti2, ti25, GT.val_nd] at Q
  refine wv_run fn60 rfl ?_
  have a0 : (enterEnv [.ptr n1 0] Try.f60.ntmps).get 0 = some (.ptr n1 0) := enter_get1 _ _ _
  generalize enterEnv [.ptr n1 0] Try.f60.ntmps = e at a0 ⊢
  unfold Try.f60
  dsimp only
  ((with_reducible apply wc_c (fun i => Nat.beq i 0 || Nat.beq i 2 || Nat.beq i 3 || Nat.beq i 4 || Nat.beq i 5 || Nat.beq i 10)); intro e he; have w9 := he 0 rfl; (try simp only [a0] at w9); have v0 := w9; clear w9; have w9 := he 2 rfl; (try simp only [T.get_put, Nat.reduceEqDiff, reduceIte] at w9); have v2 := w9; clear w9; have w9 := he 3 rfl; (try simp only [T.get_put, Nat.reduceEqDiff, reduceIte] at w9); have v3 := w9; clear w9; have w9 := he 4 rfl; (try simp only [T.get_put, Nat.reduceEqDiff, reduceIte] at w9); have v4 := w9; clear w9; have w9 := he 5 rfl; (try simp only [T.get_put, Nat.reduceEqDiff, reduceIte] at w9); have v5 := w9; clear w9; have w9 := he 10 rfl; (try simp only [T.get_put, Nat.reduceEqDiff, reduceIte] at w9); have v10 := w9; clear w9; clear he)
  repeat' (first
    | with_reducible apply wc_seq
    | ((with_reducible apply wc_region); (· (rfl)))
    | with_reducible apply wo_some
    | ((with_reducible apply wc_cond); (· (simp (disch := (first | assumption | omega)) only [ev, Option.some.injEq, v10] <;> rfl)); all_goals (intro hg; (try (try simp only [Bool.not_eq_true'] at hg)); first | (exfalso; exact Bool.noConfusion hg) | (exfalso; exact hg) | skip))
    | with_reducible apply wc_skip
    | with_reducible apply wc_ret
    | ((with_reducible apply nx_c (fun i => Nat.beq i 0 || Nat.beq i 2 || Nat.beq i 3 || Nat.beq i 4 || Nat.beq i 5 || Nat.beq i 10)); intro e he; have w0 := he 0 rfl; have w2 := he 2 rfl; have w3 := he 3 rfl; have w4 := he 4 rfl; have w5 := he 5 rfl; have w10 := he 10 rfl; (try simp only [T.get_put, Nat.reduceEqDiff, reduceIte, v0, v2, v3, v4, v5, v10] at w0 w2 w3 w4 w5 w10); clear he v0 v2 v3 v4 v5 v10; have v0 := w0; have v2 := w2; have v3 := w3; have v4 := w4; have v5 := w5; have v10 := w10; clear w0 w2 w3 w4 w5 w10)
    | (((with_reducible apply wo_call); (· ((with_reducible apply (ih k _ n2 a c t)); (· (omega)); (· (omega)); (· (exact H.tok (by (with_reducible repeat' first | exact mem_h _ _ | apply mem_t); done))); (· (exact gq1)); (· (exact b1)))); rintro _ h ⟨v, _, rfl, g1, rfl, pg1, xg1, ng1, e1, c1, u1, v1'⟩; have fc := H.fr.c; replace H := H.tnew xg1 pg1 ng1 (src1t (by (with_reducible repeat' first | exact mem_h _ _ | apply mem_t); done)); replace ng1 := fun n hn => (ng1 n hn).imp id (Nat.le_trans fc); clear xg1 fc; replace Q := And.intro Q (rdn (H.tok (g := .nd n1 _ _ _) (by (with_reducible repeat' first | exact mem_h _ _ | apply mem_t); done))); simp only [ti2, ti25, GT.val_nd] at Q))
    | (((with_reducible apply wo_call); (· ((with_reducible apply c61); (· (omega)); (· (exact H.tok (by (with_reducible repeat' first | exact mem_h _ _ | apply mem_t); done))); (· (exact H.tok (by (with_reducible repeat' first | exact mem_h _ _ | apply mem_t); done))); (· ((have gd2 : GT.Good ((v :: g1.lst) ++ s :: r.lst) := by rw [e1]; exact gd); exact GT.Good.tail gd2)); (· (exact c1)); (· (exact b2)); (· (omega)); (· (omega)))); rintro _ h ⟨g2, rfl, pg2, xg2, ng2, e2, c2, u2, v2', w2'⟩; have fc := H.fr.c; replace H := H.tnew xg2 pg2 ng2 (src2t (by (with_reducible repeat' first | exact mem_h _ _ | apply mem_t); done) (by (with_reducible repeat' first | exact mem_h _ _ | apply mem_t); done)); replace ng2 := fun n hn => (ng2 n hn).imp id (Nat.le_trans fc); clear xg2 fc; replace Q := And.intro Q (rdn (H.tok (g := .nd n1 _ _ _) (by (with_reducible repeat' first | exact mem_h _ _ | apply mem_t); done))); simp only [ti2, ti25, GT.val_nd] at Q))
    | ((first | with_reducible apply wv_ret | with_reducible apply wv_end); (· ((repeat' (first | with_reducible exact rs_nil | ((with_reducible apply rs_tmp); (· (simp (disch := (first | assumption | omega)) only [Option.some.injEq, v2, v3] <;> rfl))) | ((with_reducible apply rs_cell); (· (simp (disch := (first | assumption | omega)) only [ev, T.get_put, Nat.reduceEqDiff, reduceIte, Option.some.injEq, dec_t, dec_f, Bool.not_true, Bool.not_false, v0, v2, v3, v4, v5, v10, Q, GT.val_nd] <;> rfl)); (· (kernel_rfl)); (· (rfl)); (· (exact H.ld1 (by (with_reducible repeat' first | exact mem_h _ _ | apply mem_t); done) rfl))) | ((with_reducible apply rs_celln); (· (simp (disch := (first | assumption | omega)) only [ev, T.get_put, Nat.reduceEqDiff, reduceIte, Option.some.injEq, dec_t, dec_f, Bool.not_true, Bool.not_false, v0, v2, v3, v4, v5, v10, Q, GT.val_nd] <;> rfl)); (· (kernel_rfl)); (· (rfl)); (· (exact H.ldn (by (with_reducible repeat' first | exact mem_h _ _ | apply mem_t); done) rfl rfl))))); done)))
    | simp (disch := (first | assumption | omega)) only [eq_self, opsA_cons, opsA_nil, wantedA, stepA_t, callA, calleeA, targetA, runOp_c, runOp_n, opA, ev, evs, consO, consOO, afterA_s, putA, T.get_put, Nat.reduceEqDiff, reduceIte, List.getElem?_toArray, List.getElem?_cons_zero, List.getElem?_cons_succ, oBin, binA, binG, binL, aggO, cond_true, decide_true, blt_eq, I, oExtract, fieldAddrA, oFieldAddr, Nat.zero_add, Nat.add_zero, Nat.reduceLT, ty2, ti2, ty25, ti25, ty75, ti75, withH_s, eqA, eqD, eqOp, nckp, dec_t, Nat.zero_add, Nat.add_zero, v0, v4, v5, Q])

  all_goals (first | exact ⟨_, _, rfl, g2, rfl, H.tok (by (with_reducible repeat' first | exact mem_h _ _ | apply mem_t); done), H.toExt, by (intro n hn; simp only [GT.names, List.mem_append, List.mem_cons] at *; grind), by rw [e2, ← List.cons_append, e1]; rfl, c2, by omega, by omega⟩ | trace_state)
theorem c60 : ∀ (m n : Nat) (b : Hp) (n1 : Nat) (l r : GT) (s : Int), (GT.nd n1 l s r).hgt ≤ m → m + 5 ≤ n → GT.ok b (.nd n1 l s r) → GT.Good (GT.nd n1 l s r).lst → (GT.nd n1 l s r).bal → Wv (runA ctx 5000 n 60 [.ptr n1 0] b) (fun x h' => ∃ v y, x = .tup [I v, y] ∧ RT b h' y (GT.nd n1 l s r).names (fun g => v :: g.lst = GT.lst (.nd n1 l s r) ∧ g.bal ∧ g.hgt ≤ GT.hgt (.nd n1 l s r) ∧ GT.hgt (.nd n1 l s r) ≤ g.hgt + 1)) := by
  intro m
  induction m with
  | zero => intro n b n1 l r s hm; rw [GT.hgt_nd] at hm; omega
  | succ m ih =>
    intro n b n1 l r s hm hn p gd bl
    cases l with
    | nil => exact k60a (by omega) p bl
    | nd n2 a t c => exact k60b m ih (by omega) hm p gd bl
set_option maxHeartbeats 4000000 in
theorem k49a {n : Nat} (hn : 1 ≤ n) {b : Hp} {a : GT} (pl : a.ok b) (bl : a.bal) : Wv (runA ctx 5000 n 49 [a.val, GT.nil.val] b) (fun x h' => RT b h' x (a.names ++ GT.nil.names) (fun g => g.lst = a.lst ++ GT.nil.lst ∧ g.bal)) := by
  obtain ⟨k, rfl⟩ : ∃ k, n = k + 1 := ⟨n - 1, by omega⟩
  have H := (Hs.start b).z0 (z := tre a) pl
  rw [GT.val_nil]
  refine wv_run fn49 rfl ?_
  have a0 : (enterEnv [a.val, .lit (.pointer none)] Try.f49.ntmps).get 0 = some (a.val) := enter_get1 _ _ _
  have a1 : (enterEnv [a.val, .lit (.pointer none)] Try.f49.ntmps).get 1 = some (.lit (.pointer none)) := enter_get2 _ _ _ _
  generalize enterEnv [a.val, .lit (.pointer none)] Try.f49.ntmps = e at a0 a1 ⊢
  unfold Try.f49
  dsimp only
  ((with_reducible apply wc_c (fun i => Nat.beq i 0 || Nat.beq i 1 || Nat.beq i 4 || Nat.beq i 5 || Nat.beq i 6 || Nat.beq i 8)); intro e he; have w9 := he 0 rfl; (try simp only [a0] at w9); have v0 := w9; clear w9; have w9 := he 1 rfl; (try simp only [a1] at w9); have v1 := w9; clear w9; have w9 := he 4 rfl; (try simp only [T.get_put, Nat.reduceEqDiff, reduceIte] at w9); have v4 := w9; clear w9; have w9 := he 5 rfl; (try simp only [T.get_put, Nat.reduceEqDiff, reduceIte] at w9); have v5 := w9; clear w9; have w9 := he 6 rfl; (try simp only [T.get_put, Nat.reduceEqDiff, reduceIte] at w9); have v6 := w9; clear w9; have w9 := he 8 rfl; (try simp only [T.get_put, Nat.reduceEqDiff, reduceIte] at w9); have v8 := w9; clear w9; clear he)
  repeat' (first
    | with_reducible apply wc_seq
    | ((with_reducible apply wc_region); (· (rfl)))
    | with_reducible apply wo_some
    | ((with_reducible apply wc_cond); (· (simp (disch := (first | assumption | omega)) only [ev, Option.some.injEq, v8] <;> rfl)); all_goals (intro hg; (try (try simp only [Bool.not_eq_true'] at hg)); first | (exfalso; exact Bool.noConfusion hg) | (exfalso; exact hg) | skip))
    | with_reducible apply wc_ret
    | with_reducible apply nx_r
    | ((with_reducible apply nx_c (fun i => Nat.beq i 0 || Nat.beq i 1 || Nat.beq i 4 || Nat.beq i 5 || Nat.beq i 6 || Nat.beq i 8)); intro e he; have w0 := he 0 rfl; have w1 := he 1 rfl; have w4 := he 4 rfl; have w5 := he 5 rfl; have w6 := he 6 rfl; have w8 := he 8 rfl; (try simp only [T.get_put, Nat.reduceEqDiff, reduceIte, v0, v1, v4, v5, v6, v8] at w0 w1 w4 w5 w6 w8); clear he v0 v1 v4 v5 v6 v8; have v0 := w0; have v1 := w1; have v4 := w4; have v5 := w5; have v6 := w6; have v8 := w8; clear w0 w1 w4 w5 w6 w8)
    | ((first | with_reducible apply wv_ret | with_reducible apply wv_end); (· ((repeat' (first | with_reducible exact rs_nil | ((with_reducible apply rs_tmp); (· (simp (disch := (first | assumption | omega)) only [Option.some.injEq, v4] <;> rfl))) | ((with_reducible apply rs_cell); (· (simp (disch := (first | assumption | omega)) only [ev, T.get_put, Nat.reduceEqDiff, reduceIte, Option.some.injEq, dec_t, dec_f, Bool.not_true, Bool.not_false, v0, v1, v4, v5, v6, v8] <;> rfl)); (· (kernel_rfl)); (· (rfl)); (· (exact H.ld1 (by (with_reducible repeat' first | exact mem_h _ _ | apply mem_t); done) rfl))) | ((with_reducible apply rs_celln); (· (simp (disch := (first | assumption | omega)) only [ev, T.get_put, Nat.reduceEqDiff, reduceIte, Option.some.injEq, dec_t, dec_f, Bool.not_true, Bool.not_false, v0, v1, v4, v5, v6, v8] <;> rfl)); (· (kernel_rfl)); (· (rfl)); (· (exact H.ldn (by (with_reducible repeat' first | exact mem_h _ _ | apply mem_t); done) rfl rfl))))); done)))
    | simp (disch := (first | assumption | omega)) only [eq_self, opsA_cons, opsA_nil, wantedA, stepA_t, callA, runOp_n, opA, ev, afterA_s, putA, T.get_put, reduceIte, oBin, binA, binG, binL, aggO, litA, ty25, ti25, withH_s, eqA, eqD, eqOp, v0, v1])

  all_goals (first | exact ⟨a, rfl, H.tok (by (with_reducible repeat' first | exact mem_h _ _ | apply mem_t); done), H.toExt, fun n hn => .inl (List.mem_append_left _ hn), by simp [GT.lst], bl⟩ | trace_state)
set_option maxHeartbeats 4000000 in
theorem k49b {n : Nat} (hn : 40 ≤ n) {b : Hp} {a l r : GT} {n1 : Nat} {s : Int} (pl : a.ok b) (pr : GT.ok b (.nd n1 l s r)) (gd : GT.Good (a.lst ++ GT.lst (.nd n1 l s r))) (bl : a.bal) (br : GT.bal (.nd n1 l s r)) : Wv (runA ctx 5000 n 49 [a.val, .ptr n1 0] b) (fun x h' => RT b h' x (a.names ++ GT.names (.nd n1 l s r)) (fun g => g.lst = a.lst ++ GT.lst (.nd n1 l s r) ∧ g.bal)) := by
  obtain ⟨k, rfl⟩ : ∃ k, n = k + 1 := ⟨n - 1, by omega⟩
  have ha9 := GT.bal_hgt bl gd.left.sm.2.2
  have hb9 := GT.bal_hgt br gd.right.sm.2.2
  have H := ((Hs.start b).z0 (z := tre (.nd n1 l s r)) pr).z0 (z := tre a) pl
  refine wv_run fn49 rfl ?_
  have a0 : (enterEnv [a.val, .ptr n1 0] Try.f49.ntmps).get 0 = some (a.val) := enter_get1 _ _ _
  have a1 : (enterEnv [a.val, .ptr n1 0] Try.f49.ntmps).get 1 = some (.ptr n1 0) := enter_get2 _ _ _ _
  generalize enterEnv [a.val, .ptr n1 0] Try.f49.ntmps = e at a0 a1 ⊢
  unfold Try.f49
  dsimp only
  ((with_reducible apply wc_c (fun i => Nat.beq i 0 || Nat.beq i 1 || Nat.beq i 4 || Nat.beq i 5 || Nat.beq i 6 || Nat.beq i 8)); intro e he; have w9 := he 0 rfl; (try simp only [a0] at w9); have v0 := w9; clear w9; have w9 := he 1 rfl; (try simp only [a1] at w9); have v1 := w9; clear w9; have w9 := he 4 rfl; (try simp only [T.get_put, Nat.reduceEqDiff, reduceIte] at w9); have v4 := w9; clear w9; have w9 := he 5 rfl; (try simp only [T.get_put, Nat.reduceEqDiff, reduceIte] at w9); have v5 := w9; clear w9; have w9 := he 6 rfl; (try simp only [T.get_put, Nat.reduceEqDiff, reduceIte] at w9); have v6 := w9; clear w9; have w9 := he 8 rfl; (try simp only [T.get_put, Nat.reduceEqDiff, reduceIte] at w9); have v8 := w9; clear w9; clear he)
  repeat' (first
    | with_reducible apply wc_seq
    | ((with_reducible apply wc_region); (· (rfl)))
    | with_reducible apply wo_some
    | ((with_reducible apply wc_cond); (· (simp (disch := (first | assumption | omega)) only [ev, Option.some.injEq, v8] <;> rfl)); all_goals (intro hg; (try (try simp only [Bool.not_eq_true'] at hg)); first | (exfalso; exact Bool.noConfusion hg) | (exfalso; exact hg) | skip))
    | with_reducible apply wc_skip
    | with_reducible apply wc_ret
    | ((with_reducible apply nx_c (fun i => Nat.beq i 0 || Nat.beq i 1 || Nat.beq i 4 || Nat.beq i 5 || Nat.beq i 6 || Nat.beq i 8)); intro e he; have w0 := he 0 rfl; have w1 := he 1 rfl; have w4 := he 4 rfl; have w5 := he 5 rfl; have w6 := he 6 rfl; have w8 := he 8 rfl; (try simp only [T.get_put, Nat.reduceEqDiff, reduceIte, v0, v1, v4, v5, v6, v8] at w0 w1 w4 w5 w6 w8); clear he v0 v1 v4 v5 v6 v8; have v0 := w0; have v1 := w1; have v4 := w4; have v5 := w5; have v6 := w6; have v8 := w8; clear w0 w1 w4 w5 w6 w8)
    | (((with_reducible apply wo_call); (· ((with_reducible apply (c60 16 k _ n1 l r s)); (· (exact hb9)); (· (omega)); (· (exact H.tok (by (with_reducible repeat' first | exact mem_h _ _ | apply mem_t); done))); (· (exact gd.right)); (· (exact br)))); rintro _ h ⟨v, _, rfl, g1, rfl, pg1, xg1, ng1, e1, c1, u1, v1'⟩; have fc := H.fr.c; replace H := H.tnew xg1 pg1 ng1 (src1t (by (with_reducible repeat' first | exact mem_h _ _ | apply mem_t); done)); replace ng1 := fun n hn => (ng1 n hn).imp id (Nat.le_trans fc); clear xg1 fc))
    | (((with_reducible apply wo_call); (· ((with_reducible apply c59 32); (· (omega)); (· (omega)); (· (exact H.tok (by (with_reducible repeat' first | exact mem_h _ _ | apply mem_t); done))); (· (exact H.tok (by (with_reducible repeat' first | exact mem_h _ _ | apply mem_t); done))); (· (rw [e1]; exact gd)); (· (exact bl)); (· (exact c1)))); rintro _ h ⟨g2, rfl, pg2, xg2, ng2, e2, c2, u2, v2'⟩; have fc := H.fr.c; replace H := H.tnew xg2 pg2 ng2 (src2t (by (with_reducible repeat' first | exact mem_h _ _ | apply mem_t); done) (by (with_reducible repeat' first | exact mem_h _ _ | apply mem_t); done)); replace ng2 := fun n hn => (ng2 n hn).imp id (Nat.le_trans fc); clear xg2 fc))
    | ((first | with_reducible apply wv_ret | with_reducible apply wv_end); (· ((repeat' (first | with_reducible exact rs_nil | ((with_reducible apply rs_tmp); (· (simp (disch := (first | assumption | omega)) only [Option.some.injEq, v4] <;> rfl))) | ((with_reducible apply rs_cell); (· (simp (disch := (first | assumption | omega)) only [ev, T.get_put, Nat.reduceEqDiff, reduceIte, Option.some.injEq, dec_t, dec_f, Bool.not_true, Bool.not_false, v0, v1, v4, v5, v6, v8] <;> rfl)); (· (kernel_rfl)); (· (rfl)); (· (exact H.ld1 (by (with_reducible repeat' first | exact mem_h _ _ | apply mem_t); done) rfl))) | ((with_reducible apply rs_celln); (· (simp (disch := (first | assumption | omega)) only [ev, T.get_put, Nat.reduceEqDiff, reduceIte, Option.some.injEq, dec_t, dec_f, Bool.not_true, Bool.not_false, v0, v1, v4, v5, v6, v8] <;> rfl)); (· (kernel_rfl)); (· (rfl)); (· (exact H.ldn (by (with_reducible repeat' first | exact mem_h _ _ | apply mem_t); done) rfl rfl))))); done)))
    | simp (disch := (first | assumption | omega)) only [eq_self, opsA_cons, opsA_nil, wantedA, stepA_t, callA, calleeA, targetA, runOp_c, runOp_n, opA, ev, evs, consO, consOO, afterA_s, putA, T.get_put, Nat.reduceEqDiff, reduceIte, List.getElem?_cons_zero, List.getElem?_cons_succ, oBin, binA, binG, binL, aggO, I, oExtract, ty25, ti25, withH_s, eqA, eqD, eqOp, v0, v1, v5, v6])

  all_goals (first | exact ⟨g2, rfl, H.tok (by (with_reducible repeat' first | exact mem_h _ _ | apply mem_t); done), H.toExt, by (intro n hn; simp only [GT.names, List.mem_append, List.mem_cons] at *; grind), by rw [e2, e1], c2⟩ | trace_state)
theorem c49 {n : Nat} (hn : 40 ≤ n) {b : Hp} {a c : GT} (pl : a.ok b) (pr : c.ok b) (gd : GT.Good (a.lst ++ c.lst)) (bl : a.bal) (br : c.bal) : Wv (runA ctx 5000 n 49 [a.val, c.val] b) (fun x h' => RT b h' x (a.names ++ c.names) (fun g => g.lst = a.lst ++ c.lst ∧ g.bal)) := by
  cases c with
  | nil => exact k49a (by omega) pl bl
  | nd n1 l s r => exact k49b hn pl pr gd bl br


/-- two trees that come back -/
def RT2 (b h' : Hp) (x : AV) (src : List Nat) (P : GT → GT → Prop) : Prop := ∃ g1 g2 : GT, x = .tup [g1.val, g2.val] ∧ g1.ok h' ∧ g2.ok h' ∧ Ext b h' ∧ (∀ n, n ∈ g1.names → n ∈ src ∨ b.c ≤ n) ∧ (∀ n, n ∈ g2.names → n ∈ src ∨ b.c ≤ n) ∧ P g1 g2
theorem take_l {l r : List Int} {s : Int} {at' : Nat} (h : at' ≤ l.length) : (l ++ s :: r).take at' = l.take at' := List.take_append_of_le_length h
theorem drop_l {l r : List Int} {s : Int} {at' : Nat} (h : at' ≤ l.length) : (l ++ s :: r).drop at' = l.drop at' ++ s :: r := List.drop_append_of_le_length h
theorem take_r {l r : List Int} {s : Int} {k : Nat} : (l ++ s :: r).take (l.length + 1 + k) = l ++ s :: r.take k := by
  rw [List.take_append, List.take_of_length_le (by omega), show l.length + 1 + k - l.length = k + 1 from by omega, List.take_succ_cons]
theorem drop_r {l r : List Int} {s : Int} {k : Nat} : (l ++ s :: r).drop (l.length + 1 + k) = r.drop k := by
  rw [List.drop_append, List.drop_of_length_le (by omega), show l.length + 1 + k - l.length = k + 1 from by omega, List.drop_succ_cons, List.nil_append]
theorem good_take {l : List Int} (h : GT.Good l) (k : Nat) : GT.Good (l.take k) := GT.Good.left (b := l.drop k) (by rw [List.take_append_drop]; exact h)
theorem good_drop {l : List Int} (h : GT.Good l) (k : Nat) : GT.Good (l.drop k) := GT.Good.right (a := l.take k) (by rw [List.take_append_drop]; exact h)
set_option maxHeartbeats 4000000 in
theorem k47n {n : Nat} (hn : 1 ≤ n) {b : Hp} (at' : Nat) : Wv (runA ctx 5000 n 47 [.lit (.pointer none), I (at' : Int)] b) (fun x h' => RT2 b h' x (GT.names GT.nil) (fun g1 g2 => g1.lst = (GT.lst GT.nil).take at' ∧ g2.lst = (GT.lst GT.nil).drop at' ∧ g1.bal ∧ g2.bal)) := by
  obtain ⟨k, rfl⟩ : ∃ k, n = k + 1 := ⟨n - 1, by omega⟩
  have H := Hs.start b
  refine wv_run fn47 rfl ?_
  have a0 : (enterEnv [.lit (.pointer none), I (at' : Int)] Try.f47.ntmps).get 0 = some (.lit (.pointer none)) := enter_get1 _ _ _
  have a1 : (enterEnv [.lit (.pointer none), I (at' : Int)] Try.f47.ntmps).get 1 = some (I (at' : Int)) := enter_get2 _ _ _ _
  generalize enterEnv [.lit (.pointer none), I (at' : Int)] Try.f47.ntmps = e at a0 a1 ⊢
  unfold Try.f47
  dsimp only
  ((with_reducible apply wc_c (fun i => Nat.beq i 0 || Nat.beq i 1 || Nat.beq i 4 || Nat.beq i 5 || Nat.beq i 6 || Nat.beq i 9)); intro e he; have w9 := he 0 rfl; (try simp only [a0] at w9); have v0 := w9; clear w9; have w9 := he 1 rfl; (try simp only [a1] at w9); have v1 := w9; clear w9; have w9 := he 4 rfl; (try simp only [T.get_put, Nat.reduceEqDiff, reduceIte] at w9); have v4 := w9; clear w9; have w9 := he 5 rfl; (try simp only [T.get_put, Nat.reduceEqDiff, reduceIte] at w9); have v5 := w9; clear w9; have w9 := he 6 rfl; (try simp only [T.get_put, Nat.reduceEqDiff, reduceIte] at w9); have v6 := w9; clear w9; have w9 := he 9 rfl; (try simp only [T.get_put, Nat.reduceEqDiff, reduceIte] at w9); have v9 := w9; clear w9; clear he)
  repeat' (first
    | with_reducible apply wc_seq
    | ((with_reducible apply wc_region); (· (rfl)))
    | with_reducible apply wo_some
    | ((with_reducible apply wc_cond); (· (simp (disch := (first | assumption | omega)) only [ev, Option.some.injEq, v6] <;> rfl)); all_goals (intro hg; (try (try simp only [Bool.not_eq_true'] at hg)); first | (exfalso; exact Bool.noConfusion hg) | (exfalso; exact hg) | skip))
    | with_reducible apply wc_block
    | with_reducible apply wc_ret
    | with_reducible apply nx_r
    | with_reducible apply bx_r
    | ((with_reducible apply nx_c (fun i => Nat.beq i 0 || Nat.beq i 1 || Nat.beq i 4 || Nat.beq i 5 || Nat.beq i 6 || Nat.beq i 9)); intro e he; have w0 := he 0 rfl; have w1 := he 1 rfl; have w4 := he 4 rfl; have w5 := he 5 rfl; have w6 := he 6 rfl; have w9 := he 9 rfl; (try simp only [T.get_put, Nat.reduceEqDiff, reduceIte, v0, v1, v4, v5, v6, v9] at w0 w1 w4 w5 w6 w9); clear he v0 v1 v4 v5 v6 v9; have v0 := w0; have v1 := w1; have v4 := w4; have v5 := w5; have v6 := w6; have v9 := w9; clear w0 w1 w4 w5 w6 w9)
    | ((first | with_reducible apply wv_ret | with_reducible apply wv_end); (· ((repeat' (first | with_reducible exact rs_nil | ((with_reducible apply rs_tmp); (· (simp (disch := (first | assumption | omega)) only [Option.some.injEq, v4, v5] <;> rfl))) | ((with_reducible apply rs_cell); (· (simp (disch := (first | assumption | omega)) only [ev, T.get_put, Nat.reduceEqDiff, reduceIte, Option.some.injEq, dec_t, dec_f, Bool.not_true, Bool.not_false, v0, v1, v4, v5, v6, v9] <;> rfl)); (· (kernel_rfl)); (· (rfl)); (· (exact H.ld1 (by (with_reducible repeat' first | exact mem_h _ _ | apply mem_t); done) rfl))) | ((with_reducible apply rs_celln); (· (simp (disch := (first | assumption | omega)) only [ev, T.get_put, Nat.reduceEqDiff, reduceIte, Option.some.injEq, dec_t, dec_f, Bool.not_true, Bool.not_false, v0, v1, v4, v5, v6, v9] <;> rfl)); (· (kernel_rfl)); (· (rfl)); (· (exact H.ldn (by (with_reducible repeat' first | exact mem_h _ _ | apply mem_t); done) rfl rfl))))); done)))
    | simp (disch := (first | assumption | omega)) only [eq_self, opsA_cons, opsA_nil, wantedA, stepA_t, callA, runOp_n, opA, ev, afterA_s, putA, T.get_put, Nat.reduceEqDiff, reduceIte, oBin, binA, binG, binL, aggO, litA, ty25, ti25, withH_s, eqA, eqD, eqOp, v0])

  all_goals (first | exact ⟨.nil, .nil, rfl, trivial, trivial, H.toExt, fun n hn => (List.not_mem_nil hn).elim, fun n hn => (List.not_mem_nil hn).elim, by simp [GT.lst], by simp [GT.lst], trivial, trivial⟩ | trace_state)
set_option maxHeartbeats 4000000 in
theorem k47a (m : Nat) (ih : ∀ (n : Nat) (b : Hp) (g : GT) (at' : Nat), g.hgt ≤ m → m + 40 ≤ n → g.ok b → GT.Good g.lst → g.bal → at' ≤ g.cnt → Wv (runA ctx 5000 n 47 [g.val, I (at' : Int)] b) (fun x h' => RT2 b h' x (GT.names g) (fun g1 g2 => g1.lst = (GT.lst g).take at' ∧ g2.lst = (GT.lst g).drop at' ∧ g1.bal ∧ g2.bal))) {n : Nat} (hn : m + 41 ≤ n) {b : Hp} {n1 : Nat} {l r : GT} {s : Int} {at' : Nat} (hm : GT.hgt (.nd n1 l s r) ≤ m + 1) (p : GT.ok b (.nd n1 l s r)) (gd : GT.Good (GT.lst (.nd n1 l s r))) (bl : GT.bal (.nd n1 l s r)) (h1 : at' ≤ l.cnt) : Wv (runA ctx 5000 n 47 [.ptr n1 0, I (at' : Int)] b) (fun x h' => RT2 b h' x (GT.names (.nd n1 l s r)) (fun g1 g2 => g1.lst = (GT.lst (.nd n1 l s r)).take at' ∧ g2.lst = (GT.lst (.nd n1 l s r)).drop at' ∧ g1.bal ∧ g2.bal)) := by
  obtain ⟨k, rfl⟩ : ∃ k, n = k + 1 := ⟨n - 1, by omega⟩
  have hz9 := GT.hgt_nd n1 l s r
  obtain ⟨b1, b2, b3, b4⟩ := bl
  have g3 := GT.Good.three (l := l) (r := r) (s := s) gd
  have hll := GT.len l
  have hrl := GT.len r
  have ha9 := GT.bal_hgt b1 (by omega)
  have hb9 := GT.bal_hgt b2 (by omega)
  have gl : GT.Good l.lst := GT.Good.left (b := s :: r.lst) gd
  have gr : GT.Good r.lst := (GT.Good.right (a := l.lst) (b := s :: r.lst) gd).tail
  have H := (Hs.start b).z0 (z := tre (.nd n1 l s r)) p
  replace H := H.topen (n := n1) (l := l) (s := s) (r := r) (by (with_reducible repeat' first | exact mem_h _ _ | apply mem_t); done)
  have Q := rdn (H.tok (g := (.nd n1 l s r)) (by (with_reducible repeat' first | exact mem_h _ _ | apply mem_t); done))
  simp only [ti2, ti25] at Q
  refine wv_run fn47 rfl ?_
  have a0 : (enterEnv [.ptr n1 0, I (at' : Int)] Try.f47.ntmps).get 0 = some (.ptr n1 0) := enter_get1 _ _ _
  have a1 : (enterEnv [.ptr n1 0, I (at' : Int)] Try.f47.ntmps).get 1 = some (I (at' : Int)) := enter_get2 _ _ _ _
  generalize enterEnv [.ptr n1 0, I (at' : Int)] Try.f47.ntmps = e at a0 a1 ⊢
  unfold Try.f47
  dsimp only
  ((with_reducible apply wc_c (fun i => Nat.beq i 0 || Nat.beq i 1 || Nat.beq i 4 || Nat.beq i 5 || Nat.beq i 6 || Nat.beq i 9)); intro e he; have w9 := he 0 rfl; (try simp only [a0] at w9); have v0 := w9; clear w9; have w9 := he 1 rfl; (try simp only [a1] at w9); have v1 := w9; clear w9; have w9 := he 4 rfl; (try simp only [T.get_put, Nat.reduceEqDiff, reduceIte] at w9); have v4 := w9; clear w9; have w9 := he 5 rfl; (try simp only [T.get_put, Nat.reduceEqDiff, reduceIte] at w9); have v5 := w9; clear w9; have w9 := he 6 rfl; (try simp only [T.get_put, Nat.reduceEqDiff, reduceIte] at w9); have v6 := w9; clear w9; have w9 := he 9 rfl; (try simp only [T.get_put, Nat.reduceEqDiff, reduceIte] at w9); have v9 := w9; clear w9; clear he)
  repeat' (first
    | with_reducible apply wc_seq
    | ((with_reducible apply wc_region); (· (rfl)))
    | with_reducible apply wo_some
    | ((with_reducible apply wc_cond); (· (simp (disch := (first | assumption | omega)) only [ev, Option.some.injEq, v6, v9] <;> rfl)); all_goals (intro hg; (try (try simp only [Bool.not_eq_true'] at hg)); first | (exfalso; exact Bool.noConfusion hg) | (exfalso; exact hg) | skip))
    | with_reducible apply wc_block
    | with_reducible apply wc_ret
    | with_reducible apply nx_r
    | with_reducible apply bx_r
    | ((with_reducible apply nx_c (fun i => Nat.beq i 0 || Nat.beq i 1 || Nat.beq i 4 || Nat.beq i 5 || Nat.beq i 6 || Nat.beq i 9)); intro e he; have w0 := he 0 rfl; have w1 := he 1 rfl; have w4 := he 4 rfl; have w5 := he 5 rfl; have w6 := he 6 rfl; have w9 := he 9 rfl; (try simp only [T.get_put, Nat.reduceEqDiff, reduceIte, v0, v1, v4, v5, v6, v9] at w0 w1 w4 w5 w6 w9); clear he v0 v1 v4 v5 v6 v9; have v0 := w0; have v1 := w1; have v4 := w4; have v5 := w5; have v6 := w6; have v9 := w9; clear w0 w1 w4 w5 w6 w9)
    | (((with_reducible apply wo_call); (· ((with_reducible apply c42); (· (omega)); (· (exact H.tok (by (with_reducible repeat' first | exact mem_h _ _ | apply mem_t); done))))); rintro _ h ⟨rfl, rfl⟩))
    | (((with_reducible apply wo_call); (· ((with_reducible apply (ih k _ l at')); (· (omega)); (· (omega)); (· (exact H.tok (by (with_reducible repeat' first | exact mem_h _ _ | apply mem_t); done))); (· (first | exact gl | exact gr)); (· (first | exact b1 | exact b2)); (· (omega)))); rintro _ h ⟨g1, g2, rfl, pg1, pg2, xg1, ng1, ng2, e1, e2, c1, c2⟩; have fc := H.fr.c; have H1 := H.tnew xg1 pg1 ng1 (src1t (by (with_reducible repeat' first | exact mem_h _ _ | apply mem_t); done)); have H2 := H.tnew xg1 pg2 ng2 (src1t (by (with_reducible repeat' first | exact mem_h _ _ | apply mem_t); done)); replace ng1 := fun n hn => (ng1 n hn).imp id (Nat.le_trans fc); replace ng2 := fun n hn => (ng2 n hn).imp id (Nat.le_trans fc); replace H := H1.z1 (z := tre g2) pg2 (H2.std _ (.head _)).2; clear H1 H2 xg1 fc; replace Q := And.intro Q (rdn (H.tok (g := .nd n1 _ _ _) (by (with_reducible repeat' first | exact mem_h _ _ | apply mem_t); done))); simp only [ti2, ti25] at Q; have bh1 := GT.bal_hgt c1 (by rw [← GT.len, e1]; simp only [List.length_take]; omega); have bh2 := GT.bal_hgt c2 (by rw [← GT.len, e2]; simp only [List.length_drop]; omega)))
    | (((with_reducible apply wo_call); (· ((with_reducible apply (c59 32)); (· (omega)); (· (omega)); (· (exact H.tok (by (with_reducible repeat' first | exact mem_h _ _ | apply mem_t); done))); (· (exact H.tok (by (with_reducible repeat' first | exact mem_h _ _ | apply mem_t); done))); (· ((rw [e2, ← drop_l (by omega)]; exact good_drop gd _))); (· (exact c2)); (· (exact b2)))); rintro _ h ⟨g3, rfl, pg3, xg3, ng3, e3, c3, u3, v3'⟩; have fc := H.fr.c; replace H := H.tnew xg3 pg3 ng3 (src2t (by (with_reducible repeat' first | exact mem_h _ _ | apply mem_t); done) (by (with_reducible repeat' first | exact mem_h _ _ | apply mem_t); done)); replace ng3 := fun n hn => (ng3 n hn).imp id (Nat.le_trans fc); clear xg3 fc; replace Q := And.intro Q (rdn (H.tok (g := .nd n1 _ _ _) (by (with_reducible repeat' first | exact mem_h _ _ | apply mem_t); done))); simp only [ti2, ti25] at Q))
    | ((first | with_reducible apply wv_ret | with_reducible apply wv_end); (· ((repeat' (first | with_reducible exact rs_nil | ((with_reducible apply rs_tmp); (· (simp (disch := (first | assumption | omega)) only [Option.some.injEq, v4, v5] <;> rfl))) | ((with_reducible apply rs_cell); (· (simp (disch := (first | assumption | omega)) only [ev, T.get_put, Nat.reduceEqDiff, reduceIte, Option.some.injEq, dec_t, dec_f, Bool.not_true, Bool.not_false, v0, v1, v4, v5, v6, v9, Q] <;> rfl)); (· (kernel_rfl)); (· (rfl)); (· (exact H.ld1 (by (with_reducible repeat' first | exact mem_h _ _ | apply mem_t); done) rfl))) | ((with_reducible apply rs_celln); (· (simp (disch := (first | assumption | omega)) only [ev, T.get_put, Nat.reduceEqDiff, reduceIte, Option.some.injEq, dec_t, dec_f, Bool.not_true, Bool.not_false, v0, v1, v4, v5, v6, v9, Q] <;> rfl)); (· (kernel_rfl)); (· (rfl)); (· (exact H.ldn (by (with_reducible repeat' first | exact mem_h _ _ | apply mem_t); done) rfl rfl))))); done)))
    | simp (disch := (first | assumption | omega)) only [eq_self, opsA_cons, opsA_nil, wantedA, stepA_t, callA, calleeA, targetA, runOp_c, runOp_n, opA, ev, evs, consO, consOO, afterA_s, putA, T.get_put, Nat.reduceEqDiff, reduceIte, List.getElem?_toArray, List.getElem?_cons_zero, List.getElem?_cons_succ, oBin, binA, binG, binL, aggO, litA, cond_true, Bool.not_false, blt_eq, I, Bo, oExtract, fieldAddrA, oFieldAddr, Nat.zero_add, Nat.add_zero, Nat.reduceLT, ty2, ti2, ty25, ti25, ty75, ti75, ii_leq, withH_s, eqA, eqD, eqOp, nckp, dec_t, dec_f, Nat.zero_add, Nat.add_zero, v0, v1, v4, v5, Q])

  all_goals (first | exact ⟨g1, _, rfl, H.tok (by (with_reducible repeat' first | exact mem_h _ _ | apply mem_t); done), H.tok (by (with_reducible repeat' first | exact mem_h _ _ | apply mem_t); done), H.toExt, by (intro n hn; simp only [GT.names, List.mem_append, List.mem_cons] at *; grind), by (intro n hn; simp only [GT.names, List.mem_append, List.mem_cons] at *; grind), by rw [e1, GT.lst, take_l (by omega)], by rw [e3, e2, GT.lst, drop_l (by omega)], c1, c3⟩ | trace_state)
set_option maxHeartbeats 4000000 in
theorem k47b (m : Nat) (ih : ∀ (n : Nat) (b : Hp) (g : GT) (at' : Nat), g.hgt ≤ m → m + 40 ≤ n → g.ok b → GT.Good g.lst → g.bal → at' ≤ g.cnt → Wv (runA ctx 5000 n 47 [g.val, I (at' : Int)] b) (fun x h' => RT2 b h' x (GT.names g) (fun g1 g2 => g1.lst = (GT.lst g).take at' ∧ g2.lst = (GT.lst g).drop at' ∧ g1.bal ∧ g2.bal))) {n : Nat} (hn : m + 41 ≤ n) {b : Hp} {n1 : Nat} {l r : GT} {s : Int} {at' : Nat} (hm : GT.hgt (.nd n1 l s r) ≤ m + 1) (p : GT.ok b (.nd n1 l s r)) (gd : GT.Good (GT.lst (.nd n1 l s r))) (bl : GT.bal (.nd n1 l s r)) (h1 : l.cnt < at') (h2 : at' ≤ GT.cnt (.nd n1 l s r)) : Wv (runA ctx 5000 n 47 [.ptr n1 0, I (at' : Int)] b) (fun x h' => RT2 b h' x (GT.names (.nd n1 l s r)) (fun g1 g2 => g1.lst = (GT.lst (.nd n1 l s r)).take at' ∧ g2.lst = (GT.lst (.nd n1 l s r)).drop at' ∧ g1.bal ∧ g2.bal)) := by
  obtain ⟨j, rfl⟩ : ∃ j, at' = l.lst.length + 1 + j := ⟨at' - l.cnt - 1, by rw [GT.len]; omega⟩
  obtain ⟨k, rfl⟩ : ∃ k, n = k + 1 := ⟨n - 1, by omega⟩
  have hz9 := GT.hgt_nd n1 l s r
  obtain ⟨b1, b2, b3, b4⟩ := bl
  have g3 := GT.Good.three (l := l) (r := r) (s := s) gd
  have hll := GT.len l
  have hrl := GT.len r
  have ha9 := GT.bal_hgt b1 (by omega)
  have hb9 := GT.bal_hgt b2 (by omega)
  have gl : GT.Good l.lst := GT.Good.left (b := s :: r.lst) gd
  have gr : GT.Good r.lst := (GT.Good.right (a := l.lst) (b := s :: r.lst) gd).tail
  have H := (Hs.start b).z0 (z := tre (.nd n1 l s r)) p
  replace H := H.topen (n := n1) (l := l) (s := s) (r := r) (by (with_reducible repeat' first | exact mem_h _ _ | apply mem_t); done)
  have Q := rdn (H.tok (g := (.nd n1 l s r)) (by (with_reducible repeat' first | exact mem_h _ _ | apply mem_t); done))
  simp only [ti2, ti25] at Q
  rw [GT.cnt_nd] at h2
  have hat : ((l.lst.length + 1 + j : Nat) : Int) - (l.cnt : Int) - 1 = (j : Int) := by omega
  refine wv_run fn47 rfl ?_
  have a0 : (enterEnv [.ptr n1 0, I ((l.lst.length + 1 + j : Nat) : Int)] Try.f47.ntmps).get 0 = some (.ptr n1 0) := enter_get1 _ _ _
  have a1 : (enterEnv [.ptr n1 0, I ((l.lst.length + 1 + j : Nat) : Int)] Try.f47.ntmps).get 1 = some (I ((l.lst.length + 1 + j : Nat) : Int)) := enter_get2 _ _ _ _
  generalize enterEnv [.ptr n1 0, I ((l.lst.length + 1 + j : Nat) : Int)] Try.f47.ntmps = e at a0 a1 ⊢
  unfold Try.f47
  dsimp only
  ((with_reducible apply wc_c (fun i => Nat.beq i 0 || Nat.beq i 1 || Nat.beq i 4 || Nat.beq i 5 || Nat.beq i 6 || Nat.beq i 9)); intro e he; have w9 := he 0 rfl; (try simp only [a0] at w9); have v0 := w9; clear w9; have w9 := he 1 rfl; (try simp only [a1] at w9); have v1 := w9; clear w9; have w9 := he 4 rfl; (try simp only [T.get_put, Nat.reduceEqDiff, reduceIte] at w9); have v4 := w9; clear w9; have w9 := he 5 rfl; (try simp only [T.get_put, Nat.reduceEqDiff, reduceIte] at w9); have v5 := w9; clear w9; have w9 := he 6 rfl; (try simp only [T.get_put, Nat.reduceEqDiff, reduceIte] at w9); have v6 := w9; clear w9; have w9 := he 9 rfl; (try simp only [T.get_put, Nat.reduceEqDiff, reduceIte] at w9); have v9 := w9; clear w9; clear he)
  repeat' (first
    | with_reducible apply wc_seq
    | ((with_reducible apply wc_region); (· (rfl)))
    | with_reducible apply wo_some
    | ((with_reducible apply wc_cond); (· (simp (disch := (first | assumption | omega)) only [ev, Option.some.injEq, v6, v9] <;> rfl)); all_goals (intro hg; (try (try simp only [Bool.not_eq_true'] at hg)); first | (exfalso; exact Bool.noConfusion hg) | (exfalso; exact hg) | skip))
    | with_reducible apply wc_block
    | with_reducible apply wc_skip
    | with_reducible apply wc_ret
    | with_reducible apply bx_n
    | ((with_reducible apply nx_c (fun i => Nat.beq i 0 || Nat.beq i 1 || Nat.beq i 4 || Nat.beq i 5 || Nat.beq i 6 || Nat.beq i 9)); intro e he; have w0 := he 0 rfl; have w1 := he 1 rfl; have w4 := he 4 rfl; have w5 := he 5 rfl; have w6 := he 6 rfl; have w9 := he 9 rfl; (try simp only [T.get_put, Nat.reduceEqDiff, reduceIte, v0, v1, v4, v5, v6, v9] at w0 w1 w4 w5 w6 w9); clear he v0 v1 v4 v5 v6 v9; have v0 := w0; have v1 := w1; have v4 := w4; have v5 := w5; have v6 := w6; have v9 := w9; clear w0 w1 w4 w5 w6 w9)
    | (((with_reducible apply wo_call); (· ((with_reducible apply c42); (· (omega)); (· (exact H.tok (by (with_reducible repeat' first | exact mem_h _ _ | apply mem_t); done))))); rintro _ h ⟨rfl, rfl⟩))
    | (((with_reducible apply wo_call); (· ((with_reducible apply (ih k _ r j)); (· (omega)); (· (omega)); (· (exact H.tok (by (with_reducible repeat' first | exact mem_h _ _ | apply mem_t); done))); (· (first | exact gl | exact gr)); (· (first | exact b1 | exact b2)); (· (omega)))); rintro _ h ⟨g1, g2, rfl, pg1, pg2, xg1, ng1, ng2, e1, e2, c1, c2⟩; have fc := H.fr.c; have H1 := H.tnew xg1 pg1 ng1 (src1t (by (with_reducible repeat' first | exact mem_h _ _ | apply mem_t); done)); have H2 := H.tnew xg1 pg2 ng2 (src1t (by (with_reducible repeat' first | exact mem_h _ _ | apply mem_t); done)); replace ng1 := fun n hn => (ng1 n hn).imp id (Nat.le_trans fc); replace ng2 := fun n hn => (ng2 n hn).imp id (Nat.le_trans fc); replace H := H1.z1 (z := tre g2) pg2 (H2.std _ (.head _)).2; clear H1 H2 xg1 fc; replace Q := And.intro Q (rdn (H.tok (g := .nd n1 _ _ _) (by (with_reducible repeat' first | exact mem_h _ _ | apply mem_t); done))); simp only [ti2, ti25] at Q; have bh1 := GT.bal_hgt c1 (by rw [← GT.len, e1]; simp only [List.length_take]; omega); have bh2 := GT.bal_hgt c2 (by rw [← GT.len, e2]; simp only [List.length_drop]; omega)))
    | (((with_reducible apply wo_call); (· ((with_reducible apply (c59 32)); (· (omega)); (· (omega)); (· (exact H.tok (by (with_reducible repeat' first | exact mem_h _ _ | apply mem_t); done))); (· (exact H.tok (by (with_reducible repeat' first | exact mem_h _ _ | apply mem_t); done))); (· ((rw [e1, ← take_r]; exact good_take gd _))); (· (exact b1)); (· (exact c1)))); rintro _ h ⟨g3, rfl, pg3, xg3, ng3, e3, c3, u3, v3'⟩; have fc := H.fr.c; replace H := H.tnew xg3 pg3 ng3 (src2t (by (with_reducible repeat' first | exact mem_h _ _ | apply mem_t); done) (by (with_reducible repeat' first | exact mem_h _ _ | apply mem_t); done)); replace ng3 := fun n hn => (ng3 n hn).imp id (Nat.le_trans fc); clear xg3 fc; replace Q := And.intro Q (rdn (H.tok (g := .nd n1 _ _ _) (by (with_reducible repeat' first | exact mem_h _ _ | apply mem_t); done))); simp only [ti2, ti25] at Q))
    | (((with_reducible apply wc_dynW (id := 6) (p := (3, 10)) (ps := [])); (· (kernel_rfl)); skip))
    | (with_reducible apply wt_cons)
    | (((with_reducible apply wt_nil); refine And.intro ?_ (Exists.intro _ (Exists.intro _ (And.intro rfl ?_))); (· (simp (disch := (first | assumption | omega)) only [eq_self, wantedA, opA, ev, T.get_put, Nat.reduceEqDiff, reduceIte, List.getElem?_cons_zero, List.getElem?_cons_succ, Bool.and_true, ty25, ti25, Q, checksD_nil, checksD_cons, checkD, checkG, sameR, GT.av_val]; done))))
    | ((first | with_reducible apply wv_ret | with_reducible apply wv_end); (· ((repeat' (first | with_reducible exact rs_nil | ((with_reducible apply rs_tmp); (· (simp (disch := (first | assumption | omega)) only [Option.some.injEq, v4, v5] <;> rfl))) | ((with_reducible apply rs_cell); (· (simp (disch := (first | assumption | omega)) only [ev, T.get_put, Nat.reduceEqDiff, reduceIte, Option.some.injEq, dec_t, dec_f, Bool.not_true, Bool.not_false, v0, v1, v4, v5, v6, v9, Q, hat] <;> rfl)); (· (kernel_rfl)); (· (rfl)); (· (exact H.ld1 (by (with_reducible repeat' first | exact mem_h _ _ | apply mem_t); done) rfl))) | ((with_reducible apply rs_celln); (· (simp (disch := (first | assumption | omega)) only [ev, T.get_put, Nat.reduceEqDiff, reduceIte, Option.some.injEq, dec_t, dec_f, Bool.not_true, Bool.not_false, v0, v1, v4, v5, v6, v9, Q, hat] <;> rfl)); (· (kernel_rfl)); (· (rfl)); (· (exact H.ldn (by (with_reducible repeat' first | exact mem_h _ _ | apply mem_t); done) rfl rfl))))); done)))
    | simp (disch := (first | assumption | omega)) only [eq_self, opsA_cons, opsA_nil, wantedA, stepA_t, callA, calleeA, targetA, runOp_c, runOp_n, opA, ev, evs, consO, consOO, afterA_s, putA, T.get_put, Nat.reduceEqDiff, reduceIte, List.getElem?_toArray, List.getElem?_cons_zero, List.getElem?_cons_succ, oBin, binA, binG, binL, aggO, litA, cond_true, Bool.not_true, blt_eq, I, Bo, oExtract, fieldAddrA, oFieldAddr, List.length_cons, List.length_nil, Nat.reduceAdd, Nat.zero_add, Nat.add_zero, Nat.reduceLT, ty2, ti2, ty25, ti25, ty75, ti75, ii_sub, ii_leq, withH_s, eqA, eqD, eqOp, nckp, dec_t, wrap_ok, Nat.zero_add, Nat.add_zero, Nat.reduceAdd, v0, v1, v4, v5, Q, hat])

  all_goals (first | exact ⟨_, g2, rfl, H.tok (by (with_reducible repeat' first | exact mem_h _ _ | apply mem_t); done), H.tok (by (with_reducible repeat' first | exact mem_h _ _ | apply mem_t); done), H.toExt, by (intro n hn; simp only [GT.names, List.mem_append, List.mem_cons] at *; grind), by (intro n hn; simp only [GT.names, List.mem_append, List.mem_cons] at *; grind), by rw [e3, e1, GT.lst, take_r], by rw [e2, GT.lst, drop_r], c3, c2⟩ | trace_state)
theorem c47 : ∀ (m n : Nat) (b : Hp) (g : GT) (at' : Nat), g.hgt ≤ m → m + 40 ≤ n → g.ok b → GT.Good g.lst → g.bal → at' ≤ g.cnt → Wv (runA ctx 5000 n 47 [g.val, I (at' : Int)] b) (fun x h' => RT2 b h' x (GT.names g) (fun g1 g2 => g1.lst = (GT.lst g).take at' ∧ g2.lst = (GT.lst g).drop at' ∧ g1.bal ∧ g2.bal)) := by
  intro m
  induction m with
  | zero =>
    intro n b g at' hm hn p gd bl ha
    cases g with
    | nil => exact k47n (by omega) at'
    | nd n1 l s r => rw [GT.hgt_nd] at hm; omega
  | succ m ih =>
    intro n b g at' hm hn p gd bl ha
    cases g with
    | nil => exact k47n (by omega) at'
    | nd n1 l s r =>
      by_cases h1 : at' ≤ l.cnt
      · exact k47a m ih (by omega) hm p gd bl h1
      · exact k47b m ih (by omega) hm p gd bl (by omega) ha


theorem set_l {l r : List Int} {s v : Int} {i : Nat} (h : i < l.length) : (l ++ s :: r).set i v = l.set i v ++ s :: r := by rw [List.set_append_left _ _ h]
theorem set_r {l r : List Int} {s v : Int} {k : Nat} : (l ++ s :: r).set (l.length + 1 + k) v = l ++ s :: r.set k v := by
  rw [List.set_append_right _ _ (by omega), show l.length + 1 + k - l.length = k + 1 from by omega, List.set_cons_succ]
theorem set_m {l r : List Int} {s v : Int} : (l ++ s :: r).set l.length v = l ++ v :: r := by
  rw [List.set_append_right _ _ (by omega), Nat.sub_self, List.set_cons_zero]
set_option maxHeartbeats 4000000 in
theorem k51a (m : Nat) (ih : ∀ (n : Nat) (b : Hp) (g : GT) (i : Nat) (v : Int), g.hgt ≤ m → m + 40 ≤ n → g.ok b → GT.Good g.lst → GT.Good (g.lst.set i v) → g.bal → i < g.cnt → Wv (runA ctx 5000 n 51 [g.val, I (i : Int), I v] b) (fun x h' => RT b h' x (GT.names g) (fun q => q.lst = (GT.lst g).set i v ∧ q.bal ∧ q.hgt = GT.hgt g))) {n : Nat} (hn : m + 41 ≤ n) {b : Hp} {n1 : Nat} {l r : GT} {s v : Int} {i : Nat} (hm : GT.hgt (.nd n1 l s r) ≤ m + 1) (p : GT.ok b (.nd n1 l s r)) (gd : GT.Good (GT.lst (.nd n1 l s r))) (gd2 : GT.Good ((GT.lst (.nd n1 l s r)).set i v)) (bl : GT.bal (.nd n1 l s r)) (h1 : i < l.cnt) : Wv (runA ctx 5000 n 51 [(GT.nd n1 l s r).val, I ((i : Nat) : Int), I v] b) (fun x h' => RT b h' x (GT.names (.nd n1 l s r)) (fun q => q.lst = (GT.lst (.nd n1 l s r)).set i v ∧ q.bal ∧ q.hgt = GT.hgt (.nd n1 l s r))) := by
  obtain ⟨k, rfl⟩ : ∃ k, n = k + 1 := ⟨n - 1, by omega⟩
  have hz9 := GT.hgt_nd n1 l s r
  obtain ⟨b1, b2, b3, b4⟩ := bl
  have g3 := GT.Good.three (l := l) (r := r) (s := s) gd
  have hll := GT.len l
  have hrl := GT.len r
  have gl : GT.Good l.lst := GT.Good.left (b := s :: r.lst) gd
  have gr : GT.Good r.lst := (GT.Good.right (a := l.lst) (b := s :: r.lst) gd).tail
  have H := (Hs.start b).z0 (z := tre (.nd n1 l s r)) p
  replace H := H.topen (n := n1) (l := l) (s := s) (r := r) (by (with_reducible repeat' first | exact mem_h _ _ | apply mem_t); done)
  have Q := rdn (H.tok (g := (.nd n1 l s r)) (by (with_reducible repeat' first | exact mem_h _ _ | apply mem_t); done))
  simp only [ti2, ti25] at Q
  rw [GT.lst, set_l (by omega)] at gd2
  refine wv_run fn51 rfl ?_
  have a0 : (enterEnv [(GT.nd n1 l s r).val, I ((i : Nat) : Int), I v] Try.f51.ntmps).get 0 = some ((GT.nd n1 l s r).val) := enter_get1 _ _ _
  have a1 : (enterEnv [(GT.nd n1 l s r).val, I ((i : Nat) : Int), I v] Try.f51.ntmps).get 1 = some (I ((i : Nat) : Int)) := enter_get2 _ _ _ _
  have a2 : (enterEnv [(GT.nd n1 l s r).val, I ((i : Nat) : Int), I v] Try.f51.ntmps).get 2 = some (I v) := enter_get3 _ _ _ _ _
  generalize enterEnv [(GT.nd n1 l s r).val, I ((i : Nat) : Int), I v] Try.f51.ntmps = e at a0 a1 a2 ⊢
  unfold Try.f51
  dsimp only
  ((with_reducible apply wc_c (fun i => Nat.beq i 0 || Nat.beq i 1 || Nat.beq i 2 || Nat.beq i 6 || Nat.beq i 7 || Nat.beq i 13 || Nat.beq i 33)); intro e he; have w9 := he 0 rfl; (try simp only [a0] at w9); have v0 := w9; clear w9; have w9 := he 1 rfl; (try simp only [a1] at w9); have v1 := w9; clear w9; have w9 := he 2 rfl; (try simp only [a2] at w9); have v2 := w9; clear w9; have w9 := he 6 rfl; (try simp only [T.get_put, Nat.reduceEqDiff, reduceIte] at w9); have v6 := w9; clear w9; have w9 := he 7 rfl; (try simp only [T.get_put, Nat.reduceEqDiff, reduceIte] at w9); have v7 := w9; clear w9; have w9 := he 13 rfl; (try simp only [T.get_put, Nat.reduceEqDiff, reduceIte] at w9); have v13 := w9; clear w9; have w9 := he 33 rfl; (try simp only [T.get_put, Nat.reduceEqDiff, reduceIte] at w9); have v33 := w9; clear w9; clear he)
  repeat' (first
    | with_reducible apply wc_seq
    | ((with_reducible apply wc_region); (· (rfl)))
    | with_reducible apply wo_some
    | ((with_reducible apply wc_cond); (· (simp (disch := (first | assumption | omega)) only [ev, Option.some.injEq, v13] <;> rfl)); all_goals (intro hg; (try (try simp only [Bool.not_eq_true'] at hg)); first | (exfalso; exact Bool.noConfusion hg) | (exfalso; exact hg) | skip))
    | with_reducible apply wc_block
    | with_reducible apply wc_ret
    | with_reducible apply nx_r
    | with_reducible apply bx_r
    | ((with_reducible apply nx_c (fun i => Nat.beq i 0 || Nat.beq i 1 || Nat.beq i 2 || Nat.beq i 6 || Nat.beq i 7 || Nat.beq i 13 || Nat.beq i 33)); intro e he; have w0 := he 0 rfl; have w1 := he 1 rfl; have w2 := he 2 rfl; have w6 := he 6 rfl; have w7 := he 7 rfl; have w13 := he 13 rfl; have w33 := he 33 rfl; (try simp only [T.get_put, Nat.reduceEqDiff, reduceIte, v0, v1, v2, v6, v7, v13, v33] at w0 w1 w2 w6 w7 w13 w33); clear he v0 v1 v2 v6 v7 v13 v33; have v0 := w0; have v1 := w1; have v2 := w2; have v6 := w6; have v7 := w7; have v13 := w13; have v33 := w33; clear w0 w1 w2 w6 w7 w13 w33)
    | (((with_reducible apply wo_call); (· ((with_reducible apply c42); (· (omega)); (· (exact H.tok (by (with_reducible repeat' first | exact mem_h _ _ | apply mem_t); done))))); rintro _ h ⟨rfl, rfl⟩))
    | (((with_reducible apply wo_call); (· ((with_reducible apply (ih k _ l i v)); (· (omega)); (· (omega)); (· (exact H.tok (by (with_reducible repeat' first | exact mem_h _ _ | apply mem_t); done))); (· (exact gl)); (· (exact gd2.left)); (· (exact b1)); (· (omega)))); rintro _ h ⟨g1, rfl, pg1, xg1, ng1, e1, c1, u1⟩; have fc := H.fr.c; replace H := H.tnew xg1 pg1 ng1 (src1t (by (with_reducible repeat' first | exact mem_h _ _ | apply mem_t); done)); replace ng1 := fun n hn => (ng1 n hn).imp id (Nat.le_trans fc); clear xg1 fc; replace Q := And.intro Q (rdn (H.tok (g := .nd n1 _ _ _) (by (with_reducible repeat' first | exact mem_h _ _ | apply mem_t); done))); simp only [ti2, ti25] at Q))
    | (((with_reducible apply wo_call); (· ((with_reducible apply c53); (· (omega)); (· (exact H.tok (by (with_reducible repeat' first | exact mem_h _ _ | apply mem_t); done))); (· (exact H.tok (by (with_reducible repeat' first | exact mem_h _ _ | apply mem_t); done))); (· ((rw [e1]; exact gd2))))); rintro _ h ⟨_, rfl, pg2, xg2, ng2, m2, rfl⟩; have fc := H.fr.c; replace H := H.tnew xg2 pg2 ng2 (src2t (by (with_reducible repeat' first | exact mem_h _ _ | apply mem_t); done) (by (with_reducible repeat' first | exact mem_h _ _ | apply mem_t); done)); replace ng2 := fun n hn => (ng2 n hn).imp id (Nat.le_trans fc); clear xg2 fc; replace Q := And.intro Q (rdn (H.tok (g := .nd n1 _ _ _) (by (with_reducible repeat' first | exact mem_h _ _ | apply mem_t); done))); simp only [ti2, ti25] at Q))
    | (((with_reducible apply wc_dynW (id := 3) (p := (10, 6)) (ps := [(14, 6)])); (· (kernel_rfl)); skip))
    | (with_reducible apply wt_cons)
    | (((with_reducible apply wt_nil); refine And.intro ?_ (Exists.intro _ (Exists.intro _ (And.intro rfl ?_))); (· (simp (disch := (first | assumption | omega)) only [eq_self, wantedA, opA, ev, T.get_put, Nat.reduceEqDiff, reduceIte, List.getElem?_cons_zero, List.getElem?_cons_succ, Bool.and_true, I, ty2, ti2, ty25, ti25, Q, checksD_nil, checksD_cons, checkD, checkG, sameR, GT.av_val, av_int]; done))))
    | ((first | with_reducible apply wv_ret | with_reducible apply wv_end); (· ((repeat' (first | with_reducible exact rs_nil | ((with_reducible apply rs_tmp); (· (simp (disch := (first | assumption | omega)) only [Option.some.injEq, v6] <;> rfl))) | ((with_reducible apply rs_cell); (· (simp (disch := (first | assumption | omega)) only [ev, T.get_put, Nat.reduceEqDiff, reduceIte, Option.some.injEq, dec_t, dec_f, Bool.not_true, Bool.not_false, v0, v1, v2, v6, v7, v13, v33, Q] <;> rfl)); (· (kernel_rfl)); (· (rfl)); (· (exact H.ld1 (by (with_reducible repeat' first | exact mem_h _ _ | apply mem_t); done) rfl))) | ((with_reducible apply rs_celln); (· (simp (disch := (first | assumption | omega)) only [ev, T.get_put, Nat.reduceEqDiff, reduceIte, Option.some.injEq, dec_t, dec_f, Bool.not_true, Bool.not_false, v0, v1, v2, v6, v7, v13, v33, Q] <;> rfl)); (· (kernel_rfl)); (· (rfl)); (· (exact H.ldn (by (with_reducible repeat' first | exact mem_h _ _ | apply mem_t); done) rfl rfl))))); done)))
    | simp (disch := (first | assumption | omega)) only [eq_self, opsA_cons, opsA_nil, wantedA, stepA_t, callA, calleeA, targetA, runOp_c, runOp_n, opA, ev, evs, consO, consOO, afterA_s, putA, T.get_put, Nat.reduceEqDiff, reduceIte, List.getElem?_toArray, List.getElem?_cons_zero, List.getElem?_cons_succ, oBin, binA, binG, binL, aggO, litA, cond_true, decide_true, blt_eq, I, Bo, fieldAddrA, oFieldAddr, List.length_cons, List.length_nil, Nat.reduceAdd, Nat.zero_add, Nat.add_zero, Nat.reduceLT, ty2, ti2, ty25, ti25, ty75, ti75, ii_lss, withH_s, nck, dec_t, Nat.zero_add, Nat.add_zero, Nat.reduceAdd, v0, v1, v2, v7, Q])

  all_goals (first | exact ⟨_, rfl, H.tok (.head _), H.toExt, by (intro n hn; simp only [GT.names, List.mem_append, List.mem_cons] at *; grind), by rw [GT.lst, e1, GT.lst, set_l (by omega)], ⟨c1, b2, by omega, by omega⟩, by rw [GT.hgt_nd, u1, GT.hgt_nd]⟩ | trace_state)
set_option maxHeartbeats 4000000 in
theorem k51b (m : Nat) (ih : ∀ (n : Nat) (b : Hp) (g : GT) (i : Nat) (v : Int), g.hgt ≤ m → m + 40 ≤ n → g.ok b → GT.Good g.lst → GT.Good (g.lst.set i v) → g.bal → i < g.cnt → Wv (runA ctx 5000 n 51 [g.val, I (i : Int), I v] b) (fun x h' => RT b h' x (GT.names g) (fun q => q.lst = (GT.lst g).set i v ∧ q.bal ∧ q.hgt = GT.hgt g))) {n : Nat} (hn : m + 41 ≤ n) {b : Hp} {n1 : Nat} {l r : GT} {s v : Int} {j : Nat} (hm : GT.hgt (.nd n1 l s r) ≤ m + 1) (p : GT.ok b (.nd n1 l s r)) (gd : GT.Good (GT.lst (.nd n1 l s r))) (gd2 : GT.Good ((GT.lst (.nd n1 l s r)).set (l.lst.length + 1 + j) v)) (bl : GT.bal (.nd n1 l s r)) (h2 : l.lst.length + 1 + j < GT.cnt (.nd n1 l s r)) : Wv (runA ctx 5000 n 51 [(GT.nd n1 l s r).val, I (((l.lst.length + 1 + j) : Nat) : Int), I v] b) (fun x h' => RT b h' x (GT.names (.nd n1 l s r)) (fun q => q.lst = (GT.lst (.nd n1 l s r)).set (l.lst.length + 1 + j) v ∧ q.bal ∧ q.hgt = GT.hgt (.nd n1 l s r))) := by
  obtain ⟨k, rfl⟩ : ∃ k, n = k + 1 := ⟨n - 1, by omega⟩
  have hz9 := GT.hgt_nd n1 l s r
  obtain ⟨b1, b2, b3, b4⟩ := bl
  have g3 := GT.Good.three (l := l) (r := r) (s := s) gd
  have hll := GT.len l
  have hrl := GT.len r
  have gl : GT.Good l.lst := GT.Good.left (b := s :: r.lst) gd
  have gr : GT.Good r.lst := (GT.Good.right (a := l.lst) (b := s :: r.lst) gd).tail
  have H := (Hs.start b).z0 (z := tre (.nd n1 l s r)) p
  replace H := H.topen (n := n1) (l := l) (s := s) (r := r) (by (with_reducible repeat' first | exact mem_h _ _ | apply mem_t); done)
  have Q := rdn (H.tok (g := (.nd n1 l s r)) (by (with_reducible repeat' first | exact mem_h _ _ | apply mem_t); done))
  simp only [ti2, ti25] at Q
  rw [GT.cnt_nd] at h2
  rw [GT.lst, set_r] at gd2
  have hat : ((l.lst.length + 1 + j : Nat) : Int) - (l.cnt : Int) - 1 = (j : Int) := by omega
  refine wv_run fn51 rfl ?_
  have a0 : (enterEnv [(GT.nd n1 l s r).val, I (((l.lst.length + 1 + j) : Nat) : Int), I v] Try.f51.ntmps).get 0 = some ((GT.nd n1 l s r).val) := enter_get1 _ _ _
  have a1 : (enterEnv [(GT.nd n1 l s r).val, I (((l.lst.length + 1 + j) : Nat) : Int), I v] Try.f51.ntmps).get 1 = some (I (((l.lst.length + 1 + j) : Nat) : Int)) := enter_get2 _ _ _ _
  have a2 : (enterEnv [(GT.nd n1 l s r).val, I (((l.lst.length + 1 + j) : Nat) : Int), I v] Try.f51.ntmps).get 2 = some (I v) := enter_get3 _ _ _ _ _
  generalize enterEnv [(GT.nd n1 l s r).val, I (((l.lst.length + 1 + j) : Nat) : Int), I v] Try.f51.ntmps = e at a0 a1 a2 ⊢
  unfold Try.f51
  dsimp only
  ((with_reducible apply wc_c (fun i => Nat.beq i 0 || Nat.beq i 1 || Nat.beq i 2 || Nat.beq i 6 || Nat.beq i 7 || Nat.beq i 13 || Nat.beq i 33)); intro e he; have w9 := he 0 rfl; (try simp only [a0] at w9); have v0 := w9; clear w9; have w9 := he 1 rfl; (try simp only [a1] at w9); have v1 := w9; clear w9; have w9 := he 2 rfl; (try simp only [a2] at w9); have v2 := w9; clear w9; have w9 := he 6 rfl; (try simp only [T.get_put, Nat.reduceEqDiff, reduceIte] at w9); have v6 := w9; clear w9; have w9 := he 7 rfl; (try simp only [T.get_put, Nat.reduceEqDiff, reduceIte] at w9); have v7 := w9; clear w9; have w9 := he 13 rfl; (try simp only [T.get_put, Nat.reduceEqDiff, reduceIte] at w9); have v13 := w9; clear w9; have w9 := he 33 rfl; (try simp only [T.get_put, Nat.reduceEqDiff, reduceIte] at w9); have v33 := w9; clear w9; clear he)
  repeat' (first
    | with_reducible apply wc_seq
    | ((with_reducible apply wc_region); (· (rfl)))
    | with_reducible apply wo_some
    | ((with_reducible apply wc_cond); (· (simp (disch := (first | assumption | omega)) only [ev, Option.some.injEq, v13, v33] <;> rfl)); all_goals (intro hg; (try (try simp only [Bool.not_eq_true'] at hg)); first | (exfalso; exact Bool.noConfusion hg) | (exfalso; exact hg) | skip))
    | with_reducible apply wc_block
    | with_reducible apply wc_ret
    | with_reducible apply nx_r
    | with_reducible apply bx_r
    | ((with_reducible apply nx_c (fun i => Nat.beq i 0 || Nat.beq i 1 || Nat.beq i 2 || Nat.beq i 6 || Nat.beq i 7 || Nat.beq i 13 || Nat.beq i 33)); intro e he; have w0 := he 0 rfl; have w1 := he 1 rfl; have w2 := he 2 rfl; have w6 := he 6 rfl; have w7 := he 7 rfl; have w13 := he 13 rfl; have w33 := he 33 rfl; (try simp only [T.get_put, Nat.reduceEqDiff, reduceIte, v0, v1, v2, v6, v7, v13, v33] at w0 w1 w2 w6 w7 w13 w33); clear he v0 v1 v2 v6 v7 v13 v33; have v0 := w0; have v1 := w1; have v2 := w2; have v6 := w6; have v7 := w7; have v13 := w13; have v33 := w33; clear w0 w1 w2 w6 w7 w13 w33)
    | (((with_reducible apply wo_call); (· ((with_reducible apply c42); (· (omega)); (· (exact H.tok (by (with_reducible repeat' first | exact mem_h _ _ | apply mem_t); done))))); rintro _ h ⟨rfl, rfl⟩))
    | (((with_reducible apply wo_call); (· ((with_reducible apply (ih k _ r j v)); (· (omega)); (· (omega)); (· (exact H.tok (by (with_reducible repeat' first | exact mem_h _ _ | apply mem_t); done))); (· (exact gr)); (· (exact gd2.right.tail)); (· (exact b2)); (· (omega)))); rintro _ h ⟨g1, rfl, pg1, xg1, ng1, e1, c1, u1⟩; have fc := H.fr.c; replace H := H.tnew xg1 pg1 ng1 (src1t (by (with_reducible repeat' first | exact mem_h _ _ | apply mem_t); done)); replace ng1 := fun n hn => (ng1 n hn).imp id (Nat.le_trans fc); clear xg1 fc; replace Q := And.intro Q (rdn (H.tok (g := .nd n1 _ _ _) (by (with_reducible repeat' first | exact mem_h _ _ | apply mem_t); done))); simp only [ti2, ti25] at Q))
    | (((with_reducible apply wo_call); (· ((with_reducible apply c53); (· (omega)); (· (exact H.tok (by (with_reducible repeat' first | exact mem_h _ _ | apply mem_t); done))); (· (exact H.tok (by (with_reducible repeat' first | exact mem_h _ _ | apply mem_t); done))); (· ((rw [e1]; exact gd2))))); rintro _ h ⟨_, rfl, pg2, xg2, ng2, m2, rfl⟩; have fc := H.fr.c; replace H := H.tnew xg2 pg2 ng2 (src2t (by (with_reducible repeat' first | exact mem_h _ _ | apply mem_t); done) (by (with_reducible repeat' first | exact mem_h _ _ | apply mem_t); done)); replace ng2 := fun n hn => (ng2 n hn).imp id (Nat.le_trans fc); clear xg2 fc; replace Q := And.intro Q (rdn (H.tok (g := .nd n1 _ _ _) (by (with_reducible repeat' first | exact mem_h _ _ | apply mem_t); done))); simp only [ti2, ti25] at Q))
    | (((with_reducible apply wc_dynW (id := 5) (p := (3, 18)) (ps := [(7, 18)])); (· (kernel_rfl)); skip))
    | (with_reducible apply wt_cons)
    | (((with_reducible apply wt_nil); refine And.intro ?_ (Exists.intro _ (Exists.intro _ (And.intro rfl ?_))); (· (simp (disch := (first | assumption | omega)) only [eq_self, wantedA, opA, ev, T.get_put, Nat.reduceEqDiff, reduceIte, List.getElem?_cons_zero, List.getElem?_cons_succ, Bool.and_true, I, ty2, ti2, ty25, ti25, Q, checksD_nil, checksD_cons, checkD, checkG, sameR, GT.av_val, av_int]; done))))
    | ((first | with_reducible apply wv_ret | with_reducible apply wv_end); (· ((repeat' (first | with_reducible exact rs_nil | ((with_reducible apply rs_tmp); (· (simp (disch := (first | assumption | omega)) only [Option.some.injEq, v6] <;> rfl))) | ((with_reducible apply rs_cell); (· (simp (disch := (first | assumption | omega)) only [ev, T.get_put, Nat.reduceEqDiff, reduceIte, Option.some.injEq, dec_t, dec_f, Bool.not_true, Bool.not_false, v0, v1, v2, v6, v7, v13, v33, Q, hat] <;> rfl)); (· (kernel_rfl)); (· (rfl)); (· (exact H.ld1 (by (with_reducible repeat' first | exact mem_h _ _ | apply mem_t); done) rfl))) | ((with_reducible apply rs_celln); (· (simp (disch := (first | assumption | omega)) only [ev, T.get_put, Nat.reduceEqDiff, reduceIte, Option.some.injEq, dec_t, dec_f, Bool.not_true, Bool.not_false, v0, v1, v2, v6, v7, v13, v33, Q, hat] <;> rfl)); (· (kernel_rfl)); (· (rfl)); (· (exact H.ldn (by (with_reducible repeat' first | exact mem_h _ _ | apply mem_t); done) rfl rfl))))); done)))
    | simp (disch := (first | assumption | omega)) only [eq_self, opsA_cons, opsA_nil, wantedA, stepA_t, callA, calleeA, targetA, runOp_c, runOp_n, opA, ev, evs, consO, consOO, afterA_s, putA, T.get_put, Nat.reduceEqDiff, reduceIte, List.getElem?_toArray, List.getElem?_cons_zero, List.getElem?_cons_succ, oBin, binA, binG, binL, aggO, litA, cond_true, decide_true, blt_eq, I, Bo, fieldAddrA, oFieldAddr, List.length_cons, List.length_nil, Nat.reduceAdd, Nat.zero_add, Nat.add_zero, Nat.reduceLT, ty2, ti2, ty25, ti25, ty75, ti75, ii_sub, ii_lss, ii_gtr, withH_s, nck, dec_t, dec_f, wrap_ok, Nat.zero_add, Nat.add_zero, Nat.reduceAdd, v0, v1, v2, v7, Q, hat])

  all_goals (first | exact ⟨_, rfl, H.tok (.head _), H.toExt, by (intro n hn; simp only [GT.names, List.mem_append, List.mem_cons] at *; grind), by rw [GT.lst, e1, GT.lst, set_r], ⟨b1, c1, by omega, by omega⟩, by rw [GT.hgt_nd, u1, GT.hgt_nd]⟩ | trace_state)
set_option maxHeartbeats 4000000 in
theorem k51c (m : Nat) (ih : ∀ (n : Nat) (b : Hp) (g : GT) (i : Nat) (v : Int), g.hgt ≤ m → m + 40 ≤ n → g.ok b → GT.Good g.lst → GT.Good (g.lst.set i v) → g.bal → i < g.cnt → Wv (runA ctx 5000 n 51 [g.val, I (i : Int), I v] b) (fun x h' => RT b h' x (GT.names g) (fun q => q.lst = (GT.lst g).set i v ∧ q.bal ∧ q.hgt = GT.hgt g))) {n : Nat} (hn : m + 41 ≤ n) {b : Hp} {n1 : Nat} {l r : GT} {s v : Int} (hm : GT.hgt (.nd n1 l s r) ≤ m + 1) (p : GT.ok b (.nd n1 l s r)) (gd : GT.Good (GT.lst (.nd n1 l s r))) (gd2 : GT.Good ((GT.lst (.nd n1 l s r)).set l.lst.length v)) (bl : GT.bal (.nd n1 l s r)) : Wv (runA ctx 5000 n 51 [(GT.nd n1 l s r).val, I ((l.lst.length : Nat) : Int), I v] b) (fun x h' => RT b h' x (GT.names (.nd n1 l s r)) (fun q => q.lst = (GT.lst (.nd n1 l s r)).set l.lst.length v ∧ q.bal ∧ q.hgt = GT.hgt (.nd n1 l s r))) := by
  obtain ⟨k, rfl⟩ : ∃ k, n = k + 1 := ⟨n - 1, by omega⟩
  have hz9 := GT.hgt_nd n1 l s r
  obtain ⟨b1, b2, b3, b4⟩ := bl
  have g3 := GT.Good.three (l := l) (r := r) (s := s) gd
  have hll := GT.len l
  have hrl := GT.len r
  have gl : GT.Good l.lst := GT.Good.left (b := s :: r.lst) gd
  have gr : GT.Good r.lst := (GT.Good.right (a := l.lst) (b := s :: r.lst) gd).tail
  have H := (Hs.start b).z0 (z := tre (.nd n1 l s r)) p
  replace H := H.topen (n := n1) (l := l) (s := s) (r := r) (by (with_reducible repeat' first | exact mem_h _ _ | apply mem_t); done)
  have Q := rdn (H.tok (g := (.nd n1 l s r)) (by (with_reducible repeat' first | exact mem_h _ _ | apply mem_t); done))
  simp only [ti2, ti25] at Q
  rw [GT.lst, set_m] at gd2
  refine wv_run fn51 rfl ?_
  have a0 : (enterEnv [(GT.nd n1 l s r).val, I ((l.lst.length : Nat) : Int), I v] Try.f51.ntmps).get 0 = some ((GT.nd n1 l s r).val) := enter_get1 _ _ _
  have a1 : (enterEnv [(GT.nd n1 l s r).val, I ((l.lst.length : Nat) : Int), I v] Try.f51.ntmps).get 1 = some (I ((l.lst.length : Nat) : Int)) := enter_get2 _ _ _ _
  have a2 : (enterEnv [(GT.nd n1 l s r).val, I ((l.lst.length : Nat) : Int), I v] Try.f51.ntmps).get 2 = some (I v) := enter_get3 _ _ _ _ _
  generalize enterEnv [(GT.nd n1 l s r).val, I ((l.lst.length : Nat) : Int), I v] Try.f51.ntmps = e at a0 a1 a2 ⊢
  unfold Try.f51
  dsimp only
  ((with_reducible apply wc_c (fun i => Nat.beq i 0 || Nat.beq i 1 || Nat.beq i 2 || Nat.beq i 6 || Nat.beq i 7 || Nat.beq i 13 || Nat.beq i 33)); intro e he; have w9 := he 0 rfl; (try simp only [a0] at w9); have v0 := w9; clear w9; have w9 := he 1 rfl; (try simp only [a1] at w9); have v1 := w9; clear w9; have w9 := he 2 rfl; (try simp only [a2] at w9); have v2 := w9; clear w9; have w9 := he 6 rfl; (try simp only [T.get_put, Nat.reduceEqDiff, reduceIte] at w9); have v6 := w9; clear w9; have w9 := he 7 rfl; (try simp only [T.get_put, Nat.reduceEqDiff, reduceIte] at w9); have v7 := w9; clear w9; have w9 := he 13 rfl; (try simp only [T.get_put, Nat.reduceEqDiff, reduceIte] at w9); have v13 := w9; clear w9; have w9 := he 33 rfl; (try simp only [T.get_put, Nat.reduceEqDiff, reduceIte] at w9); have v33 := w9; clear w9; clear he)
  repeat' (first
    | with_reducible apply wc_seq
    | ((with_reducible apply wc_region); (· (rfl)))
    | with_reducible apply wo_some
    | ((with_reducible apply wc_cond); (· (simp (disch := (first | assumption | omega)) only [ev, Option.some.injEq, v13, v33] <;> rfl)); all_goals (intro hg; (try (try simp only [Bool.not_eq_true'] at hg)); first | (exfalso; exact Bool.noConfusion hg) | (exfalso; exact hg) | skip))
    | with_reducible apply wc_block
    | with_reducible apply wc_skip
    | with_reducible apply wc_ret
    | with_reducible apply bx_n
    | ((with_reducible apply nx_c (fun i => Nat.beq i 0 || Nat.beq i 1 || Nat.beq i 2 || Nat.beq i 6 || Nat.beq i 7 || Nat.beq i 13 || Nat.beq i 33)); intro e he; have w0 := he 0 rfl; have w1 := he 1 rfl; have w2 := he 2 rfl; have w6 := he 6 rfl; have w7 := he 7 rfl; have w13 := he 13 rfl; have w33 := he 33 rfl; (try simp only [T.get_put, Nat.reduceEqDiff, reduceIte, v0, v1, v2, v6, v7, v13, v33] at w0 w1 w2 w6 w7 w13 w33); clear he v0 v1 v2 v6 v7 v13 v33; have v0 := w0; have v1 := w1; have v2 := w2; have v6 := w6; have v7 := w7; have v13 := w13; have v33 := w33; clear w0 w1 w2 w6 w7 w13 w33)
    | (((with_reducible apply wo_call); (· ((with_reducible apply c42); (· (omega)); (· (exact H.tok (by (with_reducible repeat' first | exact mem_h _ _ | apply mem_t); done))))); rintro _ h ⟨rfl, rfl⟩))
    | (((with_reducible apply wo_call); (· ((with_reducible apply c53); (· (omega)); (· (exact H.tok (by (with_reducible repeat' first | exact mem_h _ _ | apply mem_t); done))); (· (exact H.tok (by (with_reducible repeat' first | exact mem_h _ _ | apply mem_t); done))); (· (exact gd2)))); rintro _ h ⟨_, rfl, pg2, xg2, ng2, m2, rfl⟩; have fc := H.fr.c; replace H := H.tnew xg2 pg2 ng2 (src2t (by (with_reducible repeat' first | exact mem_h _ _ | apply mem_t); done) (by (with_reducible repeat' first | exact mem_h _ _ | apply mem_t); done)); replace ng2 := fun n hn => (ng2 n hn).imp id (Nat.le_trans fc); clear xg2 fc; replace Q := And.intro Q (rdn (H.tok (g := .nd n1 _ _ _) (by (with_reducible repeat' first | exact mem_h _ _ | apply mem_t); done))); simp only [ti2, ti25] at Q))
    | ((first | with_reducible apply wv_ret | with_reducible apply wv_end); (· ((repeat' (first | with_reducible exact rs_nil | ((with_reducible apply rs_tmp); (· (simp (disch := (first | assumption | omega)) only [Option.some.injEq, v6] <;> rfl))) | ((with_reducible apply rs_cell); (· (simp (disch := (first | assumption | omega)) only [ev, T.get_put, Nat.reduceEqDiff, reduceIte, Option.some.injEq, dec_t, dec_f, Bool.not_true, Bool.not_false, v0, v1, v2, v6, v7, v13, v33, Q] <;> rfl)); (· (kernel_rfl)); (· (rfl)); (· (exact H.ld1 (by (with_reducible repeat' first | exact mem_h _ _ | apply mem_t); done) rfl))) | ((with_reducible apply rs_celln); (· (simp (disch := (first | assumption | omega)) only [ev, T.get_put, Nat.reduceEqDiff, reduceIte, Option.some.injEq, dec_t, dec_f, Bool.not_true, Bool.not_false, v0, v1, v2, v6, v7, v13, v33, Q] <;> rfl)); (· (kernel_rfl)); (· (rfl)); (· (exact H.ldn (by (with_reducible repeat' first | exact mem_h _ _ | apply mem_t); done) rfl rfl))))); done)))
    | simp (disch := (first | assumption | omega)) only [eq_self, opsA_cons, opsA_nil, wantedA, stepA_t, callA, calleeA, targetA, runOp_c, runOp_n, opA, ev, evs, consO, consOO, afterA_s, putA, T.get_put, Nat.reduceEqDiff, reduceIte, List.getElem?_toArray, List.getElem?_cons_zero, List.getElem?_cons_succ, oBin, binA, binG, binL, aggO, litA, cond_true, decide_true, blt_eq, I, Bo, fieldAddrA, oFieldAddr, Nat.zero_add, Nat.add_zero, Nat.reduceLT, ty25, ti25, ty75, ti75, ii_lss, ii_gtr, withH_s, nck, dec_t, dec_f, Nat.zero_add, Nat.add_zero, v0, v1, v2, v7, Q])

  all_goals (first | exact ⟨_, rfl, H.tok (.head _), H.toExt, by (intro n hn; simp only [GT.names, List.mem_append, List.mem_cons] at *; grind), by rw [GT.lst, GT.lst, set_m], ⟨b1, b2, b3, b4⟩, by rw [GT.hgt_nd, GT.hgt_nd]⟩ | trace_state)
theorem c51 : ∀ (m n : Nat) (b : Hp) (g : GT) (i : Nat) (v : Int), g.hgt ≤ m → m + 40 ≤ n → g.ok b → GT.Good g.lst → GT.Good (g.lst.set i v) → g.bal → i < g.cnt → Wv (runA ctx 5000 n 51 [g.val, I (i : Int), I v] b) (fun x h' => RT b h' x (GT.names g) (fun q => q.lst = (GT.lst g).set i v ∧ q.bal ∧ q.hgt = GT.hgt g)) := by
  intro m
  induction m with
  | zero =>
    intro n b g i v hm hn pl gd gd2 bl hi
    cases g with
    | nil => rw [GT.cnt_nil] at hi; omega
    | nd n1 l s r => rw [GT.hgt_nd] at hm; omega
  | succ m ih =>
    intro n b g i v hm hn pl gd gd2 bl hi
    cases g with
    | nil => rw [GT.cnt_nil] at hi; omega
    | nd n1 l s r =>
      have hl := GT.len l
      rcases Nat.lt_trichotomy i l.cnt with h1 | h1 | h1
      · exact k51a m ih (by omega) hm pl gd gd2 bl h1
      · obtain rfl : i = l.lst.length := by omega
        exact k51c m ih (by omega) hm pl gd gd2 bl
      · obtain ⟨j, rfl⟩ : ∃ j, i = l.lst.length + 1 + j := ⟨i - l.cnt - 1, by omega⟩
        exact k51b m ih (by omega) hm pl gd gd2 bl hi


theorem pow_half {h m : Nat} (h1 : m < 2 ^ (h + 1)) : m / 2 < 2 ^ h := by rw [Nat.pow_succ] at h1; omega
theorem hb_le {ha hb a c : Nat} (h1 : 0 < ha → 2 ^ (ha - 1) ≤ a) (h2 : a ≤ c + 1) (h3 : c < 2 ^ hb) : ha ≤ hb + 1 := by
  by_cases h4 : ha = 0
  · omega
  · have h5 : 2 ^ (ha - 1) ≤ 2 ^ hb := by have := h1 (by omega); omega
    have := (Nat.pow_le_pow_iff_right (show 1 < 2 by decide)).1 h5
    omega
theorem ia22 {nm off n j c z : Nat} {r : Bool} (hj : j < n) : indexAddrA ctx 22 (.slice nm off n r c z) (.lit (.int .i64 (j : Int))) = some (.ptr nm (off + j)) := ia_own ty22 rfl ty2 rfl hj
theorem lst_half (xs : List Int) {x : Int} (hx : xs[xs.length / 2]? = some x) : xs = xs.take (xs.length / 2) ++ x :: xs.drop (xs.length / 2 + 1) := by
  have e := List.take_append_drop (xs.length / 2) xs
  rw [drop_at hx] at e
  exact e.symm
theorem at_map {xs : List Int} {k : Nat} {x : Int} (h : xs[k]? = some x) : (xs.map I)[k]? = some (I x) := by rw [List.getElem?_map, h]; rfl
set_option maxHeartbeats 4000000 in
theorem k38n {n : Nat} (hn : 1 ≤ n) {b : Hp} {w : AV} {xs : List Int} {c : Bool} (hv : Lc c b w (xs.map I)) (h0 : xs.length = 0) : Wv (runA ctx 5000 n 38 [w] b) (fun x h' => RT b h' x [] (fun g => g.lst = xs ∧ g.bal ∧ xs.length < 2 ^ g.hgt ∧ (0 < g.hgt → 2 ^ (g.hgt - 1) ≤ xs.length))) := by
  obtain ⟨k, rfl⟩ : ∃ k, n = k + 1 := ⟨n - 1, by omega⟩
  have H := ((Hs.start b).z0 (z := lc c w (xs.map I)) hv).z0 (z := isl w (xs.map I)) hv.isL
  refine wv_run fn38 rfl ?_
  have a0 : (enterEnv [w] Try.f38.ntmps).get 0 = some (w) := enter_get1 _ _ _
  generalize enterEnv [w] Try.f38.ntmps = e at a0 ⊢
  unfold Try.f38
  dsimp only
  ((with_reducible apply wc_c (fun i => Nat.beq i 0 || Nat.beq i 2 || Nat.beq i 3 || Nat.beq i 6)); intro e he; have w9 := he 0 rfl; (try simp only [a0] at w9); have v0 := w9; clear w9; have w9 := he 2 rfl; (try simp only [T.get_put, Nat.reduceEqDiff, reduceIte] at w9); have v2 := w9; clear w9; have w9 := he 3 rfl; (try simp only [T.get_put, Nat.reduceEqDiff, reduceIte] at w9); have v3 := w9; clear w9; have w9 := he 6 rfl; (try simp only [T.get_put, Nat.reduceEqDiff, reduceIte] at w9); have v6 := w9; clear w9; clear he)
  repeat' (first
    | with_reducible apply wc_seq
    | ((with_reducible apply wc_region); (· (rfl)))
    | with_reducible apply wo_some
    | ((with_reducible apply wc_cond); (· (simp (disch := (first | assumption | omega)) only [ev, Option.some.injEq, v6] <;> rfl)); all_goals (intro hg; (try (try simp only [Bool.not_eq_true'] at hg)); first | (exfalso; exact Bool.noConfusion hg) | (exfalso; exact hg) | skip))
    | with_reducible apply wc_ret
    | with_reducible apply nx_r
    | ((with_reducible apply nx_c (fun i => Nat.beq i 0 || Nat.beq i 2 || Nat.beq i 3 || Nat.beq i 6)); intro e he; have w0 := he 0 rfl; have w2 := he 2 rfl; have w3 := he 3 rfl; have w6 := he 6 rfl; (try simp only [T.get_put, Nat.reduceEqDiff, reduceIte, v0, v2, v3, v6] at w0 w2 w3 w6); clear he v0 v2 v3 v6; have v0 := w0; have v2 := w2; have v3 := w3; have v6 := w6; clear w0 w2 w3 w6)
    | ((with_reducible apply wo_len H); (· ((with_reducible repeat' first | exact mem_h _ _ | apply mem_t); done)); (· (exact ty22)); (· (rfl)))
    | ((first | with_reducible apply wv_ret | with_reducible apply wv_end); (· ((repeat' (first | with_reducible exact rs_nil | ((with_reducible apply rs_tmp); (· (simp (disch := (first | assumption | omega)) only [Option.some.injEq, v2] <;> rfl))) | ((with_reducible apply rs_cell); (· (simp (disch := (first | assumption | omega)) only [ev, T.get_put, Nat.reduceEqDiff, reduceIte, Option.some.injEq, dec_t, dec_f, Bool.not_true, Bool.not_false, v0, v2, v3, v6, List.length_map, h0] <;> rfl)); (· (kernel_rfl)); (· (rfl)); (· (exact H.ld1 (by (with_reducible repeat' first | exact mem_h _ _ | apply mem_t); done) rfl))) | ((with_reducible apply rs_celln); (· (simp (disch := (first | assumption | omega)) only [ev, T.get_put, Nat.reduceEqDiff, reduceIte, Option.some.injEq, dec_t, dec_f, Bool.not_true, Bool.not_false, v0, v2, v3, v6, List.length_map, h0] <;> rfl)); (· (kernel_rfl)); (· (rfl)); (· (exact H.ldn (by (with_reducible repeat' first | exact mem_h _ _ | apply mem_t); done) rfl rfl))))); done)))
    | simp (disch := (first | assumption | omega)) only [eq_self, opsA_cons, opsA_nil, wantedA, stepA_t, callA, calleeA, runOp_n, opA, ev, evs, consO, consOO, afterA_s, putA, T.get_put, Nat.reduceEqDiff, reduceIte, oBuiltin, oBin, binA, binG, binL, aggO, litA, I, Bo, ii_eql, withH_s, dec_t, v0, List.length_map, h0])

  all_goals (first | exact ⟨.nil, rfl, trivial, H.toExt, fun n hn => (List.not_mem_nil hn).elim, (List.length_eq_zero_iff.1 h0).symm, trivial, by first | exact Nat.one_pos | (rw [h0]; exact Nat.one_pos), fun h => absurd h (Nat.lt_irrefl 0)⟩ | trace_state)
set_option maxHeartbeats 4000000 in
theorem k38a (m : Nat) (ih : ∀ (n : Nat) (b : Hp) (w : AV) (xs : List Int) (c : Bool), xs.length < 2 ^ m → m + 5 ≤ n → Lc c b w (xs.map I) → GT.Good xs → Wv (runA ctx 5000 n 38 [w] b) (fun x h' => RT b h' x [] (fun g => g.lst = xs ∧ g.bal ∧ xs.length < 2 ^ g.hgt ∧ (0 < g.hgt → 2 ^ (g.hgt - 1) ≤ xs.length)))) {n : Nat} (hn : m + 6 ≤ n) {b : Hp} {nm off cap z : Nat} {rest : Bool} {xs : List Int} {c : Bool} (hx : xs.length < 2 ^ (m + 1)) (hv : Lc c b (.slice nm off (xs.map I).length rest cap z) (xs.map I)) (rd : ∀ k x, (xs.map I)[k]? = some x → ∀ h', Ext b h' → Abs.load h' nm (off + k) 1 = some [x]) (gd : GT.Good xs) (h0 : 0 < xs.length) : Wv (runA ctx 5000 n 38 [(.slice nm off (xs.map I).length rest cap z)] b) (fun x h' => RT b h' x [] (fun g => g.lst = xs ∧ g.bal ∧ xs.length < 2 ^ g.hgt ∧ (0 < g.hgt → 2 ^ (g.hgt - 1) ≤ xs.length))) := by
  obtain ⟨k, rfl⟩ : ∃ k, n = k + 1 := ⟨n - 1, by omega⟩
  have hln := gd.2.2
  have hq : ((xs.length : Nat) : Int).tdiv 2 = ((xs.length / 2 : Nat) : Int) := by rw [Int.tdiv_eq_ediv_of_nonneg (by omega)]; rfl
  obtain ⟨y, hy⟩ := at_some (show xs.length / 2 < xs.length by omega)
  have hsp := lst_half xs hy
  have r9 : ∀ h', Ext b h' → oLoad h' (some ti2) (some (.ptr nm (off + xs.length / 2))) = some (I y, h') := fun h' e => oload1 rfl (rd _ _ (at_map hy) h' e)
  simp only [ti2] at r9
  have hs1 : ((xs.length / 2 : Nat) : Int) + 1 = ((xs.length / 2 + 1 : Nat) : Int) := by omega
  have i9 := ia22 (nm := nm) (off := off) (n := xs.length) (j := xs.length / 2) (c := cap) (z := z) (r := rest) (by omega)
  have g1' : GT.Good (xs.take (xs.length / 2)) := good_take gd _
  have g2' : GT.Good (xs.drop (xs.length / 2 + 1)) := good_drop gd _
  have gd' : GT.Good (xs.take (xs.length / 2) ++ y :: xs.drop (xs.length / 2 + 1)) := by rw [← hsp]; exact gd
  have H := ((Hs.start b).z0 (z := lc c (.slice nm off (xs.map I).length rest cap z) (xs.map I)) hv).z0 (z := isl (.slice nm off (xs.map I).length rest cap z) (xs.map I)) hv.isL
  rw [List.length_map] at *
  have Q := r9 b H.toExt
  refine wv_run fn38 rfl ?_
  have a0 : (enterEnv [(.slice nm off xs.length rest cap z)] Try.f38.ntmps).get 0 = some ((.slice nm off xs.length rest cap z)) := enter_get1 _ _ _
  generalize enterEnv [(.slice nm off xs.length rest cap z)] Try.f38.ntmps = e at a0 ⊢
  unfold Try.f38
  dsimp only
  ((with_reducible apply wc_c (fun i => Nat.beq i 0 || Nat.beq i 2 || Nat.beq i 3 || Nat.beq i 6)); intro e he; have w9 := he 0 rfl; (try simp only [a0] at w9); have v0 := w9; clear w9; have w9 := he 2 rfl; (try simp only [T.get_put, Nat.reduceEqDiff, reduceIte] at w9); have v2 := w9; clear w9; have w9 := he 3 rfl; (try simp only [T.get_put, Nat.reduceEqDiff, reduceIte] at w9); have v3 := w9; clear w9; have w9 := he 6 rfl; (try simp only [T.get_put, Nat.reduceEqDiff, reduceIte] at w9); have v6 := w9; clear w9; clear he)
  repeat' (first
    | with_reducible apply wc_seq
    | ((with_reducible apply wc_region); (· (rfl)))
    | with_reducible apply wo_some
    | ((with_reducible apply wc_cond); (· (simp (disch := (first | assumption | omega)) only [ev, Option.some.injEq, v6] <;> rfl)); all_goals (intro hg; (try (try simp only [Bool.not_eq_true'] at hg)); first | (exfalso; exact Bool.noConfusion hg) | (exfalso; exact hg) | skip))
    | with_reducible apply wc_skip
    | with_reducible apply wc_ret
    | ((with_reducible apply nx_c (fun i => Nat.beq i 0 || Nat.beq i 2 || Nat.beq i 3 || Nat.beq i 6)); intro e he; have w0 := he 0 rfl; have w2 := he 2 rfl; have w3 := he 3 rfl; have w6 := he 6 rfl; (try simp only [T.get_put, Nat.reduceEqDiff, reduceIte, v0, v2, v3, v6] at w0 w2 w3 w6); clear he v0 v2 v3 v6; have v0 := w0; have v2 := w2; have v3 := w3; have v6 := w6; clear w0 w2 w3 w6)
    | (((with_reducible apply wo_call); (· ((with_reducible apply (ih k _ _ (xs.take (xs.length / 2)))); (· ((rw [List.length_take]; have := pow_half hx; omega))); (· (omega)); (· (exact H.pz (a := lc _ _ _) (by (with_reducible repeat' first | exact mem_h _ _ | apply mem_t); done))); (· (exact g1')))); rintro _ h ⟨g1, rfl, pg1, xg1, ng1, e1, c1, u1, v1'⟩; have fc := H.fr.c; replace H := H.tnew xg1 pg1 ng1 (fun n hn => (List.not_mem_nil hn).elim); replace ng1 := fun n hn => (ng1 n hn).imp id (Nat.le_trans fc); clear xg1 fc; replace Q := And.intro Q (r9 _ H.toExt)))
    | (((with_reducible apply wo_call); (· ((with_reducible apply (ih k _ _ (xs.drop (xs.length / 2 + 1)))); (· ((rw [List.length_drop]; have := pow_half hx; omega))); (· (omega)); (· (exact H.pz (a := lc _ _ _) (by (with_reducible repeat' first | exact mem_h _ _ | apply mem_t); done))); (· (exact g2')))); rintro _ h ⟨g2, rfl, pg2, xg2, ng2, e2, c2, u2, v2'⟩; have fc := H.fr.c; replace H := H.tnew xg2 pg2 ng2 (fun n hn => (List.not_mem_nil hn).elim); replace ng2 := fun n hn => (ng2 n hn).imp id (Nat.le_trans fc); clear xg2 fc; replace Q := And.intro Q (r9 _ H.toExt)))
    | (((with_reducible apply wo_call); (· ((with_reducible apply c53); (· (omega)); (· (exact H.tok (by (with_reducible repeat' first | exact mem_h _ _ | apply mem_t); done))); (· (exact H.tok (by (with_reducible repeat' first | exact mem_h _ _ | apply mem_t); done))); (· ((rw [e1, e2]; exact gd'))))); rintro _ h ⟨_, rfl, pg3, xg3, ng3, m3, rfl⟩; have fc := H.fr.c; replace H := H.tnew xg3 pg3 ng3 (src2t (by (with_reducible repeat' first | exact mem_h _ _ | apply mem_t); done) (by (with_reducible repeat' first | exact mem_h _ _ | apply mem_t); done)); replace ng3 := fun n hn => (ng3 n hn).imp id (Nat.le_trans fc); clear xg3 fc; replace Q := And.intro Q (r9 _ H.toExt)))
    | (((with_reducible apply wc_dynW (id := 4) (p := (7, 3)) (ps := [(7, 13)])); (· (kernel_rfl)); skip))
    | (with_reducible apply wt_cons)
    | (((with_reducible apply wt_nil); refine And.intro ?_ (Exists.intro _ (Exists.intro _ (And.intro rfl ?_))); (· (simp (disch := (first | assumption | omega)) only [eq_self, wantedA, opA, ev, T.get_put, Nat.reduceEqDiff, reduceIte, List.getElem?_cons_zero, List.getElem?_cons_succ, Bool.and_true, I, ty2, ti2, Q, checksD_nil, checksD_cons, checkD, checkG, sameR, av_int]; done))))
    | (((with_reducible apply wo_slb H); (· ((with_reducible repeat' first | exact mem_h _ _ | apply mem_t); done)); (· (exact ty22)); (· (rfl)); (· (exact ty2)); (· (rfl)); (· (rfl)); (· (simp only [List.length_map]; omega)); clear H; intro w9 r8 hn9 H; simp only [← List.map_take] at H r8))
    | (((with_reducible apply wo_sla H); (· ((with_reducible repeat' first | exact mem_h _ _ | apply mem_t); done)); (· (exact ty22)); (· (rfl)); (· (exact ty2)); (· (rfl)); (· (rfl)); (· (simp only [List.length_map]; omega)); clear H; intro w9 r8 hn9 H; simp only [← List.map_drop] at H r8))
    | ((with_reducible apply wo_len H); (· ((with_reducible repeat' first | exact mem_h _ _ | apply mem_t); done)); (· (exact ty22)); (· (rfl)))
    | ((first | with_reducible apply wv_ret | with_reducible apply wv_end); (· ((repeat' (first | with_reducible exact rs_nil | ((with_reducible apply rs_tmp); (· (simp (disch := (first | assumption | omega)) only [Option.some.injEq, v2] <;> rfl))) | ((with_reducible apply rs_cell); (· (simp (disch := (first | assumption | omega)) only [ev, T.get_put, Nat.reduceEqDiff, reduceIte, Option.some.injEq, dec_t, dec_f, Bool.not_true, Bool.not_false, v0, v2, v3, v6, List.length_map, hq, hs1, i9, Q] <;> rfl)); (· (kernel_rfl)); (· (rfl)); (· (exact H.ld1 (by (with_reducible repeat' first | exact mem_h _ _ | apply mem_t); done) rfl))) | ((with_reducible apply rs_celln); (· (simp (disch := (first | assumption | omega)) only [ev, T.get_put, Nat.reduceEqDiff, reduceIte, Option.some.injEq, dec_t, dec_f, Bool.not_true, Bool.not_false, v0, v2, v3, v6, List.length_map, hq, hs1, i9, Q] <;> rfl)); (· (kernel_rfl)); (· (rfl)); (· (exact H.ldn (by (with_reducible repeat' first | exact mem_h _ _ | apply mem_t); done) rfl rfl))))); done)))
    | simp (disch := (first | assumption | omega)) only [eq_self, opsA_cons, opsA_nil, wantedA, stepA_t, callA, calleeA, targetA, runOp_c, runOp_n, opA, ev, evs, evo, consO, consOO, afterA_s, putA, T.get_put, Nat.reduceEqDiff, reduceIte, List.getElem?_cons_succ, oBuiltin, oBin, binA, binG, binL, aggO, litA, oIndexAddr, I, Bo, List.length_cons, List.length_nil, Nat.reduceAdd, Nat.zero_add, ty2, ti2, ii_add, ii_eql, ii_quo, withH_s, oSlice, dec_f, wrap_ok, Nat.zero_add, Nat.reduceAdd, v0, v3, List.length_map, hq, hs1, i9, Q])

  all_goals (
    rw [List.length_take] at u1 v1'
    rw [List.length_drop] at u2 v2'
    have q1 := hb_le (ha := g1.hgt) (hb := g2.hgt) v1' (by omega) u2
    have q2 := hb_le (ha := g2.hgt) (hb := g1.hgt) v2' (by omega) u1
    refine ⟨_, rfl, H.tok (.head _), H.toExt, by (intro n hn; simp only [GT.names, List.mem_append, List.mem_cons] at *; grind), by rw [GT.lst, e1, e2]; exact hsp.symm, ⟨c1, c2, q1, q2⟩, ?_, fun _ => ?_⟩
    · rw [GT.hgt_nd, Nat.pow_succ]
      have := Nat.pow_le_pow_right (show 0 < 2 by decide) (Nat.le_max_left g1.hgt g2.hgt)
      omega
    · rw [GT.hgt_nd, Nat.add_sub_cancel]
      by_cases hz : g1.hgt ≤ g2.hgt
      · rw [Nat.max_eq_right hz]
        by_cases hz0 : g2.hgt = 0
        · rw [hz0]; omega
        · have := v2' (by omega)
          obtain ⟨e, he⟩ : ∃ e, g2.hgt = e + 1 := ⟨g2.hgt - 1, by omega⟩
          rw [he] at this ⊢
          rw [Nat.add_sub_cancel] at this
          rw [Nat.pow_succ]
          omega
      · rw [Nat.max_eq_left (by omega)]
        have := v1' (by omega)
        obtain ⟨e, he⟩ : ∃ e, g1.hgt = e + 1 := ⟨g1.hgt - 1, by omega⟩
        rw [he] at this ⊢
        rw [Nat.add_sub_cancel] at this
        rw [Nat.pow_succ]
        omega)
theorem c38 : ∀ (m n : Nat) (b : Hp) (w : AV) (xs : List Int) (c : Bool), xs.length < 2 ^ m → m + 5 ≤ n → Lc c b w (xs.map I) → GT.Good xs → Wv (runA ctx 5000 n 38 [w] b) (fun x h' => RT b h' x [] (fun g => g.lst = xs ∧ g.bal ∧ xs.length < 2 ^ g.hgt ∧ (0 < g.hgt → 2 ^ (g.hgt - 1) ≤ xs.length))) := by
  intro m
  induction m with
  | zero => exact fun n b w xs c hx hn hv gd => k38n (by omega) hv (by rw [Nat.pow_zero] at hx; omega)
  | succ m ih =>
    intro n b w xs c hx hn hv gd
    by_cases h0 : xs.length = 0
    · exact k38n (by omega) hv h0
    · rcases hv.isL with ⟨rfl, h1⟩ | ⟨nm, off, rest, cap, z, rfl, h2, h3⟩
      · exact absurd (by rw [← List.length_map (f := I), h1]; rfl) h0
      · exact k38a m ih (by omega) hx hv (fun k x hk h' e => (load_ext e h2 _ _).trans (h3 k x hk)) gd (by omega)


end Go.Proofs.Ytpioenfglmimgaa
