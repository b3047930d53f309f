import Derived.Test.YtpioenfglmimgaaVD
import Derived.KernelRfl
namespace Go.Proofs.Ytpioenfglmimgaa
open Go Go.Proofs Go.RowKit Go.Proofs.Abs
set_option linter.unusedSimpArgs false
set_option linter.unusedVariables false
theorem c36n {n : Nat} (hn : 2 ≤ n) {b : Hp} {m1 : Nat} {l r : GT} {s : Int} (pg : GT.ok b (.nd m1 l s r)) : Wv (runA ctx 5000 n 36 [.agg [.ptr m1 0]] b) (fun x h' => x = I ((GT.nd m1 l s r).cnt : Int) ∧ Ext b h') := c36 hn pg
theorem hgt_pos {g : GT} (h : 0 < g.cnt) : 1 ≤ g.hgt := by
  cases g with
  | nil => rw [GT.cnt_nil] at h; omega
  | nd n l s r => rw [GT.hgt_nd]; omega
set_option maxHeartbeats 4000000 in
theorem k39n {n : Nat} (hn : 1 ≤ n) {b : Hp} : Wv (runA ctx 5000 n 39 [.agg [.lit (.pointer none)]] b) (fun v h' => ∃ w, w = v ∧ Lc true h' w ((GT.lst .nil).map I) ∧ Ext b h' ∧ ∀ m, nmO w = some m → b.c ≤ m) := by
  obtain ⟨k, rfl⟩ : ∃ k, n = k + 1 := ⟨n - 1, by omega⟩
  have H := Hs.start b
  refine wv_run fn39 rfl ?_
  have a0 : (enterEnv [.agg [.lit (.pointer none)]] Try.f39.ntmps).get 0 = some (.agg [.lit (.pointer none)]) := enter_get1 _ _ _
  generalize enterEnv [.agg [.lit (.pointer none)]] Try.f39.ntmps = e at a0 ⊢
  unfold Try.f39
  dsimp only
  ((with_reducible apply wc_c (fun i => Nat.beq i 0 || Nat.beq i 1 || Nat.beq i 2 || Nat.beq i 3 || Nat.beq i 4 || Nat.beq i 7)); intro e he; have w9 := he 0 rfl; (try simp only [a0] at w9); have v0 := w9; clear w9; have w9 := he 1 rfl; (try simp only [T.get_put, Nat.reduceEqDiff, reduceIte] at w9); have v1 := w9; clear w9; have w9 := he 2 rfl; (try simp only [T.get_put, Nat.reduceEqDiff, reduceIte] at w9); have v2 := w9; clear w9; have w9 := he 3 rfl; (try simp only [T.get_put, Nat.reduceEqDiff, reduceIte] at w9); have v3 := w9; clear w9; have w9 := he 4 rfl; (try simp only [T.get_put, Nat.reduceEqDiff, reduceIte] at w9); have v4 := w9; clear w9; have w9 := he 7 rfl; (try simp only [T.get_put, Nat.reduceEqDiff, reduceIte] at w9); have v7 := w9; clear w9; clear he)
  repeat' (first
    | with_reducible apply wc_seq
    | ((with_reducible apply wc_region); (· (rfl)))
    | with_reducible apply wo_some
    | ((with_reducible apply wc_cond); (· (simp (disch := (first | assumption | omega)) only [ev, Option.some.injEq, v7] <;> rfl)); all_goals (intro hg; (try (try simp only [Bool.not_eq_true'] at hg)); first | (exfalso; exact Bool.noConfusion hg) | (exfalso; exact hg) | skip))
    | with_reducible apply wc_ret
    | with_reducible apply nx_r
    | (simp only [cells_agg] at H)
    | ((with_reducible apply nx_c (fun i => Nat.beq i 0 || Nat.beq i 1 || Nat.beq i 2 || Nat.beq i 3 || Nat.beq i 4 || Nat.beq i 7)); intro e he; have w0 := he 0 rfl; have w1 := he 1 rfl; have w2 := he 2 rfl; have w3 := he 3 rfl; have w4 := he 4 rfl; have w7 := he 7 rfl; (try simp only [T.get_put, Nat.reduceEqDiff, reduceIte, v0, v1, v2, v3, v4, v7] at w0 w1 w2 w3 w4 w7); clear he v0 v1 v2 v3 v4 v7; have v0 := w0; have v1 := w1; have v2 := w2; have v3 := w3; have v4 := w4; have v7 := w7; clear w0 w1 w2 w3 w4 w7)
    | ((with_reducible apply wo_eq); (· (simp (disch := (first | assumption | omega)) only [eq_self, opsA_cons, opsA_nil, wantedA, stepA_t, callA, runOp_n, opA, ev, afterA_s, putA, T.get_put, Nat.reduceEqDiff, reduceIte, List.getElem?_toArray, List.getElem?_cons_zero, oBin, binA, binG, binL, aggO, litA, cond_true, decide_true, blt_eq, fieldAddrA, oFieldAddr, Nat.add_zero, Nat.reduceLT, ty25, ti25, ty27, ti27, withH_s, eqA, eqD, eqOp, id_eq, Nat.add_zero, v0, v1]; exact rfl)))
    | ((with_reducible apply wo_box H); clear H; intro n h H0n H)
    | ((with_reducible apply wo_load1 H); (· ((with_reducible repeat' first | exact mem_h _ _ | apply mem_t); done)); (· (rfl)); (· ((first | rfl | assumption))))
    | ((first | with_reducible apply wv_ret | with_reducible apply wv_end); (· ((repeat' (first | with_reducible exact rs_nil | ((with_reducible apply rs_tmp); (· (simp (disch := (first | assumption | omega)) only [Option.some.injEq, v2] <;> rfl))) | ((with_reducible apply rs_cell); (· (simp (disch := (first | assumption | omega)) only [ev, T.get_put, Nat.reduceEqDiff, reduceIte, Option.some.injEq, dec_t, dec_f, Bool.not_true, Bool.not_false, v0, v1, v2, v3, v4, v7] <;> rfl)); (· (kernel_rfl)); (· (rfl)); (· (exact H.ld1 (by (with_reducible repeat' first | exact mem_h _ _ | apply mem_t); done) rfl))) | ((with_reducible apply rs_celln); (· (simp (disch := (first | assumption | omega)) only [ev, T.get_put, Nat.reduceEqDiff, reduceIte, Option.some.injEq, dec_t, dec_f, Bool.not_true, Bool.not_false, v0, v1, v2, v3, v4, v7] <;> rfl)); (· (kernel_rfl)); (· (rfl)); (· (exact H.ldn (by (with_reducible repeat' first | exact mem_h _ _ | apply mem_t); done) rfl rfl))))); done))))

  all_goals (first | exact ⟨nilS, rfl, Lc.nil _ _, H.toExt, fun m hm => by cases hm⟩ | trace_state)
set_option maxHeartbeats 4000000 in
theorem k39a {n : Nat} (hn : 20 ≤ n) {b : Hp} {m1 : Nat} {l r : GT} {s : Int} (pg : GT.ok b (.nd m1 l s r)) (gd : GT.Good (GT.lst (.nd m1 l s r))) (bl : GT.bal (.nd m1 l s r)) : Wv (runA ctx 5000 n 39 [.agg [.ptr m1 0]] b) (fun v h' => ∃ w, w = v ∧ Lc true h' w ((GT.lst (.nd m1 l s r)).map I) ∧ Ext b h' ∧ ∀ m, nmO w = some m → b.c ≤ m) := by
  obtain ⟨k, rfl⟩ : ∃ k, n = k + 1 := ⟨n - 1, by omega⟩
  have hcn := gd.sm.2.2
  have hh := GT.bal_hgt bl hcn
  have hln := GT.len (.nd m1 l s r)
  have H := (Hs.start b).z0 (z := tre (.nd m1 l s r)) pg
  refine wv_run fn39 rfl ?_
  have a0 : (enterEnv [.agg [.ptr m1 0]] Try.f39.ntmps).get 0 = some (.agg [.ptr m1 0]) := enter_get1 _ _ _
  generalize enterEnv [.agg [.ptr m1 0]] Try.f39.ntmps = e at a0 ⊢
  unfold Try.f39
  dsimp only
  ((with_reducible apply wc_c (fun i => Nat.beq i 0 || Nat.beq i 1 || Nat.beq i 2 || Nat.beq i 3 || Nat.beq i 4 || Nat.beq i 7)); intro e he; have w9 := he 0 rfl; (try simp only [a0] at w9); have v0 := w9; clear w9; have w9 := he 1 rfl; (try simp only [T.get_put, Nat.reduceEqDiff, reduceIte] at w9); have v1 := w9; clear w9; have w9 := he 2 rfl; (try simp only [T.get_put, Nat.reduceEqDiff, reduceIte] at w9); have v2 := w9; clear w9; have w9 := he 3 rfl; (try simp only [T.get_put, Nat.reduceEqDiff, reduceIte] at w9); have v3 := w9; clear w9; have w9 := he 4 rfl; (try simp only [T.get_put, Nat.reduceEqDiff, reduceIte] at w9); have v4 := w9; clear w9; have w9 := he 7 rfl; (try simp only [T.get_put, Nat.reduceEqDiff, reduceIte] at w9); have v7 := w9; clear w9; clear he)
  repeat' (first
    | with_reducible apply wc_seq
    | ((with_reducible apply wc_region); (· (rfl)))
    | with_reducible apply wo_some
    | ((with_reducible apply wc_cond); (· (simp (disch := (first | assumption | omega)) only [ev, Option.some.injEq, v7] <;> rfl)); all_goals (intro hg; (try (try simp only [Bool.not_eq_true'] at hg)); first | (exfalso; exact Bool.noConfusion hg) | (exfalso; exact hg) | skip))
    | with_reducible apply wc_skip
    | with_reducible apply wc_ret
    | (simp only [List.set_cons_zero, cells_int, cells_nil, cells_nf, cells_agg, repl_one, Int.toNat_natCast, ti2] at H)
    | ((with_reducible apply nx_c (fun i => Nat.beq i 0 || Nat.beq i 1 || Nat.beq i 2 || Nat.beq i 3 || Nat.beq i 4 || Nat.beq i 7)); intro e he; have w0 := he 0 rfl; have w1 := he 1 rfl; have w2 := he 2 rfl; have w3 := he 3 rfl; have w4 := he 4 rfl; have w7 := he 7 rfl; (try simp only [T.get_put, Nat.reduceEqDiff, reduceIte, v0, v1, v2, v3, v4, v7] at w0 w1 w2 w3 w4 w7); clear he v0 v1 v2 v3 v4 v7; have v0 := w0; have v1 := w1; have v2 := w2; have v3 := w3; have v4 := w4; have v7 := w7; clear w0 w1 w2 w3 w4 w7)
    | ((with_reducible apply wo_eq); (· (simp (disch := (first | assumption | omega)) only [eq_self, opsA_cons, opsA_nil, wantedA, stepA_t, callA, calleeA, targetA, runOp_c, runOp_n, opA, ev, evs, consO, consOO, afterA_s, putA, T.get_put, Nat.reduceEqDiff, reduceIte, List.getElem?_toArray, List.getElem?_cons_zero, oBin, binA, binG, binL, aggO, cond_true, decide_true, blt_eq, I, fieldAddrA, oFieldAddr, Nat.add_zero, Nat.reduceLT, ty22, ti22, ty25, ti25, ty27, ti27, ty87, ti87, withH_s, eqA, eqD, eqOp, oMakeSlice, oFn, dec_t, Int.toNat_natCast, Int.reduceToNat, id_eq, List.take_succ_cons, List.take_zero, List.drop_zero, List.cons_append, List.nil_append, Nat.add_zero, v0, v1, v3, v4]; exact rfl)))
    | (((with_reducible apply wo_call); (· ((with_reducible apply c36n); (· (omega)); (· (exact H.tok (by (with_reducible repeat' first | exact mem_h _ _ | apply mem_t); done))))); rintro _ h ⟨rfl, x1⟩; replace H := H.ext x1; clear x1))
    | ((have H2 := Hs.frzm (X := []) H; ((with_reducible apply wo_call); (· ((with_reducible apply (c54 hcn 16 k _ (.nd m1 l s r) _ 0 (List.replicate (GT.nd m1 l s r).cnt (AV.lit (.int .i64 0))))); (· (exact hh)); (· (omega)); (· (rfl)); (· ((rw [List.length_replicate]))); (· ((rw [Nat.zero_add]; exact Nat.le_refl _))); (· (exact Hs.begin (L1 := [blk id _ _, blk id _ _]) (L2 := [blk id _ _]) H2 (by (repeat' (first | exact znil | (apply zcons; (· ((with_reducible repeat' first | exact mem_h _ _ | apply mem_t); done))))); done))))); rintro _ h ⟨rfl, G1⟩; replace H := Hs.two (L1 := [blk id _ _, blk id _ _]) (L2 := [blk id _ _]) H2 G1; simp only [List.cons_append, List.nil_append, Nat.zero_add] at H; rw [pat_all (by rw [List.length_map, List.length_replicate]; exact hln)] at H; clear G1 H2)))
    | ((with_reducible apply wo_box H); clear H; intro n h H0n H)
    | ((with_reducible apply wo_alloc H); (· (rfl)); clear H; intro n h H0n H)
    | ((with_reducible apply wo_load1 H); (· ((with_reducible repeat' first | exact mem_h _ _ | apply mem_t); done)); (· (rfl)); (· ((first | rfl | assumption))))
    | ((with_reducible apply wo_loadn H); (· ((with_reducible repeat' first | exact mem_h _ _ | apply mem_t); done)); (· (rfl)); (· (rfl)); (· (rfl)))
    | ((with_reducible apply wo_store1 H); (· ((with_reducible repeat' first | exact Pick.here _ _ _ | apply Pick.there); done)); (· ((first | rfl | assumption))); (· ((first | rfl | assumption | exact cells_one (H.pz (by (with_reducible repeat' first | exact mem_h _ _ | apply mem_t); done))))); (· ((first | rfl | assumption))); (· (rfl)); (· ((first | exact Nat.le_of_ble_eq_true rfl | omega | (simp only [List.length_set, List.length_replicate, List.length_map, List.length_cons, List.length_nil]; omega) | (simp; done) | (simp; omega)))); clear H; intro h H)
    | ((with_reducible apply wo_make H); (· (exact ty22)); (· (rfl)); (· (exact ty2)); (· (kernel_rfl)); (· (omega)); (· (omega)); (· (omega)); clear H; intro n h H0n H)
    | ((first | with_reducible apply wv_ret | with_reducible apply wv_end); (· ((repeat' (first | with_reducible exact rs_nil | ((with_reducible apply rs_tmp); (· (simp (disch := (first | assumption | omega)) only [Option.some.injEq, v2] <;> rfl))) | ((with_reducible apply rs_cell); (· (simp (disch := (first | assumption | omega)) only [ev, T.get_put, Nat.reduceEqDiff, reduceIte, Option.some.injEq, dec_t, dec_f, Bool.not_true, Bool.not_false, v0, v1, v2, v3, v4, v7] <;> rfl)); (· (kernel_rfl)); (· (rfl)); (· (exact H.ld1 (by (with_reducible repeat' first | exact mem_h _ _ | apply mem_t); done) rfl))) | ((with_reducible apply rs_celln); (· (simp (disch := (first | assumption | omega)) only [ev, T.get_put, Nat.reduceEqDiff, reduceIte, Option.some.injEq, dec_t, dec_f, Bool.not_true, Bool.not_false, v0, v1, v2, v3, v4, v7] <;> rfl)); (· (kernel_rfl)); (· (rfl)); (· (exact H.ldn (by (with_reducible repeat' first | exact mem_h _ _ | apply mem_t); done) rfl rfl))))); done))))

  all_goals (first | exact ⟨_, rfl, Lc.blk (H.bok (by (with_reducible repeat' first | exact mem_h _ _ | apply mem_t); done)) (by rw [List.length_map]; exact hln), H.toExt, fun m hm => by cases hm; assumption⟩ | trace_state)
theorem c39 {n : Nat} (hn : 20 ≤ n) {b : Hp} {g : GT} (pg : g.ok b) (gd : GT.Good g.lst) (bl : g.bal) : Wv (runA ctx 5000 n 39 [.agg [g.val]] b) (fun v h' => ∃ w, w = v ∧ Lc true h' w ((GT.lst g).map I) ∧ Ext b h' ∧ ∀ m, nmO w = some m → b.c ≤ m) := by
  cases g with
  | nil => exact k39n (by omega)
  | nd m1 l s r => exact k39a hn pg gd bl
set_option maxHeartbeats 4000000 in
theorem c12 {n : Nat} (hn : 22 ≤ n) {b : Hp} {g : GT} {w : AV} {e1 : Int} {c : Bool} (pg : g.ok b) (gd : GT.Good g.lst) (bl : g.bal) (hv : Lc c b w (g.lst.map I)) : Wv (runA ctx 5000 n 12 [.agg [g.val], I e1, w, I e1] b) (fun r h' => r = Bo true ∧ Ext b h') := by
  obtain ⟨k, rfl⟩ : ∃ k, n = k + 1 := ⟨n - 1, by omega⟩
  have hcn := gd.sm.2.2
  have hh := GT.bal_hgt bl hcn
  have hlen := GT.len g
  have hF := GT.bal_F bl
  have hsm : (g.lst.take g.cnt).sum = g.sm := by rw [← hlen, List.take_length]; rfl
  have hp := @hgt_pos g
  have H := (((Hs.start b).z0 (z := tre g) pg).z0 (z := lc c w (g.lst.map I)) hv).z0 (z := isl w (g.lst.map I)) hv.isL
  refine wv_run fn12 rfl ?_
  have a0 : (enterEnv [.agg [g.val], I e1, w, I e1] Try.f12.ntmps).get 0 = some (.agg [g.val]) := enter_get1 _ _ _
  have a1 : (enterEnv [.agg [g.val], I e1, w, I e1] Try.f12.ntmps).get 1 = some (I e1) := enter_get2 _ _ _ _
  have a2 : (enterEnv [.agg [g.val], I e1, w, I e1] Try.f12.ntmps).get 2 = some (w) := enter_get3 _ _ _ _ _
  have a3 : (enterEnv [.agg [g.val], I e1, w, I e1] Try.f12.ntmps).get 3 = some (I e1) := enter_get4 _ _ _ _ _ _
  generalize enterEnv [.agg [g.val], I e1, w, I e1] Try.f12.ntmps = e at a0 a1 a2 a3 ⊢
  unfold Try.f12
  dsimp only
  ((with_reducible apply wc_c (fun i => Nat.beq i 0 || Nat.beq i 1 || Nat.beq i 2 || Nat.beq i 3 || Nat.beq i 4 || Nat.beq i 8 || Nat.beq i 9 || Nat.beq i 10 || Nat.beq i 73 || Nat.beq i 77 || Nat.beq i 88)); intro e he; have w9 := he 0 rfl; (try simp only [a0] at w9); have v0 := w9; clear w9; have w9 := he 1 rfl; (try simp only [a1] at w9); have v1 := w9; clear w9; have w9 := he 2 rfl; (try simp only [a2] at w9); have v2 := w9; clear w9; have w9 := he 3 rfl; (try simp only [a3] at w9); have v3 := w9; clear w9; have w9 := he 4 rfl; (try simp only [T.get_put, Nat.reduceEqDiff, reduceIte] at w9); have v4 := w9; clear w9; have w9 := he 8 rfl; (try simp only [T.get_put, Nat.reduceEqDiff, reduceIte] at w9); have v8 := w9; clear w9; have w9 := he 9 rfl; (try simp only [T.get_put, Nat.reduceEqDiff, reduceIte] at w9); have v9 := w9; clear w9; have w9 := he 10 rfl; (try simp only [T.get_put, Nat.reduceEqDiff, reduceIte] at w9); have v10 := w9; clear w9; have w9 := he 73 rfl; (try simp only [T.get_put, Nat.reduceEqDiff, reduceIte] at w9); have v73 := w9; clear w9; have w9 := he 77 rfl; (try simp only [T.get_put, Nat.reduceEqDiff, reduceIte] at w9); have v77 := w9; clear w9; have w9 := he 88 rfl; (try simp only [T.get_put, Nat.reduceEqDiff, reduceIte] at w9); have v88 := w9; clear w9; clear he)
  rcases Nat.eq_zero_or_pos g.cnt with h0 | h0
  · repeat' (first
      | with_reducible apply wc_seq
      | ((with_reducible apply wc_region); (· (rfl)))
      | with_reducible apply wo_some
      | ((with_reducible apply wc_cond); (· (simp (disch := (first | assumption | omega)) only [ev, Option.some.injEq, v73] <;> rfl)); all_goals (intro hg; (try (try simp only [Bool.not_eq_true'] at hg)); first | (exfalso; exact Bool.noConfusion hg) | (exfalso; exact hg) | skip))
      | with_reducible apply wc_block
      | with_reducible apply wc_skip
      | (simp only [cells_agg] at H)
      | ((with_reducible apply nx_c (fun i => Nat.beq i 0 || Nat.beq i 1 || Nat.beq i 2 || Nat.beq i 3 || Nat.beq i 4 || Nat.beq i 8 || Nat.beq i 9 || Nat.beq i 10 || Nat.beq i 73 || Nat.beq i 77 || Nat.beq i 88)); intro e he; have w0 := he 0 rfl; have w1 := he 1 rfl; have w2 := he 2 rfl; have w3 := he 3 rfl; have w4 := he 4 rfl; have w8 := he 8 rfl; have w9 := he 9 rfl; have w10 := he 10 rfl; have w73 := he 73 rfl; have w77 := he 77 rfl; have w88 := he 88 rfl; (try simp only [T.get_put, Nat.reduceEqDiff, reduceIte, v0, v1, v2, v3, v4, v8, v9, v10, v73, v77, v88] at w0 w1 w2 w3 w4 w8 w9 w10 w73 w77 w88); clear he v0 v1 v2 v3 v4 v8 v9 v10 v73 v77 v88; have v0 := w0; have v1 := w1; have v2 := w2; have v3 := w3; have v4 := w4; have v8 := w8; have v9 := w9; have v10 := w10; have v73 := w73; have v77 := w77; have v88 := w88; clear w0 w1 w2 w3 w4 w8 w9 w10 w73 w77 w88)
      | ((with_reducible apply wo_eq); (· (simp (disch := (first | assumption | omega)) only [beq_self_eq_true, eq_self, opsA_cons, opsA_nil, wantedA, guardA, yieldA, stepA_t, stepA_f, callA, calleeA, targetA, runOp_c, runOp_n, opA, ev, evs, consO, consOO, pickA, afterA_s, putA, T.get_put, Nat.reduceEqDiff, reduceIte, List.getElem?_cons_zero, List.getElem?_cons_succ, oBuiltin, oBin, binA, binG, binL, aggO, litA, Bool.not_true, decide_true, ft_beq, I, Bo, ty27, ti27, ii_lss, ii_gtr, ii_neq, withH_s, dec_f, List.take_succ_cons, List.take_zero, List.drop_zero, v0, v1, v2, v3, v4, v9, List.length_map, hlen, hsm]; exact rfl)))
      | (((with_reducible apply wo_call); (· ((with_reducible apply c39); (· (omega)); (· (exact H.tok (by (with_reducible repeat' first | exact mem_h _ _ | apply mem_t); done))); (· (exact gd)); (· (exact bl)))); rintro _ h ⟨wa, rfl, la, xa, fa⟩; have fca := H.fr.c; replace H := H.freshz xa (x := lc true wa _) la (fun n hn => fa n (nmO_mem.1 hn)); replace H := H.zsub (z := lc true wa _) (z' := isl wa _) (.head _) la.isL (fun n hn => hn); replace fa := fun n hn => Nat.le_trans fca (fa n hn); clear xa fca))
      | (((with_reducible apply wo_call); (· ((with_reducible apply c36); (· (omega)); (· (exact H.tok (by (with_reducible repeat' first | exact mem_h _ _ | apply mem_t); done))))); rintro _ h ⟨rfl, x1⟩; replace H := H.ext x1; clear x1))
      | (((with_reducible apply wo_call); (· ((with_reducible apply c26); (· (omega)); (· (exact H.tok (by (with_reducible repeat' first | exact mem_h _ _ | apply mem_t); done))))); rintro _ h ⟨rfl, x1⟩; replace H := H.ext x1; clear x1))
      | (((with_reducible apply wo_call); (· ((with_reducible apply c35); (· (omega)); (· (exact H.tok (by (with_reducible repeat' first | exact mem_h _ _ | apply mem_t); done))))); rintro _ h ⟨rfl, x1⟩; replace H := H.ext x1; clear x1))
      | (((with_reducible apply wo_call); (· ((with_reducible apply c22); (· (omega)); (· (exact H.lok (by (with_reducible repeat' first | exact mem_h _ _ | apply mem_t); done))); (· (exact gd)); (· (omega)))); rintro _ h ⟨rfl, rfl⟩))
      | (((with_reducible apply wo_call); (· ((with_reducible apply c40); (· (omega)); (· (omega)))); rintro _ h ⟨rfl, rfl⟩))
      | (((with_reducible apply wo_cap H); (· ((with_reducible repeat' first | exact mem_h _ _ | apply mem_t); done)); (· (exact ty22)); (· (rfl))))
      | ((with_reducible apply wo_box H); clear H; intro n h H0n H)
      | ((with_reducible apply wo_loadn H); (· ((with_reducible repeat' first | exact mem_h _ _ | apply mem_t); done)); (· (rfl)); (· (rfl)); (· (rfl)))
      | ((with_reducible apply wo_len H); (· ((with_reducible repeat' first | exact mem_h _ _ | apply mem_t); done)); (· (exact ty22)); (· (rfl)))
      | simp (disch := (first | assumption | omega)) only [Bo])

    refine wc_loop (fun m e h' => ∃ k, m = g.cnt - k ∧ k ≤ g.cnt ∧ e.get 2 = some (w) ∧ e.get 9 = some (wa) ∧ e.get 10 = some (I (k : Int)) ∧ h' = h) (g.cnt) ?_ ⟨0, rfl, Nat.zero_le _, v2, v9, v10, rfl⟩ ?_
    · omega
    · clear v2 v9 v10
      rintro m e h ⟨k, rfl, hk, v2, v9, v10, rfl⟩
      by_cases hlt : k < g.cnt
      · obtain ⟨x, hx⟩ := at_some (show k < g.lst.length by omega)
        have hxs := at_map hx
        ((with_reducible apply wc_c (fun i => Nat.beq i 0 || Nat.beq i 1 || Nat.beq i 2 || Nat.beq i 3 || Nat.beq i 4 || Nat.beq i 8 || Nat.beq i 9 || Nat.beq i 10 || Nat.beq i 73 || Nat.beq i 77 || Nat.beq i 88)); intro e he; have w9 := he 0 rfl; (try simp only [T.get_put, Nat.reduceEqDiff, reduceIte] at w9); have v0 := w9; clear w9; have w9 := he 1 rfl; (try simp only [T.get_put, Nat.reduceEqDiff, reduceIte] at w9); have v1 := w9; clear w9; have w9 := he 2 rfl; (try simp only [v2] at w9); replace v2 := w9; clear w9; have w9 := he 3 rfl; (try simp only [T.get_put, Nat.reduceEqDiff, reduceIte] at w9); have v3 := w9; clear w9; have w9 := he 4 rfl; (try simp only [T.get_put, Nat.reduceEqDiff, reduceIte] at w9); have v4 := w9; clear w9; have w9 := he 8 rfl; (try simp only [T.get_put, Nat.reduceEqDiff, reduceIte] at w9); have v8 := w9; clear w9; have w9 := he 9 rfl; (try simp only [v9] at w9); replace v9 := w9; clear w9; have w9 := he 10 rfl; (try simp only [v10] at w9); replace v10 := w9; clear w9; have w9 := he 73 rfl; (try simp only [T.get_put, Nat.reduceEqDiff, reduceIte] at w9); have v73 := w9; clear w9; have w9 := he 77 rfl; (try simp only [T.get_put, Nat.reduceEqDiff, reduceIte] at w9); have v77 := w9; clear w9; have w9 := he 88 rfl; (try simp only [T.get_put, Nat.reduceEqDiff, reduceIte] at w9); have v88 := w9; clear w9; clear he)
        repeat' (first
          | with_reducible apply wc_seq
          | ((with_reducible apply wc_region); (· (rfl)))
          | with_reducible apply wo_some
          | ((with_reducible apply wc_cond); (· (simp (disch := (first | assumption | omega)) only [ev, Option.some.injEq, v77, v88] <;> rfl)); all_goals (intro hg; (try (try simp only [Bool.not_eq_true'] at hg)); first | (exfalso; exact Bool.noConfusion hg) | (exfalso; exact hg) | skip))
          | with_reducible apply wc_block
          | with_reducible apply wc_skip
          | with_reducible apply bx_n
          | ((with_reducible apply nx_c (fun i => Nat.beq i 0 || Nat.beq i 1 || Nat.beq i 2 || Nat.beq i 3 || Nat.beq i 4 || Nat.beq i 8 || Nat.beq i 9 || Nat.beq i 10 || Nat.beq i 73 || Nat.beq i 77 || Nat.beq i 88)); intro e he; have w0 := he 0 rfl; have w1 := he 1 rfl; have w2 := he 2 rfl; have w3 := he 3 rfl; have w4 := he 4 rfl; have w8 := he 8 rfl; have w9 := he 9 rfl; have w10 := he 10 rfl; have w73 := he 73 rfl; have w77 := he 77 rfl; have w88 := he 88 rfl; (try simp only [T.get_put, Nat.reduceEqDiff, reduceIte, v0, v1, v2, v3, v4, v8, v9, v10, v73, v77, v88] at w0 w1 w2 w3 w4 w8 w9 w10 w73 w77 w88); clear he v0 v1 v2 v3 v4 v8 v9 v10 v73 v77 v88; have v0 := w0; have v1 := w1; have v2 := w2; have v3 := w3; have v4 := w4; have v8 := w8; have v9 := w9; have v10 := w10; have v73 := w73; have v77 := w77; have v88 := w88; clear w0 w1 w2 w3 w4 w8 w9 w10 w73 w77 w88)
          | ((with_reducible apply wo_eq); (· (simp (disch := (first | assumption | omega)) only [eq_self, opsA_cons, opsA_nil, wantedA, stepA_t, callA, calleeA, runOp_n, opA, ev, evs, consO, consOO, afterA_s, putA, T.get_put, Nat.reduceEqDiff, reduceIte, oBuiltin, oBin, binA, binG, binL, aggO, litA, oIndexAddr, Bool.not_true, I, Bo, ty2, ti2, ty2, ti2, ii_add, ii_lss, ii_neq, withH_s, dec_t, wrap_ok, v2, v9, v10, List.length_map, hlen]; exact rfl)))
          | ((with_reducible apply wo_loadc H); (· ((with_reducible repeat' first | exact mem_h _ _ | apply mem_t); done)); (· (rfl)))
          | ((with_reducible apply wo_len H); (· ((with_reducible repeat' first | exact mem_h _ _ | apply mem_t); done)); (· (exact ty22)); (· (rfl)))
          | ((with_reducible apply wo_ia H); (· ((with_reducible repeat' first | exact mem_h _ _ | apply mem_t); done)); (· (exact ty22)); (· (rfl)); (· ((first | exact ty2 | exact ty2))); (· (rfl)); (· (rfl)); (· (assumption)); clear H; intro n o H)
          | simp (disch := (first | assumption | omega)) only [eq_self, Option.some.injEq, I, v2, v9, v10])

        all_goals (first | exact ⟨g.cnt - (k + 1), by omega, k + 1, rfl, by omega, by trivial, by trivial, by rw [show ((k + 1 : Nat) : Int) = (k : Int) + 1 from by omega], by trivial⟩ | trace_state)
      · obtain rfl : k = g.cnt := by omega
        ((with_reducible apply wc_c (fun i => Nat.beq i 0 || Nat.beq i 1 || Nat.beq i 2 || Nat.beq i 3 || Nat.beq i 4 || Nat.beq i 8 || Nat.beq i 9 || Nat.beq i 10 || Nat.beq i 73 || Nat.beq i 77 || Nat.beq i 88)); intro e he; have w9 := he 0 rfl; (try simp only [T.get_put, Nat.reduceEqDiff, reduceIte] at w9); have v0 := w9; clear w9; have w9 := he 1 rfl; (try simp only [T.get_put, Nat.reduceEqDiff, reduceIte] at w9); have v1 := w9; clear w9; have w9 := he 2 rfl; (try simp only [v2] at w9); replace v2 := w9; clear w9; have w9 := he 3 rfl; (try simp only [T.get_put, Nat.reduceEqDiff, reduceIte] at w9); have v3 := w9; clear w9; have w9 := he 4 rfl; (try simp only [T.get_put, Nat.reduceEqDiff, reduceIte] at w9); have v4 := w9; clear w9; have w9 := he 8 rfl; (try simp only [T.get_put, Nat.reduceEqDiff, reduceIte] at w9); have v8 := w9; clear w9; have w9 := he 9 rfl; (try simp only [v9] at w9); replace v9 := w9; clear w9; have w9 := he 10 rfl; (try simp only [v10] at w9); replace v10 := w9; clear w9; have w9 := he 73 rfl; (try simp only [T.get_put, Nat.reduceEqDiff, reduceIte] at w9); have v73 := w9; clear w9; have w9 := he 77 rfl; (try simp only [T.get_put, Nat.reduceEqDiff, reduceIte] at w9); have v77 := w9; clear w9; have w9 := he 88 rfl; (try simp only [T.get_put, Nat.reduceEqDiff, reduceIte] at w9); have v88 := w9; clear w9; clear he)
        repeat' (first
          | with_reducible apply wc_seq
          | ((with_reducible apply wc_region); (· (rfl)))
          | with_reducible apply wo_some
          | ((with_reducible apply wc_cond); (· (simp (disch := (first | assumption | omega)) only [ev, Option.some.injEq, v77] <;> rfl)); all_goals (intro hg; (try (try simp only [Bool.not_eq_true'] at hg)); first | (exfalso; exact Bool.noConfusion hg) | (exfalso; exact hg) | skip))
          | with_reducible apply wc_exit
          | with_reducible apply wc_ret
          | with_reducible apply nx_e
          | ((with_reducible apply bx_hit); (· (rfl)))
          | ((with_reducible apply nx_c (fun i => Nat.beq i 0 || Nat.beq i 1 || Nat.beq i 2 || Nat.beq i 3 || Nat.beq i 4 || Nat.beq i 8 || Nat.beq i 9 || Nat.beq i 10 || Nat.beq i 73 || Nat.beq i 77 || Nat.beq i 88)); intro e he; have w0 := he 0 rfl; have w1 := he 1 rfl; have w2 := he 2 rfl; have w3 := he 3 rfl; have w4 := he 4 rfl; have w8 := he 8 rfl; have w9 := he 9 rfl; have w10 := he 10 rfl; have w73 := he 73 rfl; have w77 := he 77 rfl; have w88 := he 88 rfl; (try simp only [T.get_put, Nat.reduceEqDiff, reduceIte, v0, v1, v2, v3, v4, v8, v9, v10, v73, v77, v88] at w0 w1 w2 w3 w4 w8 w9 w10 w73 w77 w88); clear he v0 v1 v2 v3 v4 v8 v9 v10 v73 v77 v88; have v0 := w0; have v1 := w1; have v2 := w2; have v3 := w3; have v4 := w4; have v8 := w8; have v9 := w9; have v10 := w10; have v73 := w73; have v77 := w77; have v88 := w88; clear w0 w1 w2 w3 w4 w8 w9 w10 w73 w77 w88)
          | ((with_reducible apply wo_eq); (· (simp (disch := (first | assumption | omega)) only [eq_self, opsA_cons, opsA_nil, wantedA, stepA_t, callA, calleeA, runOp_n, opA, ev, evs, consO, consOO, afterA_s, putA, T.get_put, Nat.reduceEqDiff, reduceIte, oBuiltin, oBin, binA, binG, binL, aggO, litA, I, Bo, ii_lss, withH_s, dec_f, v2, v10, List.length_map, hlen]; exact rfl)))
          | ((with_reducible apply wo_len H); (· ((with_reducible repeat' first | exact mem_h _ _ | apply mem_t); done)); (· (exact ty22)); (· (rfl)))
          | ((first | with_reducible apply wv_ret | with_reducible apply wv_end); (· ((repeat' (first | with_reducible exact rs_nil | ((with_reducible apply rs_tmp); (· (simp (disch := (first | assumption | omega)) only [Option.some.injEq, v8] <;> rfl))) | ((with_reducible apply rs_cell); (· (simp (disch := (first | assumption | omega)) only [ev, T.get_put, Nat.reduceEqDiff, reduceIte, Option.some.injEq, dec_t, dec_f, Bool.not_true, Bool.not_false, v0, v1, v2, v3, v4, v8, v9, v10, v73, v77, v88, List.length_map, hlen, hsm, GT.cells_val] <;> rfl)); (· (kernel_rfl)); (· (rfl)); (· (exact H.ld1 (by (with_reducible repeat' first | exact mem_h _ _ | apply mem_t); done) rfl))) | ((with_reducible apply rs_celln); (· (simp (disch := (first | assumption | omega)) only [ev, T.get_put, Nat.reduceEqDiff, reduceIte, Option.some.injEq, dec_t, dec_f, Bool.not_true, Bool.not_false, v0, v1, v2, v3, v4, v8, v9, v10, v73, v77, v88, List.length_map, hlen, hsm, GT.cells_val] <;> rfl)); (· (kernel_rfl)); (· (rfl)); (· (exact H.ldn (by (with_reducible repeat' first | exact mem_h _ _ | apply mem_t); done) rfl rfl))))); done))))

        all_goals (first | exact ⟨rfl, H.toExt⟩ | trace_state)
  · repeat' (first
      | with_reducible apply wc_seq
      | ((with_reducible apply wc_region); (· (rfl)))
      | with_reducible apply wo_some
      | ((with_reducible apply wc_cond); (· (simp (disch := (first | assumption | omega)) only [ev, Option.some.injEq, v73] <;> rfl)); all_goals (intro hg; (try (try simp only [Bool.not_eq_true'] at hg)); first | (exfalso; exact Bool.noConfusion hg) | (exfalso; exact hg) | skip))
      | with_reducible apply wc_block
      | with_reducible apply wc_skip
      | (simp only [cells_agg] at H)
      | ((with_reducible apply nx_c (fun i => Nat.beq i 0 || Nat.beq i 1 || Nat.beq i 2 || Nat.beq i 3 || Nat.beq i 4 || Nat.beq i 8 || Nat.beq i 9 || Nat.beq i 10 || Nat.beq i 73 || Nat.beq i 77 || Nat.beq i 88)); intro e he; have w0 := he 0 rfl; have w1 := he 1 rfl; have w2 := he 2 rfl; have w3 := he 3 rfl; have w4 := he 4 rfl; have w8 := he 8 rfl; have w9 := he 9 rfl; have w10 := he 10 rfl; have w73 := he 73 rfl; have w77 := he 77 rfl; have w88 := he 88 rfl; (try simp only [T.get_put, Nat.reduceEqDiff, reduceIte, v0, v1, v2, v3, v4, v8, v9, v10, v73, v77, v88] at w0 w1 w2 w3 w4 w8 w9 w10 w73 w77 w88); clear he v0 v1 v2 v3 v4 v8 v9 v10 v73 v77 v88; have v0 := w0; have v1 := w1; have v2 := w2; have v3 := w3; have v4 := w4; have v8 := w8; have v9 := w9; have v10 := w10; have v73 := w73; have v77 := w77; have v88 := w88; clear w0 w1 w2 w3 w4 w8 w9 w10 w73 w77 w88)
      | ((with_reducible apply wo_eq); (· (simp (disch := (first | assumption | omega)) only [beq_self_eq_true, eq_self, opsA_cons, opsA_nil, wantedA, guardA, yieldA, stepA_t, callA, calleeA, targetA, runOp_c, runOp_n, opA, ev, evs, consO, consOO, pickA, afterA_s, putA, T.get_put, Nat.reduceEqDiff, reduceIte, List.getElem?_cons_zero, List.getElem?_cons_succ, oBuiltin, oBin, binA, binG, binL, aggO, litA, Bool.not_true, decide_true, I, Bo, ty27, ti27, ii_lss, ii_gtr, ii_neq, withH_s, dec_t, dec_f, List.take_succ_cons, List.take_zero, List.drop_zero, v0, v1, v2, v3, v4, v9, List.length_map, hlen, hsm]; exact rfl)))
      | (((with_reducible apply wo_call); (· ((with_reducible apply c39); (· (omega)); (· (exact H.tok (by (with_reducible repeat' first | exact mem_h _ _ | apply mem_t); done))); (· (exact gd)); (· (exact bl)))); rintro _ h ⟨wa, rfl, la, xa, fa⟩; have fca := H.fr.c; replace H := H.freshz xa (x := lc true wa _) la (fun n hn => fa n (nmO_mem.1 hn)); replace H := H.zsub (z := lc true wa _) (z' := isl wa _) (.head _) la.isL (fun n hn => hn); replace fa := fun n hn => Nat.le_trans fca (fa n hn); clear xa fca))
      | (((with_reducible apply wo_call); (· ((with_reducible apply c36); (· (omega)); (· (exact H.tok (by (with_reducible repeat' first | exact mem_h _ _ | apply mem_t); done))))); rintro _ h ⟨rfl, x1⟩; replace H := H.ext x1; clear x1))
      | (((with_reducible apply wo_call); (· ((with_reducible apply c26); (· (omega)); (· (exact H.tok (by (with_reducible repeat' first | exact mem_h _ _ | apply mem_t); done))))); rintro _ h ⟨rfl, x1⟩; replace H := H.ext x1; clear x1))
      | (((with_reducible apply wo_call); (· ((with_reducible apply c35); (· (omega)); (· (exact H.tok (by (with_reducible repeat' first | exact mem_h _ _ | apply mem_t); done))))); rintro _ h ⟨rfl, x1⟩; replace H := H.ext x1; clear x1))
      | (((with_reducible apply wo_call); (· ((with_reducible apply c22); (· (omega)); (· (exact H.lok (by (with_reducible repeat' first | exact mem_h _ _ | apply mem_t); done))); (· (exact gd)); (· (omega)))); rintro _ h ⟨rfl, rfl⟩))
      | (((with_reducible apply wo_call); (· ((with_reducible apply c40); (· (omega)); (· (omega)))); rintro _ h ⟨rfl, rfl⟩))
      | (((with_reducible apply wo_cap H); (· ((with_reducible repeat' first | exact mem_h _ _ | apply mem_t); done)); (· (exact ty22)); (· (rfl))))
      | ((with_reducible apply wo_box H); clear H; intro n h H0n H)
      | ((with_reducible apply wo_loadn H); (· ((with_reducible repeat' first | exact mem_h _ _ | apply mem_t); done)); (· (rfl)); (· (rfl)); (· (rfl)))
      | ((with_reducible apply wo_len H); (· ((with_reducible repeat' first | exact mem_h _ _ | apply mem_t); done)); (· (exact ty22)); (· (rfl)))
      | simp (disch := (first | assumption | omega)) only [Bo])

    refine wc_loop (fun m e h' => ∃ k, m = g.cnt - k ∧ k ≤ g.cnt ∧ e.get 2 = some (w) ∧ e.get 9 = some (wa) ∧ e.get 10 = some (I (k : Int)) ∧ h' = h) (g.cnt) ?_ ⟨0, rfl, Nat.zero_le _, v2, v9, v10, rfl⟩ ?_
    · omega
    · clear v2 v9 v10
      rintro m e h ⟨k, rfl, hk, v2, v9, v10, rfl⟩
      by_cases hlt : k < g.cnt
      · obtain ⟨x, hx⟩ := at_some (show k < g.lst.length by omega)
        have hxs := at_map hx
        ((with_reducible apply wc_c (fun i => Nat.beq i 0 || Nat.beq i 1 || Nat.beq i 2 || Nat.beq i 3 || Nat.beq i 4 || Nat.beq i 8 || Nat.beq i 9 || Nat.beq i 10 || Nat.beq i 73 || Nat.beq i 77 || Nat.beq i 88)); intro e he; have w9 := he 0 rfl; (try simp only [T.get_put, Nat.reduceEqDiff, reduceIte] at w9); have v0 := w9; clear w9; have w9 := he 1 rfl; (try simp only [T.get_put, Nat.reduceEqDiff, reduceIte] at w9); have v1 := w9; clear w9; have w9 := he 2 rfl; (try simp only [v2] at w9); replace v2 := w9; clear w9; have w9 := he 3 rfl; (try simp only [T.get_put, Nat.reduceEqDiff, reduceIte] at w9); have v3 := w9; clear w9; have w9 := he 4 rfl; (try simp only [T.get_put, Nat.reduceEqDiff, reduceIte] at w9); have v4 := w9; clear w9; have w9 := he 8 rfl; (try simp only [T.get_put, Nat.reduceEqDiff, reduceIte] at w9); have v8 := w9; clear w9; have w9 := he 9 rfl; (try simp only [v9] at w9); replace v9 := w9; clear w9; have w9 := he 10 rfl; (try simp only [v10] at w9); replace v10 := w9; clear w9; have w9 := he 73 rfl; (try simp only [T.get_put, Nat.reduceEqDiff, reduceIte] at w9); have v73 := w9; clear w9; have w9 := he 77 rfl; (try simp only [T.get_put, Nat.reduceEqDiff, reduceIte] at w9); have v77 := w9; clear w9; have w9 := he 88 rfl; (try simp only [T.get_put, Nat.reduceEqDiff, reduceIte] at w9); have v88 := w9; clear w9; clear he)
        repeat' (first
          | with_reducible apply wc_seq
          | ((with_reducible apply wc_region); (· (rfl)))
          | with_reducible apply wo_some
          | ((with_reducible apply wc_cond); (· (simp (disch := (first | assumption | omega)) only [ev, Option.some.injEq, v77, v88] <;> rfl)); all_goals (intro hg; (try (try simp only [Bool.not_eq_true'] at hg)); first | (exfalso; exact Bool.noConfusion hg) | (exfalso; exact hg) | skip))
          | with_reducible apply wc_block
          | with_reducible apply wc_skip
          | with_reducible apply bx_n
          | ((with_reducible apply nx_c (fun i => Nat.beq i 0 || Nat.beq i 1 || Nat.beq i 2 || Nat.beq i 3 || Nat.beq i 4 || Nat.beq i 8 || Nat.beq i 9 || Nat.beq i 10 || Nat.beq i 73 || Nat.beq i 77 || Nat.beq i 88)); intro e he; have w0 := he 0 rfl; have w1 := he 1 rfl; have w2 := he 2 rfl; have w3 := he 3 rfl; have w4 := he 4 rfl; have w8 := he 8 rfl; have w9 := he 9 rfl; have w10 := he 10 rfl; have w73 := he 73 rfl; have w77 := he 77 rfl; have w88 := he 88 rfl; (try simp only [T.get_put, Nat.reduceEqDiff, reduceIte, v0, v1, v2, v3, v4, v8, v9, v10, v73, v77, v88] at w0 w1 w2 w3 w4 w8 w9 w10 w73 w77 w88); clear he v0 v1 v2 v3 v4 v8 v9 v10 v73 v77 v88; have v0 := w0; have v1 := w1; have v2 := w2; have v3 := w3; have v4 := w4; have v8 := w8; have v9 := w9; have v10 := w10; have v73 := w73; have v77 := w77; have v88 := w88; clear w0 w1 w2 w3 w4 w8 w9 w10 w73 w77 w88)
          | ((with_reducible apply wo_eq); (· (simp (disch := (first | assumption | omega)) only [eq_self, opsA_cons, opsA_nil, wantedA, stepA_t, callA, calleeA, runOp_n, opA, ev, evs, consO, consOO, afterA_s, putA, T.get_put, Nat.reduceEqDiff, reduceIte, oBuiltin, oBin, binA, binG, binL, aggO, litA, oIndexAddr, Bool.not_true, I, Bo, ty2, ti2, ty2, ti2, ii_add, ii_lss, ii_neq, withH_s, dec_t, wrap_ok, v2, v9, v10, List.length_map, hlen]; exact rfl)))
          | ((with_reducible apply wo_loadc H); (· ((with_reducible repeat' first | exact mem_h _ _ | apply mem_t); done)); (· (rfl)))
          | ((with_reducible apply wo_len H); (· ((with_reducible repeat' first | exact mem_h _ _ | apply mem_t); done)); (· (exact ty22)); (· (rfl)))
          | ((with_reducible apply wo_ia H); (· ((with_reducible repeat' first | exact mem_h _ _ | apply mem_t); done)); (· (exact ty22)); (· (rfl)); (· ((first | exact ty2 | exact ty2))); (· (rfl)); (· (rfl)); (· (assumption)); clear H; intro n o H)
          | simp (disch := (first | assumption | omega)) only [eq_self, Option.some.injEq, I, v2, v9, v10])

        all_goals (first | exact ⟨g.cnt - (k + 1), by omega, k + 1, rfl, by omega, by trivial, by trivial, by rw [show ((k + 1 : Nat) : Int) = (k : Int) + 1 from by omega], by trivial⟩ | trace_state)
      · obtain rfl : k = g.cnt := by omega
        ((with_reducible apply wc_c (fun i => Nat.beq i 0 || Nat.beq i 1 || Nat.beq i 2 || Nat.beq i 3 || Nat.beq i 4 || Nat.beq i 8 || Nat.beq i 9 || Nat.beq i 10 || Nat.beq i 73 || Nat.beq i 77 || Nat.beq i 88)); intro e he; have w9 := he 0 rfl; (try simp only [T.get_put, Nat.reduceEqDiff, reduceIte] at w9); have v0 := w9; clear w9; have w9 := he 1 rfl; (try simp only [T.get_put, Nat.reduceEqDiff, reduceIte] at w9); have v1 := w9; clear w9; have w9 := he 2 rfl; (try simp only [v2] at w9); replace v2 := w9; clear w9; have w9 := he 3 rfl; (try simp only [T.get_put, Nat.reduceEqDiff, reduceIte] at w9); have v3 := w9; clear w9; have w9 := he 4 rfl; (try simp only [T.get_put, Nat.reduceEqDiff, reduceIte] at w9); have v4 := w9; clear w9; have w9 := he 8 rfl; (try simp only [T.get_put, Nat.reduceEqDiff, reduceIte] at w9); have v8 := w9; clear w9; have w9 := he 9 rfl; (try simp only [v9] at w9); replace v9 := w9; clear w9; have w9 := he 10 rfl; (try simp only [v10] at w9); replace v10 := w9; clear w9; have w9 := he 73 rfl; (try simp only [T.get_put, Nat.reduceEqDiff, reduceIte] at w9); have v73 := w9; clear w9; have w9 := he 77 rfl; (try simp only [T.get_put, Nat.reduceEqDiff, reduceIte] at w9); have v77 := w9; clear w9; have w9 := he 88 rfl; (try simp only [T.get_put, Nat.reduceEqDiff, reduceIte] at w9); have v88 := w9; clear w9; clear he)
        repeat' (first
          | with_reducible apply wc_seq
          | ((with_reducible apply wc_region); (· (rfl)))
          | with_reducible apply wo_some
          | ((with_reducible apply wc_cond); (· (simp (disch := (first | assumption | omega)) only [ev, Option.some.injEq, v77] <;> rfl)); all_goals (intro hg; (try (try simp only [Bool.not_eq_true'] at hg)); first | (exfalso; exact Bool.noConfusion hg) | (exfalso; exact hg) | skip))
          | with_reducible apply wc_exit
          | with_reducible apply wc_ret
          | with_reducible apply nx_e
          | ((with_reducible apply bx_hit); (· (rfl)))
          | ((with_reducible apply nx_c (fun i => Nat.beq i 0 || Nat.beq i 1 || Nat.beq i 2 || Nat.beq i 3 || Nat.beq i 4 || Nat.beq i 8 || Nat.beq i 9 || Nat.beq i 10 || Nat.beq i 73 || Nat.beq i 77 || Nat.beq i 88)); intro e he; have w0 := he 0 rfl; have w1 := he 1 rfl; have w2 := he 2 rfl; have w3 := he 3 rfl; have w4 := he 4 rfl; have w8 := he 8 rfl; have w9 := he 9 rfl; have w10 := he 10 rfl; have w73 := he 73 rfl; have w77 := he 77 rfl; have w88 := he 88 rfl; (try simp only [T.get_put, Nat.reduceEqDiff, reduceIte, v0, v1, v2, v3, v4, v8, v9, v10, v73, v77, v88] at w0 w1 w2 w3 w4 w8 w9 w10 w73 w77 w88); clear he v0 v1 v2 v3 v4 v8 v9 v10 v73 v77 v88; have v0 := w0; have v1 := w1; have v2 := w2; have v3 := w3; have v4 := w4; have v8 := w8; have v9 := w9; have v10 := w10; have v73 := w73; have v77 := w77; have v88 := w88; clear w0 w1 w2 w3 w4 w8 w9 w10 w73 w77 w88)
          | ((with_reducible apply wo_eq); (· (simp (disch := (first | assumption | omega)) only [eq_self, opsA_cons, opsA_nil, wantedA, stepA_t, callA, calleeA, runOp_n, opA, ev, evs, consO, consOO, afterA_s, putA, T.get_put, Nat.reduceEqDiff, reduceIte, oBuiltin, oBin, binA, binG, binL, aggO, litA, I, Bo, ii_lss, withH_s, dec_f, v2, v10, List.length_map, hlen]; exact rfl)))
          | ((with_reducible apply wo_len H); (· ((with_reducible repeat' first | exact mem_h _ _ | apply mem_t); done)); (· (exact ty22)); (· (rfl)))
          | ((first | with_reducible apply wv_ret | with_reducible apply wv_end); (· ((repeat' (first | with_reducible exact rs_nil | ((with_reducible apply rs_tmp); (· (simp (disch := (first | assumption | omega)) only [Option.some.injEq, v8] <;> rfl))) | ((with_reducible apply rs_cell); (· (simp (disch := (first | assumption | omega)) only [ev, T.get_put, Nat.reduceEqDiff, reduceIte, Option.some.injEq, dec_t, dec_f, Bool.not_true, Bool.not_false, v0, v1, v2, v3, v4, v8, v9, v10, v73, v77, v88, List.length_map, hlen, hsm, GT.cells_val] <;> rfl)); (· (kernel_rfl)); (· (rfl)); (· (exact H.ld1 (by (with_reducible repeat' first | exact mem_h _ _ | apply mem_t); done) rfl))) | ((with_reducible apply rs_celln); (· (simp (disch := (first | assumption | omega)) only [ev, T.get_put, Nat.reduceEqDiff, reduceIte, Option.some.injEq, dec_t, dec_f, Bool.not_true, Bool.not_false, v0, v1, v2, v3, v4, v8, v9, v10, v73, v77, v88, List.length_map, hlen, hsm, GT.cells_val] <;> rfl)); (· (kernel_rfl)); (· (rfl)); (· (exact H.ldn (by (with_reducible repeat' first | exact mem_h _ _ | apply mem_t); done) rfl rfl))))); done))))

        all_goals (first | exact ⟨rfl, H.toExt⟩ | trace_state)


/-! What the ropes answer, as lists. -/
def joinE (a b : List Int) : Int := if 4096 < a.length + b.length then 3 else if 4611686018427387904 < a.sum + b.sum then 13 else 0
def okL (e : Int) (l : List Int) : List Int := if e = 0 then l else []
theorem okL_0 {e : Int} {l : List Int} (h : e = 0) : okL e l = l := if_pos h
theorem okL_e {e : Int} {l : List Int} (h : e ≠ 0) : okL e l = [] := if_neg h
/-- a rope and an error that come back -/
def RR (b h' : Hp) (x : AV) (src : List Nat) (e : Int) (L : List Int) : Prop := ∃ g : GT, x = .tup [.agg [g.val], I e] ∧ g.ok h' ∧ Ext b h' ∧ (∀ n, n ∈ g.names → n ∈ src ∨ b.c ≤ n) ∧ g.lst = L ∧ g.bal
theorem rr_nil {b h' : Hp} {x : AV} {src : List Nat} {e : Int} {L : List Int} (hx : x = .tup [.agg [.lit (.pointer none)], I e]) (a : Ext b h') (hL : L = []) : RR b h' x src e L := ⟨.nil, hx, trivial, a, fun n hn => (List.not_mem_nil hn).elim, hL.symm, trivial⟩
set_option maxHeartbeats 4000000 in
theorem c11 {n : Nat} (hn : 30 ≤ n) {b : Hp} {w : AV} {xs : List Int} {c : Bool} (hv : Lc c b w (xs.map I)) (hx0 : xs.length ≤ 5000) : Wv (runA ctx 5000 n 11 [w] b) (fun r h' => RR b h' r [] (chk xs) (okL (chk xs) xs)) := by
  obtain ⟨k, rfl⟩ : ∃ k, n = k + 1 := ⟨n - 1, by omega⟩
  have H := (Hs.start b).z0 (z := lc c w (xs.map I)) hv
  refine wv_run fn11 rfl ?_
  have a0 : (enterEnv [w] Try.f11.ntmps).get 0 = some (w) := enter_get1 _ _ _
  generalize enterEnv [w] Try.f11.ntmps = e at a0 ⊢
  unfold Try.f11
  dsimp only
  ((with_reducible apply wc_c (fun i => Nat.beq i 0 || Nat.beq i 2 || Nat.beq i 3 || Nat.beq i 4 || Nat.beq i 8)); intro e he; have w9 := he 0 rfl; (try simp only [a0] at w9); have v0 := w9; clear w9; have w9 := he 2 rfl; (try simp only [T.get_put, Nat.reduceEqDiff, reduceIte] at w9); have v2 := w9; clear w9; have w9 := he 3 rfl; (try simp only [T.get_put, Nat.reduceEqDiff, reduceIte] at w9); have v3 := w9; clear w9; have w9 := he 4 rfl; (try simp only [T.get_put, Nat.reduceEqDiff, reduceIte] at w9); have v4 := w9; clear w9; have w9 := he 8 rfl; (try simp only [T.get_put, Nat.reduceEqDiff, reduceIte] at w9); have v8 := w9; clear w9; clear he)
  repeat' (first
    | with_reducible apply wc_seq
    | ((with_reducible apply wc_region); (· (rfl)))
    | with_reducible apply wo_some
    | ((with_reducible apply wc_cond); (· (simp (disch := (first | assumption | omega)) only [ev, Option.some.injEq, v8] <;> rfl)); all_goals (intro hg; (try (try simp only [Bool.not_eq_eq_eq_not, Bool.not_true, Bool.not_false, decide_eq_true_eq, decide_eq_false_iff_not] at hg)); first | (exfalso; exact Bool.noConfusion hg) | (exfalso; exact hg) | skip))
    | with_reducible apply wc_skip
    | with_reducible apply wc_ret
    | with_reducible apply nx_r
    | (simp only [patch, List.take_zero, List.drop_succ_cons, List.drop_nil, List.nil_append, List.append_nil, List.length_cons, List.length_nil, Nat.zero_add, cells_agg, cells_lagg, litCells_cons, litCells_nil] at H)
    | ((with_reducible apply nx_c (fun i => Nat.beq i 0 || Nat.beq i 2 || Nat.beq i 3 || Nat.beq i 4 || Nat.beq i 8)); intro e he; have w0 := he 0 rfl; have w2 := he 2 rfl; have w3 := he 3 rfl; have w4 := he 4 rfl; have w8 := he 8 rfl; (try simp only [T.get_put, Nat.reduceEqDiff, reduceIte, v0, v2, v3, v4, v8] at w0 w2 w3 w4 w8); clear he v0 v2 v3 v4 v8; have v0 := w0; have v2 := w2; have v3 := w3; have v4 := w4; have v8 := w8; clear w0 w2 w3 w4 w8)
    | ((with_reducible apply wo_eq); (· (simp (disch := (first | assumption | omega)) only [eq_self, opsA_cons, opsA_nil, wantedA, stepA_t, callA, calleeA, targetA, runOp_c, runOp_n, opA, ev, evs, consO, consOO, afterA_s, putA, T.get_put, Nat.reduceEqDiff, reduceIte, oBin, binA, binG, binL, aggO, litA, I, Bo, ty27, ti27, ii_neq, List.getElem_toArray, List.getElem_cons_zero, withH_s, oBuild, evParts, consP, putAt_z, over_nil, over_cons, litCells_cons, litCells_nil, cells_lagg, v0, v2, v4]; exact rfl)))
    | (((with_reducible apply wo_call); (· ((with_reducible apply c37); (· (omega)); (· (exact H.lok (by (with_reducible repeat' first | exact mem_h _ _ | apply mem_t); done))); (· (exact hx0)))); rintro _ h ⟨rfl, rfl⟩))
    | (((with_reducible apply wo_call); (· ((with_reducible apply (c38 13 k _ w xs c)); (· ((have := ((chk_iff xs).1 (by assumption)).1.2.2; omega))); (· (omega)); (· (exact H.lok (by (with_reducible repeat' first | exact mem_h _ _ | apply mem_t); done))); (· (exact ((chk_iff xs).1 (by assumption)).1)))); rintro _ h ⟨g1, rfl, pg1, xg1, ng1, e1, c1, u1, v1'⟩; have fc := H.fr.c; replace H := H.tnew xg1 pg1 ng1 (fun n hn => (List.not_mem_nil hn).elim); replace ng1 := fun n hn => (ng1 n hn).imp id (Nat.le_trans fc); clear xg1 fc))
    | ((with_reducible apply wo_alloc H); (· (rfl)); clear H; intro n h H0n H)
    | ((with_reducible apply wo_storen H); (· ((with_reducible repeat' first | exact Pick.here _ _ _ | apply Pick.there); done)); (· ((first | rfl | assumption | exact cells_one (H.pz (by (with_reducible repeat' first | exact mem_h _ _ | apply mem_t); done))))); (· ((first | rfl | (simp (disch := assumption) only [onesA_cons', onesA_nil, cells_agg, GT.one_val, Bool.and_self]; done)))); (· (rfl)); (· ((first | exact Nat.le_of_ble_eq_true rfl | omega | (simp only [List.length_set, List.length_replicate, List.length_map, List.length_cons, List.length_nil]; omega) | (simp; done) | (simp; omega)))); clear H; intro h H)
    | ((with_reducible apply wo_build); (· (exact ty27)); (· (rfl)); (· ((first | rfl | (simp only [fillA_nil, fillA_cons, GT.cells_val]; rfl)))))
    | ((first | with_reducible apply wv_ret | with_reducible apply wv_end); (· ((repeat' (first | with_reducible exact rs_nil | ((with_reducible apply rs_tmp); (· (simp (disch := (first | assumption | omega)) only [Option.some.injEq, v3] <;> rfl))) | ((with_reducible apply rs_cell); (· (simp (disch := (first | assumption | omega)) only [Option.some.injEq, v2] <;> rfl)); (· (exact ty27)); (· (rfl)); (· (exact H.ld1 (by (with_reducible repeat' first | exact mem_h _ _ | apply mem_t); done) rfl))) | ((with_reducible apply rs_celln); (· (simp (disch := (first | assumption | omega)) only [Option.some.injEq, v2] <;> rfl)); (· (exact ty27)); (· (rfl)); (· (exact H.ldn (by (with_reducible repeat' first | exact mem_h _ _ | apply mem_t); done) rfl rfl))))); done)))
    | simp (disch := (first | assumption | omega)) only [ti27, List.take_succ_cons, List.take_zero, List.drop_zero])

  all_goals (first | first | exact rr_nil rfl H.toExt (okL_e (by assumption)) | exact ⟨g1, by rw [show chk xs = 0 by assumption]; rfl, H.tok (by (with_reducible repeat' first | exact mem_h _ _ | apply mem_t); done), H.toExt, ng1, by rw [okL_0 (by assumption), e1], c1⟩ | trace_state)
end Go.Proofs.Ytpioenfglmimgaa
