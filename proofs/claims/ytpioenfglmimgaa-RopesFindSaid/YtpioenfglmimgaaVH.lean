import Derived.Test.YtpioenfglmimgaaVG
import Derived.KernelRfl
namespace Go.Proofs.Ytpioenfglmimgaa
open Go Go.Proofs Go.RowKit Go.Proofs.Abs
set_option linter.unusedSimpArgs false
set_option linter.unusedVariables false
def ofR (us : List Int) (great : Bool) : List Int := let ys := (us.take 200).map fun x => x.tmod 16; if great = true ∧ 0 < ys.length then ys.set 0 2305843009213693952 else ys
theorem sum_small : ∀ (l : List Int) (B : Int), (∀ x, x ∈ l → x ≤ B) → l.sum ≤ B * l.length := by
  intro l B
  induction l with
  | nil => intro _; simp
  | cons a l ih =>
    intro h
    rw [List.sum_cons, List.length_cons, Int.natCast_succ, Int.mul_add, Int.mul_one]
    have := h a (.head _)
    have := ih (fun x hx => h x (.tail _ hx))
    omega
theorem tm16 {x : Int} (h : 0 ≤ x) : 0 ≤ x.tmod 16 ∧ x.tmod 16 < 16 := by
  rw [Int.tmod_eq_emod_of_nonneg h]
  exact ⟨Int.emod_nonneg _ (by omega), Int.emod_lt_of_pos _ (by omega)⟩
theorem ofR_ok {us : List Int} (hu : ∀ x ∈ us, 0 ≤ x ∧ x < 256) (great : Bool) : Val (ofR us great) ∧ (ofR us great).length ≤ 200 := by
  have h1 : ∀ x, x ∈ (us.take 200).map (fun x => x.tmod 16) → 0 ≤ x ∧ x ≤ 15 := fun x hx => by
    obtain ⟨y, hy, rfl⟩ := List.mem_map.1 hx
    have := tm16 (hu y (List.mem_of_mem_take hy)).1
    omega
  have hl : ((us.take 200).map (fun x => x.tmod 16)).length ≤ 200 := by rw [List.length_map, List.length_take]; omega
  have hs := sum_small _ 15 (fun x hx => (h1 x hx).2)
  unfold ofR
  dsimp only
  split
  · rename_i h9
    obtain ⟨v, hv⟩ := at_some h9.2
    obtain ⟨s1, s2⟩ := set_split 2305843009213693952 hv
    have hv9 := (h1 v (List.mem_of_getElem? hv)).1
    refine ⟨⟨⟨fun x hx => ?_, ?_, by rw [List.length_set]; omega⟩, fun x hx => ?_⟩, by rw [List.length_set]; exact hl⟩
    · rcases s2 x hx with rfl | h2
      · decide
      · exact (h1 x h2).1
    · rw [s1]; omega
    · rcases s2 x hx with rfl | h2
      · exact Int.le_refl _
      · have := (h1 x h2).2; omega
  · exact ⟨⟨⟨fun x hx => (h1 x hx).1, by omega, by omega⟩, fun x hx => by have := (h1 x hx).2; omega⟩, hl⟩
theorem ofR_v {us : List Int} (hu : ∀ x ∈ us, 0 ≤ x ∧ x < 256) (great : Bool) : chk (ofR us great) = 0 := (chk_iff _).2 (ofR_ok hu great).1
theorem cnv5 (x : Int) (h1 : 0 ≤ x) (h2 : x < 256) : convA ctx 2 (.lit (.int .u8 x)) = some (I x) := by
  unfold convA
  rw [ty2]
  simp only [ti2]
  rw [wrap_ok (by omega) (by omega)]
set_option maxHeartbeats 4000000 in
theorem c13 {n : Nat} (hn : 1 ≤ n) {b : Hp} {w : AV} {us : List Int} {great : Bool} (hv : IsL b w (us.map fun x => AV.lit (.int .u8 x))) (hu : ∀ x ∈ us, 0 ≤ x ∧ x < 256) : Wv (runA ctx 5000 n 13 [.agg [w, Bo great]] b) (fun r h' => ∃ u, u = r ∧ Lc false h' u ((ofR us great).map I) ∧ Ext b h' ∧ ∀ m, nmO u = some m → b.c ≤ m) := by
  obtain ⟨k, rfl⟩ : ∃ k, n = k + 1 := ⟨n - 1, by omega⟩
  have one1 := hv.one
  have cel1 := hv.cells
  have H := (Hs.start b).z0 (z := isl w (us.map fun x => AV.lit (.int .u8 x))) hv
  refine wv_run fn13 rfl ?_
  have a0 : (enterEnv [.agg [w, Bo great]] Try.f13.ntmps).get 0 = some (.agg [w, Bo great]) := enter_get1 _ _ _
  generalize enterEnv [.agg [w, Bo great]] Try.f13.ntmps = e at a0 ⊢
  unfold Try.f13
  dsimp only
  ((with_reducible apply wc_c (fun i => Nat.beq i 0 || Nat.beq i 1 || Nat.beq i 2 || Nat.beq i 3 || Nat.beq i 4 || Nat.beq i 13 || Nat.beq i 32)); intro e he; have w9 := he 0 rfl; (try simp only [a0] at w9); have v0 := w9; clear w9; have w9 := he 1 rfl; (try simp only [T.get_put, Nat.reduceEqDiff, reduceIte] at w9); have v1 := w9; clear w9; have w9 := he 2 rfl; (try simp only [T.get_put, Nat.reduceEqDiff, reduceIte] at w9); have v2 := w9; clear w9; have w9 := he 3 rfl; (try simp only [T.get_put, Nat.reduceEqDiff, reduceIte] at w9); have v3 := w9; clear w9; have w9 := he 4 rfl; (try simp only [T.get_put, Nat.reduceEqDiff, reduceIte] at w9); have v4 := w9; clear w9; have w9 := he 13 rfl; (try simp only [T.get_put, Nat.reduceEqDiff, reduceIte] at w9); have v13 := w9; clear w9; have w9 := he 32 rfl; (try simp only [T.get_put, Nat.reduceEqDiff, reduceIte] at w9); have v32 := w9; clear w9; clear he)
  repeat' (first
    | with_reducible apply wc_seq
    | ((with_reducible apply wc_region); (· (rfl)))
    | with_reducible apply wo_some
    | with_reducible apply wc_block
    | (simp only [cells_agg] at H)
    | ((with_reducible apply nx_c (fun i => Nat.beq i 0 || Nat.beq i 1 || Nat.beq i 2 || Nat.beq i 3 || Nat.beq i 4 || Nat.beq i 13 || Nat.beq i 32)); intro e he; have w0 := he 0 rfl; have w1 := he 1 rfl; have w2 := he 2 rfl; have w3 := he 3 rfl; have w4 := he 4 rfl; have w13 := he 13 rfl; have w32 := he 32 rfl; (try simp only [T.get_put, Nat.reduceEqDiff, reduceIte, v0, v1, v2, v3, v4, v13, v32] at w0 w1 w2 w3 w4 w13 w32); clear he v0 v1 v2 v3 v4 v13 v32; have v0 := w0; have v1 := w1; have v2 := w2; have v3 := w3; have v4 := w4; have v13 := w13; have v32 := w32; clear w0 w1 w2 w3 w4 w13 w32)
    | ((with_reducible apply wo_eq); (· (simp (disch := (first | assumption | omega)) only [opsA_cons, opsA_nil, wantedA, stepA_t, callA, runOp_n, opA, ev, afterA_s, putA, Bo, withH_s, v0]; exact rfl)))
    | ((with_reducible apply wo_box H); clear H; intro n h H0n H))

  obtain ⟨p1, H, v1⟩ : ∃ p1, Hs [] b h [gr 2 1 nilS [] 0, blk id p1 [w, Bo great]] [isl w (us.map fun x => AV.lit (.int .u8 x))] ∧ e.get 1 = some (.ptr p1 0) := ⟨_, H.nil 2 1, v1⟩
  obtain ⟨N, hN⟩ : ∃ N, N = min us.length 200 := ⟨_, rfl⟩
  refine wc_loop (fun m e h' => ∃ k u, m = N - k ∧ k ≤ N ∧ e.get 1 = some (.ptr p1 0) ∧ e.get 3 = some u ∧ e.get 4 = some (I (k : Int)) ∧ Hs [] b h' [gr 2 1 u (((us.take k).map fun x => x.tmod 16).map I) k, blk id p1 [w, Bo great]] [isl w (us.map fun x => AV.lit (.int .u8 x))]) N ?_ ⟨0, nilS, rfl, Nat.zero_le _, v1, v3, v4, H⟩ ?_
  · omega
  · clear H v1 v3 v4
    rintro m e h ⟨k, u, rfl, hk, v1, v3, v4, H⟩
    by_cases hlt : k < N
    · obtain ⟨x, hx⟩ := at_some (show k < us.length by omega)
      have hxs : (us.map fun x => AV.lit (.int .u8 x))[k]? = some (AV.lit (.int .u8 x)) := by rw [List.getElem?_map, hx]; rfl
      have hxb := hu x (List.mem_of_getElem? hx)
      have h16 := tm16 hxb.1
      have hcv := cnv5 (x.tmod 16) h16.1 (by omega)
      ((with_reducible apply wc_c (fun i => Nat.beq i 0 || Nat.beq i 1 || Nat.beq i 2 || Nat.beq i 3 || Nat.beq i 4 || Nat.beq i 13 || Nat.beq i 32)); intro e he; have w9 := he 0 rfl; (try simp only [T.get_put, Nat.reduceEqDiff, reduceIte] at w9); have v0 := w9; clear w9; have w9 := he 1 rfl; (try simp only [v1] at w9); replace v1 := w9; clear w9; have w9 := he 2 rfl; (try simp only [T.get_put, Nat.reduceEqDiff, reduceIte] at w9); have v2 := w9; clear w9; have w9 := he 3 rfl; (try simp only [v3] at w9); replace v3 := w9; clear w9; have w9 := he 4 rfl; (try simp only [v4] at w9); replace v4 := w9; clear w9; have w9 := he 13 rfl; (try simp only [T.get_put, Nat.reduceEqDiff, reduceIte] at w9); have v13 := w9; clear w9; have w9 := he 32 rfl; (try simp only [T.get_put, Nat.reduceEqDiff, reduceIte] at w9); have v32 := w9; clear w9; clear he)
      repeat' (first
        | with_reducible apply wc_seq
        | ((with_reducible apply wc_region); (· (rfl)))
        | with_reducible apply wo_some
        | ((with_reducible apply wc_cond); (· (simp (disch := (first | assumption | omega)) only [ev, Option.some.injEq, v13] <;> rfl)); all_goals (intro hg; (try (try simp only [Bool.not_eq_true'] at hg)); first | (exfalso; exact Bool.noConfusion hg) | (exfalso; exact hg) | skip))
        | with_reducible apply wc_block
        | with_reducible apply wc_skip
        | with_reducible apply bx_n
        | (simp only [rep1, cells_int, putAt_z, over_nil, over_cons, repl_one, Nat.mul_one, ti2, ti2] at H)
        | ((with_reducible apply nx_c (fun i => Nat.beq i 0 || Nat.beq i 1 || Nat.beq i 2 || Nat.beq i 3 || Nat.beq i 4 || Nat.beq i 13 || Nat.beq i 32)); intro e he; have w0 := he 0 rfl; have w1 := he 1 rfl; have w2 := he 2 rfl; have w3 := he 3 rfl; have w4 := he 4 rfl; have w13 := he 13 rfl; have w32 := he 32 rfl; (try simp only [T.get_put, Nat.reduceEqDiff, reduceIte, v0, v1, v2, v3, v4, v13, v32] at w0 w1 w2 w3 w4 w13 w32); clear he v0 v1 v2 v3 v4 v13 v32; have v0 := w0; have v1 := w1; have v2 := w2; have v3 := w3; have v4 := w4; have v13 := w13; have v32 := w32; clear w0 w1 w2 w3 w4 w13 w32)
        | ((with_reducible apply wo_eq); (· (simp (disch := (first | assumption | omega)) only [beq_self_eq_true, eq_self, opsA_cons, opsA_nil, wantedA, guardA, yieldA, stepA_t, callA, calleeA, runOp_n, opA, ev, evs, consO, consOO, pickA, afterA_s, putA, T.get_put, Nat.reduceEqDiff, reduceIte, List.getElem?_toArray, List.getElem?_cons_zero, List.getElem?_cons_succ, oBuiltin, oBin, binA, binG, binL, aggO, litA, oIndexAddr, cond_true, decide_true, blt_eq, I, Bo, fieldAddrA, oFieldAddr, Nat.add_zero, Nat.reduceLT, ty5, ti5, ty33, ti33, ty35, ti35, ty5, ti5, ii_add, ii_lss, iu_rem, withH_s, oBuildSlice, evParts, consP, oConv, dec_t, wrap_ok, id_eq, Nat.add_zero, v1, v3, v4, List.length_map, hcv]; exact rfl)))
        | ((with_reducible apply wo_load1 H); (· ((with_reducible repeat' first | exact mem_h _ _ | apply mem_t); done)); (· (rfl)); (· ((first | rfl | assumption))))
        | ((with_reducible apply wo_loadc H); (· ((with_reducible repeat' first | exact mem_h _ _ | apply mem_t); done)); (· (rfl)))
        | ((with_reducible apply wo_len H); (· ((with_reducible repeat' first | exact mem_h _ _ | apply mem_t); done)); (· (exact ty33)); (· (rfl)))
        | ((with_reducible apply wo_ia H); (· ((with_reducible repeat' first | exact mem_h _ _ | apply mem_t); done)); (· (exact ty33)); (· (rfl)); (· ((first | exact ty5 | exact ty5))); (· (rfl)); (· (rfl)); (· (assumption)); clear H; intro n o H)
        | ((with_reducible apply wo_bs H); (· (exact ty22)); (· (rfl)); (· ((first | exact ty2 | exact ty2))); (· (kernel_rfl)); (· ((first | rfl | (simp only [fillA_nil, fillA_cons, repl_z, repl_s, cells_int, cells_bool, cells_str, cells_float, cells_np, cells_nil, cells_nf, cells_ptr, cells_slice, cells_fn, cells_agg, cells_lagg, v0, v1, v2, v3, v4, v13, v32, one1, List.length_map, hcv]; rfl)))); clear H; intro n h H0n H)
        | ((with_reducible apply wo_app H); (· ((with_reducible repeat' first | exact PickF.here _ _ | apply PickF.there); done)); (· (exact ty22)); (· (rfl)); (· ((first | exact ty2 | exact ty2))); (· (rfl)); (· (decide)); (· (kernel_rfl)); (· ((with_reducible repeat' first | exact mem_h _ _ | apply mem_t); done)); (· (rfl)); (· ((first | rfl | (simp (disch := assumption) only [onesA_cons', onesA_nil, cells_int, cells_bool, cells_str, cells_float, cells_np, cells_nil, cells_nf, cells_ptr, cells_slice, cells_fn, cells_agg, cells_lagg, litCells_cons, litCells_nil, one_t, one_int, one_bool, one_str, one_nil, one_np, one_ptr, one_slice, GT.one_val, Bool.and_true, Bool.and_self, id_eq]; done)))); (· ((first | omega | (simp; done) | (simp; omega)))); clear H; intro u h H)
        | simp (disch := (first | assumption | omega)) only [eq_self, Option.some.injEq, I, Bo, v1, v3, v4])
      all_goals (first | (exfalso; omega) | skip)
      all_goals (
        refine ⟨N - (k + 1), by omega, k + 1, _, rfl, by omega, by trivial, rfl, by rw [show ((k + 1 : Nat) : Int) = (k : Int) + 1 from by omega], ?_⟩
        rw [take_at hx, List.map_append, List.map_append, List.map_cons, List.map_nil, List.map_cons, List.map_nil]
        exact H.sub (by (with_reducible repeat' first | exact List.Sublist.refl _ | apply List.Sublist.cons_cons | apply List.Sublist.cons); done) (by (repeat' (first | exact znil | (apply zcons; (· ((with_reducible repeat' first | exact mem_h _ _ | apply mem_t); done))))); done))
    · obtain rfl : k = N := by omega
      have hY : us.take k = us.take 200 := by rw [hN]; by_cases h7 : us.length ≤ 200; rw [List.take_of_length_le (by omega), List.take_of_length_le h7]; rw [Nat.min_eq_right (by omega)]
      have hYl : (((us.take k).map fun x => x.tmod 16)).length = k := by rw [List.length_map, List.length_take]; omega
      cases great
      · ((with_reducible apply wc_c (fun i => Nat.beq i 0 || Nat.beq i 1 || Nat.beq i 2 || Nat.beq i 3 || Nat.beq i 4 || Nat.beq i 13 || Nat.beq i 32)); intro e he; have w9 := he 0 rfl; (try simp only [T.get_put, Nat.reduceEqDiff, reduceIte] at w9); have v0 := w9; clear w9; have w9 := he 1 rfl; (try simp only [v1] at w9); replace v1 := w9; clear w9; have w9 := he 2 rfl; (try simp only [T.get_put, Nat.reduceEqDiff, reduceIte] at w9); have v2 := w9; clear w9; have w9 := he 3 rfl; (try simp only [v3] at w9); replace v3 := w9; clear w9; have w9 := he 4 rfl; (try simp only [v4] at w9); replace v4 := w9; clear w9; have w9 := he 13 rfl; (try simp only [T.get_put, Nat.reduceEqDiff, reduceIte] at w9); have v13 := w9; clear w9; have w9 := he 32 rfl; (try simp only [T.get_put, Nat.reduceEqDiff, reduceIte] at w9); have v32 := w9; clear w9; clear he)
        repeat' (first
          | with_reducible apply wc_seq
          | ((with_reducible apply wc_region); (· (rfl)))
          | with_reducible apply wo_some
          | ((with_reducible apply wc_cond); (· (simp (disch := (first | assumption | omega)) only [ev, Option.some.injEq, v13, v32] <;> rfl)); all_goals (intro hg; (try (try simp only [Bool.not_eq_true'] at hg)); first | (exfalso; exact Bool.noConfusion hg) | (exfalso; exact hg) | skip))
          | with_reducible apply wc_skip
          | with_reducible apply wc_exit
          | with_reducible apply wc_ret
          | with_reducible apply nx_e
          | ((with_reducible apply bx_hit); (· (rfl)))
          | ((with_reducible apply nx_c (fun i => Nat.beq i 0 || Nat.beq i 1 || Nat.beq i 2 || Nat.beq i 3 || Nat.beq i 4 || Nat.beq i 13 || Nat.beq i 32)); intro e he; have w0 := he 0 rfl; have w1 := he 1 rfl; have w2 := he 2 rfl; have w3 := he 3 rfl; have w4 := he 4 rfl; have w13 := he 13 rfl; have w32 := he 32 rfl; (try simp only [T.get_put, Nat.reduceEqDiff, reduceIte, v0, v1, v2, v3, v4, v13, v32] at w0 w1 w2 w3 w4 w13 w32); clear he v0 v1 v2 v3 v4 v13 v32; have v0 := w0; have v1 := w1; have v2 := w2; have v3 := w3; have v4 := w4; have v13 := w13; have v32 := w32; clear w0 w1 w2 w3 w4 w13 w32)
          | ((with_reducible apply wo_eq); (· (simp (disch := (first | assumption | omega)) only [beq_self_eq_true, eq_self, opsA_cons, opsA_nil, wantedA, guardA, yieldA, stepA_t, stepA_f, callA, calleeA, runOp_n, opA, ev, evs, consO, consOO, pickA, afterA_s, putA, T.get_put, Nat.reduceEqDiff, reduceIte, List.getElem?_toArray, List.getElem?_cons_zero, List.getElem?_cons_succ, oBuiltin, oBin, binA, binG, binL, aggO, litA, cond_true, decide_true, blt_eq, ft_beq, I, Bo, fieldAddrA, oFieldAddr, Nat.zero_add, Nat.add_zero, Nat.reduceLT, ty4, ti4, ty33, ti33, ty35, ti35, ii_lss, withH_s, dec_t, dec_f, id_eq, Nat.zero_add, Nat.add_zero, v1, v3, v4, List.length_map]; exact rfl)))
          | ((with_reducible apply wo_load1 H); (· ((with_reducible repeat' first | exact mem_h _ _ | apply mem_t); done)); (· (rfl)); (· ((first | rfl | assumption))))
          | ((with_reducible apply wo_len H); (· ((with_reducible repeat' first | exact mem_h _ _ | apply mem_t); done)); (· (exact ty33)); (· (rfl)))
          | ((with_reducible apply wo_step) <;> intro hg <;> (try simp only [beq_true, decide_eq_true_eq, decide_eq_false_iff_not] at hg) <;> (try subst hg) <;> (first | (exfalso; exact Bool.noConfusion hg) | skip))
          | ((first | with_reducible apply wv_ret | with_reducible apply wv_end); (· ((repeat' (first | with_reducible exact rs_nil | ((with_reducible apply rs_tmp); (· (simp (disch := (first | assumption | omega)) only [Option.some.injEq, v2] <;> rfl))) | ((with_reducible apply rs_cell); (· (simp (disch := (first | assumption | omega)) only [ev, T.get_put, Nat.reduceEqDiff, reduceIte, Option.some.injEq, dec_t, dec_f, Bool.not_true, Bool.not_false, v0, v1, v2, v3, v4, v13, v32, one1, List.length_map] <;> rfl)); (· (kernel_rfl)); (· (rfl)); (· (exact H.ld1 (by (with_reducible repeat' first | exact mem_h _ _ | apply mem_t); done) rfl))) | ((with_reducible apply rs_celln); (· (simp (disch := (first | assumption | omega)) only [ev, T.get_put, Nat.reduceEqDiff, reduceIte, Option.some.injEq, dec_t, dec_f, Bool.not_true, Bool.not_false, v0, v1, v2, v3, v4, v13, v32, one1, List.length_map] <;> rfl)); (· (kernel_rfl)); (· (rfl)); (· (exact H.ldn (by (with_reducible repeat' first | exact mem_h _ _ | apply mem_t); done) rfl rfl))))); done))))
        all_goals (first | first | (exfalso; omega) | (have hz9 : ofR us false = (us.take k).map (fun x => x.tmod 16) := (by unfold ofR; dsimp only; rw [← hY, if_neg (fun h => by cases h.1)]); rw [hz9]; have hm9 := H.p (a := gr 2 1 u _ _) (by (with_reducible repeat' first | exact mem_h _ _ | apply mem_t); done); exact ⟨u, rfl, gr_lc' hm9 hYl, H.toExt, fun m hn => ((H.own (gr 2 1 u _ _) (by (with_reducible repeat' first | exact mem_h _ _ | apply mem_t); done)).2 m (nmO_mem.2 hn)).elim id (fun h => by cases h)⟩) | trace_state)
      · ((with_reducible apply wc_c (fun i => Nat.beq i 0 || Nat.beq i 1 || Nat.beq i 2 || Nat.beq i 3 || Nat.beq i 4 || Nat.beq i 13 || Nat.beq i 32)); intro e he; have w9 := he 0 rfl; (try simp only [T.get_put, Nat.reduceEqDiff, reduceIte] at w9); have v0 := w9; clear w9; have w9 := he 1 rfl; (try simp only [v1] at w9); replace v1 := w9; clear w9; have w9 := he 2 rfl; (try simp only [T.get_put, Nat.reduceEqDiff, reduceIte] at w9); have v2 := w9; clear w9; have w9 := he 3 rfl; (try simp only [v3] at w9); replace v3 := w9; clear w9; have w9 := he 4 rfl; (try simp only [v4] at w9); replace v4 := w9; clear w9; have w9 := he 13 rfl; (try simp only [T.get_put, Nat.reduceEqDiff, reduceIte] at w9); have v13 := w9; clear w9; have w9 := he 32 rfl; (try simp only [T.get_put, Nat.reduceEqDiff, reduceIte] at w9); have v32 := w9; clear w9; clear he)
        repeat' (first
          | with_reducible apply wc_seq
          | ((with_reducible apply wc_region); (· (rfl)))
          | with_reducible apply wo_some
          | ((with_reducible apply wc_cond); (· (simp (disch := (first | assumption | omega)) only [ev, Option.some.injEq, v13, v32] <;> rfl)); all_goals (intro hg; (try (try simp only [decide_eq_true_eq, decide_eq_false_iff_not] at hg)); first | (exfalso; exact Bool.noConfusion hg) | (exfalso; exact hg) | skip))
          | with_reducible apply wc_skip
          | with_reducible apply wc_exit
          | with_reducible apply wc_ret
          | with_reducible apply nx_e
          | ((with_reducible apply bx_hit); (· (rfl)))
          | ((with_reducible apply nx_c (fun i => Nat.beq i 0 || Nat.beq i 1 || Nat.beq i 2 || Nat.beq i 3 || Nat.beq i 4 || Nat.beq i 13 || Nat.beq i 32)); intro e he; have w0 := he 0 rfl; have w1 := he 1 rfl; have w2 := he 2 rfl; have w3 := he 3 rfl; have w4 := he 4 rfl; have w13 := he 13 rfl; have w32 := he 32 rfl; (try simp only [T.get_put, Nat.reduceEqDiff, reduceIte, v0, v1, v2, v3, v4, v13, v32] at w0 w1 w2 w3 w4 w13 w32); clear he v0 v1 v2 v3 v4 v13 v32; have v0 := w0; have v1 := w1; have v2 := w2; have v3 := w3; have v4 := w4; have v13 := w13; have v32 := w32; clear w0 w1 w2 w3 w4 w13 w32)
          | ((with_reducible apply wo_eq); (· (simp (disch := (first | assumption | omega)) only [beq_self_eq_true, eq_self, opsA_cons, opsA_nil, wantedA, guardA, yieldA, stepA_t, stepA_f, callA, calleeA, runOp_n, opA, ev, evs, consO, consOO, pickA, afterA_s, putA, T.get_put, Nat.reduceEqDiff, reduceIte, List.getElem?_toArray, List.getElem?_cons_zero, List.getElem?_cons_succ, oBuiltin, oBin, binA, binG, binL, aggO, litA, oIndexAddr, cond_true, decide_true, blt_eq, ft_beq, I, Bo, fieldAddrA, oFieldAddr, Nat.zero_add, Nat.add_zero, Nat.reduceLT, ty2, ti2, ty4, ti4, ty33, ti33, ty35, ti35, ty2, ti2, ii_lss, ii_gtr, withH_s, dec_t, dec_f, id_eq, Nat.zero_add, Nat.add_zero, v1, v3, v4, List.length_map]; exact rfl)))
          | (((with_reducible apply wo_leng1 H); (· ((with_reducible repeat' first | exact PickF.here _ _ | apply PickF.there); done)); (· (exact ty22)); (· (rfl))))
          | (((with_reducible apply wo_iast (j := 0) H); (· ((with_reducible repeat' first | exact PickF.here _ _ | apply PickF.there); done)); (· (exact ty22)); (· (rfl)); (· ((first | exact ty2 | exact ty2))); (· (rfl)); (· (first | rfl | assumption)); (· ((first | omega | assumption))); intro nm9 hn9 hu9))
          | (((with_reducible apply wo_stg H); (· ((with_reducible repeat' first | exact PickF.here _ _ | apply PickF.there); done)); (· (assumption)); (· ((first | omega | assumption))); (· (rfl)); (· (rfl)); (· (rfl)); clear H; intro h H))
          | ((with_reducible apply wo_load1 H); (· ((with_reducible repeat' first | exact mem_h _ _ | apply mem_t); done)); (· (rfl)); (· ((first | rfl | assumption))))
          | ((with_reducible apply wo_len H); (· ((with_reducible repeat' first | exact mem_h _ _ | apply mem_t); done)); (· (exact ty33)); (· (rfl)))
          | ((with_reducible apply wo_step) <;> intro hg <;> (try simp only [beq_true, decide_eq_true_eq, decide_eq_false_iff_not] at hg) <;> (try subst hg) <;> (first | (exfalso; exact Bool.noConfusion hg) | skip))
          | ((first | with_reducible apply wv_ret | with_reducible apply wv_end); (· ((repeat' (first | with_reducible exact rs_nil | ((with_reducible apply rs_tmp); (· (simp (disch := (first | assumption | omega)) only [Option.some.injEq, v2] <;> rfl))) | ((with_reducible apply rs_cell); (· (simp (disch := (first | assumption | omega)) only [ev, T.get_put, Nat.reduceEqDiff, reduceIte, Option.some.injEq, dec_t, dec_f, Bool.not_true, Bool.not_false, v0, v1, v2, v3, v4, v13, v32, one1, List.length_map] <;> rfl)); (· (kernel_rfl)); (· (rfl)); (· (exact H.ld1 (by (with_reducible repeat' first | exact mem_h _ _ | apply mem_t); done) rfl))) | ((with_reducible apply rs_celln); (· (simp (disch := (first | assumption | omega)) only [ev, T.get_put, Nat.reduceEqDiff, reduceIte, Option.some.injEq, dec_t, dec_f, Bool.not_true, Bool.not_false, v0, v1, v2, v3, v4, v13, v32, one1, List.length_map] <;> rfl)); (· (kernel_rfl)); (· (rfl)); (· (exact H.ldn (by (with_reducible repeat' first | exact mem_h _ _ | apply mem_t); done) rfl rfl))))); done))))
        all_goals (first | first | (exfalso; omega) | (have hz9 : ofR us true = ((us.take k).map (fun x => x.tmod 16)).set 0 2305843009213693952 := (by unfold ofR; dsimp only; rw [← hY, if_pos ⟨rfl, by omega⟩]); rw [hz9]; have hm9 := H.p (a := gr 2 1 u _ _) (by (with_reducible repeat' first | exact mem_h _ _ | apply mem_t); done); rw [← List.map_set] at hm9; exact ⟨u, rfl, gr_lc' hm9 (by rw [List.length_set]; exact hYl), H.toExt, fun m hn => ((H.own (gr 2 1 u _ _) (by (with_reducible repeat' first | exact mem_h _ _ | apply mem_t); done)).2 m (nmO_mem.2 hn)).elim id (fun h => by cases h)⟩) | (have hz9 : ofR us true = (us.take k).map (fun x => x.tmod 16) := (by unfold ofR; dsimp only; rw [← hY, if_neg (by omega)]); rw [hz9]; have hm9 := H.p (a := gr 2 1 u _ _) (by (with_reducible repeat' first | exact mem_h _ _ | apply mem_t); done); exact ⟨u, rfl, gr_lc' hm9 hYl, H.toExt, fun m hn => ((H.own (gr 2 1 u _ _) (by (with_reducible repeat' first | exact mem_h _ _ | apply mem_t); done)).2 m (nmO_mem.2 hn)).elim id (fun h => by cases h)⟩) | trace_state)


def isLives (f : FuncId) : Bool := Nat.beq f 9
noncomputable def all99 : CallF := plus isLives (runA ctx 5000 99)
theorem w9 (h : Hp) : Wv (all99 9 [] h) (fun r h' => r = Bo true ∧ h' = h) := ⟨_, _, plus_lit rfl, rfl, rfl⟩
theorem all_of {f : Nat} {args : List AV} {h : Hp} {Q : AV → Hp → Prop} (hf : isLives f = false) (h1 : Wv (runA ctx 5000 99 f args h) Q) : Wv (all99 f args h) Q := by
  unfold all99; rw [plus_not hf]; exact h1
def In (a : Int) : Prop := -9223372036854775808 ≤ a ∧ a ≤ 9223372036854775807
set_option maxHeartbeats 4000000 in
theorem c18 {n : Nat} (hn : 3 ≤ n) {b : Hp} {g : GT} (pg : g.ok b) (gd : GT.Good g.lst) (bl : g.bal) {j : Nat} (hj : j ≤ g.cnt) : Wv (runA ctx 5000 n 18 [.agg [g.val], I (j : Int)] b) (fun x h' => x = .tup [I (g.lst.take j).sum, I 0] ∧ Ext b h') := by
  obtain ⟨k, rfl⟩ : ∃ k, n = k + 1 := ⟨n - 1, by omega⟩
  have s1 := gd.sm
  have hh := GT.bal_hgt bl s1.2.2
  have hlen := GT.len g
  have H := (Hs.start b).z0 (z := tre g) pg
  have hS := (good_take gd j).2.1
  refine wv_run fn18 rfl ?_
  have a0 : (enterEnv [.agg [g.val], I (j : Int)] Try.f18.ntmps).get 0 = some (.agg [g.val]) := enter_get1 _ _ _
  have a1 : (enterEnv [.agg [g.val], I (j : Int)] Try.f18.ntmps).get 1 = some (I (j : Int)) := enter_get2 _ _ _ _
  generalize enterEnv [.agg [g.val], I (j : Int)] Try.f18.ntmps = e at a0 a1 ⊢
  unfold Try.f18
  dsimp only
  ((with_reducible apply wc_c (fun i => Nat.beq i 0 || Nat.beq i 1 || Nat.beq i 2 || Nat.beq i 4 || Nat.beq i 5 || Nat.beq i 6 || Nat.beq i 7 || Nat.beq i 15 || Nat.beq i 19 || Nat.beq i 26)); intro e he; have w9 := he 0 rfl; (try simp only [a0] at w9); have v0 := w9; clear w9; have w9 := he 1 rfl; (try simp only [a1] at w9); have v1 := w9; clear w9; have w9 := he 2 rfl; (try simp only [T.get_put, Nat.reduceEqDiff, reduceIte] at w9); have v2 := w9; clear w9; have w9 := he 4 rfl; (try simp only [T.get_put, Nat.reduceEqDiff, reduceIte] at w9); have v4 := w9; clear w9; have w9 := he 5 rfl; (try simp only [T.get_put, Nat.reduceEqDiff, reduceIte] at w9); have v5 := w9; clear w9; have w9 := he 6 rfl; (try simp only [T.get_put, Nat.reduceEqDiff, reduceIte] at w9); have v6 := w9; clear w9; have w9 := he 7 rfl; (try simp only [T.get_put, Nat.reduceEqDiff, reduceIte] at w9); have v7 := w9; clear w9; have w9 := he 15 rfl; (try simp only [T.get_put, Nat.reduceEqDiff, reduceIte] at w9); have v15 := w9; clear w9; have w9 := he 19 rfl; (try simp only [T.get_put, Nat.reduceEqDiff, reduceIte] at w9); have v19 := w9; clear w9; have w9 := he 26 rfl; (try simp only [T.get_put, Nat.reduceEqDiff, reduceIte] at w9); have v26 := w9; clear w9; clear he)
  repeat' (first
    | with_reducible apply wc_seq
    | ((with_reducible apply wc_region); (· (rfl)))
    | with_reducible apply wo_some
    | ((with_reducible apply wc_cond); (· (simp (disch := (first | assumption | omega)) only [ev, Option.some.injEq, v15] <;> rfl)); all_goals (intro hg; (try (try simp only [Bool.not_eq_true'] at hg)); first | (exfalso; exact Bool.noConfusion hg) | (exfalso; exact hg) | skip))
    | with_reducible apply wc_block
    | with_reducible apply wc_skip
    | (simp only [cells_agg] at H)
    | ((with_reducible apply nx_c (fun i => Nat.beq i 0 || Nat.beq i 1 || Nat.beq i 2 || Nat.beq i 4 || Nat.beq i 5 || Nat.beq i 6 || Nat.beq i 7 || Nat.beq i 15 || Nat.beq i 19 || Nat.beq i 26)); intro e he; have w0 := he 0 rfl; have w1 := he 1 rfl; have w2 := he 2 rfl; have w4 := he 4 rfl; have w5 := he 5 rfl; have w6 := he 6 rfl; have w7 := he 7 rfl; have w15 := he 15 rfl; have w19 := he 19 rfl; have w26 := he 26 rfl; (try simp only [T.get_put, Nat.reduceEqDiff, reduceIte, v0, v1, v2, v4, v5, v6, v7, v15, v19, v26] at w0 w1 w2 w4 w5 w6 w7 w15 w19 w26); clear he v0 v1 v2 v4 v5 v6 v7 v15 v19 v26; have v0 := w0; have v1 := w1; have v2 := w2; have v4 := w4; have v5 := w5; have v6 := w6; have v7 := w7; have v15 := w15; have v19 := w19; have v26 := w26; clear w0 w1 w2 w4 w5 w6 w7 w15 w19 w26)
    | ((with_reducible apply wo_eq); (· (simp (disch := (first | assumption | omega)) only [beq_self_eq_true, eq_self, opsA_cons, opsA_nil, wantedA, guardA, yieldA, stepA_t, callA, calleeA, targetA, runOp_c, runOp_n, opA, ev, evs, consO, consOO, pickA, afterA_s, putA, T.get_put, Nat.reduceEqDiff, reduceIte, List.getElem?_toArray, List.getElem?_cons_zero, List.getElem?_cons_succ, oBin, binA, binG, binL, aggO, litA, cond_true, blt_eq, I, Bo, fieldAddrA, oFieldAddr, Nat.add_zero, Nat.reduceLT, ty25, ti25, ty27, ti27, ii_lss, ii_gtr, withH_s, dec_t, dec_f, id_eq, List.take_succ_cons, List.take_zero, List.drop_zero, Nat.add_zero, v0, v1, v2]; exact rfl)))
    | (((with_reducible apply wo_call); (· ((with_reducible apply c36); (· (omega)); (· (exact H.tok (by (with_reducible repeat' first | exact mem_h _ _ | apply mem_t); done))))); rintro _ h ⟨rfl, x1⟩; replace H := H.ext x1; clear x1))
    | ((with_reducible apply wo_box H); clear H; intro n h H0n H)
    | ((with_reducible apply wo_load1 H); (· ((with_reducible repeat' first | exact mem_h _ _ | apply mem_t); done)); (· (rfl)); (· ((first | rfl | assumption))))
    | ((with_reducible apply wo_loadn H); (· ((with_reducible repeat' first | exact mem_h _ _ | apply mem_t); done)); (· (rfl)); (· (rfl)); (· (rfl)))
    | simp (disch := (first | assumption | omega)) only [I])

  all_goals first | (exfalso; omega) | skip
  refine wc_loop (fun m e h' => ∃ (t : GT) (i : Nat) (tt9 : Int), m = t.hgt ∧ e.get 1 = some (I (i : Int)) ∧ e.get 6 = some (I tt9) ∧ e.get 7 = some t.val ∧ i ≤ t.cnt ∧ GT.Good t.lst ∧ 0 ≤ tt9 ∧ tt9 + (t.lst.take i).sum = (g.lst.take j).sum ∧ t.ok h' ∧ h' = h) g.hgt ?_ ⟨g, j, 0, rfl, v1, v6, v7, hj, gd, Int.le_refl _, by omega, H.tok (by (with_reducible repeat' first | exact mem_h _ _ | apply mem_t); done), rfl⟩ ?_
  · omega
  · clear v1 v6 v7
    rintro m e h ⟨t, i, tt9, rfl, v1, v6, v7, hi, gt, hT, hsum, tok, rfl⟩
    have hnn := GT.sum_nn (good_take gt i).1
    by_cases hi0 : i = 0
    · subst hi0
      have hT9 : tt9 = (g.lst.take j).sum := by rw [List.take_zero] at hsum; simpa using hsum
      ((with_reducible apply wc_c (fun i => Nat.beq i 0 || Nat.beq i 1 || Nat.beq i 2 || Nat.beq i 4 || Nat.beq i 5 || Nat.beq i 6 || Nat.beq i 7 || Nat.beq i 15 || Nat.beq i 19 || Nat.beq i 26)); intro e he; have w9 := he 0 rfl; (try simp only [T.get_put, Nat.reduceEqDiff, reduceIte] at w9); have v0 := w9; clear w9; have w9 := he 1 rfl; (try simp only [v1] at w9); replace v1 := w9; clear w9; have w9 := he 2 rfl; (try simp only [T.get_put, Nat.reduceEqDiff, reduceIte] at w9); have v2 := w9; clear w9; have w9 := he 4 rfl; (try simp only [T.get_put, Nat.reduceEqDiff, reduceIte] at w9); have v4 := w9; clear w9; have w9 := he 5 rfl; (try simp only [T.get_put, Nat.reduceEqDiff, reduceIte] at w9); have v5 := w9; clear w9; have w9 := he 6 rfl; (try simp only [v6] at w9); replace v6 := w9; clear w9; have w9 := he 7 rfl; (try simp only [v7] at w9); replace v7 := w9; clear w9; have w9 := he 15 rfl; (try simp only [T.get_put, Nat.reduceEqDiff, reduceIte] at w9); have v15 := w9; clear w9; have w9 := he 19 rfl; (try simp only [T.get_put, Nat.reduceEqDiff, reduceIte] at w9); have v19 := w9; clear w9; have w9 := he 26 rfl; (try simp only [T.get_put, Nat.reduceEqDiff, reduceIte] at w9); have v26 := w9; clear w9; clear he)
      repeat' (first
        | with_reducible apply wc_seq
        | ((with_reducible apply wc_region); (· (rfl)))
        | with_reducible apply wo_some
        | ((with_reducible apply wc_cond); (· (simp (disch := (first | assumption | omega)) only [ev, Option.some.injEq, v19] <;> rfl)); all_goals (intro hg; (try (try simp only [Bool.not_eq_true'] at hg)); first | (exfalso; exact Bool.noConfusion hg) | (exfalso; exact hg) | skip))
        | with_reducible apply wc_exit
        | with_reducible apply wc_ret
        | with_reducible apply nx_e
        | ((with_reducible apply bx_hit); (· (rfl)))
        | ((with_reducible apply nx_c (fun i => Nat.beq i 0 || Nat.beq i 1 || Nat.beq i 2 || Nat.beq i 4 || Nat.beq i 5 || Nat.beq i 6 || Nat.beq i 7 || Nat.beq i 15 || Nat.beq i 19 || Nat.beq i 26)); intro e he; have w0 := he 0 rfl; have w1 := he 1 rfl; have w2 := he 2 rfl; have w4 := he 4 rfl; have w5 := he 5 rfl; have w6 := he 6 rfl; have w7 := he 7 rfl; have w15 := he 15 rfl; have w19 := he 19 rfl; have w26 := he 26 rfl; (try simp only [T.get_put, Nat.reduceEqDiff, reduceIte, v0, v1, v2, v4, v5, v6, v7, v15, v19, v26] at w0 w1 w2 w4 w5 w6 w7 w15 w19 w26); clear he v0 v1 v2 v4 v5 v6 v7 v15 v19 v26; have v0 := w0; have v1 := w1; have v2 := w2; have v4 := w4; have v5 := w5; have v6 := w6; have v7 := w7; have v15 := w15; have v19 := w19; have v26 := w26; clear w0 w1 w2 w4 w5 w6 w7 w15 w19 w26)
        | ((with_reducible apply wo_eq); (· (simp (disch := (first | assumption | omega)) only [eq_self, opsA_cons, opsA_nil, wantedA, stepA_t, callA, runOp_n, opA, ev, afterA_s, putA, T.get_put, reduceIte, oBin, binA, binG, binL, aggO, litA, I, Bo, ii_gtr, withH_s, dec_f, v1, v6]; exact rfl)))
        | ((first | with_reducible apply wv_ret | with_reducible apply wv_end); (· ((repeat' (first | with_reducible exact rs_nil | ((with_reducible apply rs_tmp); (· (simp (disch := (first | assumption | omega)) only [Option.some.injEq, v4, v5] <;> rfl))) | ((with_reducible apply rs_cell); (· (simp (disch := (first | assumption | omega)) only [ev, T.get_put, Nat.reduceEqDiff, reduceIte, Option.some.injEq, dec_t, dec_f, Bool.not_true, Bool.not_false, v0, v1, v2, v4, v5, v6, v7, v15, v19, v26] <;> rfl)); (· (kernel_rfl)); (· (rfl)); (· (exact H.ld1 (by (with_reducible repeat' first | exact mem_h _ _ | apply mem_t); done) rfl))) | ((with_reducible apply rs_celln); (· (simp (disch := (first | assumption | omega)) only [ev, T.get_put, Nat.reduceEqDiff, reduceIte, Option.some.injEq, dec_t, dec_f, Bool.not_true, Bool.not_false, v0, v1, v2, v4, v5, v6, v7, v15, v19, v26] <;> rfl)); (· (kernel_rfl)); (· (rfl)); (· (exact H.ldn (by (with_reducible repeat' first | exact mem_h _ _ | apply mem_t); done) rfl rfl))))); done))))
      all_goals (first | first | (exfalso; omega) | exact ⟨by rw [hT9]; rfl, H.toExt⟩ | trace_state)
    · cases t with
      | nil => rw [GT.cnt_nil] at hi; omega
      | nd n1 l s r =>
        have Q := rdn tok
        simp only [ti2, ti25] at Q
        have hlc := GT.len l
        have hrc := GT.len r
        have hhl := GT.hgt_nd n1 l s r
        have g3 := GT.Good.three (l := l) (r := r) (s := s) gt
        have gl : GT.Good l.lst := GT.Good.left (b := s :: r.lst) gt
        have gr : GT.Good r.lst := (GT.Good.right (a := l.lst) (b := s :: r.lst) gt).tail
        rw [GT.cnt_nd] at hi
        rw [GT.lst] at hsum hnn
        by_cases h3 : i ≤ l.cnt
        · rw [take_l (by omega)] at hsum hnn
          ((with_reducible apply wc_c (fun i => Nat.beq i 0 || Nat.beq i 1 || Nat.beq i 2 || Nat.beq i 4 || Nat.beq i 5 || Nat.beq i 6 || Nat.beq i 7 || Nat.beq i 15 || Nat.beq i 19 || Nat.beq i 26)); intro e he; have w9 := he 0 rfl; (try simp only [T.get_put, Nat.reduceEqDiff, reduceIte] at w9); have v0 := w9; clear w9; have w9 := he 1 rfl; (try simp only [v1] at w9); replace v1 := w9; clear w9; have w9 := he 2 rfl; (try simp only [T.get_put, Nat.reduceEqDiff, reduceIte] at w9); have v2 := w9; clear w9; have w9 := he 4 rfl; (try simp only [T.get_put, Nat.reduceEqDiff, reduceIte] at w9); have v4 := w9; clear w9; have w9 := he 5 rfl; (try simp only [T.get_put, Nat.reduceEqDiff, reduceIte] at w9); have v5 := w9; clear w9; have w9 := he 6 rfl; (try simp only [v6] at w9); replace v6 := w9; clear w9; have w9 := he 7 rfl; (try simp only [v7] at w9); replace v7 := w9; clear w9; have w9 := he 15 rfl; (try simp only [T.get_put, Nat.reduceEqDiff, reduceIte] at w9); have v15 := w9; clear w9; have w9 := he 19 rfl; (try simp only [T.get_put, Nat.reduceEqDiff, reduceIte] at w9); have v19 := w9; clear w9; have w9 := he 26 rfl; (try simp only [T.get_put, Nat.reduceEqDiff, reduceIte] at w9); have v26 := w9; clear w9; clear he)
          repeat' (first
            | with_reducible apply wc_seq
            | ((with_reducible apply wc_region); (· (rfl)))
            | with_reducible apply wo_some
            | ((with_reducible apply wc_cond); (· (simp (disch := (first | assumption | omega)) only [ev, Option.some.injEq, v19, v26] <;> rfl)); all_goals (intro hg; (try (try simp only [Bool.not_eq_true'] at hg)); first | (exfalso; exact Bool.noConfusion hg) | (exfalso; exact hg) | skip))
            | with_reducible apply wc_block
            | with_reducible apply wc_skip
            | with_reducible apply wc_exit
            | with_reducible apply nx_e
            | ((with_reducible apply bx_hit); (· (rfl)))
            | ((with_reducible apply nx_c (fun i => Nat.beq i 0 || Nat.beq i 1 || Nat.beq i 2 || Nat.beq i 4 || Nat.beq i 5 || Nat.beq i 6 || Nat.beq i 7 || Nat.beq i 15 || Nat.beq i 19 || Nat.beq i 26)); intro e he; have w0 := he 0 rfl; have w1 := he 1 rfl; have w2 := he 2 rfl; have w4 := he 4 rfl; have w5 := he 5 rfl; have w6 := he 6 rfl; have w7 := he 7 rfl; have w15 := he 15 rfl; have w19 := he 19 rfl; have w26 := he 26 rfl; (try simp only [T.get_put, Nat.reduceEqDiff, reduceIte, v0, v1, v2, v4, v5, v6, v7, v15, v19, v26] at w0 w1 w2 w4 w5 w6 w7 w15 w19 w26); clear he v0 v1 v2 v4 v5 v6 v7 v15 v19 v26; have v0 := w0; have v1 := w1; have v2 := w2; have v4 := w4; have v5 := w5; have v6 := w6; have v7 := w7; have v15 := w15; have v19 := w19; have v26 := w26; clear w0 w1 w2 w4 w5 w6 w7 w15 w19 w26)
            | ((with_reducible apply wo_eq); (· (simp (disch := (first | assumption | omega)) only [eq_self, opsA_cons, opsA_nil, wantedA, stepA_t, callA, calleeA, targetA, runOp_c, runOp_n, opA, ev, evs, consO, consOO, afterA_s, putA, T.get_put, Nat.reduceEqDiff, reduceIte, List.getElem?_toArray, List.getElem?_cons_zero, oBin, binA, binG, binL, aggO, litA, cond_true, Bool.not_false, blt_eq, I, Bo, fieldAddrA, oFieldAddr, Nat.add_zero, Nat.reduceLT, ty25, ti25, ty75, ti75, ii_gtr, ii_leq, withH_s, nck, dec_t, dec_f, Nat.add_zero, v1, v7, Q]; exact rfl)))
            | (((with_reducible apply wo_call); (· ((with_reducible apply c42); (· (omega)); (· (first | exact tok.2.1 | exact tok.2.2)))); rintro _ h ⟨rfl, rfl⟩))
            | simp (disch := (first | assumption | omega)) only [eq_self, Option.some.injEq, I, v1, v6, v7])
          all_goals (first | first | (exfalso; omega) | exact ⟨l.hgt, by omega, l, i, tt9, rfl, by trivial, by trivial, by trivial, h3, gl, hT, hsum, tok.2.1, by trivial⟩ | trace_state)
        · obtain ⟨k2, rfl⟩ : ∃ k2, i = l.lst.length + 1 + k2 := ⟨i - l.cnt - 1, by omega⟩
          rw [take_r, GT.sum_app, List.sum_cons] at hsum hnn
          have hsl : l.lst.sum = l.sm := rfl
          rw [hsl] at hsum hnn
          have hnr := GT.sum_nn (good_take gr k2).1
          have hik : ((l.lst.length + 1 + k2 : Nat) : Int) - ((l.cnt : Int) + 1) = (k2 : Int) := by omega
          ((with_reducible apply wc_c (fun i => Nat.beq i 0 || Nat.beq i 1 || Nat.beq i 2 || Nat.beq i 4 || Nat.beq i 5 || Nat.beq i 6 || Nat.beq i 7 || Nat.beq i 15 || Nat.beq i 19 || Nat.beq i 26)); intro e he; have w9 := he 0 rfl; (try simp only [T.get_put, Nat.reduceEqDiff, reduceIte] at w9); have v0 := w9; clear w9; have w9 := he 1 rfl; (try simp only [v1] at w9); replace v1 := w9; clear w9; have w9 := he 2 rfl; (try simp only [T.get_put, Nat.reduceEqDiff, reduceIte] at w9); have v2 := w9; clear w9; have w9 := he 4 rfl; (try simp only [T.get_put, Nat.reduceEqDiff, reduceIte] at w9); have v4 := w9; clear w9; have w9 := he 5 rfl; (try simp only [T.get_put, Nat.reduceEqDiff, reduceIte] at w9); have v5 := w9; clear w9; have w9 := he 6 rfl; (try simp only [v6] at w9); replace v6 := w9; clear w9; have w9 := he 7 rfl; (try simp only [v7] at w9); replace v7 := w9; clear w9; have w9 := he 15 rfl; (try simp only [T.get_put, Nat.reduceEqDiff, reduceIte] at w9); have v15 := w9; clear w9; have w9 := he 19 rfl; (try simp only [T.get_put, Nat.reduceEqDiff, reduceIte] at w9); have v19 := w9; clear w9; have w9 := he 26 rfl; (try simp only [T.get_put, Nat.reduceEqDiff, reduceIte] at w9); have v26 := w9; clear w9; clear he)
          repeat' (first
            | with_reducible apply wc_seq
            | ((with_reducible apply wc_region); (· (rfl)))
            | with_reducible apply wo_some
            | ((with_reducible apply wc_cond); (· (simp (disch := (first | assumption | omega)) only [ev, Option.some.injEq, v19, v26] <;> rfl)); all_goals (intro hg; (try (try simp only [Bool.not_eq_true'] at hg)); first | (exfalso; exact Bool.noConfusion hg) | (exfalso; exact hg) | skip))
            | with_reducible apply wc_block
            | with_reducible apply wc_skip
            | with_reducible apply bx_n
            | ((with_reducible apply nx_c (fun i => Nat.beq i 0 || Nat.beq i 1 || Nat.beq i 2 || Nat.beq i 4 || Nat.beq i 5 || Nat.beq i 6 || Nat.beq i 7 || Nat.beq i 15 || Nat.beq i 19 || Nat.beq i 26)); intro e he; have w0 := he 0 rfl; have w1 := he 1 rfl; have w2 := he 2 rfl; have w4 := he 4 rfl; have w5 := he 5 rfl; have w6 := he 6 rfl; have w7 := he 7 rfl; have w15 := he 15 rfl; have w19 := he 19 rfl; have w26 := he 26 rfl; (try simp only [T.get_put, Nat.reduceEqDiff, reduceIte, v0, v1, v2, v4, v5, v6, v7, v15, v19, v26] at w0 w1 w2 w4 w5 w6 w7 w15 w19 w26); clear he v0 v1 v2 v4 v5 v6 v7 v15 v19 v26; have v0 := w0; have v1 := w1; have v2 := w2; have v4 := w4; have v5 := w5; have v6 := w6; have v7 := w7; have v15 := w15; have v19 := w19; have v26 := w26; clear w0 w1 w2 w4 w5 w6 w7 w15 w19 w26)
            | ((with_reducible apply wo_eq); (· (simp (disch := (first | assumption | omega)) only [eq_self, opsA_cons, opsA_nil, wantedA, stepA_t, callA, calleeA, targetA, runOp_c, runOp_n, opA, ev, evs, consO, consOO, afterA_s, putA, T.get_put, Nat.reduceEqDiff, reduceIte, List.getElem?_toArray, List.getElem?_cons_zero, List.getElem?_cons_succ, oBin, binA, binG, binL, aggO, litA, cond_true, Bool.not_true, blt_eq, I, Bo, fieldAddrA, oFieldAddr, Nat.zero_add, Nat.add_zero, Nat.reduceLT, ty2, ti2, ty25, ti25, ty75, ti75, ii_add, ii_sub, ii_gtr, ii_leq, withH_s, nck, dec_t, wrap_ok, Nat.zero_add, Nat.add_zero, v1, v6, v7, Q, hik]; exact rfl)))
            | (((with_reducible apply wo_call); (· ((with_reducible apply c42); (· (omega)); (· (first | exact tok.2.1 | exact tok.2.2)))); rintro _ h ⟨rfl, rfl⟩))
            | (((with_reducible apply wo_call); (· ((with_reducible apply c44); (· (omega)); (· (first | exact tok.2.1 | exact tok.2.2)))); rintro _ h ⟨rfl, rfl⟩))
            | (((with_reducible apply wc_dynW (id := 8) (p := (9, 5)) (ps := [])); (· (kernel_rfl)); skip))
            | (with_reducible apply wt_cons)
            | (((with_reducible apply wt_nil); refine And.intro ?_ (Exists.intro _ (Exists.intro _ (And.intro rfl ?_))); (· (simp (disch := (first | assumption | omega)) only [eq_self, wantedA, opA, ev, T.get_put, Nat.reduceEqDiff, reduceIte, List.getElem?_cons_zero, List.getElem?_cons_succ, Bool.and_true, I, ty2, ti2, Q, checksD_nil, checksD_cons, checkD, checkG, sameR, av_int]; done))))
            | simp (disch := (first | assumption | omega)) only [eq_self, Option.some.injEq, I, v1, v6, v7])
          all_goals (first | first | (exfalso; omega) | exact ⟨r.hgt, by omega, r, k2, tt9 + (l.sm + s), rfl, by trivial, by trivial, by trivial, by omega, gr, by omega, by omega, tok.2.2, by trivial⟩ | trace_state)
set_option maxHeartbeats 4000000 in
theorem c18e {n : Nat} (hn : 3 ≤ n) {b : Hp} {g : GT} (pg : g.ok b) (gd : GT.Good g.lst) (bl : g.bal) {i : Int} (hi : i < 0 ∨ (g.cnt : Int) < i) : Wv (runA ctx 5000 n 18 [.agg [g.val], I i] b) (fun x h' => x = .tup [I 0, I 4] ∧ Ext b h') := by
  obtain ⟨k, rfl⟩ : ∃ k, n = k + 1 := ⟨n - 1, by omega⟩
  have s1 := gd.sm
  have hh := GT.bal_hgt bl s1.2.2
  have hlen := GT.len g
  have H := (Hs.start b).z0 (z := tre g) pg
  refine wv_run fn18 rfl ?_
  have a0 : (enterEnv [.agg [g.val], I i] Try.f18.ntmps).get 0 = some (.agg [g.val]) := enter_get1 _ _ _
  have a1 : (enterEnv [.agg [g.val], I i] Try.f18.ntmps).get 1 = some (I i) := enter_get2 _ _ _ _
  generalize enterEnv [.agg [g.val], I i] Try.f18.ntmps = e at a0 a1 ⊢
  unfold Try.f18
  dsimp only
  ((with_reducible apply wc_c (fun i => Nat.beq i 0 || Nat.beq i 1 || Nat.beq i 2 || Nat.beq i 4 || Nat.beq i 5 || Nat.beq i 6 || Nat.beq i 7 || Nat.beq i 15 || Nat.beq i 19 || Nat.beq i 26)); intro e he; have w9 := he 0 rfl; (try simp only [a0] at w9); have v0 := w9; clear w9; have w9 := he 1 rfl; (try simp only [a1] at w9); have v1 := w9; clear w9; have w9 := he 2 rfl; (try simp only [T.get_put, Nat.reduceEqDiff, reduceIte] at w9); have v2 := w9; clear w9; have w9 := he 4 rfl; (try simp only [T.get_put, Nat.reduceEqDiff, reduceIte] at w9); have v4 := w9; clear w9; have w9 := he 5 rfl; (try simp only [T.get_put, Nat.reduceEqDiff, reduceIte] at w9); have v5 := w9; clear w9; have w9 := he 6 rfl; (try simp only [T.get_put, Nat.reduceEqDiff, reduceIte] at w9); have v6 := w9; clear w9; have w9 := he 7 rfl; (try simp only [T.get_put, Nat.reduceEqDiff, reduceIte] at w9); have v7 := w9; clear w9; have w9 := he 15 rfl; (try simp only [T.get_put, Nat.reduceEqDiff, reduceIte] at w9); have v15 := w9; clear w9; have w9 := he 19 rfl; (try simp only [T.get_put, Nat.reduceEqDiff, reduceIte] at w9); have v19 := w9; clear w9; have w9 := he 26 rfl; (try simp only [T.get_put, Nat.reduceEqDiff, reduceIte] at w9); have v26 := w9; clear w9; clear he)
  repeat' (first
    | with_reducible apply wc_seq
    | ((with_reducible apply wc_region); (· (rfl)))
    | with_reducible apply wo_some
    | ((with_reducible apply wc_cond); (· (simp (disch := (first | assumption | omega)) only [ev, Option.some.injEq, v15] <;> rfl)); all_goals (intro hg; (try (try simp only [Bool.not_eq_true'] at hg)); first | (exfalso; exact Bool.noConfusion hg) | (exfalso; exact hg) | skip))
    | with_reducible apply wc_ret
    | with_reducible apply nx_r
    | (simp only [cells_agg] at H)
    | ((with_reducible apply nx_c (fun i => Nat.beq i 0 || Nat.beq i 1 || Nat.beq i 2 || Nat.beq i 4 || Nat.beq i 5 || Nat.beq i 6 || Nat.beq i 7 || Nat.beq i 15 || Nat.beq i 19 || Nat.beq i 26)); intro e he; have w0 := he 0 rfl; have w1 := he 1 rfl; have w2 := he 2 rfl; have w4 := he 4 rfl; have w5 := he 5 rfl; have w6 := he 6 rfl; have w7 := he 7 rfl; have w15 := he 15 rfl; have w19 := he 19 rfl; have w26 := he 26 rfl; (try simp only [T.get_put, Nat.reduceEqDiff, reduceIte, v0, v1, v2, v4, v5, v6, v7, v15, v19, v26] at w0 w1 w2 w4 w5 w6 w7 w15 w19 w26); clear he v0 v1 v2 v4 v5 v6 v7 v15 v19 v26; have v0 := w0; have v1 := w1; have v2 := w2; have v4 := w4; have v5 := w5; have v6 := w6; have v7 := w7; have v15 := w15; have v19 := w19; have v26 := w26; clear w0 w1 w2 w4 w5 w6 w7 w15 w19 w26)
    | ((with_reducible apply wo_eq); (· (simp (disch := (first | assumption | omega)) only [beq_self_eq_true, eq_self, opsA_cons, opsA_nil, wantedA, guardA, yieldA, stepA_t, stepA_f, callA, calleeA, targetA, runOp_c, runOp_n, opA, ev, evs, consO, consOO, pickA, afterA_s, putA, T.get_put, Nat.reduceEqDiff, reduceIte, List.getElem?_cons_zero, List.getElem?_cons_succ, oBin, binA, binG, binL, aggO, litA, tf_beq, I, Bo, ty27, ti27, ii_lss, ii_gtr, withH_s, dec_t, dec_f, List.take_succ_cons, List.take_zero, List.drop_zero, v0, v1, v2]; exact rfl)))
    | (((with_reducible apply wo_call); (· ((with_reducible apply c36); (· (omega)); (· (exact H.tok (by (with_reducible repeat' first | exact mem_h _ _ | apply mem_t); done))))); rintro _ h ⟨rfl, x1⟩; replace H := H.ext x1; clear x1))
    | ((with_reducible apply wo_box H); clear H; intro n h H0n H)
    | ((with_reducible apply wo_loadn H); (· ((with_reducible repeat' first | exact mem_h _ _ | apply mem_t); done)); (· (rfl)); (· (rfl)); (· (rfl)))
    | ((with_reducible apply wo_step) <;> intro hg <;> (try simp only [beq_false, Bool.not_eq_eq_eq_not, Bool.not_true, Bool.not_false, decide_eq_true_eq, decide_eq_false_iff_not] at hg) <;> (try subst hg) <;> (first | (exfalso; exact Bool.noConfusion hg) | skip))
    | ((first | with_reducible apply wv_ret | with_reducible apply wv_end); (· ((repeat' (first | with_reducible exact rs_nil | ((with_reducible apply rs_tmp); (· (simp (disch := (first | assumption | omega)) only [Option.some.injEq, v4, v5] <;> rfl))) | ((with_reducible apply rs_cell); (· (simp (disch := (first | assumption | omega)) only [ev, T.get_put, Nat.reduceEqDiff, reduceIte, Option.some.injEq, dec_t, dec_f, Bool.not_true, Bool.not_false, v0, v1, v2, v4, v5, v6, v7, v15, v19, v26, GT.cells_val] <;> rfl)); (· (kernel_rfl)); (· (rfl)); (· (exact H.ld1 (by (with_reducible repeat' first | exact mem_h _ _ | apply mem_t); done) rfl))) | ((with_reducible apply rs_celln); (· (simp (disch := (first | assumption | omega)) only [ev, T.get_put, Nat.reduceEqDiff, reduceIte, Option.some.injEq, dec_t, dec_f, Bool.not_true, Bool.not_false, v0, v1, v2, v4, v5, v6, v7, v15, v19, v26, GT.cells_val] <;> rfl)); (· (kernel_rfl)); (· (rfl)); (· (exact H.ldn (by (with_reducible repeat' first | exact mem_h _ _ | apply mem_t); done) rfl rfl))))); done)))
    | simp (disch := (first | assumption | omega)) only [I])

  all_goals (first | first | (exfalso; omega) | exact ⟨rfl, H.toExt⟩ | trace_state)


end Go.Proofs.Ytpioenfglmimgaa
