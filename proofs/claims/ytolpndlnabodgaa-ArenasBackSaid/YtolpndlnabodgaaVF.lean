import Derived.Test.YtolpndlnabodgaaVE
import Derived.KernelRfl
namespace Go.Proofs.Ytolpndlnabodgaa
open Go Go.Proofs Go.RowKit Go.Proofs.Abs
set_option linter.unusedSimpArgs false
set_option linter.unusedVariables false
set_option maxHeartbeats 4000000 in
theorem k29a (d : Nat) (b : Hp) (vL vF : AV) (ls : List Ent) (fs : List Nat) (pL : IsR c3e 3 b vL ls) (pF : Lc false b vF ((fi fs).map I)) (hll : ls.length ≤ 1000) (hfl : fs.length ≤ 1000) (i : Nat) (g : Int) (hi : i < 4294967296) (hg : 0 ≤ g ∧ g < 4294967296) (x0 : Int) (hp : ls[i]? = some (g, true, x0)) (hg3 : g < 4294967295) : Wv (runA ctx 5000 (d + 2) 29 [.agg [vL, vF], .agg [U32 (i : Int), U32 g]] b) (fun r h' => ∃ wL wF, r = .tup [.agg [wL, wF], I x0, I 0] ∧ RA b h' wL wF (ls.set i ((g + 1, false, 0) : Ent)) (i :: fs)) := by
  have hg1 := hg.1
  have hg2 := hg.2
  have hmL : (ls.map c3e).length = ls.length := List.length_map _
  have hil := (List.getElem?_eq_some_iff.1 hp).1
  have hn0 : (ls.map c3e).length = ls.length := hmL
  have hb0 : i < (ls.map c3e).length := by rw [hn0]; omega
  have hr0 : (ls.map c3e)[i]? = some [U32 g, Bo true, I x0] := map_at hp
  have hn1 : ((ls.map c3e).set i [U32 g, Bo false, I x0]).length = ls.length := by rw [gl]; exact hn0
  have hb1 : i < ((ls.map c3e).set i [U32 g, Bo false, I x0]).length := by rw [hn1]; omega
  have hr1 : ((ls.map c3e).set i [U32 g, Bo false, I x0])[i]? = some [U32 g, Bo false, I x0] := gs _ _ _ (by omega)
  have hn2 : (((ls.map c3e).set i [U32 g, Bo false, I x0]).set i [U32 g, Bo false, I 0]).length = ls.length := by rw [gl]; exact hn1
  have hb2 : i < (((ls.map c3e).set i [U32 g, Bo false, I x0]).set i [U32 g, Bo false, I 0]).length := by rw [hn2]; omega
  have hr2 : (((ls.map c3e).set i [U32 g, Bo false, I x0]).set i [U32 g, Bo false, I 0])[i]? = some [U32 g, Bo false, I 0] := gs _ _ _ (by omega)
  have hn3 : ((((ls.map c3e).set i [U32 g, Bo false, I x0]).set i [U32 g, Bo false, I 0]).set i [U32 (g + 1), Bo false, I 0]).length = ls.length := by rw [gl]; exact hn2
  have hb3 : i < ((((ls.map c3e).set i [U32 g, Bo false, I x0]).set i [U32 g, Bo false, I 0]).set i [U32 (g + 1), Bo false, I 0]).length := by rw [hn3]; omega
  have hr3 : ((((ls.map c3e).set i [U32 g, Bo false, I x0]).set i [U32 g, Bo false, I 0]).set i [U32 (g + 1), Bo false, I 0])[i]? = some [U32 (g + 1), Bo false, I 0] := gs _ _ _ (by omega)
  have e9 : (((ls.map c3e).set i [U32 g, Bo false, I x0]).set i [U32 g, Bo false, I 0]).set i [U32 (g + 1), Bo false, I 0] = (ls.set i ((g + 1, false, 0) : Ent)).map c3e := by rw [set_set', set_set', ← map_set']; rfl
  have one1 := pL.one.1
  have one2 := pL.one.2
  have one3 := pF.one
  have one4 := pF.cells
  have hav := isl_av pF.isL
  have hal : avB 4 vL vL = true := isr_av pL
  have hfi := fi_len fs
  have H := (((Hs.start b).z0 (z := isr c3e 3 vL ls) pL).z0 (z := lc false vF ((fi fs).map I)) pF).z0 (z := isl vF ((fi fs).map I)) pF.isL
  refine wv_run fn29 rfl ?_
  have a0 : (enterEnv [.agg [vL, vF], .agg [U32 (i : Int), U32 g]] Try.f29.ntmps).get 0 = some (.agg [vL, vF]) := enter_get1 _ _ _
  have a1 : (enterEnv [.agg [vL, vF], .agg [U32 (i : Int), U32 g]] Try.f29.ntmps).get 1 = some (.agg [U32 (i : Int), U32 g]) := enter_get2 _ _ _ _
  generalize enterEnv [.agg [vL, vF], .agg [U32 (i : Int), U32 g]] Try.f29.ntmps = e at a0 a1 ⊢
  unfold Try.f29
  dsimp only
  ((with_reducible apply wc_c (fun i => Nat.beq i 0 || Nat.beq i 1 || Nat.beq i 2 || Nat.beq i 3 || Nat.beq i 4 || Nat.beq i 5 || Nat.beq i 6 || Nat.beq i 7 || Nat.beq i 8 || Nat.beq i 9 || Nat.beq i 13 || Nat.beq i 38)); intro e he; have w9 := he 0 rfl; (try simp only [a0] at w9); have v0 := w9; clear w9; have w9 := he 1 rfl; (try simp only [a1] at w9); have v1 := w9; clear w9; have w9 := he 2 rfl; (try simp only [T.get_put, Nat.reduceEqDiff, reduceIte] at w9); have v2 := w9; clear w9; have w9 := he 3 rfl; (try simp only [T.get_put, Nat.reduceEqDiff, reduceIte] at w9); have v3 := w9; clear w9; have w9 := he 4 rfl; (try simp only [T.get_put, Nat.reduceEqDiff, reduceIte] at w9); have v4 := w9; clear w9; have w9 := he 5 rfl; (try simp only [T.get_put, Nat.reduceEqDiff, reduceIte] at w9); have v5 := w9; clear w9; have w9 := he 6 rfl; (try simp only [T.get_put, Nat.reduceEqDiff, reduceIte] at w9); have v6 := w9; clear w9; have w9 := he 7 rfl; (try simp only [T.get_put, Nat.reduceEqDiff, reduceIte] at w9); have v7 := w9; clear w9; have w9 := he 8 rfl; (try simp only [T.get_put, Nat.reduceEqDiff, reduceIte] at w9); have v8 := w9; clear w9; have w9 := he 9 rfl; (try simp only [T.get_put, Nat.reduceEqDiff, reduceIte] at w9); have v9 := w9; clear w9; have w9 := he 13 rfl; (try simp only [T.get_put, Nat.reduceEqDiff, reduceIte] at w9); have v13 := w9; clear w9; have w9 := he 38 rfl; (try simp only [T.get_put, Nat.reduceEqDiff, reduceIte] at w9); have v38 := w9; clear w9; clear he)
  repeat' (first
    | with_reducible apply wc_seq
    | ((with_reducible apply wc_region); (· (rfl)))
    | with_reducible apply wo_some
    | ((with_reducible apply wc_cond); (· (simp (disch := (first | assumption | omega)) only [ev, Option.some.injEq, v13, v38] <;> rfl)); all_goals (intro hg; (try (try simp only [Bool.not_eq_true'] at hg)); first | (exfalso; exact Bool.noConfusion hg) | (exfalso; exact hg) | skip))
    | with_reducible apply wc_skip
    | with_reducible apply wc_ret
    | (simp only [patch, List.take_zero, List.drop_succ_cons, List.drop_nil, List.nil_append, List.cons_append, List.append_nil, List.length_cons, List.length_nil, List.set_cons_zero, List.set_cons_succ, Nat.zero_add, Nat.reduceAdd, cells_int, cells_agg, cells_lagg, putAt_z, over_nil, over_cons, litCells_cons, litCells_nil, Nat.mul_one, ti3, ti3, repl_1] at H)
    | ((with_reducible apply nx_c (fun i => Nat.beq i 0 || Nat.beq i 1 || Nat.beq i 2 || Nat.beq i 3 || Nat.beq i 4 || Nat.beq i 5 || Nat.beq i 6 || Nat.beq i 7 || Nat.beq i 8 || Nat.beq i 9 || Nat.beq i 13 || Nat.beq i 38)); intro e he; have w0 := he 0 rfl; have w1 := he 1 rfl; have w2 := he 2 rfl; have w3 := he 3 rfl; have w4 := he 4 rfl; have w5 := he 5 rfl; have w6 := he 6 rfl; have w7 := he 7 rfl; have w8 := he 8 rfl; have w9 := he 9 rfl; have w13 := he 13 rfl; have w38 := he 38 rfl; (try simp only [T.get_put, Nat.reduceEqDiff, reduceIte, v0, v1, v2, v3, v4, v5, v6, v7, v8, v9, v13, v38] at w0 w1 w2 w3 w4 w5 w6 w7 w8 w9 w13 w38); clear he v0 v1 v2 v3 v4 v5 v6 v7 v8 v9 v13 v38; have v0 := w0; have v1 := w1; have v2 := w2; have v3 := w3; have v4 := w4; have v5 := w5; have v6 := w6; have v7 := w7; have v8 := w8; have v9 := w9; have v13 := w13; have v38 := w38; clear w0 w1 w2 w3 w4 w5 w6 w7 w8 w9 w13 w38)
    | ((with_reducible apply wo_eq); (· (simp (disch := (first | assumption | omega)) only [oUn_not, eq_self, opsA_cons, opsA_nil, wantedA, stepA_t, callA, calleeA, targetA, runOp_c, runOp_n, opA, ev, evs, consO, consOO, afterA_s, putA, T.get_put, Nat.reduceEqDiff, reduceIte, List.getElem?_toArray, List.getElem?_cons_zero, List.getElem?_cons_succ, oBuiltin, oBin, binA, binG, binL, aggO, litA, oIndexAddr, cond_true, Bool.not_true, blt_eq, I, Bo, fieldAddrA, oFieldAddr, Nat.zero_add, Nat.add_zero, Nat.reduceLT, ty3, ti3, ty4, ti4, ty26, ti26, ty27, ti27, ty29, ti29, ty40, ti40, ty42, ti42, ty46, ti46, ty3, ti3, ty4, ti4, ty26, ti26, ty27, ti27, ty29, ti29, ty40, ti40, ty42, ti42, ty46, ti46, withH_s, oBuildSlice, evParts, consP, oConv, dec_t, id_eq, List.take_succ_cons, List.take_zero, List.drop_zero, Nat.zero_add, Nat.add_zero, v0, v1, v2, v3, v4, v7, v8, v9, conv3, uu_lss, uu_add, wrap_u32k]; exact rfl)))
    | (((with_reducible apply wo_call); (· ((with_reducible apply k13); (· (exact H.pz (a := isr c3e 3 vL ls) (by (with_reducible repeat' first | exact mem_h _ _ | apply mem_t); done))); (· (exact H.pz (a := lc false vF ((fi fs).map I)) (by (with_reducible repeat' first | exact mem_h _ _ | apply mem_t); done))); (· (assumption)); (· (assumption)))); rintro _ h ⟨wL, wF, rfl, hL, hF, hx, f1, f2⟩; have fw := fun m hm => Nat.le_trans H.fr.c (f2 m hm).1; have oL := hL.one; have cL := hL.cells; have oF := hF.one; have cF := hF.cells; have hau := owr_av hL; replace H := H.cpy hx (x := owr 46 3 wL _) (z := lc false wF _) hL hF (fun n hn => f1 n (nmO_mem.1 hn)) (fun n hn => (f2 n (nmO_mem.1 hn)).1) (fun n hn h9 => (f2 n (nmO_mem.1 hn)).2 (nmO_mem.1 h9)); replace H := H.zsub (z := lc false wF _) (z' := isl wF _) (.head _) hF.isL (fun n hn => hn); clear hx f1 f2 hL hF))
    | (((with_reducible apply wo_call); (· ((with_reducible apply k15); (· (exact H.pz (a := isr c3e 3 vL ls) (by (with_reducible repeat' first | exact mem_h _ _ | apply mem_t); done))); (· (exact H.pz (a := lc false vF ((fi fs).map I)) (by (with_reducible repeat' first | exact mem_h _ _ | apply mem_t); done))); (· (assumption)); (· (assumption)); (· (assumption)); (· (assumption)))); rintro _ h ⟨rfl, hx⟩; rw [(show vld ls i g = true from by rw [vld_used hp]; simp)]; replace H := H.ext hx; clear hx))
    | (((with_reducible apply wo_riaL H); (· ((first | exact ty26 | exact ty26))); (· (rfl)); (· ((first | exact ty46 | exact ty46))); (· ((with_reducible repeat' first | exact mem_h _ _ | apply mem_t); done)); (· (rfl)); (· ((first | rfl | assumption | omega))); (· ((first | assumption | omega))); intro w9 hw9))
    | (((with_reducible apply wo_rldL H); (· (assumption)); (· ((with_reducible repeat' first | exact mem_h _ _ | apply mem_t); done)); (· (rfl)); (· (assumption)); (· (rfl)); (· (rfl))))
    | (((with_reducible apply wo_rst H); (· ((with_reducible repeat' first | exact Pick.here _ _ _ | apply Pick.there); done)); (· (assumption)); (· (assumption)); (· (rfl)); (· (decide)); (· (rfl)); (· (rfl)); (· (rfl)); (· (rfl)); clear H; intro h H; (try simp only [List.set_cons_zero, List.set_cons_succ] at H)))
    | (((with_reducible apply wo_rst (j := 0) H); (· ((with_reducible repeat' first | exact Pick.here _ _ _ | apply Pick.there); done)); (· (assumption)); (· (assumption)); (· (rfl)); (· (decide)); (· (rfl)); (· (rfl)); (· (rfl)); (· (rfl)); clear H; intro h H; (try simp only [List.set_cons_zero] at H)))
    | (((with_reducible apply wo_fappz H); (· (rfl)); (· (decide)); (· ((first | exact ty27 | exact ty27))); (· (rfl)); (· ((first | exact ty3 | exact ty3))); (· (rfl)); (· (kernel_rfl)); (· ((with_reducible repeat' first | exact mem_h _ _ | apply mem_t); done)); (· (exact ones_I ((i : Int) :: fi fs))); (· (omega)); clear H; intro w8 h hw8n hw8l H; have ow := hw8l.one; have cw := hw8l.cells))
    | ((with_reducible apply wo_box H); clear H; intro n h H0n H)
    | ((with_reducible apply wo_alloc H); (· (rfl)); clear H; intro n h H0n H)
    | ((with_reducible apply wo_load1 H); (· ((with_reducible repeat' first | exact mem_h _ _ | apply mem_t); done)); (· (rfl)); (· ((first | rfl | assumption))))
    | ((with_reducible apply wo_loadn H); (· ((with_reducible repeat' first | exact mem_h _ _ | apply mem_t); done)); (· (rfl)); (· (rfl)); (· (rfl)))
    | ((with_reducible apply wo_store1 H); (· ((with_reducible repeat' first | exact Pick.here _ _ _ | apply Pick.there); done)); (· ((first | rfl | assumption))); (· ((first | rfl | assumption | exact cells_one (H.pz (by (with_reducible repeat' first | exact mem_h _ _ | apply mem_t); done))))); (· ((first | rfl | assumption))); (· (rfl)); (· ((first | exact Nat.le_of_ble_eq_true rfl | omega | (simp only [List.length_set, List.length_replicate, List.length_map, List.length_cons, List.length_nil]; omega) | (simp; done) | (simp; omega)))); clear H; intro h H)
    | ((with_reducible apply wo_storen H); (· ((with_reducible repeat' first | exact Pick.here _ _ _ | apply Pick.there); done)); (· ((first | rfl | assumption | exact cells_one (H.pz (by (with_reducible repeat' first | exact mem_h _ _ | apply mem_t); done))))); (· ((first | rfl | (simp (disch := assumption) only [onesA_cons', onesA_nil, cells_agg, one_t, Bool.and_self]; done)))); (· (rfl)); (· ((first | exact Nat.le_of_ble_eq_true rfl | omega | (simp only [List.length_set, List.length_replicate, List.length_map, List.length_cons, List.length_nil]; omega) | (simp; done) | (simp; omega)))); clear H; intro h H)
    | ((with_reducible apply wo_bs H); (· ((first | exact ty27 | exact ty27))); (· (rfl)); (· ((first | exact ty3 | exact ty3))); (· (kernel_rfl)); (· ((first | rfl | (simp only [fillA_nil, fillA_cons, repl_z, repl_s, cells_int, cells_bool, cells_str, cells_float, cells_np, cells_nil, cells_nf, cells_ptr, cells_slice, cells_fn, cells_agg, cells_lagg, v0, v1, v2, v3, v4, v5, v6, v7, v8, v9, v13, v38, conv40, conv3, conv2, uu_eql, uu_neq, uu_gtr, uu_lss, uu_add, uu_sub, wrap_u32k, rws_len, one1, one2, one3, one4, hmL]; rfl)))); clear H; intro n h H0n H)
    | ((first | with_reducible apply wv_ret | with_reducible apply wv_end); (· ((repeat' (first | with_reducible exact rs_nil | ((with_reducible apply rs_tmp); (· (simp (disch := (first | assumption | omega)) only [Option.some.injEq, v5, v6] <;> rfl))) | ((with_reducible apply rs_cell); (· (simp (disch := (first | assumption | omega)) only [Option.some.injEq, v4] <;> rfl)); (· ((first | exact ty29 | exact ty29))); (· (rfl)); (· (exact H.ld1 (by (with_reducible repeat' first | exact mem_h _ _ | apply mem_t); done) rfl))) | ((with_reducible apply rs_celln); (· (simp (disch := (first | assumption | omega)) only [Option.some.injEq, v4] <;> rfl)); (· ((first | exact ty29 | exact ty29))); (· (rfl)); (· (exact H.ldn (by (with_reducible repeat' first | exact mem_h _ _ | apply mem_t); done) rfl rfl))))); done)))
    | simp (disch := (first | assumption | omega)) only [I, ti29, ti29, List.take_succ_cons, List.take_zero, List.drop_zero])

  all_goals try (exfalso; omega)
  all_goals (rw [e9] at H; exact ⟨_, _, rfl, (H.p (a := owr 46 3 wL ((ls.set i ((g + 1, false, 0) : Ent)).map c3e)) (by (with_reducible repeat' first | exact mem_h _ _ | apply mem_t); done)).isR (fun _ _ => rfl), H.pz (a := lc false w8 (I (i : Int) :: (fi fs).map I)) (by (with_reducible repeat' first | exact mem_h _ _ | apply mem_t); done), H.toExt, fun m hm => ((H.own (owr 46 3 wL ((ls.set i ((g + 1, false, 0) : Ent)).map c3e)) (by (with_reducible repeat' first | exact mem_h _ _ | apply mem_t); done)).2 m (nmO_mem.2 hm)).elim id (fun h => by cases h), hw8n⟩)
set_option maxHeartbeats 4000000 in
theorem k29b (d : Nat) (b : Hp) (vL vF : AV) (ls : List Ent) (fs : List Nat) (pL : IsR c3e 3 b vL ls) (pF : Lc false b vF ((fi fs).map I)) (hll : ls.length ≤ 1000) (hfl : fs.length ≤ 1000) (i : Nat) (g : Int) (hi : i < 4294967296) (hg : 0 ≤ g ∧ g < 4294967296) (hv : vld ls i g = false) : Wv (runA ctx 5000 (d + 2) 29 [.agg [vL, vF], .agg [U32 (i : Int), U32 g]] b) (fun r h' => r = .tup [.agg [vL, vF], I 0, I 11] ∧ Ext b h') := by
  have hg1 := hg.1
  have hg2 := hg.2
  have hmL : (ls.map c3e).length = ls.length := List.length_map _
  have one1 := pL.one.1
  have one2 := pL.one.2
  have one3 := pF.one
  have one4 := pF.cells
  have hav := isl_av pF.isL
  have hal : avB 4 vL vL = true := isr_av pL
  have hfi := fi_len fs
  have H := (((Hs.start b).z0 (z := isr c3e 3 vL ls) pL).z0 (z := lc false vF ((fi fs).map I)) pF).z0 (z := isl vF ((fi fs).map I)) pF.isL
  refine wv_run fn29 rfl ?_
  have a0 : (enterEnv [.agg [vL, vF], .agg [U32 (i : Int), U32 g]] Try.f29.ntmps).get 0 = some (.agg [vL, vF]) := enter_get1 _ _ _
  have a1 : (enterEnv [.agg [vL, vF], .agg [U32 (i : Int), U32 g]] Try.f29.ntmps).get 1 = some (.agg [U32 (i : Int), U32 g]) := enter_get2 _ _ _ _
  generalize enterEnv [.agg [vL, vF], .agg [U32 (i : Int), U32 g]] Try.f29.ntmps = e at a0 a1 ⊢
  unfold Try.f29
  dsimp only
  ((with_reducible apply wc_c (fun i => Nat.beq i 0 || Nat.beq i 1 || Nat.beq i 2 || Nat.beq i 3 || Nat.beq i 4 || Nat.beq i 5 || Nat.beq i 6 || Nat.beq i 7 || Nat.beq i 8 || Nat.beq i 9 || Nat.beq i 13 || Nat.beq i 38)); intro e he; have w9 := he 0 rfl; (try simp only [a0] at w9); have v0 := w9; clear w9; have w9 := he 1 rfl; (try simp only [a1] at w9); have v1 := w9; clear w9; have w9 := he 2 rfl; (try simp only [T.get_put, Nat.reduceEqDiff, reduceIte] at w9); have v2 := w9; clear w9; have w9 := he 3 rfl; (try simp only [T.get_put, Nat.reduceEqDiff, reduceIte] at w9); have v3 := w9; clear w9; have w9 := he 4 rfl; (try simp only [T.get_put, Nat.reduceEqDiff, reduceIte] at w9); have v4 := w9; clear w9; have w9 := he 5 rfl; (try simp only [T.get_put, Nat.reduceEqDiff, reduceIte] at w9); have v5 := w9; clear w9; have w9 := he 6 rfl; (try simp only [T.get_put, Nat.reduceEqDiff, reduceIte] at w9); have v6 := w9; clear w9; have w9 := he 7 rfl; (try simp only [T.get_put, Nat.reduceEqDiff, reduceIte] at w9); have v7 := w9; clear w9; have w9 := he 8 rfl; (try simp only [T.get_put, Nat.reduceEqDiff, reduceIte] at w9); have v8 := w9; clear w9; have w9 := he 9 rfl; (try simp only [T.get_put, Nat.reduceEqDiff, reduceIte] at w9); have v9 := w9; clear w9; have w9 := he 13 rfl; (try simp only [T.get_put, Nat.reduceEqDiff, reduceIte] at w9); have v13 := w9; clear w9; have w9 := he 38 rfl; (try simp only [T.get_put, Nat.reduceEqDiff, reduceIte] at w9); have v38 := w9; clear w9; clear he)
  repeat' (first
    | with_reducible apply wc_seq
    | ((with_reducible apply wc_region); (· (rfl)))
    | with_reducible apply wo_some
    | ((with_reducible apply wc_cond); (· (simp (disch := (first | assumption | omega)) only [ev, Option.some.injEq, v13] <;> rfl)); all_goals (intro hg; (try (try simp only [Bool.not_eq_true'] at hg)); first | (exfalso; exact Bool.noConfusion hg) | (exfalso; exact hg) | skip))
    | with_reducible apply wc_ret
    | with_reducible apply nx_r
    | (simp only [patch, List.take_zero, List.drop_succ_cons, List.drop_nil, List.nil_append, List.append_nil, List.length_cons, List.length_nil, Nat.zero_add, Nat.reduceAdd, cells_agg, cells_lagg, litCells_cons, litCells_nil] at H)
    | ((with_reducible apply nx_c (fun i => Nat.beq i 0 || Nat.beq i 1 || Nat.beq i 2 || Nat.beq i 3 || Nat.beq i 4 || Nat.beq i 5 || Nat.beq i 6 || Nat.beq i 7 || Nat.beq i 8 || Nat.beq i 9 || Nat.beq i 13 || Nat.beq i 38)); intro e he; have w0 := he 0 rfl; have w1 := he 1 rfl; have w2 := he 2 rfl; have w3 := he 3 rfl; have w4 := he 4 rfl; have w5 := he 5 rfl; have w6 := he 6 rfl; have w7 := he 7 rfl; have w8 := he 8 rfl; have w9 := he 9 rfl; have w13 := he 13 rfl; have w38 := he 38 rfl; (try simp only [T.get_put, Nat.reduceEqDiff, reduceIte, v0, v1, v2, v3, v4, v5, v6, v7, v8, v9, v13, v38] at w0 w1 w2 w3 w4 w5 w6 w7 w8 w9 w13 w38); clear he v0 v1 v2 v3 v4 v5 v6 v7 v8 v9 v13 v38; have v0 := w0; have v1 := w1; have v2 := w2; have v3 := w3; have v4 := w4; have v5 := w5; have v6 := w6; have v7 := w7; have v8 := w8; have v9 := w9; have v13 := w13; have v38 := w38; clear w0 w1 w2 w3 w4 w5 w6 w7 w8 w9 w13 w38)
    | ((with_reducible apply wo_eq); (· (simp (disch := (first | assumption | omega)) only [oUn_not, eq_self, opsA_cons, opsA_nil, wantedA, stepA_t, callA, calleeA, targetA, runOp_c, runOp_n, opA, ev, evs, consO, consOO, afterA_s, putA, T.get_put, Nat.reduceEqDiff, reduceIte, Bool.not_false, Bo, ty29, ti29, ty42, ti42, ty29, ti29, ty42, ti42, withH_s, List.take_succ_cons, List.take_zero, List.drop_zero, v0, v1, v2, v3, v4]; exact rfl)))
    | (((with_reducible apply wo_call); (· ((with_reducible apply k15); (· (exact H.pz (a := isr c3e 3 vL ls) (by (with_reducible repeat' first | exact mem_h _ _ | apply mem_t); done))); (· (exact H.pz (a := lc false vF ((fi fs).map I)) (by (with_reducible repeat' first | exact mem_h _ _ | apply mem_t); done))); (· (assumption)); (· (assumption)); (· (assumption)); (· (assumption)))); rintro _ h ⟨rfl, hx⟩; rw [hv]; replace H := H.ext hx; clear hx))
    | ((with_reducible apply wo_box H); clear H; intro n h H0n H)
    | ((with_reducible apply wo_alloc H); (· (rfl)); clear H; intro n h H0n H)
    | ((with_reducible apply wo_loadn H); (· ((with_reducible repeat' first | exact mem_h _ _ | apply mem_t); done)); (· (rfl)); (· (rfl)); (· (rfl)))
    | ((with_reducible apply wo_storen H); (· ((with_reducible repeat' first | exact Pick.here _ _ _ | apply Pick.there); done)); (· ((first | rfl | assumption | exact cells_one (H.pz (by (with_reducible repeat' first | exact mem_h _ _ | apply mem_t); done))))); (· ((first | rfl | (simp (disch := assumption) only [onesA_cons', onesA_nil, cells_agg, one_t, Bool.and_self]; done)))); (· (rfl)); (· ((first | exact Nat.le_of_ble_eq_true rfl | omega | (simp only [List.length_set, List.length_replicate, List.length_map, List.length_cons, List.length_nil]; omega) | (simp; done) | (simp; omega)))); clear H; intro h H)
    | ((first | with_reducible apply wv_ret | with_reducible apply wv_end); (· ((repeat' (first | with_reducible exact rs_nil | ((with_reducible apply rs_tmp); (· (simp (disch := (first | assumption | omega)) only [Option.some.injEq, v5, v6] <;> rfl))) | ((with_reducible apply rs_cell); (· (simp (disch := (first | assumption | omega)) only [Option.some.injEq, v4] <;> rfl)); (· ((first | exact ty29 | exact ty29))); (· (rfl)); (· (exact H.ld1 (by (with_reducible repeat' first | exact mem_h _ _ | apply mem_t); done) rfl))) | ((with_reducible apply rs_celln); (· (simp (disch := (first | assumption | omega)) only [Option.some.injEq, v4] <;> rfl)); (· ((first | exact ty29 | exact ty29))); (· (rfl)); (· (exact H.ldn (by (with_reducible repeat' first | exact mem_h _ _ | apply mem_t); done) rfl rfl))))); done)))
    | simp (disch := (first | assumption | omega)) only [I, ti29, ti29, List.take_succ_cons, List.take_zero, List.drop_zero])

  all_goals try (exfalso; omega)
  all_goals (exact ⟨rfl, H.toExt⟩)


set_option maxHeartbeats 4000000 in
theorem k30a (d : Nat) (b : Hp) (vL vF : AV) (ls : List Ent) (fs : List Nat) (pL : IsR c3e 3 b vL ls) (pF : Lc false b vF ((fi fs).map I)) (hll : ls.length ≤ 1000) (hfl : fs.length ≤ 1000) (i : Nat) (g : Int) (hi : i < 4294967296) (hg : 0 ≤ g ∧ g < 4294967296) (x0 : Int) (hp : ls[i]? = some (g, true, x0)) (hg3 : 1 < g) : Wv (runA ctx 5000 (d + 2) 30 [.agg [vL, vF], .agg [U32 (i : Int), U32 g]] b) (fun r h' => ∃ wL wF, r = .tup [.agg [wL, wF], I 0] ∧ RA b h' wL wF (ls.set i ((g, false, 0) : Ent)) (i :: fs)) := by
  have hg1 := hg.1
  have hg2 := hg.2
  have hmL : (ls.map c3e).length = ls.length := List.length_map _
  have hil := (List.getElem?_eq_some_iff.1 hp).1
  have hn0 : (ls.map c3e).length = ls.length := hmL
  have hb0 : i < (ls.map c3e).length := by rw [hn0]; omega
  have hr0 : (ls.map c3e)[i]? = some [U32 g, Bo true, I x0] := map_at hp
  have hn1 : ((ls.map c3e).set i [U32 g, Bo false, I x0]).length = ls.length := by rw [gl]; exact hn0
  have hb1 : i < ((ls.map c3e).set i [U32 g, Bo false, I x0]).length := by rw [hn1]; omega
  have hr1 : ((ls.map c3e).set i [U32 g, Bo false, I x0])[i]? = some [U32 g, Bo false, I x0] := gs _ _ _ (by omega)
  have hn2 : (((ls.map c3e).set i [U32 g, Bo false, I x0]).set i [U32 g, Bo false, I 0]).length = ls.length := by rw [gl]; exact hn1
  have hb2 : i < (((ls.map c3e).set i [U32 g, Bo false, I x0]).set i [U32 g, Bo false, I 0]).length := by rw [hn2]; omega
  have hr2 : (((ls.map c3e).set i [U32 g, Bo false, I x0]).set i [U32 g, Bo false, I 0])[i]? = some [U32 g, Bo false, I 0] := gs _ _ _ (by omega)
  have e9 : ((ls.map c3e).set i [U32 g, Bo false, I x0]).set i [U32 g, Bo false, I 0] = (ls.set i ((g, false, 0) : Ent)).map c3e := by rw [set_set', ← map_set']; rfl
  have one1 := pL.one.1
  have one2 := pL.one.2
  have one3 := pF.one
  have one4 := pF.cells
  have hav := isl_av pF.isL
  have hal : avB 4 vL vL = true := isr_av pL
  have hfi := fi_len fs
  have H := (((Hs.start b).z0 (z := isr c3e 3 vL ls) pL).z0 (z := lc false vF ((fi fs).map I)) pF).z0 (z := isl vF ((fi fs).map I)) pF.isL
  refine wv_run fn30 rfl ?_
  have a0 : (enterEnv [.agg [vL, vF], .agg [U32 (i : Int), U32 g]] Try.f30.ntmps).get 0 = some (.agg [vL, vF]) := enter_get1 _ _ _
  have a1 : (enterEnv [.agg [vL, vF], .agg [U32 (i : Int), U32 g]] Try.f30.ntmps).get 1 = some (.agg [U32 (i : Int), U32 g]) := enter_get2 _ _ _ _
  generalize enterEnv [.agg [vL, vF], .agg [U32 (i : Int), U32 g]] Try.f30.ntmps = e at a0 a1 ⊢
  unfold Try.f30
  dsimp only
  ((with_reducible apply wc_c (fun i => Nat.beq i 0 || Nat.beq i 1 || Nat.beq i 2 || Nat.beq i 3 || Nat.beq i 4 || Nat.beq i 5 || Nat.beq i 6 || Nat.beq i 7 || Nat.beq i 11 || Nat.beq i 26 || Nat.beq i 32)); intro e he; have w9 := he 0 rfl; (try simp only [a0] at w9); have v0 := w9; clear w9; have w9 := he 1 rfl; (try simp only [a1] at w9); have v1 := w9; clear w9; have w9 := he 2 rfl; (try simp only [T.get_put, Nat.reduceEqDiff, reduceIte] at w9); have v2 := w9; clear w9; have w9 := he 3 rfl; (try simp only [T.get_put, Nat.reduceEqDiff, reduceIte] at w9); have v3 := w9; clear w9; have w9 := he 4 rfl; (try simp only [T.get_put, Nat.reduceEqDiff, reduceIte] at w9); have v4 := w9; clear w9; have w9 := he 5 rfl; (try simp only [T.get_put, Nat.reduceEqDiff, reduceIte] at w9); have v5 := w9; clear w9; have w9 := he 6 rfl; (try simp only [T.get_put, Nat.reduceEqDiff, reduceIte] at w9); have v6 := w9; clear w9; have w9 := he 7 rfl; (try simp only [T.get_put, Nat.reduceEqDiff, reduceIte] at w9); have v7 := w9; clear w9; have w9 := he 11 rfl; (try simp only [T.get_put, Nat.reduceEqDiff, reduceIte] at w9); have v11 := w9; clear w9; have w9 := he 26 rfl; (try simp only [T.get_put, Nat.reduceEqDiff, reduceIte] at w9); have v26 := w9; clear w9; have w9 := he 32 rfl; (try simp only [T.get_put, Nat.reduceEqDiff, reduceIte] at w9); have v32 := w9; clear w9; clear he)
  repeat' (first
    | with_reducible apply wc_seq
    | ((with_reducible apply wc_region); (· (rfl)))
    | with_reducible apply wo_some
    | ((with_reducible apply wc_cond); (· (simp (disch := (first | assumption | omega)) only [ev, Option.some.injEq, v11, v26, v32] <;> rfl)); all_goals (intro hg; (try (try simp only [Bool.not_eq_true'] at hg)); first | (exfalso; exact Bool.noConfusion hg) | (exfalso; exact hg) | skip))
    | with_reducible apply wc_skip
    | with_reducible apply wc_ret
    | (simp only [patch, List.take_zero, List.drop_succ_cons, List.drop_nil, List.nil_append, List.cons_append, List.append_nil, List.length_cons, List.length_nil, List.set_cons_zero, List.set_cons_succ, Nat.zero_add, Nat.reduceAdd, cells_int, cells_agg, cells_lagg, putAt_z, over_nil, over_cons, litCells_cons, litCells_nil, Nat.mul_one, ti3, ti3, repl_1] at H)
    | ((with_reducible apply nx_c (fun i => Nat.beq i 0 || Nat.beq i 1 || Nat.beq i 2 || Nat.beq i 3 || Nat.beq i 4 || Nat.beq i 5 || Nat.beq i 6 || Nat.beq i 7 || Nat.beq i 11 || Nat.beq i 26 || Nat.beq i 32)); intro e he; have w0 := he 0 rfl; have w1 := he 1 rfl; have w2 := he 2 rfl; have w3 := he 3 rfl; have w4 := he 4 rfl; have w5 := he 5 rfl; have w6 := he 6 rfl; have w7 := he 7 rfl; have w11 := he 11 rfl; have w26 := he 26 rfl; have w32 := he 32 rfl; (try simp only [T.get_put, Nat.reduceEqDiff, reduceIte, v0, v1, v2, v3, v4, v5, v6, v7, v11, v26, v32] at w0 w1 w2 w3 w4 w5 w6 w7 w11 w26 w32); clear he v0 v1 v2 v3 v4 v5 v6 v7 v11 v26 v32; have v0 := w0; have v1 := w1; have v2 := w2; have v3 := w3; have v4 := w4; have v5 := w5; have v6 := w6; have v7 := w7; have v11 := w11; have v26 := w26; have v32 := w32; clear w0 w1 w2 w3 w4 w5 w6 w7 w11 w26 w32)
    | ((with_reducible apply wo_eq); (· (simp (disch := (first | assumption | omega)) only [oUn_not, eq_self, opsA_cons, opsA_nil, wantedA, guardA, yieldA, stepA_t, stepA_f, callA, calleeA, targetA, runOp_c, runOp_n, opA, ev, evs, consO, consOO, pickA, afterA_s, putA, T.get_put, Nat.reduceEqDiff, reduceIte, List.getElem?_toArray, List.getElem?_cons_zero, List.getElem?_cons_succ, oBuiltin, oBin, binA, binG, binL, aggO, litA, oIndexAddr, cond_true, Bool.not_true, blt_eq, ft_beq, I, Bo, fieldAddrA, oFieldAddr, Nat.zero_add, Nat.add_zero, Nat.reduceLT, ty3, ti3, ty4, ti4, ty26, ti26, ty27, ti27, ty29, ti29, ty40, ti40, ty42, ti42, ty46, ti46, ty3, ti3, ty4, ti4, ty26, ti26, ty27, ti27, ty29, ti29, ty40, ti40, ty42, ti42, ty46, ti46, withH_s, oBuildSlice, evParts, consP, oConv, dec_t, dec_f, id_eq, List.take_succ_cons, List.take_zero, List.drop_zero, Nat.zero_add, Nat.add_zero, v0, v1, v2, v3, v4, v6, v7, conv3, uu_eql]; exact rfl)))
    | (((with_reducible apply wo_call); (· ((with_reducible apply k13); (· (exact H.pz (a := isr c3e 3 vL ls) (by (with_reducible repeat' first | exact mem_h _ _ | apply mem_t); done))); (· (exact H.pz (a := lc false vF ((fi fs).map I)) (by (with_reducible repeat' first | exact mem_h _ _ | apply mem_t); done))); (· (assumption)); (· (assumption)))); rintro _ h ⟨wL, wF, rfl, hL, hF, hx, f1, f2⟩; have fw := fun m hm => Nat.le_trans H.fr.c (f2 m hm).1; have oL := hL.one; have cL := hL.cells; have oF := hF.one; have cF := hF.cells; have hau := owr_av hL; replace H := H.cpy hx (x := owr 46 3 wL _) (z := lc false wF _) hL hF (fun n hn => f1 n (nmO_mem.1 hn)) (fun n hn => (f2 n (nmO_mem.1 hn)).1) (fun n hn h9 => (f2 n (nmO_mem.1 hn)).2 (nmO_mem.1 h9)); replace H := H.zsub (z := lc false wF _) (z' := isl wF _) (.head _) hF.isL (fun n hn => hn); clear hx f1 f2 hL hF))
    | (((with_reducible apply wo_call); (· ((with_reducible apply k15); (· (exact H.pz (a := isr c3e 3 vL ls) (by (with_reducible repeat' first | exact mem_h _ _ | apply mem_t); done))); (· (exact H.pz (a := lc false vF ((fi fs).map I)) (by (with_reducible repeat' first | exact mem_h _ _ | apply mem_t); done))); (· (assumption)); (· (assumption)); (· (assumption)); (· (assumption)))); rintro _ h ⟨rfl, hx⟩; rw [(show vld ls i g = true from by rw [vld_used hp]; simp)]; replace H := H.ext hx; clear hx))
    | (((with_reducible apply wo_riaL H); (· ((first | exact ty26 | exact ty26))); (· (rfl)); (· ((first | exact ty46 | exact ty46))); (· ((with_reducible repeat' first | exact mem_h _ _ | apply mem_t); done)); (· (rfl)); (· ((first | rfl | assumption | omega))); (· ((first | assumption | omega))); intro w9 hw9))
    | (((with_reducible apply wo_rst H); (· ((with_reducible repeat' first | exact Pick.here _ _ _ | apply Pick.there); done)); (· (assumption)); (· (assumption)); (· (rfl)); (· (decide)); (· (rfl)); (· (rfl)); (· (rfl)); (· (rfl)); clear H; intro h H; (try simp only [List.set_cons_zero, List.set_cons_succ] at H)))
    | (((with_reducible apply wo_fappz H); (· (rfl)); (· (decide)); (· ((first | exact ty27 | exact ty27))); (· (rfl)); (· ((first | exact ty3 | exact ty3))); (· (rfl)); (· (kernel_rfl)); (· ((with_reducible repeat' first | exact mem_h _ _ | apply mem_t); done)); (· (exact ones_I ((i : Int) :: fi fs))); (· (omega)); clear H; intro w8 h hw8n hw8l H; have ow := hw8l.one; have cw := hw8l.cells))
    | ((with_reducible apply wo_box H); clear H; intro n h H0n H)
    | ((with_reducible apply wo_alloc H); (· (rfl)); clear H; intro n h H0n H)
    | ((with_reducible apply wo_load1 H); (· ((with_reducible repeat' first | exact mem_h _ _ | apply mem_t); done)); (· (rfl)); (· ((first | rfl | assumption))))
    | ((with_reducible apply wo_loadn H); (· ((with_reducible repeat' first | exact mem_h _ _ | apply mem_t); done)); (· (rfl)); (· (rfl)); (· (rfl)))
    | ((with_reducible apply wo_store1 H); (· ((with_reducible repeat' first | exact Pick.here _ _ _ | apply Pick.there); done)); (· ((first | rfl | assumption))); (· ((first | rfl | assumption | exact cells_one (H.pz (by (with_reducible repeat' first | exact mem_h _ _ | apply mem_t); done))))); (· ((first | rfl | assumption))); (· (rfl)); (· ((first | exact Nat.le_of_ble_eq_true rfl | omega | (simp only [List.length_set, List.length_replicate, List.length_map, List.length_cons, List.length_nil]; omega) | (simp; done) | (simp; omega)))); clear H; intro h H)
    | ((with_reducible apply wo_storen H); (· ((with_reducible repeat' first | exact Pick.here _ _ _ | apply Pick.there); done)); (· ((first | rfl | assumption | exact cells_one (H.pz (by (with_reducible repeat' first | exact mem_h _ _ | apply mem_t); done))))); (· ((first | rfl | (simp (disch := assumption) only [onesA_cons', onesA_nil, cells_agg, one_t, Bool.and_self]; done)))); (· (rfl)); (· ((first | exact Nat.le_of_ble_eq_true rfl | omega | (simp only [List.length_set, List.length_replicate, List.length_map, List.length_cons, List.length_nil]; omega) | (simp; done) | (simp; omega)))); clear H; intro h H)
    | ((with_reducible apply wo_bs H); (· ((first | exact ty27 | exact ty27))); (· (rfl)); (· ((first | exact ty3 | exact ty3))); (· (kernel_rfl)); (· ((first | rfl | (simp only [fillA_nil, fillA_cons, repl_z, repl_s, cells_int, cells_bool, cells_str, cells_float, cells_np, cells_nil, cells_nf, cells_ptr, cells_slice, cells_fn, cells_agg, cells_lagg, v0, v1, v2, v3, v4, v5, v6, v7, v11, v26, v32, conv40, conv3, conv2, uu_eql, uu_neq, uu_gtr, uu_lss, uu_add, uu_sub, wrap_u32k, rws_len, one1, one2, one3, one4, hmL]; rfl)))); clear H; intro n h H0n H)
    | ((first | with_reducible apply wv_ret | with_reducible apply wv_end); (· ((repeat' (first | with_reducible exact rs_nil | ((with_reducible apply rs_tmp); (· (simp (disch := (first | assumption | omega)) only [Option.some.injEq, v5] <;> rfl))) | ((with_reducible apply rs_cell); (· (simp (disch := (first | assumption | omega)) only [Option.some.injEq, v4] <;> rfl)); (· ((first | exact ty29 | exact ty29))); (· (rfl)); (· (exact H.ld1 (by (with_reducible repeat' first | exact mem_h _ _ | apply mem_t); done) rfl))) | ((with_reducible apply rs_celln); (· (simp (disch := (first | assumption | omega)) only [Option.some.injEq, v4] <;> rfl)); (· ((first | exact ty29 | exact ty29))); (· (rfl)); (· (exact H.ldn (by (with_reducible repeat' first | exact mem_h _ _ | apply mem_t); done) rfl rfl))))); done)))
    | simp (disch := (first | assumption | omega)) only [I, ti29, ti29, List.take_succ_cons, List.take_zero, List.drop_zero])

  all_goals try (exfalso; omega)
  all_goals (rw [e9] at H; exact ⟨_, _, rfl, (H.p (a := owr 46 3 wL ((ls.set i ((g, false, 0) : Ent)).map c3e)) (by (with_reducible repeat' first | exact mem_h _ _ | apply mem_t); done)).isR (fun _ _ => rfl), H.pz (a := lc false w8 (I (i : Int) :: (fi fs).map I)) (by (with_reducible repeat' first | exact mem_h _ _ | apply mem_t); done), H.toExt, fun m hm => ((H.own (owr 46 3 wL ((ls.set i ((g, false, 0) : Ent)).map c3e)) (by (with_reducible repeat' first | exact mem_h _ _ | apply mem_t); done)).2 m (nmO_mem.2 hm)).elim id (fun h => by cases h), hw8n⟩)
set_option maxHeartbeats 4000000 in
theorem k30b (d : Nat) (b : Hp) (vL vF : AV) (ls : List Ent) (fs : List Nat) (pL : IsR c3e 3 b vL ls) (pF : Lc false b vF ((fi fs).map I)) (hll : ls.length ≤ 1000) (hfl : fs.length ≤ 1000) (i : Nat) (g : Int) (hi : i < 4294967296) (hg : 0 ≤ g ∧ g < 4294967296) (x0 : Int) (hp : ls[i]? = some (g, true, x0)) (hg3 : g = 1) (hi3 : i + 1 < ls.length) : Wv (runA ctx 5000 (d + 2) 30 [.agg [vL, vF], .agg [U32 (i : Int), U32 g]] b) (fun r h' => r = .tup [.agg [vL, vF], I 10] ∧ Ext b h') := by
  have hg1 := hg.1
  have hg2 := hg.2
  have hmL : (ls.map c3e).length = ls.length := List.length_map _
  have one1 := pL.one.1
  have one2 := pL.one.2
  have one3 := pF.one
  have one4 := pF.cells
  have hav := isl_av pF.isL
  have hal : avB 4 vL vL = true := isr_av pL
  have hfi := fi_len fs
  have H := (((Hs.start b).z0 (z := isr c3e 3 vL ls) pL).z0 (z := lc false vF ((fi fs).map I)) pF).z0 (z := isl vF ((fi fs).map I)) pF.isL
  refine wv_run fn30 rfl ?_
  have a0 : (enterEnv [.agg [vL, vF], .agg [U32 (i : Int), U32 g]] Try.f30.ntmps).get 0 = some (.agg [vL, vF]) := enter_get1 _ _ _
  have a1 : (enterEnv [.agg [vL, vF], .agg [U32 (i : Int), U32 g]] Try.f30.ntmps).get 1 = some (.agg [U32 (i : Int), U32 g]) := enter_get2 _ _ _ _
  generalize enterEnv [.agg [vL, vF], .agg [U32 (i : Int), U32 g]] Try.f30.ntmps = e at a0 a1 ⊢
  unfold Try.f30
  dsimp only
  ((with_reducible apply wc_c (fun i => Nat.beq i 0 || Nat.beq i 1 || Nat.beq i 2 || Nat.beq i 3 || Nat.beq i 4 || Nat.beq i 5 || Nat.beq i 6 || Nat.beq i 7 || Nat.beq i 11 || Nat.beq i 26 || Nat.beq i 32)); intro e he; have w9 := he 0 rfl; (try simp only [a0] at w9); have v0 := w9; clear w9; have w9 := he 1 rfl; (try simp only [a1] at w9); have v1 := w9; clear w9; have w9 := he 2 rfl; (try simp only [T.get_put, Nat.reduceEqDiff, reduceIte] at w9); have v2 := w9; clear w9; have w9 := he 3 rfl; (try simp only [T.get_put, Nat.reduceEqDiff, reduceIte] at w9); have v3 := w9; clear w9; have w9 := he 4 rfl; (try simp only [T.get_put, Nat.reduceEqDiff, reduceIte] at w9); have v4 := w9; clear w9; have w9 := he 5 rfl; (try simp only [T.get_put, Nat.reduceEqDiff, reduceIte] at w9); have v5 := w9; clear w9; have w9 := he 6 rfl; (try simp only [T.get_put, Nat.reduceEqDiff, reduceIte] at w9); have v6 := w9; clear w9; have w9 := he 7 rfl; (try simp only [T.get_put, Nat.reduceEqDiff, reduceIte] at w9); have v7 := w9; clear w9; have w9 := he 11 rfl; (try simp only [T.get_put, Nat.reduceEqDiff, reduceIte] at w9); have v11 := w9; clear w9; have w9 := he 26 rfl; (try simp only [T.get_put, Nat.reduceEqDiff, reduceIte] at w9); have v26 := w9; clear w9; have w9 := he 32 rfl; (try simp only [T.get_put, Nat.reduceEqDiff, reduceIte] at w9); have v32 := w9; clear w9; clear he)
  repeat' (first
    | with_reducible apply wc_seq
    | ((with_reducible apply wc_region); (· (rfl)))
    | with_reducible apply wo_some
    | ((with_reducible apply wc_cond); (· (simp (disch := (first | assumption | omega)) only [ev, Option.some.injEq, v11, v26] <;> rfl)); all_goals (intro hg; (try (try simp only [Bool.not_eq_true'] at hg)); first | (exfalso; exact Bool.noConfusion hg) | (exfalso; exact hg) | skip))
    | with_reducible apply wc_skip
    | with_reducible apply wc_ret
    | with_reducible apply nx_r
    | (simp only [patch, List.take_zero, List.drop_succ_cons, List.drop_nil, List.nil_append, List.append_nil, List.length_cons, List.length_nil, Nat.zero_add, Nat.reduceAdd, cells_agg, cells_lagg, litCells_cons, litCells_nil] at H)
    | ((with_reducible apply nx_c (fun i => Nat.beq i 0 || Nat.beq i 1 || Nat.beq i 2 || Nat.beq i 3 || Nat.beq i 4 || Nat.beq i 5 || Nat.beq i 6 || Nat.beq i 7 || Nat.beq i 11 || Nat.beq i 26 || Nat.beq i 32)); intro e he; have w0 := he 0 rfl; have w1 := he 1 rfl; have w2 := he 2 rfl; have w3 := he 3 rfl; have w4 := he 4 rfl; have w5 := he 5 rfl; have w6 := he 6 rfl; have w7 := he 7 rfl; have w11 := he 11 rfl; have w26 := he 26 rfl; have w32 := he 32 rfl; (try simp only [T.get_put, Nat.reduceEqDiff, reduceIte, v0, v1, v2, v3, v4, v5, v6, v7, v11, v26, v32] at w0 w1 w2 w3 w4 w5 w6 w7 w11 w26 w32); clear he v0 v1 v2 v3 v4 v5 v6 v7 v11 v26 v32; have v0 := w0; have v1 := w1; have v2 := w2; have v3 := w3; have v4 := w4; have v5 := w5; have v6 := w6; have v7 := w7; have v11 := w11; have v26 := w26; have v32 := w32; clear w0 w1 w2 w3 w4 w5 w6 w7 w11 w26 w32)
    | ((with_reducible apply wo_eq); (· (simp (disch := (first | assumption | omega)) only [oUn_not, beq_self_eq_true, eq_self, opsA_cons, opsA_nil, wantedA, guardA, yieldA, stepA_t, callA, calleeA, targetA, runOp_c, runOp_n, opA, ev, evs, consO, consOO, pickA, afterA_s, putA, T.get_put, Nat.reduceEqDiff, reduceIte, List.getElem?_toArray, List.getElem?_cons_zero, List.getElem?_cons_succ, oBuiltin, oBin, binA, binG, binL, aggO, litA, cond_true, Bool.not_true, blt_eq, I, Bo, fieldAddrA, oFieldAddr, Nat.zero_add, Nat.add_zero, Nat.reduceLT, ty26, ti26, ty29, ti29, ty40, ti40, ty42, ti42, ty26, ti26, ty29, ti29, ty40, ti40, ty42, ti42, ii_sub, ii_lss, withH_s, oConv, dec_t, wrap_ok, id_eq, List.take_succ_cons, List.take_zero, List.drop_zero, Nat.zero_add, Nat.add_zero, v0, v1, v2, v3, v4, v6, conv3, uu_eql]; exact rfl)))
    | (((with_reducible apply wo_call); (· ((with_reducible apply k15); (· (exact H.pz (a := isr c3e 3 vL ls) (by (with_reducible repeat' first | exact mem_h _ _ | apply mem_t); done))); (· (exact H.pz (a := lc false vF ((fi fs).map I)) (by (with_reducible repeat' first | exact mem_h _ _ | apply mem_t); done))); (· (assumption)); (· (assumption)); (· (assumption)); (· (assumption)))); rintro _ h ⟨rfl, hx⟩; rw [(show vld ls i g = true from by rw [vld_used hp]; simp)]; replace H := H.ext hx; clear hx))
    | ((with_reducible apply wo_box H); clear H; intro n h H0n H)
    | ((with_reducible apply wo_alloc H); (· (rfl)); clear H; intro n h H0n H)
    | ((with_reducible apply wo_load1 H); (· ((with_reducible repeat' first | exact mem_h _ _ | apply mem_t); done)); (· (rfl)); (· ((first | rfl | assumption))))
    | ((with_reducible apply wo_loadn H); (· ((with_reducible repeat' first | exact mem_h _ _ | apply mem_t); done)); (· (rfl)); (· (rfl)); (· (rfl)))
    | ((with_reducible apply wo_storen H); (· ((with_reducible repeat' first | exact Pick.here _ _ _ | apply Pick.there); done)); (· ((first | rfl | assumption | exact cells_one (H.pz (by (with_reducible repeat' first | exact mem_h _ _ | apply mem_t); done))))); (· ((first | rfl | (simp (disch := assumption) only [onesA_cons', onesA_nil, cells_agg, one_t, Bool.and_self]; done)))); (· (rfl)); (· ((first | exact Nat.le_of_ble_eq_true rfl | omega | (simp only [List.length_set, List.length_replicate, List.length_map, List.length_cons, List.length_nil]; omega) | (simp; done) | (simp; omega)))); clear H; intro h H)
    | ((with_reducible apply wo_lenr H); (· ((with_reducible repeat' first | exact mem_h _ _ | apply mem_t); done)); (· ((first | exact ty26 | exact ty26))); (· (rfl)))
    | ((first | with_reducible apply wv_ret | with_reducible apply wv_end); (· ((repeat' (first | with_reducible exact rs_nil | ((with_reducible apply rs_tmp); (· (simp (disch := (first | assumption | omega)) only [Option.some.injEq, v5] <;> rfl))) | ((with_reducible apply rs_cell); (· (simp (disch := (first | assumption | omega)) only [Option.some.injEq, v4] <;> rfl)); (· ((first | exact ty29 | exact ty29))); (· (rfl)); (· (exact H.ld1 (by (with_reducible repeat' first | exact mem_h _ _ | apply mem_t); done) rfl))) | ((with_reducible apply rs_celln); (· (simp (disch := (first | assumption | omega)) only [Option.some.injEq, v4] <;> rfl)); (· ((first | exact ty29 | exact ty29))); (· (rfl)); (· (exact H.ldn (by (with_reducible repeat' first | exact mem_h _ _ | apply mem_t); done) rfl rfl))))); done)))
    | simp (disch := (first | assumption | omega)) only [I, ti29, ti29, List.take_succ_cons, List.take_zero, List.drop_zero])

  all_goals try (exfalso; omega)
  all_goals (exact ⟨rfl, H.toExt⟩)
set_option maxHeartbeats 4000000 in
theorem k30c (d : Nat) (b : Hp) (vL vF : AV) (ls : List Ent) (fs : List Nat) (pL : IsR c3e 3 b vL ls) (pF : Lc false b vF ((fi fs).map I)) (hll : ls.length ≤ 1000) (hfl : fs.length ≤ 1000) (i : Nat) (g : Int) (hi : i < 4294967296) (hg : 0 ≤ g ∧ g < 4294967296) (x0 : Int) (hp : ls[i]? = some (g, true, x0)) (hg3 : g = 1) (hi3 : i + 1 = ls.length) : Wv (runA ctx 5000 (d + 2) 30 [.agg [vL, vF], .agg [U32 (i : Int), U32 g]] b) (fun r h' => ∃ wL wF, r = .tup [.agg [wL, wF], I 0] ∧ RA b h' wL wF (ls.take i) fs) := by
  have hg1 := hg.1
  have hg2 := hg.2
  have hmL : (ls.map c3e).length = ls.length := List.length_map _
  have e9 : (ls.map c3e).take i = (ls.take i).map c3e := List.map_take.symm
  have one1 := pL.one.1
  have one2 := pL.one.2
  have one3 := pF.one
  have one4 := pF.cells
  have hav := isl_av pF.isL
  have hal : avB 4 vL vL = true := isr_av pL
  have hfi := fi_len fs
  have H := (((Hs.start b).z0 (z := isr c3e 3 vL ls) pL).z0 (z := lc false vF ((fi fs).map I)) pF).z0 (z := isl vF ((fi fs).map I)) pF.isL
  refine wv_run fn30 rfl ?_
  have a0 : (enterEnv [.agg [vL, vF], .agg [U32 (i : Int), U32 g]] Try.f30.ntmps).get 0 = some (.agg [vL, vF]) := enter_get1 _ _ _
  have a1 : (enterEnv [.agg [vL, vF], .agg [U32 (i : Int), U32 g]] Try.f30.ntmps).get 1 = some (.agg [U32 (i : Int), U32 g]) := enter_get2 _ _ _ _
  generalize enterEnv [.agg [vL, vF], .agg [U32 (i : Int), U32 g]] Try.f30.ntmps = e at a0 a1 ⊢
  unfold Try.f30
  dsimp only
  ((with_reducible apply wc_c (fun i => Nat.beq i 0 || Nat.beq i 1 || Nat.beq i 2 || Nat.beq i 3 || Nat.beq i 4 || Nat.beq i 5 || Nat.beq i 6 || Nat.beq i 7 || Nat.beq i 11 || Nat.beq i 26 || Nat.beq i 32)); intro e he; have w9 := he 0 rfl; (try simp only [a0] at w9); have v0 := w9; clear w9; have w9 := he 1 rfl; (try simp only [a1] at w9); have v1 := w9; clear w9; have w9 := he 2 rfl; (try simp only [T.get_put, Nat.reduceEqDiff, reduceIte] at w9); have v2 := w9; clear w9; have w9 := he 3 rfl; (try simp only [T.get_put, Nat.reduceEqDiff, reduceIte] at w9); have v3 := w9; clear w9; have w9 := he 4 rfl; (try simp only [T.get_put, Nat.reduceEqDiff, reduceIte] at w9); have v4 := w9; clear w9; have w9 := he 5 rfl; (try simp only [T.get_put, Nat.reduceEqDiff, reduceIte] at w9); have v5 := w9; clear w9; have w9 := he 6 rfl; (try simp only [T.get_put, Nat.reduceEqDiff, reduceIte] at w9); have v6 := w9; clear w9; have w9 := he 7 rfl; (try simp only [T.get_put, Nat.reduceEqDiff, reduceIte] at w9); have v7 := w9; clear w9; have w9 := he 11 rfl; (try simp only [T.get_put, Nat.reduceEqDiff, reduceIte] at w9); have v11 := w9; clear w9; have w9 := he 26 rfl; (try simp only [T.get_put, Nat.reduceEqDiff, reduceIte] at w9); have v26 := w9; clear w9; have w9 := he 32 rfl; (try simp only [T.get_put, Nat.reduceEqDiff, reduceIte] at w9); have v32 := w9; clear w9; clear he)
  repeat' (first
    | with_reducible apply wc_seq
    | ((with_reducible apply wc_region); (· (rfl)))
    | with_reducible apply wo_some
    | ((with_reducible apply wc_cond); (· (simp (disch := (first | assumption | omega)) only [ev, Option.some.injEq, v11, v26, v32] <;> rfl)); all_goals (intro hg; (try (try simp only [Bool.not_eq_true'] at hg)); first | (exfalso; exact Bool.noConfusion hg) | (exfalso; exact hg) | skip))
    | with_reducible apply wc_skip
    | with_reducible apply wc_ret
    | with_reducible apply nx_r
    | (simp only [patch, List.take_zero, List.drop_succ_cons, List.drop_nil, List.nil_append, List.append_nil, List.length_cons, List.length_nil, List.set_cons_zero, Nat.zero_add, Nat.reduceAdd, cells_agg, cells_lagg, litCells_cons, litCells_nil] at H)
    | ((with_reducible apply nx_c (fun i => Nat.beq i 0 || Nat.beq i 1 || Nat.beq i 2 || Nat.beq i 3 || Nat.beq i 4 || Nat.beq i 5 || Nat.beq i 6 || Nat.beq i 7 || Nat.beq i 11 || Nat.beq i 26 || Nat.beq i 32)); intro e he; have w0 := he 0 rfl; have w1 := he 1 rfl; have w2 := he 2 rfl; have w3 := he 3 rfl; have w4 := he 4 rfl; have w5 := he 5 rfl; have w6 := he 6 rfl; have w7 := he 7 rfl; have w11 := he 11 rfl; have w26 := he 26 rfl; have w32 := he 32 rfl; (try simp only [T.get_put, Nat.reduceEqDiff, reduceIte, v0, v1, v2, v3, v4, v5, v6, v7, v11, v26, v32] at w0 w1 w2 w3 w4 w5 w6 w7 w11 w26 w32); clear he v0 v1 v2 v3 v4 v5 v6 v7 v11 v26 v32; have v0 := w0; have v1 := w1; have v2 := w2; have v3 := w3; have v4 := w4; have v5 := w5; have v6 := w6; have v7 := w7; have v11 := w11; have v26 := w26; have v32 := w32; clear w0 w1 w2 w3 w4 w5 w6 w7 w11 w26 w32)
    | ((with_reducible apply wo_eq); (· (simp (disch := (first | assumption | omega)) only [oUn_not, beq_self_eq_true, eq_self, opsA_cons, opsA_nil, wantedA, guardA, yieldA, stepA_t, callA, calleeA, targetA, runOp_c, runOp_n, opA, ev, evs, evo, consO, consOO, pickA, afterA_s, putA, T.get_put, Nat.reduceEqDiff, reduceIte, List.getElem?_toArray, List.getElem?_cons_zero, List.getElem?_cons_succ, oBuiltin, oBin, binA, binG, binL, aggO, litA, cond_true, Bool.not_true, blt_eq, I, Bo, fieldAddrA, oFieldAddr, Nat.zero_add, Nat.add_zero, Nat.reduceLT, ty26, ti26, ty29, ti29, ty40, ti40, ty42, ti42, ty26, ti26, ty29, ti29, ty40, ti40, ty42, ti42, ii_sub, ii_lss, withH_s, oSlice, oConv, dec_t, dec_f, wrap_ok, id_eq, List.take_succ_cons, List.take_zero, List.drop_zero, Nat.zero_add, Nat.add_zero, v0, v1, v2, v3, v4, v6, v7, conv3, uu_eql]; exact rfl)))
    | (((with_reducible apply wo_call); (· ((with_reducible apply k13); (· (exact H.pz (a := isr c3e 3 vL ls) (by (with_reducible repeat' first | exact mem_h _ _ | apply mem_t); done))); (· (exact H.pz (a := lc false vF ((fi fs).map I)) (by (with_reducible repeat' first | exact mem_h _ _ | apply mem_t); done))); (· (assumption)); (· (assumption)))); rintro _ h ⟨wL, wF, rfl, hL, hF, hx, f1, f2⟩; have fw := fun m hm => Nat.le_trans H.fr.c (f2 m hm).1; have oL := hL.one; have cL := hL.cells; have oF := hF.one; have cF := hF.cells; have hau := owr_av hL; replace H := H.cpy hx (x := owr 46 3 wL _) (z := lc false wF _) hL hF (fun n hn => f1 n (nmO_mem.1 hn)) (fun n hn => (f2 n (nmO_mem.1 hn)).1) (fun n hn h9 => (f2 n (nmO_mem.1 hn)).2 (nmO_mem.1 h9)); replace H := H.zsub (z := lc false wF _) (z' := isl wF _) (.head _) hF.isL (fun n hn => hn); clear hx f1 f2 hL hF))
    | (((with_reducible apply wo_call); (· ((with_reducible apply k15); (· (exact H.pz (a := isr c3e 3 vL ls) (by (with_reducible repeat' first | exact mem_h _ _ | apply mem_t); done))); (· (exact H.pz (a := lc false vF ((fi fs).map I)) (by (with_reducible repeat' first | exact mem_h _ _ | apply mem_t); done))); (· (assumption)); (· (assumption)); (· (assumption)); (· (assumption)))); rintro _ h ⟨rfl, hx⟩; rw [(show vld ls i g = true from by rw [vld_used hp]; simp)]; replace H := H.ext hx; clear hx))
    | (((with_reducible apply wo_rslb (f := c3e) H); (· ((with_reducible repeat' first | exact PickF.here _ _ | apply PickF.there); done)); (· ((first | exact ty26 | exact ty26))); (· (rfl)); (· ((first | exact ty46 | exact ty46))); (· (exact (fun _ _ => rfl))); (· ((first | rfl | omega))); (· (omega)); clear H; intro u ou cu H))
    | ((with_reducible apply wo_box H); clear H; intro n h H0n H)
    | ((with_reducible apply wo_alloc H); (· (rfl)); clear H; intro n h H0n H)
    | ((with_reducible apply wo_load1 H); (· ((with_reducible repeat' first | exact mem_h _ _ | apply mem_t); done)); (· (rfl)); (· ((first | rfl | assumption))))
    | ((with_reducible apply wo_loadn H); (· ((with_reducible repeat' first | exact mem_h _ _ | apply mem_t); done)); (· (rfl)); (· (rfl)); (· (rfl)))
    | ((with_reducible apply wo_store1 H); (· ((with_reducible repeat' first | exact Pick.here _ _ _ | apply Pick.there); done)); (· ((first | rfl | assumption))); (· ((first | rfl | assumption | exact cells_one (H.pz (by (with_reducible repeat' first | exact mem_h _ _ | apply mem_t); done))))); (· ((first | rfl | assumption))); (· (rfl)); (· ((first | exact Nat.le_of_ble_eq_true rfl | omega | (simp only [List.length_set, List.length_replicate, List.length_map, List.length_cons, List.length_nil]; omega) | (simp; done) | (simp; omega)))); clear H; intro h H)
    | ((with_reducible apply wo_storen H); (· ((with_reducible repeat' first | exact Pick.here _ _ _ | apply Pick.there); done)); (· ((first | rfl | assumption | exact cells_one (H.pz (by (with_reducible repeat' first | exact mem_h _ _ | apply mem_t); done))))); (· ((first | rfl | (simp (disch := assumption) only [onesA_cons', onesA_nil, cells_agg, one_t, Bool.and_self]; done)))); (· (rfl)); (· ((first | exact Nat.le_of_ble_eq_true rfl | omega | (simp only [List.length_set, List.length_replicate, List.length_map, List.length_cons, List.length_nil]; omega) | (simp; done) | (simp; omega)))); clear H; intro h H)
    | ((with_reducible apply wo_lenr H); (· ((with_reducible repeat' first | exact mem_h _ _ | apply mem_t); done)); (· ((first | exact ty26 | exact ty26))); (· (rfl)))
    | ((first | with_reducible apply wv_ret | with_reducible apply wv_end); (· ((repeat' (first | with_reducible exact rs_nil | ((with_reducible apply rs_tmp); (· (simp (disch := (first | assumption | omega)) only [Option.some.injEq, v5] <;> rfl))) | ((with_reducible apply rs_cell); (· (simp (disch := (first | assumption | omega)) only [Option.some.injEq, v4] <;> rfl)); (· ((first | exact ty29 | exact ty29))); (· (rfl)); (· (exact H.ld1 (by (with_reducible repeat' first | exact mem_h _ _ | apply mem_t); done) rfl))) | ((with_reducible apply rs_celln); (· (simp (disch := (first | assumption | omega)) only [Option.some.injEq, v4] <;> rfl)); (· ((first | exact ty29 | exact ty29))); (· (rfl)); (· (exact H.ldn (by (with_reducible repeat' first | exact mem_h _ _ | apply mem_t); done) rfl rfl))))); done)))
    | simp (disch := (first | assumption | omega)) only [I, ti29, ti29, List.take_succ_cons, List.take_zero, List.drop_zero])

  all_goals try (exfalso; omega)
  all_goals (exact ⟨_, _, rfl, H.p (a := isr c3e 3 u (ls.take i)) (by (with_reducible repeat' first | exact mem_h _ _ | apply mem_t); done), H.pz (a := lc false wF _) (by (with_reducible repeat' first | exact mem_h _ _ | apply mem_t); done), H.toExt, fun m hm => ((H.own (isr c3e 3 u (ls.take i)) (by (with_reducible repeat' first | exact mem_h _ _ | apply mem_t); done)).2 m (nmO_mem.2 hm)).elim id (fun h => by cases h), fw⟩)
set_option maxHeartbeats 4000000 in
theorem k30d (d : Nat) (b : Hp) (vL vF : AV) (ls : List Ent) (fs : List Nat) (pL : IsR c3e 3 b vL ls) (pF : Lc false b vF ((fi fs).map I)) (hll : ls.length ≤ 1000) (hfl : fs.length ≤ 1000) (i : Nat) (g : Int) (hi : i < 4294967296) (hg : 0 ≤ g ∧ g < 4294967296) (hv : vld ls i g = false) : Wv (runA ctx 5000 (d + 2) 30 [.agg [vL, vF], .agg [U32 (i : Int), U32 g]] b) (fun r h' => r = .tup [.agg [vL, vF], I 11] ∧ Ext b h') := by
  have hg1 := hg.1
  have hg2 := hg.2
  have hmL : (ls.map c3e).length = ls.length := List.length_map _
  have one1 := pL.one.1
  have one2 := pL.one.2
  have one3 := pF.one
  have one4 := pF.cells
  have hav := isl_av pF.isL
  have hal : avB 4 vL vL = true := isr_av pL
  have hfi := fi_len fs
  have H := (((Hs.start b).z0 (z := isr c3e 3 vL ls) pL).z0 (z := lc false vF ((fi fs).map I)) pF).z0 (z := isl vF ((fi fs).map I)) pF.isL
  refine wv_run fn30 rfl ?_
  have a0 : (enterEnv [.agg [vL, vF], .agg [U32 (i : Int), U32 g]] Try.f30.ntmps).get 0 = some (.agg [vL, vF]) := enter_get1 _ _ _
  have a1 : (enterEnv [.agg [vL, vF], .agg [U32 (i : Int), U32 g]] Try.f30.ntmps).get 1 = some (.agg [U32 (i : Int), U32 g]) := enter_get2 _ _ _ _
  generalize enterEnv [.agg [vL, vF], .agg [U32 (i : Int), U32 g]] Try.f30.ntmps = e at a0 a1 ⊢
  unfold Try.f30
  dsimp only
  ((with_reducible apply wc_c (fun i => Nat.beq i 0 || Nat.beq i 1 || Nat.beq i 2 || Nat.beq i 3 || Nat.beq i 4 || Nat.beq i 5 || Nat.beq i 6 || Nat.beq i 7 || Nat.beq i 11 || Nat.beq i 26 || Nat.beq i 32)); intro e he; have w9 := he 0 rfl; (try simp only [a0] at w9); have v0 := w9; clear w9; have w9 := he 1 rfl; (try simp only [a1] at w9); have v1 := w9; clear w9; have w9 := he 2 rfl; (try simp only [T.get_put, Nat.reduceEqDiff, reduceIte] at w9); have v2 := w9; clear w9; have w9 := he 3 rfl; (try simp only [T.get_put, Nat.reduceEqDiff, reduceIte] at w9); have v3 := w9; clear w9; have w9 := he 4 rfl; (try simp only [T.get_put, Nat.reduceEqDiff, reduceIte] at w9); have v4 := w9; clear w9; have w9 := he 5 rfl; (try simp only [T.get_put, Nat.reduceEqDiff, reduceIte] at w9); have v5 := w9; clear w9; have w9 := he 6 rfl; (try simp only [T.get_put, Nat.reduceEqDiff, reduceIte] at w9); have v6 := w9; clear w9; have w9 := he 7 rfl; (try simp only [T.get_put, Nat.reduceEqDiff, reduceIte] at w9); have v7 := w9; clear w9; have w9 := he 11 rfl; (try simp only [T.get_put, Nat.reduceEqDiff, reduceIte] at w9); have v11 := w9; clear w9; have w9 := he 26 rfl; (try simp only [T.get_put, Nat.reduceEqDiff, reduceIte] at w9); have v26 := w9; clear w9; have w9 := he 32 rfl; (try simp only [T.get_put, Nat.reduceEqDiff, reduceIte] at w9); have v32 := w9; clear w9; clear he)
  repeat' (first
    | with_reducible apply wc_seq
    | ((with_reducible apply wc_region); (· (rfl)))
    | with_reducible apply wo_some
    | ((with_reducible apply wc_cond); (· (simp (disch := (first | assumption | omega)) only [ev, Option.some.injEq, v11] <;> rfl)); all_goals (intro hg; (try (try simp only [Bool.not_eq_true'] at hg)); first | (exfalso; exact Bool.noConfusion hg) | (exfalso; exact hg) | skip))
    | with_reducible apply wc_ret
    | with_reducible apply nx_r
    | (simp only [patch, List.take_zero, List.drop_succ_cons, List.drop_nil, List.nil_append, List.append_nil, List.length_cons, List.length_nil, Nat.zero_add, Nat.reduceAdd, cells_agg, cells_lagg, litCells_cons, litCells_nil] at H)
    | ((with_reducible apply nx_c (fun i => Nat.beq i 0 || Nat.beq i 1 || Nat.beq i 2 || Nat.beq i 3 || Nat.beq i 4 || Nat.beq i 5 || Nat.beq i 6 || Nat.beq i 7 || Nat.beq i 11 || Nat.beq i 26 || Nat.beq i 32)); intro e he; have w0 := he 0 rfl; have w1 := he 1 rfl; have w2 := he 2 rfl; have w3 := he 3 rfl; have w4 := he 4 rfl; have w5 := he 5 rfl; have w6 := he 6 rfl; have w7 := he 7 rfl; have w11 := he 11 rfl; have w26 := he 26 rfl; have w32 := he 32 rfl; (try simp only [T.get_put, Nat.reduceEqDiff, reduceIte, v0, v1, v2, v3, v4, v5, v6, v7, v11, v26, v32] at w0 w1 w2 w3 w4 w5 w6 w7 w11 w26 w32); clear he v0 v1 v2 v3 v4 v5 v6 v7 v11 v26 v32; have v0 := w0; have v1 := w1; have v2 := w2; have v3 := w3; have v4 := w4; have v5 := w5; have v6 := w6; have v7 := w7; have v11 := w11; have v26 := w26; have v32 := w32; clear w0 w1 w2 w3 w4 w5 w6 w7 w11 w26 w32)
    | ((with_reducible apply wo_eq); (· (simp (disch := (first | assumption | omega)) only [oUn_not, eq_self, opsA_cons, opsA_nil, wantedA, stepA_t, callA, calleeA, targetA, runOp_c, runOp_n, opA, ev, evs, consO, consOO, afterA_s, putA, T.get_put, Nat.reduceEqDiff, reduceIte, Bool.not_false, Bo, ty29, ti29, ty42, ti42, ty29, ti29, ty42, ti42, withH_s, List.take_succ_cons, List.take_zero, List.drop_zero, v0, v1, v2, v3, v4]; exact rfl)))
    | (((with_reducible apply wo_call); (· ((with_reducible apply k15); (· (exact H.pz (a := isr c3e 3 vL ls) (by (with_reducible repeat' first | exact mem_h _ _ | apply mem_t); done))); (· (exact H.pz (a := lc false vF ((fi fs).map I)) (by (with_reducible repeat' first | exact mem_h _ _ | apply mem_t); done))); (· (assumption)); (· (assumption)); (· (assumption)); (· (assumption)))); rintro _ h ⟨rfl, hx⟩; rw [hv]; replace H := H.ext hx; clear hx))
    | ((with_reducible apply wo_box H); clear H; intro n h H0n H)
    | ((with_reducible apply wo_alloc H); (· (rfl)); clear H; intro n h H0n H)
    | ((with_reducible apply wo_loadn H); (· ((with_reducible repeat' first | exact mem_h _ _ | apply mem_t); done)); (· (rfl)); (· (rfl)); (· (rfl)))
    | ((with_reducible apply wo_storen H); (· ((with_reducible repeat' first | exact Pick.here _ _ _ | apply Pick.there); done)); (· ((first | rfl | assumption | exact cells_one (H.pz (by (with_reducible repeat' first | exact mem_h _ _ | apply mem_t); done))))); (· ((first | rfl | (simp (disch := assumption) only [onesA_cons', onesA_nil, cells_agg, one_t, Bool.and_self]; done)))); (· (rfl)); (· ((first | exact Nat.le_of_ble_eq_true rfl | omega | (simp only [List.length_set, List.length_replicate, List.length_map, List.length_cons, List.length_nil]; omega) | (simp; done) | (simp; omega)))); clear H; intro h H)
    | ((first | with_reducible apply wv_ret | with_reducible apply wv_end); (· ((repeat' (first | with_reducible exact rs_nil | ((with_reducible apply rs_tmp); (· (simp (disch := (first | assumption | omega)) only [Option.some.injEq, v5] <;> rfl))) | ((with_reducible apply rs_cell); (· (simp (disch := (first | assumption | omega)) only [Option.some.injEq, v4] <;> rfl)); (· ((first | exact ty29 | exact ty29))); (· (rfl)); (· (exact H.ld1 (by (with_reducible repeat' first | exact mem_h _ _ | apply mem_t); done) rfl))) | ((with_reducible apply rs_celln); (· (simp (disch := (first | assumption | omega)) only [Option.some.injEq, v4] <;> rfl)); (· ((first | exact ty29 | exact ty29))); (· (rfl)); (· (exact H.ldn (by (with_reducible repeat' first | exact mem_h _ _ | apply mem_t); done) rfl rfl))))); done)))
    | simp (disch := (first | assumption | omega)) only [I, ti29, ti29, List.take_succ_cons, List.take_zero, List.drop_zero])

  all_goals try (exfalso; omega)
  all_goals (exact ⟨rfl, H.toExt⟩)


set_option maxHeartbeats 4000000 in
theorem k31a (d : Nat) (b : Hp) (vL vF : AV) (ls : List Ent) (fs : List Nat) (pL : IsR c3e 3 b vL ls) (pF : Lc false b vF ((fi fs).map I)) (hll : ls.length ≤ 1000) (hfl : fs.length ≤ 1000) (i : Nat) (g : Int) (hi : i < 4294967296) (hg : 0 ≤ g ∧ g < 4294967296) (x x0 : Int) (rr : List Nat) (hfs : fs = i :: rr) (hp : ls[i]? = some (g + 1, false, x0)) (hg0 : g ≠ 0) (hg4 : g + 1 < 4294967296) : Wv (runA ctx 5000 (d + 2) 31 [.agg [vL, vF], .agg [U32 (i : Int), U32 g], I x] b) (fun r h' => ∃ wL wF, r = .tup [.agg [wL, wF], I 0] ∧ RA b h' wL wF (ls.set i ((g, true, x) : Ent)) rr) := by
  have hg1 := hg.1
  have hg2 := hg.2
  have hmL : (ls.map c3e).length = ls.length := List.length_map _
  subst hfs
  have hil := (List.getElem?_eq_some_iff.1 hp).1
  have hn0 : (ls.map c3e).length = ls.length := hmL
  have hb0 : i < (ls.map c3e).length := by rw [hn0]; omega
  have hr0 : (ls.map c3e)[i]? = some [U32 (g + 1), Bo false, I x0] := map_at hp
  have hn1 : ((ls.map c3e).set i [U32 g, Bo true, I x]).length = ls.length := by rw [gl]; exact hn0
  have hb1 : i < ((ls.map c3e).set i [U32 g, Bo true, I x]).length := by rw [hn1]; omega
  have hr1 : ((ls.map c3e).set i [U32 g, Bo true, I x])[i]? = some [U32 g, Bo true, I x] := gs _ _ _ (by omega)
  have e9 : (ls.map c3e).set i [U32 g, Bo true, I x] = (ls.set i ((g, true, x) : Ent)).map c3e := by rw [← map_set']; rfl
  have one1 := pL.one.1
  have one2 := pL.one.2
  have one3 := pF.one
  have one4 := pF.cells
  have hav := isl_av pF.isL
  have hal : avB 4 vL vL = true := isr_av pL
  have hfi := fi_len (i :: rr)
  have H := (((Hs.start b).z0 (z := isr c3e 3 vL ls) pL).z0 (z := lc false vF ((fi (i :: rr)).map I)) pF).z0 (z := isl vF ((fi (i :: rr)).map I)) pF.isL
  have hd0 : ((fi (i :: rr)).map I).length = rr.length + 1 := fi_len _
  have hd1 : ((fi (i :: rr)).map I)[0]? = some (I (i : Int)) := rfl
  have hd2 : g + 1 - 1 = g := by omega
  refine wv_run fn31 rfl ?_
  have a0 : (enterEnv [.agg [vL, vF], .agg [U32 (i : Int), U32 g], I x] Try.f31.ntmps).get 0 = some (.agg [vL, vF]) := enter_get1 _ _ _
  have a1 : (enterEnv [.agg [vL, vF], .agg [U32 (i : Int), U32 g], I x] Try.f31.ntmps).get 1 = some (.agg [U32 (i : Int), U32 g]) := enter_get2 _ _ _ _
  have a2 : (enterEnv [.agg [vL, vF], .agg [U32 (i : Int), U32 g], I x] Try.f31.ntmps).get 2 = some (I x) := enter_get3 _ _ _ _ _
  generalize enterEnv [.agg [vL, vF], .agg [U32 (i : Int), U32 g], I x] Try.f31.ntmps = e at a0 a1 a2 ⊢
  unfold Try.f31
  dsimp only
  ((with_reducible apply wc_c (fun i => Nat.beq i 0 || Nat.beq i 1 || Nat.beq i 2 || Nat.beq i 3 || Nat.beq i 4 || Nat.beq i 6 || Nat.beq i 7 || Nat.beq i 8 || Nat.beq i 9 || Nat.beq i 43)); intro e he; have w9 := he 0 rfl; (try simp only [a0] at w9); have v0 := w9; clear w9; have w9 := he 1 rfl; (try simp only [a1] at w9); have v1 := w9; clear w9; have w9 := he 2 rfl; (try simp only [a2] at w9); have v2 := w9; clear w9; have w9 := he 3 rfl; (try simp only [T.get_put, Nat.reduceEqDiff, reduceIte] at w9); have v3 := w9; clear w9; have w9 := he 4 rfl; (try simp only [T.get_put, Nat.reduceEqDiff, reduceIte] at w9); have v4 := w9; clear w9; have w9 := he 6 rfl; (try simp only [T.get_put, Nat.reduceEqDiff, reduceIte] at w9); have v6 := w9; clear w9; have w9 := he 7 rfl; (try simp only [T.get_put, Nat.reduceEqDiff, reduceIte] at w9); have v7 := w9; clear w9; have w9 := he 8 rfl; (try simp only [T.get_put, Nat.reduceEqDiff, reduceIte] at w9); have v8 := w9; clear w9; have w9 := he 9 rfl; (try simp only [T.get_put, Nat.reduceEqDiff, reduceIte] at w9); have v9 := w9; clear w9; have w9 := he 43 rfl; (try simp only [T.get_put, Nat.reduceEqDiff, reduceIte] at w9); have v43 := w9; clear w9; clear he)
  repeat' (first
    | with_reducible apply wc_seq
    | ((with_reducible apply wc_region); (· (rfl)))
    | with_reducible apply wo_some
    | ((with_reducible apply wc_cond); (· (simp (disch := (first | assumption | omega)) only [ev, Option.some.injEq, v43] <;> rfl)); all_goals (intro hg; (try (try simp only [Bool.not_eq_true'] at hg)); first | (exfalso; exact Bool.noConfusion hg) | (exfalso; exact hg) | skip))
    | with_reducible apply wc_skip
    | with_reducible apply wc_ret
    | (simp only [patch, List.take_zero, List.drop_succ_cons, List.drop_nil, List.nil_append, List.append_nil, List.length_cons, List.length_nil, List.set_cons_zero, List.set_cons_succ, Nat.zero_add, Nat.reduceAdd, cells_agg, cells_lagg, litCells_cons, litCells_nil] at H)
    | ((with_reducible apply nx_c (fun i => Nat.beq i 0 || Nat.beq i 1 || Nat.beq i 2 || Nat.beq i 3 || Nat.beq i 4 || Nat.beq i 6 || Nat.beq i 7 || Nat.beq i 8 || Nat.beq i 9 || Nat.beq i 43)); intro e he; have w0 := he 0 rfl; have w1 := he 1 rfl; have w2 := he 2 rfl; have w3 := he 3 rfl; have w4 := he 4 rfl; have w6 := he 6 rfl; have w7 := he 7 rfl; have w8 := he 8 rfl; have w9 := he 9 rfl; have w43 := he 43 rfl; (try simp only [T.get_put, Nat.reduceEqDiff, reduceIte, v0, v1, v2, v3, v4, v6, v7, v8, v9, v43] at w0 w1 w2 w3 w4 w6 w7 w8 w9 w43); clear he v0 v1 v2 v3 v4 v6 v7 v8 v9 v43; have v0 := w0; have v1 := w1; have v2 := w2; have v3 := w3; have v4 := w4; have v6 := w6; have v7 := w7; have v8 := w8; have v9 := w9; have v43 := w43; clear w0 w1 w2 w3 w4 w6 w7 w8 w9 w43)
    | ((with_reducible apply wo_eq); (· (simp (disch := (first | assumption | omega)) only [beq_self_eq_true, eq_self, opsA_cons, opsA_nil, wantedA, guardA, yieldA, stepA_t, callA, calleeA, targetA, runOp_c, runOp_n, opA, ev, evs, evo, consO, consOO, pickA, afterA_s, putA, T.get_put, Nat.reduceEqDiff, reduceIte, List.getElem?_toArray, List.getElem?_cons_zero, List.getElem?_cons_succ, oBuiltin, oBin, binA, binG, binL, aggO, litA, oIndexAddr, cond_true, Bool.not_true, decide_true, blt_eq, I, Bo, fieldAddrA, oFieldAddr, Nat.zero_add, Nat.add_zero, Nat.reduceLT, ty3, ti3, ty26, ti26, ty27, ti27, ty29, ti29, ty40, ti40, ty42, ti42, ty46, ti46, ty3, ti3, ty26, ti26, ty27, ti27, ty29, ti29, ty40, ti40, ty42, ti42, ty46, ti46, ii_eql, List.getElem_toArray, List.getElem_cons_zero, List.getElem_cons_succ, withH_s, oBuild, oSlice, evParts, consP, oConv, dec_t, dec_f, id_eq, List.take_succ_cons, List.take_zero, List.drop_zero, putAt_z, putAt_s, over_nil, over_cons, litCells_cons, litCells_nil, cells_int, cells_bool, cells_lagg, Nat.zero_add, Nat.add_zero, v0, v1, v2, v3, v4, v6, v8, v9, conv40, uu_eql, uu_neq, uu_sub, wrap_u32k, hd0, hd2]; exact rfl)))
    | (((with_reducible apply wo_call); (· ((with_reducible apply k13); (· (exact H.pz (a := isr c3e 3 vL ls) (by (with_reducible repeat' first | exact mem_h _ _ | apply mem_t); done))); (· (exact H.pz (a := lc false vF ((fi (i :: rr)).map I)) (by (with_reducible repeat' first | exact mem_h _ _ | apply mem_t); done))); (· (assumption)); (· (assumption)))); rintro _ h ⟨wL, wF, rfl, hL, hF, hx, f1, f2⟩; have fw := fun m hm => Nat.le_trans H.fr.c (f2 m hm).1; have oL := hL.one; have cL := hL.cells; have oF := hF.one; have cF := hF.cells; have hau := owr_av hL; replace H := H.cpy hx (x := owr 46 3 wL _) (z := lc false wF _) hL hF (fun n hn => f1 n (nmO_mem.1 hn)) (fun n hn => (f2 n (nmO_mem.1 hn)).1) (fun n hn h9 => (f2 n (nmO_mem.1 hn)).2 (nmO_mem.1 h9)); replace H := H.zsub (z := lc false wF _) (z' := isl wF _) (.head _) hF.isL (fun n hn => hn); clear hx f1 f2 hL hF))
    | (((with_reducible apply wo_riaL H); (· ((first | exact ty26 | exact ty27 | exact ty26 | exact ty27))); (· (rfl)); (· ((first | exact ty3 | exact ty46 | exact ty3 | exact ty46))); (· ((with_reducible repeat' first | exact mem_h _ _ | apply mem_t); done)); (· (rfl)); (· ((first | rfl | assumption | omega))); (· ((first | assumption | omega))); intro w9 hw9))
    | (((with_reducible apply wo_rstn H); (· ((with_reducible repeat' first | exact Pick.here _ _ _ | apply Pick.there); done)); (· (assumption)); (· (rfl)); (· ((first | assumption | omega))); (· (rfl)); (· ((first | rfl | (simp only [onesA_cons', onesA_nil, oneA, Value.oneCell', Bool.and_true, Bool.and_self]; done)))); (· (rfl)); (· (rfl)); clear H; intro h H; (try simp only [List.set_cons_zero, List.set_cons_succ] at H)))
    | (((with_reducible apply wo_sl1 H); (· ((with_reducible repeat' first | exact mem_h _ _ | apply mem_t); done)); (· ((first | exact ty27 | exact ty27))); (· (rfl)); (· ((first | exact ty3 | exact ty3))); (· (rfl)); (· ((first | assumption | omega))); clear H; intro w8 hw8l hw8 H; have ow := hw8l.one; have cw := hw8l.cells))
    | (((with_reducible apply wo_ia (j := 0) H); (· ((with_reducible repeat' first | exact mem_h _ _ | apply mem_t); done)); (· ((first | exact ty27 | exact ty27))); (· (rfl)); (· ((first | exact ty3 | exact ty3))); (· (rfl)); (· (rfl)); (· (assumption)); clear H; intro n o H))
    | ((first | ((with_reducible apply wo_cls (C := ctx) (j := 0) H); (· ((with_reducible repeat' first | exact mem_h _ _ | apply mem_t); done)); (· (rfl)); (· (rfl)); (· (rfl))) | ((with_reducible apply wo_cls (C := ctx) (j := 1) H); (· ((with_reducible repeat' first | exact mem_h _ _ | apply mem_t); done)); (· (rfl)); (· (rfl)); (· (rfl))) | ((with_reducible apply wo_cls (C := ctx) (j := 2) H); (· ((with_reducible repeat' first | exact mem_h _ _ | apply mem_t); done)); (· (rfl)); (· (rfl)); (· (rfl)))))
    | ((with_reducible apply wo_box H); clear H; intro n h H0n H)
    | ((with_reducible apply wo_alloc H); (· (rfl)); clear H; intro n h H0n H)
    | ((with_reducible apply wo_load1 H); (· ((with_reducible repeat' first | exact mem_h _ _ | apply mem_t); done)); (· (rfl)); (· ((first | rfl | assumption))))
    | ((with_reducible apply wo_loadc H); (· ((with_reducible repeat' first | exact mem_h _ _ | apply mem_t); done)); (· (rfl)))
    | ((with_reducible apply wo_loadn H); (· ((with_reducible repeat' first | exact mem_h _ _ | apply mem_t); done)); (· (rfl)); (· (rfl)); (· (rfl)))
    | ((with_reducible apply wo_store1 H); (· ((with_reducible repeat' first | exact Pick.here _ _ _ | apply Pick.there); done)); (· ((first | rfl | assumption))); (· ((first | rfl | assumption | exact cells_one (H.pz (by (with_reducible repeat' first | exact mem_h _ _ | apply mem_t); done))))); (· ((first | rfl | assumption))); (· (rfl)); (· ((first | exact Nat.le_of_ble_eq_true rfl | omega | (simp only [List.length_set, List.length_replicate, List.length_map, List.length_cons, List.length_nil]; omega) | (simp; done) | (simp; omega)))); clear H; intro h H)
    | ((with_reducible apply wo_storen H); (· ((with_reducible repeat' first | exact Pick.here _ _ _ | apply Pick.there); done)); (· ((first | rfl | assumption | exact cells_one (H.pz (by (with_reducible repeat' first | exact mem_h _ _ | apply mem_t); done))))); (· ((first | rfl | (simp (disch := assumption) only [onesA_cons', onesA_nil, cells_agg, one_t, Bool.and_self]; done)))); (· (rfl)); (· ((first | exact Nat.le_of_ble_eq_true rfl | omega | (simp only [List.length_set, List.length_replicate, List.length_map, List.length_cons, List.length_nil]; omega) | (simp; done) | (simp; omega)))); clear H; intro h H)
    | ((with_reducible apply wo_len H); (· ((with_reducible repeat' first | exact mem_h _ _ | apply mem_t); done)); (· ((first | exact ty27 | exact ty27))); (· (rfl)))
    | ((with_reducible apply wo_iar H); (· ((with_reducible repeat' first | exact mem_h _ _ | apply mem_t); done)); (· ((first | exact ty26 | exact ty26))); (· (rfl)); (· ((first | exact ty46 | exact ty46))); (· (rfl)); (· (rfl)); (· (rfl)); (· (assumption)); intro n o H)
    | ((with_reducible apply wo_build); (· ((first | exact ty46 | exact ty46))); (· (rfl)); (· ((first | rfl | (simp only [fillA_nil, fillA_cons, repl_z, repl_s, cells_int, cells_bool, cells_str, cells_float, cells_np, cells_nil, cells_nf, cells_ptr, cells_slice, cells_fn, cells_agg, cells_lagg, v0, v1, v2, v3, v4, v6, v7, v8, v9, v43, conv40, conv3, conv2, uu_eql, uu_neq, uu_gtr, uu_lss, uu_add, uu_sub, wrap_u32k, rws_len, one1, one2, one3, one4, hmL, hd0, hd2]; rfl)))))
    | ((first | with_reducible apply wv_ret | with_reducible apply wv_end); (· ((repeat' (first | with_reducible exact rs_nil | ((with_reducible apply rs_tmp); (· (simp (disch := (first | assumption | omega)) only [Option.some.injEq, v7] <;> rfl))) | ((with_reducible apply rs_cell); (· (simp (disch := (first | assumption | omega)) only [Option.some.injEq, v6] <;> rfl)); (· ((first | exact ty29 | exact ty29))); (· (rfl)); (· (exact H.ld1 (by (with_reducible repeat' first | exact mem_h _ _ | apply mem_t); done) rfl))) | ((with_reducible apply rs_celln); (· (simp (disch := (first | assumption | omega)) only [Option.some.injEq, v6] <;> rfl)); (· ((first | exact ty29 | exact ty29))); (· (rfl)); (· (exact H.ldn (by (with_reducible repeat' first | exact mem_h _ _ | apply mem_t); done) rfl rfl))))); done)))
    | simp (disch := (first | assumption | omega)) only [I, ti29, ti29, List.take_succ_cons, List.take_zero, List.drop_zero])

  all_goals try (exfalso; omega)
  all_goals (rw [e9] at H; exact ⟨_, _, rfl, (H.p (a := owr 46 3 wL ((ls.set i ((g, true, x) : Ent)).map c3e)) (by (with_reducible repeat' first | exact mem_h _ _ | apply mem_t); done)).isR (fun _ _ => rfl), H.pz (a := lc false w8 (List.drop 1 ((fi (i :: rr)).map I))) (by (with_reducible repeat' first | exact mem_h _ _ | apply mem_t); done), H.toExt, fun m hm => ((H.own (owr 46 3 wL ((ls.set i ((g, true, x) : Ent)).map c3e)) (by (with_reducible repeat' first | exact mem_h _ _ | apply mem_t); done)).2 m (nmO_mem.2 hm)).elim id (fun h => by cases h), fun m hm => fw m (hw8 ▸ hm)⟩)
set_option maxHeartbeats 4000000 in
theorem k31b (d : Nat) (b : Hp) (vL vF : AV) (ls : List Ent) (fs : List Nat) (pL : IsR c3e 3 b vL ls) (pF : Lc false b vF ((fi fs).map I)) (hll : ls.length ≤ 1000) (hfl : fs.length ≤ 1000) (i : Nat) (g : Int) (hi : i < 4294967296) (hg : 0 ≤ g ∧ g < 4294967296) (x : Int) (K : Nat) (hK : K ≤ 1000) (v : Inv K ls fs) (hno : ∀ x0 rr, fs = i :: rr → ls[i]? = some (g + 1, false, x0) → g = 0) : Wv (runA ctx 5000 (d + 2) 31 [.agg [vL, vF], .agg [U32 (i : Int), U32 g], I x] b) (fun r h' => r = .tup [.agg [vL, vF], I 10] ∧ Ext b h') := by
  have hg1 := hg.1
  have hg2 := hg.2
  cases fs with
  | nil =>
    have one1 := pL.one.1
    have one2 := pL.one.2
    have one3 := pF.one
    have one4 := pF.cells
    have hav := isl_av pF.isL
    have hal : avB 4 vL vL = true := isr_av pL
    have hfi := fi_len ([] : List Nat)
    have H := (((Hs.start b).z0 (z := isr c3e 3 vL ls) pL).z0 (z := lc false vF ((fi ([] : List Nat)).map I)) pF).z0 (z := isl vF ((fi ([] : List Nat)).map I)) pF.isL
    have hd0 : ((fi ([] : List Nat)).map I).length = 0 := rfl
    refine wv_run fn31 rfl ?_
    have a0 : (enterEnv [.agg [vL, vF], .agg [U32 (i : Int), U32 g], I x] Try.f31.ntmps).get 0 = some (.agg [vL, vF]) := enter_get1 _ _ _
    have a1 : (enterEnv [.agg [vL, vF], .agg [U32 (i : Int), U32 g], I x] Try.f31.ntmps).get 1 = some (.agg [U32 (i : Int), U32 g]) := enter_get2 _ _ _ _
    have a2 : (enterEnv [.agg [vL, vF], .agg [U32 (i : Int), U32 g], I x] Try.f31.ntmps).get 2 = some (I x) := enter_get3 _ _ _ _ _
    generalize enterEnv [.agg [vL, vF], .agg [U32 (i : Int), U32 g], I x] Try.f31.ntmps = e at a0 a1 a2 ⊢
    unfold Try.f31
    dsimp only
    ((with_reducible apply wc_c (fun i => Nat.beq i 0 || Nat.beq i 1 || Nat.beq i 2 || Nat.beq i 3 || Nat.beq i 4 || Nat.beq i 6 || Nat.beq i 7 || Nat.beq i 8 || Nat.beq i 9 || Nat.beq i 43)); intro e he; have w9 := he 0 rfl; (try simp only [a0] at w9); have v0 := w9; clear w9; have w9 := he 1 rfl; (try simp only [a1] at w9); have v1 := w9; clear w9; have w9 := he 2 rfl; (try simp only [a2] at w9); have v2 := w9; clear w9; have w9 := he 3 rfl; (try simp only [T.get_put, Nat.reduceEqDiff, reduceIte] at w9); have v3 := w9; clear w9; have w9 := he 4 rfl; (try simp only [T.get_put, Nat.reduceEqDiff, reduceIte] at w9); have v4 := w9; clear w9; have w9 := he 6 rfl; (try simp only [T.get_put, Nat.reduceEqDiff, reduceIte] at w9); have v6 := w9; clear w9; have w9 := he 7 rfl; (try simp only [T.get_put, Nat.reduceEqDiff, reduceIte] at w9); have v7 := w9; clear w9; have w9 := he 8 rfl; (try simp only [T.get_put, Nat.reduceEqDiff, reduceIte] at w9); have v8 := w9; clear w9; have w9 := he 9 rfl; (try simp only [T.get_put, Nat.reduceEqDiff, reduceIte] at w9); have v9 := w9; clear w9; have w9 := he 43 rfl; (try simp only [T.get_put, Nat.reduceEqDiff, reduceIte] at w9); have v43 := w9; clear w9; clear he)
    repeat' (first
      | with_reducible apply wc_seq
      | ((with_reducible apply wc_region); (· (rfl)))
      | with_reducible apply wo_some
      | ((with_reducible apply wc_cond); (· (simp (disch := (first | assumption | omega)) only [ev, Option.some.injEq, v43] <;> rfl)); all_goals (intro hg; (try (try simp only [Bool.not_eq_true'] at hg)); first | (exfalso; exact Bool.noConfusion hg) | (exfalso; exact hg) | skip))
      | with_reducible apply wc_ret
      | with_reducible apply nx_r
      | (simp only [patch, List.take_zero, List.drop_succ_cons, List.drop_nil, List.nil_append, List.append_nil, List.length_cons, List.length_nil, Nat.zero_add, Nat.reduceAdd, cells_agg, cells_lagg, litCells_cons, litCells_nil] at H)
      | ((with_reducible apply nx_c (fun i => Nat.beq i 0 || Nat.beq i 1 || Nat.beq i 2 || Nat.beq i 3 || Nat.beq i 4 || Nat.beq i 6 || Nat.beq i 7 || Nat.beq i 8 || Nat.beq i 9 || Nat.beq i 43)); intro e he; have w0 := he 0 rfl; have w1 := he 1 rfl; have w2 := he 2 rfl; have w3 := he 3 rfl; have w4 := he 4 rfl; have w6 := he 6 rfl; have w7 := he 7 rfl; have w8 := he 8 rfl; have w9 := he 9 rfl; have w43 := he 43 rfl; (try simp only [T.get_put, Nat.reduceEqDiff, reduceIte, v0, v1, v2, v3, v4, v6, v7, v8, v9, v43] at w0 w1 w2 w3 w4 w6 w7 w8 w9 w43); clear he v0 v1 v2 v3 v4 v6 v7 v8 v9 v43; have v0 := w0; have v1 := w1; have v2 := w2; have v3 := w3; have v4 := w4; have v6 := w6; have v7 := w7; have v8 := w8; have v9 := w9; have v43 := w43; clear w0 w1 w2 w3 w4 w6 w7 w8 w9 w43)
      | ((with_reducible apply wo_eq); (· (simp (disch := (first | assumption | omega)) only [eq_self, opsA_cons, opsA_nil, wantedA, guardA, yieldA, stepA_t, stepA_f, callA, calleeA, runOp_n, opA, ev, evs, consO, consOO, pickA, afterA_s, putA, T.get_put, Nat.reduceEqDiff, reduceIte, List.getElem?_toArray, List.getElem?_cons_zero, List.getElem?_cons_succ, oBuiltin, oBin, binA, binG, binL, aggO, litA, cond_true, decide_true, blt_eq, tf_beq, I, Bo, fieldAddrA, oFieldAddr, Nat.zero_add, Nat.reduceLT, ty27, ti27, ty29, ti29, ty27, ti27, ty29, ti29, ii_eql, withH_s, dec_t, id_eq, List.take_succ_cons, List.take_zero, List.drop_zero, Nat.zero_add, v0, v1, v3, v6, hd0]; exact rfl)))
      | ((with_reducible apply wo_box H); clear H; intro n h H0n H)
      | ((with_reducible apply wo_alloc H); (· (rfl)); clear H; intro n h H0n H)
      | ((with_reducible apply wo_load1 H); (· ((with_reducible repeat' first | exact mem_h _ _ | apply mem_t); done)); (· (rfl)); (· ((first | rfl | assumption))))
      | ((with_reducible apply wo_loadn H); (· ((with_reducible repeat' first | exact mem_h _ _ | apply mem_t); done)); (· (rfl)); (· (rfl)); (· (rfl)))
      | ((with_reducible apply wo_storen H); (· ((with_reducible repeat' first | exact Pick.here _ _ _ | apply Pick.there); done)); (· ((first | rfl | assumption | exact cells_one (H.pz (by (with_reducible repeat' first | exact mem_h _ _ | apply mem_t); done))))); (· ((first | rfl | (simp (disch := assumption) only [onesA_cons', onesA_nil, cells_agg, one_t, Bool.and_self]; done)))); (· (rfl)); (· ((first | exact Nat.le_of_ble_eq_true rfl | omega | (simp only [List.length_set, List.length_replicate, List.length_map, List.length_cons, List.length_nil]; omega) | (simp; done) | (simp; omega)))); clear H; intro h H)
      | ((with_reducible apply wo_len H); (· ((with_reducible repeat' first | exact mem_h _ _ | apply mem_t); done)); (· ((first | exact ty27 | exact ty27))); (· (rfl)))
      | ((first | with_reducible apply wv_ret | with_reducible apply wv_end); (· ((repeat' (first | with_reducible exact rs_nil | ((with_reducible apply rs_tmp); (· (simp (disch := (first | assumption | omega)) only [Option.some.injEq, v7] <;> rfl))) | ((with_reducible apply rs_cell); (· (simp (disch := (first | assumption | omega)) only [Option.some.injEq, v6] <;> rfl)); (· ((first | exact ty29 | exact ty29))); (· (rfl)); (· (exact H.ld1 (by (with_reducible repeat' first | exact mem_h _ _ | apply mem_t); done) rfl))) | ((with_reducible apply rs_celln); (· (simp (disch := (first | assumption | omega)) only [Option.some.injEq, v6] <;> rfl)); (· ((first | exact ty29 | exact ty29))); (· (rfl)); (· (exact H.ldn (by (with_reducible repeat' first | exact mem_h _ _ | apply mem_t); done) rfl rfl))))); done)))
      | simp (disch := (first | assumption | omega)) only [I, ti29, ti29, List.take_succ_cons, List.take_zero, List.drop_zero])

    all_goals first | (exfalso; omega) | exact ⟨rfl, H.toExt⟩
  | cons f rr =>
    obtain ⟨g', x0, hp⟩ := (v.fsI f).1 (.head _)
    have hgn := v.gen f _ hp
    simp only at hgn
    have hil := (List.getElem?_eq_some_iff.1 hp).1
    have hcase : f ≠ i ∨ (f = i ∧ g = 0) ∨ (f = i ∧ g ≠ 0 ∧ g' - 1 ≠ g) := by
      by_cases h1 : f = i
      · by_cases h2 : g = 0
        · exact .inr (.inl ⟨h1, h2⟩)
        · refine .inr (.inr ⟨h1, h2, fun h3 => h2 ?_⟩)
          subst h1
          exact hno x0 rr rfl (by rw [show g + 1 = g' by omega]; exact hp)
      · exact .inl h1
    clear hno
    have one1 := pL.one.1
    have one2 := pL.one.2
    have one3 := pF.one
    have one4 := pF.cells
    have hav := isl_av pF.isL
    have hal : avB 4 vL vL = true := isr_av pL
    have hfi := fi_len (f :: rr)
    have H := (((Hs.start b).z0 (z := isr c3e 3 vL ls) pL).z0 (z := lc false vF ((fi (f :: rr)).map I)) pF).z0 (z := isl vF ((fi (f :: rr)).map I)) pF.isL
    have hd0 : ((fi (f :: rr)).map I).length = rr.length + 1 := fi_len _
    have hd1 : ((fi (f :: rr)).map I)[0]? = some (I (f : Int)) := rfl
    refine wv_run fn31 rfl ?_
    have a0 : (enterEnv [.agg [vL, vF], .agg [U32 (i : Int), U32 g], I x] Try.f31.ntmps).get 0 = some (.agg [vL, vF]) := enter_get1 _ _ _
    have a1 : (enterEnv [.agg [vL, vF], .agg [U32 (i : Int), U32 g], I x] Try.f31.ntmps).get 1 = some (.agg [U32 (i : Int), U32 g]) := enter_get2 _ _ _ _
    have a2 : (enterEnv [.agg [vL, vF], .agg [U32 (i : Int), U32 g], I x] Try.f31.ntmps).get 2 = some (I x) := enter_get3 _ _ _ _ _
    generalize enterEnv [.agg [vL, vF], .agg [U32 (i : Int), U32 g], I x] Try.f31.ntmps = e at a0 a1 a2 ⊢
    unfold Try.f31
    dsimp only
    ((with_reducible apply wc_c (fun i => Nat.beq i 0 || Nat.beq i 1 || Nat.beq i 2 || Nat.beq i 3 || Nat.beq i 4 || Nat.beq i 6 || Nat.beq i 7 || Nat.beq i 8 || Nat.beq i 9 || Nat.beq i 43)); intro e he; have w9 := he 0 rfl; (try simp only [a0] at w9); have v0 := w9; clear w9; have w9 := he 1 rfl; (try simp only [a1] at w9); have v1 := w9; clear w9; have w9 := he 2 rfl; (try simp only [a2] at w9); have v2 := w9; clear w9; have w9 := he 3 rfl; (try simp only [T.get_put, Nat.reduceEqDiff, reduceIte] at w9); have v3 := w9; clear w9; have w9 := he 4 rfl; (try simp only [T.get_put, Nat.reduceEqDiff, reduceIte] at w9); have v4 := w9; clear w9; have w9 := he 6 rfl; (try simp only [T.get_put, Nat.reduceEqDiff, reduceIte] at w9); have v6 := w9; clear w9; have w9 := he 7 rfl; (try simp only [T.get_put, Nat.reduceEqDiff, reduceIte] at w9); have v7 := w9; clear w9; have w9 := he 8 rfl; (try simp only [T.get_put, Nat.reduceEqDiff, reduceIte] at w9); have v8 := w9; clear w9; have w9 := he 9 rfl; (try simp only [T.get_put, Nat.reduceEqDiff, reduceIte] at w9); have v9 := w9; clear w9; have w9 := he 43 rfl; (try simp only [T.get_put, Nat.reduceEqDiff, reduceIte] at w9); have v43 := w9; clear w9; clear he)
    rcases hcase with h1 | ⟨h1, h2⟩ | ⟨h1, h2, h3⟩
    all_goals have h1n : ¬ ((f : Int) = (i : Int)) ∨ f = i := by omega
    all_goals
      repeat' (first
        | with_reducible apply wc_seq
        | ((with_reducible apply wc_region); (· (rfl)))
        | with_reducible apply wo_some
        | ((with_reducible apply wc_cond); (· (simp (disch := (first | assumption | omega)) only [ev, Option.some.injEq, v43] <;> rfl)); all_goals (intro hg; (try (try simp only [Bool.not_eq_true'] at hg)); first | (exfalso; exact Bool.noConfusion hg) | (exfalso; exact hg) | skip))
        | with_reducible apply wc_ret
        | with_reducible apply nx_r
        | (simp only [patch, List.take_zero, List.drop_succ_cons, List.drop_nil, List.nil_append, List.append_nil, List.length_cons, List.length_nil, Nat.zero_add, Nat.reduceAdd, cells_agg, cells_lagg, litCells_cons, litCells_nil] at H)
        | ((with_reducible apply nx_c (fun i => Nat.beq i 0 || Nat.beq i 1 || Nat.beq i 2 || Nat.beq i 3 || Nat.beq i 4 || Nat.beq i 6 || Nat.beq i 7 || Nat.beq i 8 || Nat.beq i 9 || Nat.beq i 43)); intro e he; have w0 := he 0 rfl; have w1 := he 1 rfl; have w2 := he 2 rfl; have w3 := he 3 rfl; have w4 := he 4 rfl; have w6 := he 6 rfl; have w7 := he 7 rfl; have w8 := he 8 rfl; have w9 := he 9 rfl; have w43 := he 43 rfl; (try simp only [T.get_put, Nat.reduceEqDiff, reduceIte, v0, v1, v2, v3, v4, v6, v7, v8, v9, v43] at w0 w1 w2 w3 w4 w6 w7 w8 w9 w43); clear he v0 v1 v2 v3 v4 v6 v7 v8 v9 v43; have v0 := w0; have v1 := w1; have v2 := w2; have v3 := w3; have v4 := w4; have v6 := w6; have v7 := w7; have v8 := w8; have v9 := w9; have v43 := w43; clear w0 w1 w2 w3 w4 w6 w7 w8 w9 w43)
        | ((with_reducible apply wo_eq); (· (simp (disch := (first | assumption | omega)) only [beq_self_eq_true, eq_self, opsA_cons, opsA_nil, wantedA, guardA, yieldA, stepA_t, stepA_f, callA, calleeA, runOp_n, opA, ev, evs, consO, consOO, pickA, afterA_s, putA, T.get_put, Nat.reduceEqDiff, reduceIte, List.getElem?_toArray, List.getElem?_cons_zero, List.getElem?_cons_succ, oBuiltin, oBin, binA, binG, binL, aggO, litA, oIndexAddr, cond_true, Bool.not_true, Bool.not_false, decide_true, blt_eq, tf_beq, I, Bo, fieldAddrA, oFieldAddr, Nat.zero_add, Nat.add_zero, Nat.reduceLT, ty3, ti3, ty26, ti26, ty27, ti27, ty29, ti29, ty40, ti40, ty42, ti42, ty46, ti46, ty3, ti3, ty26, ti26, ty27, ti27, ty29, ti29, ty40, ti40, ty42, ti42, ty46, ti46, ii_eql, withH_s, oConv, dec_t, dec_f, id_eq, List.take_succ_cons, List.take_zero, List.drop_zero, Nat.zero_add, Nat.add_zero, v0, v1, v3, v4, v6, conv40, uu_eql, uu_neq, uu_sub, wrap_u32k, hd0]; exact rfl)))
        | (((with_reducible apply wo_ia (j := 0) H); (· ((with_reducible repeat' first | exact mem_h _ _ | apply mem_t); done)); (· ((first | exact ty27 | exact ty27))); (· (rfl)); (· ((first | exact ty3 | exact ty3))); (· (rfl)); (· (rfl)); (· (assumption)); clear H; intro n o H))
        | ((first | ((with_reducible apply wo_cls (C := ctx) (j := 0) H); (· ((with_reducible repeat' first | exact mem_h _ _ | apply mem_t); done)); (· (rfl)); (· (rfl)); (· (rfl))) | ((with_reducible apply wo_cls (C := ctx) (j := 1) H); (· ((with_reducible repeat' first | exact mem_h _ _ | apply mem_t); done)); (· (rfl)); (· (rfl)); (· (rfl))) | ((with_reducible apply wo_cls (C := ctx) (j := 2) H); (· ((with_reducible repeat' first | exact mem_h _ _ | apply mem_t); done)); (· (rfl)); (· (rfl)); (· (rfl)))))
        | ((with_reducible apply wo_box H); clear H; intro n h H0n H)
        | ((with_reducible apply wo_alloc H); (· (rfl)); clear H; intro n h H0n H)
        | ((with_reducible apply wo_load1 H); (· ((with_reducible repeat' first | exact mem_h _ _ | apply mem_t); done)); (· (rfl)); (· ((first | rfl | assumption))))
        | ((with_reducible apply wo_loadc H); (· ((with_reducible repeat' first | exact mem_h _ _ | apply mem_t); done)); (· (rfl)))
        | ((with_reducible apply wo_loadn H); (· ((with_reducible repeat' first | exact mem_h _ _ | apply mem_t); done)); (· (rfl)); (· (rfl)); (· (rfl)))
        | ((with_reducible apply wo_storen H); (· ((with_reducible repeat' first | exact Pick.here _ _ _ | apply Pick.there); done)); (· ((first | rfl | assumption | exact cells_one (H.pz (by (with_reducible repeat' first | exact mem_h _ _ | apply mem_t); done))))); (· ((first | rfl | (simp (disch := assumption) only [onesA_cons', onesA_nil, cells_agg, one_t, Bool.and_self]; done)))); (· (rfl)); (· ((first | exact Nat.le_of_ble_eq_true rfl | omega | (simp only [List.length_set, List.length_replicate, List.length_map, List.length_cons, List.length_nil]; omega) | (simp; done) | (simp; omega)))); clear H; intro h H)
        | ((with_reducible apply wo_len H); (· ((with_reducible repeat' first | exact mem_h _ _ | apply mem_t); done)); (· ((first | exact ty27 | exact ty27))); (· (rfl)))
        | ((with_reducible apply wo_iar H); (· ((with_reducible repeat' first | exact mem_h _ _ | apply mem_t); done)); (· ((first | exact ty26 | exact ty26))); (· (rfl)); (· ((first | exact ty46 | exact ty46))); (· (rfl)); (· (rfl)); (· (rfl)); (· (assumption)); intro n o H)
        | ((first | with_reducible apply wv_ret | with_reducible apply wv_end); (· ((repeat' (first | with_reducible exact rs_nil | ((with_reducible apply rs_tmp); (· (simp (disch := (first | assumption | omega)) only [Option.some.injEq, v7] <;> rfl))) | ((with_reducible apply rs_cell); (· (simp (disch := (first | assumption | omega)) only [Option.some.injEq, v6] <;> rfl)); (· ((first | exact ty29 | exact ty29))); (· (rfl)); (· (exact H.ld1 (by (with_reducible repeat' first | exact mem_h _ _ | apply mem_t); done) rfl))) | ((with_reducible apply rs_celln); (· (simp (disch := (first | assumption | omega)) only [Option.some.injEq, v6] <;> rfl)); (· ((first | exact ty29 | exact ty29))); (· (rfl)); (· (exact H.ldn (by (with_reducible repeat' first | exact mem_h _ _ | apply mem_t); done) rfl rfl))))); done)))
        | simp (disch := (first | assumption | omega)) only [I, ti29, ti29, List.take_succ_cons, List.take_zero, List.drop_zero])

    all_goals first | (exfalso; omega) | exact ⟨rfl, H.toExt⟩


end Go.Proofs.Ytolpndlnabodgaa
