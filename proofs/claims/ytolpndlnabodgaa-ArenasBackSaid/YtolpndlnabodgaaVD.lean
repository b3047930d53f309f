import Derived.Test.YtolpndlnabodgaaVC
import Derived.KernelRfl
namespace Go.Proofs.Ytolpndlnabodgaa
open Go Go.Proofs Go.RowKit Go.Proofs.Abs
set_option linter.unusedSimpArgs false
set_option linter.unusedVariables false
theorem nx_drop : ∀ {fs : List Nat} {k f : Nat}, fs.Nodup → fs[k]? = some f → nx fs f = nxt (fs.drop (k + 1)) := by
  intro fs
  induction fs with
  | nil => intro k f _ h; cases h
  | cons a r ih =>
    intro k f hd h
    obtain ⟨h1, h2⟩ := List.nodup_cons.1 hd
    cases k with
    | zero =>
      rw [List.getElem?_cons_zero] at h
      cases h
      rw [nx_hd]
      rfl
    | succ k =>
      rw [List.getElem?_cons_succ] at h
      have hne : f ≠ a := fun e => h1 (e ▸ List.mem_of_getElem? h)
      rw [nx_ne hne, ih h2 h]
      rfl
theorem nxt_at {fs : List Nat} {k f : Nat} (h : fs[k]? = some f) : nxt (fs.drop k) = (f : Int) + 1 := by
  obtain ⟨hk, he⟩ := List.getElem?_eq_some_iff.1 h
  rw [List.drop_eq_getElem_cons hk, he]
  rfl
theorem nxt_end {fs : List Nat} {k : Nat} (h : fs.length ≤ k) : nxt (fs.drop k) = 0 := by rw [List.drop_of_length_le h]; rfl
def genOf (ls : List Ent) (f : Nat) : Int := match ls[f]? with | some p => p.1 | none => 0
theorem genOf_at {ls : List Ent} {f : Nat} {p : Ent} (h : ls[f]? = some p) : genOf ls f = p.1 := by unfold genOf; rw [h]
/-- the handles that free slots will have -/
def wtg (ls : List Ent) (fs : List Nat) : List (Int × Int) := fs.map fun f : Nat => (((f : Nat) : Int), genOf ls f)
theorem nodup_bound : ∀ (n : Nat) (fs : List Nat), fs.Nodup → (∀ f ∈ fs, f < n) → fs.length ≤ n := by
  intro n
  induction n with
  | zero =>
    intro fs _ h
    cases fs with
    | nil => exact Nat.le_refl _
    | cons a r => exact absurd (h a (.head _)) (Nat.not_lt_zero _)
  | succ n ih =>
    intro fs hd h
    have h1 := ih (fs.erase n) (hd.erase n) (fun f hf => by
      have h2 := h f (List.mem_of_mem_erase hf)
      have h3 : f ≠ n := fun e => by
        subst e
        exact (List.Nodup.not_mem_erase hd) hf
      omega)
    have := List.length_erase_le (a := n) (l := fs)
    have h4 : fs.length ≤ (fs.erase n).length + 1 := by
      rw [List.length_erase]
      split <;> omega
    omega
set_option maxHeartbeats 4000000 in
theorem k45 (d : Nat) (b : Hp) (v : AV) (xs : List (Int × Int)) (p : OwR 42 2 b v (xs.map c2h)) (hl : xs.length ≤ 90000) : Wv (runA ctx 5000 (d + 1) 45 [v] b) (fun r h' => ∃ w, w = r ∧ h' = b ∧ LcR c2h 2 b w xs ∧ nmO w = nmO v) := by
  obtain ⟨w8, hsl, hw, hnm, hcp⟩ := rclip (C := ctx) p ty30 rfl ty42 (by rw [List.length_map]; exact hl)
  rw [List.length_map] at hsl hcp
  have hxm : (xs.map c2h).length = xs.length := List.length_map _
  have H := (Hs.start b).z0 (z := owr 42 2 v (xs.map c2h)) p
  refine wv_run fn45 rfl ?_
  have a0 : (enterEnv [v] Try.f45.ntmps).get 0 = some (v) := enter_get1 _ _ _
  generalize enterEnv [v] Try.f45.ntmps = e at a0 ⊢
  unfold Try.f45
  dsimp only
  ((with_reducible apply wc_c (fun i => Nat.beq i 0 || Nat.beq i 2)); intro e he; have w9 := he 0 rfl; (try simp only [a0] at w9); have v0 := w9; clear w9; have w9 := he 2 rfl; (try simp only [T.get_put, Nat.reduceEqDiff, reduceIte] at w9); have v2 := w9; clear w9; clear he)
  repeat' (first
    | with_reducible apply wc_seq
    | ((with_reducible apply wc_region); (· (rfl)))
    | with_reducible apply wo_some
    | with_reducible apply wc_ret
    | ((with_reducible apply nx_c (fun i => Nat.beq i 0 || Nat.beq i 2)); intro e he; have w0 := he 0 rfl; have w2 := he 2 rfl; (try simp only [T.get_put, Nat.reduceEqDiff, reduceIte, v0, v2] at w0 w2); clear he v0 v2; have v0 := w0; have v2 := w2; clear w0 w2)
    | ((with_reducible apply wo_eq); (· (simp (disch := (first | assumption | omega)) only [eq_self, opsA_cons, opsA_nil, wantedA, stepA_t, callA, calleeA, runOp_n, opA, ev, evs, evo, consO, consOO, afterA_s, putA, T.get_put, Nat.reduceEqDiff, reduceIte, oBuiltin, I, withH_s, oSlice, v0, hxm, hsl]; exact rfl)))
    | (((with_reducible apply wo_rlenZ H); (· (exact ty30)); (· (rfl)); (· ((with_reducible repeat' first | exact mem_h _ _ | apply mem_t); done))))
    | ((first | with_reducible apply wv_ret | with_reducible apply wv_end); (· ((repeat' (first | with_reducible exact rs_nil | ((with_reducible apply rs_tmp); (· (simp (disch := (first | assumption | omega)) only [Option.some.injEq, v2] <;> rfl))) | ((with_reducible apply rs_cell); (· (simp (disch := (first | assumption | omega)) only [ev, T.get_put, Nat.reduceEqDiff, reduceIte, Option.some.injEq, dec_t, dec_f, Bool.not_true, Bool.not_false, v0, v2, conv40, conv3, conv2, uu_eql, uu_neq, uu_gtr, uu_lss, uu_add, uu_sub, wrap_u32k, rws_len, hxm, hsl] <;> rfl)); (· (kernel_rfl)); (· (rfl)); (· (exact H.ld1 (by (with_reducible repeat' first | exact mem_h _ _ | apply mem_t); done) rfl))) | ((with_reducible apply rs_celln); (· (simp (disch := (first | assumption | omega)) only [ev, T.get_put, Nat.reduceEqDiff, reduceIte, Option.some.injEq, dec_t, dec_f, Bool.not_true, Bool.not_false, v0, v2, conv40, conv3, conv2, uu_eql, uu_neq, uu_gtr, uu_lss, uu_add, uu_sub, wrap_u32k, rws_len, hxm, hsl] <;> rfl)); (· (kernel_rfl)); (· (rfl)); (· (exact H.ldn (by (with_reducible repeat' first | exact mem_h _ _ | apply mem_t); done) rfl rfl))))); done)))
    | simp (disch := (first | assumption | omega)) only [eq_self])

  all_goals exact ⟨_, rfl, by first | rfl | trivial, ⟨hw.isR (c2h_len xs), hcp⟩, hnm⟩
set_option maxHeartbeats 4000000 in
theorem k24 (d : Nat) (b : Hp) (p : Nat) (s : AV) (ls : List Ent) (fs : List Nat) (K : Nat) (hK : K ≤ 1000) (v : Inv K ls fs) (a : Arn b p s (nxt fs) (cnt ls) (rws ls fs))  : Wv (runA ctx 5000 (d + 2) 24 [.ptr p 0] b) (fun r h' => ∃ w, w = r ∧ LcR c2h 2 h' w (wtg ls fs) ∧ Ext b h' ∧ ∀ m, nmO w = some m → b.c ≤ m) := by
  have hrl := rws_len ls fs
  have hvn := v.n
  have hcb := cnt_bound ls
  have one := a.o.one
  have ane := a.ne
  have hnd := v.nd
  have hfl : fs.length ≤ ls.length := nodup_bound _ _ hnd (fun f hf => by obtain ⟨g, x, h⟩ := (v.fsI f).1 hf; exact (List.getElem?_eq_some_iff.1 h).1)
  have H := a.reads
  refine wv_run fn24 rfl ?_
  have a0 : (enterEnv [.ptr p 0] Try.f24.ntmps).get 0 = some (.ptr p 0) := enter_get1 _ _ _
  generalize enterEnv [.ptr p 0] Try.f24.ntmps = e at a0 ⊢
  unfold Try.f24
  dsimp only
  ((with_reducible apply wc_c (fun i => Nat.beq i 0 || Nat.beq i 2 || Nat.beq i 3 || Nat.beq i 4 || Nat.beq i 6 || Nat.beq i 12)); intro e he; have w9 := he 0 rfl; (try simp only [a0] at w9); have v0 := w9; clear w9; have w9 := he 2 rfl; (try simp only [T.get_put, Nat.reduceEqDiff, reduceIte] at w9); have v2 := w9; clear w9; have w9 := he 3 rfl; (try simp only [T.get_put, Nat.reduceEqDiff, reduceIte] at w9); have v3 := w9; clear w9; have w9 := he 4 rfl; (try simp only [T.get_put, Nat.reduceEqDiff, reduceIte] at w9); have v4 := w9; clear w9; have w9 := he 6 rfl; (try simp only [T.get_put, Nat.reduceEqDiff, reduceIte] at w9); have v6 := w9; clear w9; have w9 := he 12 rfl; (try simp only [T.get_put, Nat.reduceEqDiff, reduceIte] at w9); have v12 := w9; clear w9; clear he)
  repeat' (first
    | with_reducible apply wc_seq
    | ((with_reducible apply wc_region); (· (rfl)))
    | with_reducible apply wo_some
    | ((with_reducible apply wc_cond); (· (simp (disch := (first | assumption | omega)) only [ev, Option.some.injEq, v6] <;> rfl)); all_goals (intro hg; (try (try simp only [Bool.not_eq_true'] at hg)); first | (exfalso; exact Bool.noConfusion hg) | (exfalso; exact hg) | skip))
    | with_reducible apply wc_block
    | with_reducible apply wc_skip
    | ((with_reducible apply nx_c (fun i => Nat.beq i 0 || Nat.beq i 2 || Nat.beq i 3 || Nat.beq i 4 || Nat.beq i 6 || Nat.beq i 12)); intro e he; have w0 := he 0 rfl; have w2 := he 2 rfl; have w3 := he 3 rfl; have w4 := he 4 rfl; have w6 := he 6 rfl; have w12 := he 12 rfl; (try simp only [T.get_put, Nat.reduceEqDiff, reduceIte, v0, v2, v3, v4, v6, v12] at w0 w2 w3 w4 w6 w12); clear he v0 v2 v3 v4 v6 v12; have v0 := w0; have v2 := w2; have v3 := w3; have v4 := w4; have v6 := w6; have v12 := w12; clear w0 w2 w3 w4 w6 w12)
    | ((with_reducible apply wo_eq); (· (simp (disch := (first | assumption | omega)) only [eq_self, opsA_cons, opsA_nil, wantedA, stepA_t, callA, runOp_n, opA, ev, afterA_s, putA, T.get_put, Nat.reduceEqDiff, reduceIte, List.getElem?_toArray, List.getElem?_cons_zero, List.getElem?_cons_succ, oBin, binA, binG, binL, aggO, cond_true, blt_eq, I, fieldAddrA, oFieldAddr, Nat.zero_add, Nat.reduceLT, ty3, ti3, ty24, ti24, ty60, ti60, ty3, ti3, ty60, ti60, withH_s, eqA, eqD, eqOp, nilCheckA, dec_t, id_eq, Nat.zero_add, v0]; exact rfl)))
    | ((with_reducible apply wo_load1z H); (· ((with_reducible repeat' first | exact mem_h _ _ | apply mem_t); done)); (· (rfl)); (· ((first | rfl | assumption)))))

  refine wc_loop (fun m e h' => ∃ k u, m = fs.length - k ∧ k ≤ fs.length ∧ e.get 0 = some (.ptr p 0) ∧ e.get 3 = some u ∧ e.get 4 = some (I (nxt (fs.drop k))) ∧ Hs [] b h' [owr 42 2 u ((wtg ls (fs.take k)).map c2h)] [owr 77 4 s (rws ls fs), blk id p [s, I (nxt fs), I (cnt ls)]]) fs.length ?_ ⟨0, nilS, rfl, Nat.zero_le _, v0, v3, v4, by rw [List.take_zero]; exact H.fresh (Ext.refl _) (x := owr 42 2 nilS []) (OwR.nil _ _ _) (fun n hn => by cases hn)⟩ ?_
  · omega
  clear H v0 v3 v4
  rintro m e h ⟨k, u, rfl, hk, v0, v3, v4, H⟩
  have hwl : ((wtg ls (fs.take k)).map c2h).length = k := by rw [List.length_map]; unfold wtg; rw [List.length_map, List.length_take]; omega
  by_cases hlt : k < fs.length
  · obtain ⟨f, hf⟩ := at_some hlt
    obtain ⟨g, x, hp⟩ := (v.fsI f).1 (List.mem_of_getElem? hf)
    have hfl2 := (List.getElem?_eq_some_iff.1 hp).1
    have hr := rws_free (fs := fs) hp
    rw [nx_drop hnd hf] at hr
    rw [nxt_at hf] at v4
    have hf1 : ((f : Int) + 1) - 1 = (f : Int) := by omega
    ((with_reducible apply wc_c (fun i => Nat.beq i 0 || Nat.beq i 2 || Nat.beq i 3 || Nat.beq i 4 || Nat.beq i 12)); intro e he; have w9 := he 0 rfl; (try simp only [v0] at w9); replace v0 := w9; clear w9; have w9 := he 2 rfl; (try simp only [T.get_put, Nat.reduceEqDiff, reduceIte] at w9); have v2 := w9; clear w9; have w9 := he 3 rfl; (try simp only [v3] at w9); replace v3 := w9; clear w9; have w9 := he 4 rfl; (try simp only [v4] at w9); replace v4 := w9; clear w9; have w9 := he 12 rfl; (try simp only [T.get_put, Nat.reduceEqDiff, reduceIte] at w9); have v12 := w9; clear w9; clear he)
    repeat' (first
      | with_reducible apply wc_seq
      | ((with_reducible apply wc_region); (· (rfl)))
      | with_reducible apply wo_some
      | ((with_reducible apply wc_cond); (· (simp (disch := (first | assumption | omega)) only [ev, Option.some.injEq, v12] <;> rfl)); all_goals (intro hg; (try (try simp only [Bool.not_eq_true'] at hg)); first | (exfalso; exact Bool.noConfusion hg) | (exfalso; exact hg) | skip))
      | with_reducible apply wc_block
      | with_reducible apply wc_skip
      | with_reducible apply bx_n
      | (simp only [cells_agg, cells_lagg, putAt_z, over_nil, over_cons, litCells_cons, litCells_nil, ti42, repl_1, Nat.zero_mul] at H)
      | ((with_reducible apply nx_c (fun i => Nat.beq i 0 || Nat.beq i 2 || Nat.beq i 3 || Nat.beq i 4 || Nat.beq i 12)); intro e he; have w0 := he 0 rfl; have w2 := he 2 rfl; have w3 := he 3 rfl; have w4 := he 4 rfl; have w12 := he 12 rfl; (try simp only [T.get_put, Nat.reduceEqDiff, reduceIte, v0, v2, v3, v4, v12] at w0 w2 w3 w4 w12); clear he v0 v2 v3 v4 v12; have v0 := w0; have v2 := w2; have v3 := w3; have v4 := w4; have v12 := w12; clear w0 w2 w3 w4 w12)
      | ((with_reducible apply wo_eq); (· (simp (disch := (first | assumption | omega)) only [eq_self, opsA_cons, opsA_nil, wantedA, stepA_t, callA, calleeA, targetA, runOp_c, runOp_n, opA, ev, evs, consO, consOO, afterA_s, putA, T.get_put, Nat.reduceEqDiff, reduceIte, List.getElem?_toArray, List.getElem?_cons_zero, List.getElem?_cons_succ, oBuiltin, oBin, binA, binG, binL, aggO, litA, oIndexAddr, cond_true, blt_eq, I, Bo, fieldAddrA, oFieldAddr, Nat.add_zero, Nat.reduceLT, ty3, ti3, ty58, ti58, ty60, ti60, ty77, ti77, ty3, ti3, ty60, ti60, ty77, ti77, ty58, ti58, ii_sub, ii_gtr, withH_s, nilCheckA, oBuildSlice, evParts, consP, dec_t, wrap_ok, id_eq, Nat.add_zero, v0, v3, v4, hf1]; exact rfl)))
      | (((with_reducible apply wo_call); (· ((with_reducible apply k44); (· ((first | exact H.arn (by first | exact Pick2.h1 _ (.here _ _) | exact Pick2.h1 _ (.there _ (.here _ _)) | exact Pick2.h1 _ (.there _ (.there _ (.here _ _))) | exact Pick2.h2 _ (.here _ _) | exact Pick2.h2 _ (.there _ (.here _ _)) | exact Pick2.there _ (.h1 _ (.here _ _)) | exact Pick2.there _ (.h1 _ (.there _ (.here _ _))) | exact Pick2.there _ (.h2 _ (.here _ _)) | exact Pick2.there _ (.h2 _ (.there _ (.here _ _))) | exact Pick2.there _ (.there _ (.h1 _ (.here _ _))) | exact Pick2.there _ (.there _ (.h2 _ (.here _ _))) | exact Pick2.there _ (.there _ (.there _ (.h1 _ (.here _ _)))) | exact Pick2.there _ (.there _ (.there _ (.h2 _ (.here _ _))))) | exact Arn.mk (H.pz (a := blk id _ [_, _, _]) (by (with_reducible repeat' first | exact mem_h _ _ | apply mem_t); done)) (H.pz (a := owr _ _ _ _) (by (with_reducible repeat' first | exact mem_h _ _ | apply mem_t); done)) (by assumption)))); (· (exact hr)); (· (omega)))); rintro _ h ⟨rfl, hx⟩; replace H := H.ext hx; clear hx))
      | (((with_reducible apply wo_riaZ H); (· ((first | exact ty58 | exact ty58))); (· (rfl)); (· ((first | exact ty77 | exact ty77))); (· ((with_reducible repeat' first | exact mem_h _ _ | apply mem_t); done)); (· (rfl)); (· ((first | rfl | assumption | omega))); (· ((first | assumption | omega))); intro w9 hw9))
      | (((with_reducible apply wo_rldZ H); (· (assumption)); (· ((with_reducible repeat' first | exact mem_h _ _ | apply mem_t); done)); (· (rfl)); (· (assumption)); (· (rfl)); (· (rfl))))
      | (((with_reducible apply wo_rapp H); (· ((with_reducible repeat' first | exact PickF.here _ _ | apply PickF.there); done)); (· (exact ty30)); (· (rfl)); (· (exact ty42)); (· (rfl)); (· (decide)); (· (kernel_rfl)); (· ((with_reducible repeat' first | exact mem_h _ _ | apply mem_t); done)); (· (rfl)); (· ((first | rfl | (simp (disch := assumption) only [onesA_cons', onesA_nil, one_t, one_int, one_bool, one_str, one_nil, one_np, one_ptr, one_slice, Bool.and_true, Bool.and_self, id_eq]; done)))); (· (omega)); clear H; intro u h H; have ou := (H.p (a := owr _ _ u _) (by (with_reducible repeat' first | exact mem_h _ _ | apply mem_t); done) : OwR _ _ _ u _).one; have cu := (H.p (a := owr _ _ u _) (by (with_reducible repeat' first | exact mem_h _ _ | apply mem_t); done) : OwR _ _ _ u _).cells; (try simp only [List.length_append, List.length_cons, List.length_nil] at H)))
      | ((with_reducible apply wo_load1z H); (· ((with_reducible repeat' first | exact mem_h _ _ | apply mem_t); done)); (· (rfl)); (· ((first | rfl | assumption))))
      | ((with_reducible apply wo_bs H); (· (exact ty30)); (· (rfl)); (· (exact ty42)); (· (kernel_rfl)); (· ((first | rfl | (simp only [fillA_nil, fillA_cons, repl_z, repl_s, cells_int, cells_bool, cells_str, cells_float, cells_np, cells_nil, cells_nf, cells_ptr, cells_slice, cells_fn, cells_agg, cells_lagg, v0, v2, v3, v4, v12, conv40, conv3, conv2, uu_eql, uu_neq, uu_gtr, uu_lss, uu_add, uu_sub, wrap_u32k, rws_len, hf1]; rfl)))); clear H; intro n h H0n H)
      | simp (disch := (first | assumption | omega)) only [eq_self, Option.some.injEq, I, v0, v3, v4])

    all_goals first | (exfalso; omega) | skip
    refine ⟨fs.length - (k + 1), by omega, k + 1, _, rfl, by omega, by trivial, rfl, by trivial, ?_⟩
    have e9 : (wtg ls (fs.take k)).map c2h ++ [[U32 (f : Int), U32 g]] = (wtg ls (fs.take (k + 1))).map c2h := by
      unfold wtg
      rw [take_snoc hf, List.map_append, List.map_append]
      show _ = _ ++ [[U32 (f : Int), U32 (genOf ls f)]]
      rw [genOf_at hp]
    rw [← e9]
    exact H.sub (by (with_reducible repeat' first | exact List.Sublist.refl _ | apply List.Sublist.cons_cons | apply List.Sublist.cons); done) (by (repeat' (first | exact znil | (apply zcons; (· ((with_reducible repeat' first | exact mem_h _ _ | apply mem_t); done))))); done)
  · have hkn : k = fs.length := by omega
    rw [nxt_end (by omega)] at v4
    rw [hkn, List.take_length] at H
    have hxl : (wtg ls fs).length ≤ 90000 := by unfold wtg; rw [List.length_map]; omega
    ((with_reducible apply wc_c (fun i => Nat.beq i 0 || Nat.beq i 2 || Nat.beq i 3 || Nat.beq i 4 || Nat.beq i 12)); intro e he; have w9 := he 0 rfl; (try simp only [v0] at w9); replace v0 := w9; clear w9; have w9 := he 2 rfl; (try simp only [T.get_put, Nat.reduceEqDiff, reduceIte] at w9); have v2 := w9; clear w9; have w9 := he 3 rfl; (try simp only [v3] at w9); replace v3 := w9; clear w9; have w9 := he 4 rfl; (try simp only [v4] at w9); replace v4 := w9; clear w9; have w9 := he 12 rfl; (try simp only [T.get_put, Nat.reduceEqDiff, reduceIte] at w9); have v12 := w9; clear w9; clear he)
    repeat' (first
      | with_reducible apply wc_seq
      | ((with_reducible apply wc_region); (· (rfl)))
      | with_reducible apply wo_some
      | ((with_reducible apply wc_cond); (· (simp (disch := (first | assumption | omega)) only [ev, Option.some.injEq, v12] <;> rfl)); all_goals (intro hg; (try (try simp only [Bool.not_eq_true'] at hg)); first | (exfalso; exact Bool.noConfusion hg) | (exfalso; exact hg) | skip))
      | with_reducible apply wc_exit
      | with_reducible apply wc_ret
      | with_reducible apply nx_e
      | ((with_reducible apply bx_hit); (· (rfl)))
      | ((with_reducible apply nx_c (fun i => Nat.beq i 0 || Nat.beq i 2 || Nat.beq i 3 || Nat.beq i 4 || Nat.beq i 12)); intro e he; have w0 := he 0 rfl; have w2 := he 2 rfl; have w3 := he 3 rfl; have w4 := he 4 rfl; have w12 := he 12 rfl; (try simp only [T.get_put, Nat.reduceEqDiff, reduceIte, v0, v2, v3, v4, v12] at w0 w2 w3 w4 w12); clear he v0 v2 v3 v4 v12; have v0 := w0; have v2 := w2; have v3 := w3; have v4 := w4; have v12 := w12; clear w0 w2 w3 w4 w12)
      | ((with_reducible apply wo_eq); (· (simp (disch := (first | assumption | omega)) only [eq_self, opsA_cons, opsA_nil, wantedA, stepA_t, callA, calleeA, targetA, runOp_c, runOp_n, opA, ev, evs, consO, consOO, afterA_s, putA, T.get_put, Nat.reduceEqDiff, reduceIte, oBin, binA, binG, binL, aggO, litA, I, Bo, ii_gtr, withH_s, dec_f, v3, v4]; exact rfl)))
      | (((with_reducible apply wo_call); (· ((with_reducible apply k45); (· (exact H.p (a := owr 42 2 _ ((wtg ls fs).map c2h)) (by (with_reducible repeat' first | exact mem_h _ _ | apply mem_t); done))); (· (exact hxl)))); rintro _ h ⟨w7, rfl, rfl, hw, hm⟩; skip))
      | ((first | with_reducible apply wv_ret | with_reducible apply wv_end); (· ((repeat' (first | with_reducible exact rs_nil | ((with_reducible apply rs_tmp); (· (simp (disch := (first | assumption | omega)) only [Option.some.injEq, v2] <;> rfl))) | ((with_reducible apply rs_cell); (· (simp (disch := (first | assumption | omega)) only [ev, T.get_put, Nat.reduceEqDiff, reduceIte, Option.some.injEq, dec_t, dec_f, Bool.not_true, Bool.not_false, v0, v2, v3, v4, v12, conv40, conv3, conv2, uu_eql, uu_neq, uu_gtr, uu_lss, uu_add, uu_sub, wrap_u32k, rws_len] <;> rfl)); (· (kernel_rfl)); (· (rfl)); (· (exact H.ld1 (by (with_reducible repeat' first | exact mem_h _ _ | apply mem_t); done) rfl))) | ((with_reducible apply rs_celln); (· (simp (disch := (first | assumption | omega)) only [ev, T.get_put, Nat.reduceEqDiff, reduceIte, Option.some.injEq, dec_t, dec_f, Bool.not_true, Bool.not_false, v0, v2, v3, v4, v12, conv40, conv3, conv2, uu_eql, uu_neq, uu_gtr, uu_lss, uu_add, uu_sub, wrap_u32k, rws_len] <;> rfl)); (· (kernel_rfl)); (· (rfl)); (· (exact H.ldn (by (with_reducible repeat' first | exact mem_h _ _ | apply mem_t); done) rfl rfl))))); done))))

    all_goals first | (exfalso; omega) | skip
    exact ⟨_, rfl, hw, H.toExt, fun m hm2 => ((H.own (owr 42 2 u ((wtg ls fs).map c2h)) (by (with_reducible repeat' first | exact mem_h _ _ | apply mem_t); done)).2 m (nmO_mem.2 (hm ▸ hm2))).elim id (fun h => by cases h)⟩


def isLives (f : FuncId) : Bool := Nat.beq f 12
noncomputable def all8 : CallF := plus isLives (runA ctx 5000 8)
theorem w12 (h : Hp) : Wv (all8 12 [] h) (fun r h' => r = Bo true ∧ h' = h) := ⟨_, _, plus_lit rfl, rfl, rfl⟩
theorem all8_of {f : Nat} {args : List AV} {h : Hp} {Q : AV → Hp → Prop} (hf : isLives f = false) (h1 : Wv (runA ctx 5000 8 f args h) Q) : Wv (all8 f args h) Q := by
  unfold all8; rw [plus_not hf]; exact h1
abbrev Q3 := Int × Int × Int
def c3 (x : Q3) : List AV := [U8 x.1, U8 x.2.1, U8 x.2.2]
def Inb (a : Int) : Prop := 0 ≤ a ∧ a < 256
theorem tm_lt {a n : Int} (ha : 0 ≤ a) (hn : 0 < n) : 0 ≤ a.tmod n ∧ a.tmod n < n := by
  rw [Int.tmod_eq_emod_of_nonneg ha]
  exact ⟨Int.emod_nonneg _ (by omega), Int.emod_lt_of_pos _ hn⟩
theorem wo_cls {C : Ctx} {ti : TI} {M : List Nat} {h0 h : Hp} {L Z : List As} {k : OpsK} {dst : Option Tmp} {env : Env} {Q : Env → Hp → Prop} {n off off' j : Nat} {vs : List AV} {x : AV} (H : Hs M h0 h L Z) (hm : cln n off vs ∈ Z) (hg : isAggD ti.desc = false) (ho : off' = off + j) (hx : vs[j]? = some x) (h1 : Wo (k (putA env x dst) h) Q) : Wo (afterA k env dst (oLoad h (some ti) (some (.ptr n off')))) Q := by
  subst ho
  have hl := (H.pz hm).2
  have e1 : Abs.load h n (off + j) 1 = some [x] := by
    unfold Abs.load at hl ⊢
    cases hb : h.m.get n with
    | none =>
      rw [hb] at hl
      obtain ⟨hlen, hi⟩ := roCells_spec _ _ _ _ hl
      show roCells (h.ro n) (off + j) 1 = _
      rw [roCells_succ, roCells_zero, hi j x hx]
      rfl
    | some c =>
      rw [hb] at hl
      obtain ⟨hlen, hi⟩ := getCells_spec _ _ _ _ hl
      show getCells c.cells (off + j) 1 = _
      rw [getCells1, hi j x hx]
      rfl
  rw [oload1 hg e1]
  exact h1
theorem eqV42k (a b c d : Int) : eqV ctx 6 42 (.agg [U32 a, U32 b]) (.agg [U32 c, U32 d]) = eqNext (eqNext (some true) (some (eqF b d))) (some (eqF a c)) := by kernel_rfl
theorem eqV42 (a b c d : Int) : eqV ctx 6 42 (.agg [U32 a, U32 b]) (.agg [U32 c, U32 d]) = some (decide (a = c ∧ b = d)) := by
  rw [eqV42k, eqF_eq, eqF_eq, beq_dec, beq_dec]
  by_cases h1 : a = c <;> by_cases h2 : b = d <;> simp [h1, h2, eqNext]
/-! What the calls keep. -/
theorem Inv.take0 {K : Nat} {ls : List Ent} (v : Inv K ls []) (x : Int) : Inv (K + 1) (ls ++ [(1, true, x)]) [] := by
  have at_ : ∀ (i : Nat) (p : Ent), (ls ++ [((1, true, x) : Ent)])[i]? = some p → ls[i]? = some p ∨ (i = ls.length ∧ p = (1, true, x)) := fun i p h => by
    rcases Nat.lt_trichotomy i ls.length with h1 | h1 | h1
    · rw [List.getElem?_append_left h1] at h; exact .inl h
    · subst h1; rw [List.getElem?_append_right (Nat.le_refl _), Nat.sub_self] at h; exact .inr ⟨rfl, (Option.some.inj h).symm⟩
    · rw [List.getElem?_eq_none (by simp; omega)] at h; cases h
  refine ⟨by simp; exact v.n, fun i p h => ?_, .nil, fun i => ⟨fun h => (by cases h), fun ⟨g, y, h⟩ => ?_⟩, fun i g y h => ?_⟩
  · rcases at_ i p h with h1 | ⟨_, rfl⟩
    · have := v.gen i p h1; omega
    · simp; omega
  · rcases at_ i _ h with h1 | ⟨_, h1⟩
    · exact (v.fsI i).2 ⟨g, y, h1⟩
    · cases h1
  · rcases at_ i _ h with h1 | ⟨_, h1⟩
    · exact v.zero i g y h1
    · cases h1
theorem Inv.upd {K K' : Nat} {ls : List Ent} {fs fs' : List Nat} (v : Inv K ls fs) (hK : K ≤ K') {i : Nat} {q : Ent} (hi : i < ls.length) (hg : 1 ≤ q.1 ∧ q.1 ≤ (K' : Int) + 1) (hn : fs'.Nodup) (hf : ∀ j, j ∈ fs' ↔ (if i = j then q.2.1 = false else j ∈ fs)) (hz : q.2.1 = false → q.2.2 = 0) : Inv K' (ls.set i q) fs' := by
  refine ⟨by rw [List.length_set]; exact Nat.le_trans v.n hK, fun j p h => ?_, hn, fun j => ?_, fun j g y h => ?_⟩
  · rw [get_set hi] at h
    split at h
    · cases h; exact hg
    · have := v.gen j p h; omega
  · rw [hf j, get_set hi]
    split
    · obtain ⟨g, u, x⟩ := q
      exact ⟨fun h => ⟨g, x, by simp only at h; rw [h]⟩, fun ⟨g', x', h⟩ => by cases h; rfl⟩
    · exact v.fsI j
  · rw [get_set hi] at h
    split at h
    · cases h; exact hz rfl
    · exact v.zero j g y h
theorem Inv.takeF {K : Nat} {ls : List Ent} {f : Nat} {rr : List Nat} (v : Inv K ls (f :: rr)) {g x0 : Int} (hp : ls[f]? = some (g, false, x0)) (x : Int) : Inv (K + 1) (ls.set f (g, true, x)) rr := by
  have hg := v.gen f _ hp
  simp only at hg
  obtain ⟨n1, n2⟩ := List.nodup_cons.1 v.nd
  refine v.upd (Nat.le_succ _) (List.getElem?_eq_some_iff.1 hp).1 (by simp; omega) n2 (fun j => ?_) (fun h => by cases h)
  by_cases e : f = j
  · subst e; rw [if_pos rfl]; exact ⟨fun h => absurd h n1, fun h => by cases h⟩
  · rw [if_neg e, List.mem_cons]; exact ⟨.inr, fun h => h.elim (fun h => absurd h.symm e) id⟩
theorem Inv.free {K : Nat} {ls : List Ent} {fs : List Nat} (v : Inv K ls fs) {i : Nat} {g x0 : Int} (hp : ls[i]? = some (g, true, x0)) (g' : Int) (h1 : g ≤ g') (h2 : g' ≤ g + 1) : Inv (K + 1) (ls.set i (g', false, 0)) (i :: fs) := by
  have hg := v.gen i _ hp
  simp only at hg
  have hn : i ∉ fs := fun h => by
    obtain ⟨g2, x2, h2⟩ := (v.fsI i).1 h
    rw [hp] at h2; cases h2
  refine v.upd (Nat.le_succ _) (List.getElem?_eq_some_iff.1 hp).1 (by simp; omega) (List.nodup_cons.2 ⟨hn, v.nd⟩) (fun j => ?_) (fun _ => rfl)
  by_cases e : i = j
  · subst e; rw [if_pos rfl]; exact ⟨fun _ => rfl, fun _ => .head _⟩
  · rw [if_neg e, List.mem_cons]; exact ⟨fun h => h.elim (fun h => absurd h.symm e) id, .inr⟩
/-! The law Never. -/
structure NInv (i : Nat) (ls : List Ent) (fs : List Nat) (all gone : List (Int × Int)) : Prop where
  v : Inv i ls fs
  an : all.length ≤ i
  gn : gone.length ≤ i
  sum : cnt ls + (fs.length : Int) = (ls.length : Int)
  dif : cnt ls = (all.length : Int) - (gone.length : Int)
  al : ∀ q ∈ all, ∃ (j : Nat) (p : Ent), q.1 = (j : Int) ∧ ls[j]? = some p ∧ 1 ≤ q.2 ∧ (q.2 < p.1 ∨ (q.2 = p.1 ∧ p.2.1 = true))
  go : ∀ q ∈ gone, ∃ (j : Nat) (p : Ent), q.1 = (j : Int) ∧ ls[j]? = some p ∧ 1 ≤ q.2 ∧ q.2 < p.1
theorem NInv.start : NInv 0 [] [] [] [] := ⟨Inv.nil, Nat.le_refl _, Nat.le_refl _, rfl, rfl, fun q h => (by cases h), fun q h => (by cases h)⟩
theorem NInv.take0 {i : Nat} {ls : List Ent} {all gone : List (Int × Int)} (v : NInv i ls [] all gone) (x : Int) : NInv (i + 1) (ls ++ [(1, true, x)]) [] (all ++ [((ls.length : Int), 1)]) gone := by
  have lft : ∀ {j : Nat} {p : Ent}, ls[j]? = some p → (ls ++ [((1, true, x) : Ent)])[j]? = some p := fun {j p} h => by rw [List.getElem?_append_left (List.getElem?_eq_some_iff.1 h).1]; exact h
  refine ⟨v.v.take0 x, by simp; exact v.an, Nat.le_trans v.gn (Nat.le_succ _), ?_, ?_, fun q hq => ?_, fun q hq => ?_⟩
  · have := v.sum; rw [cnt_app]; simp [cnt] at *; omega
  · have := v.dif; rw [cnt_app]; simp [cnt] at *; omega
  · rcases List.mem_append.1 hq with h | h
    · obtain ⟨j, p, h1, h2, h3⟩ := v.al q h
      exact ⟨j, p, h1, lft h2, h3⟩
    · rw [List.mem_singleton] at h
      subst h
      exact ⟨ls.length, (1, true, x), rfl, by rw [List.getElem?_append_right (Nat.le_refl _), Nat.sub_self]; rfl, Int.le_refl _, .inr ⟨rfl, rfl⟩⟩
  · obtain ⟨j, p, h1, h2, h3⟩ := v.go q hq
    exact ⟨j, p, h1, lft h2, h3⟩
theorem NInv.takeF {i : Nat} {ls : List Ent} {f : Nat} {rr : List Nat} {all gone : List (Int × Int)} (v : NInv i ls (f :: rr) all gone) {g x0 : Int} (hp : ls[f]? = some (g, false, x0)) (x : Int) : NInv (i + 1) (ls.set f (g, true, x)) rr (all ++ [((f : Int), g)]) gone := by
  have hf := (List.getElem?_eq_some_iff.1 hp).1
  have hg := v.v.gen f _ hp
  simp only at hg
  refine ⟨v.v.takeF hp x, by simp; exact v.an, Nat.le_trans v.gn (Nat.le_succ _), ?_, ?_, fun q hq => ?_, fun q hq => ?_⟩
  · have := v.sum; rw [cnt_set hp, List.length_set]; simp at *; omega
  · have := v.dif; rw [cnt_set hp]; simp at *; omega
  · rcases List.mem_append.1 hq with h | h
    · obtain ⟨j, p, h1, h2, h3, h4⟩ := v.al q h
      by_cases e : f = j
      · subst e
        rw [hp] at h2
        cases h2
        exact ⟨f, (g, true, x), h1, by rw [get_set hf, if_pos rfl], h3, h4.elim .inl (fun h => by cases h.2)⟩
      · exact ⟨j, p, h1, by rw [get_set hf, if_neg e]; exact h2, h3, h4⟩
    · rw [List.mem_singleton] at h
      subst h
      exact ⟨f, (g, true, x), rfl, by rw [get_set hf, if_pos rfl], hg.1, .inr ⟨rfl, rfl⟩⟩
  · obtain ⟨j, p, h1, h2, h3, h4⟩ := v.go q hq
    by_cases e : f = j
    · subst e
      rw [hp] at h2
      cases h2
      exact ⟨f, (g, true, x), h1, by rw [get_set hf, if_pos rfl], h3, h4⟩
    · exact ⟨j, p, h1, by rw [get_set hf, if_neg e]; exact h2, h3, h4⟩
theorem NInv.free {i : Nat} {ls : List Ent} {fs : List Nat} {all gone : List (Int × Int)} (v : NInv i ls fs all gone) {f : Nat} {g x0 : Int} (hp : ls[f]? = some (g, true, x0)) : NInv (i + 1) (ls.set f (g + 1, false, 0)) (f :: fs) all (gone ++ [((f : Int), g)]) := by
  have hf := (List.getElem?_eq_some_iff.1 hp).1
  have hg := v.v.gen f _ hp
  simp only at hg
  refine ⟨v.v.free hp (g + 1) (by omega) (Int.le_refl _), Nat.le_trans v.an (Nat.le_succ _), by simp; exact v.gn, ?_, ?_, fun q hq => ?_, fun q hq => ?_⟩
  · have := v.sum; rw [cnt_set hp, List.length_set]; simp at *; omega
  · have := v.dif; rw [cnt_set hp]; simp at *; omega
  · obtain ⟨j, p, h1, h2, h3, h4⟩ := v.al q hq
    by_cases e : f = j
    · subst e
      rw [hp] at h2
      cases h2
      exact ⟨f, (g + 1, false, 0), h1, by rw [get_set hf, if_pos rfl], h3, .inl (by simp only at h4 ⊢; omega)⟩
    · exact ⟨j, p, h1, by rw [get_set hf, if_neg e]; exact h2, h3, h4⟩
  · rcases List.mem_append.1 hq with h | h
    · obtain ⟨j, p, h1, h2, h3, h4⟩ := v.go q h
      by_cases e : f = j
      · subst e
        rw [hp] at h2
        cases h2
        exact ⟨f, (g + 1, false, 0), h1, by rw [get_set hf, if_pos rfl], h3, by simp only at h4 ⊢; omega⟩
      · exact ⟨j, p, h1, by rw [get_set hf, if_neg e]; exact h2, h3, h4⟩
    · rw [List.mem_singleton] at h
      subst h
      exact ⟨f, (g + 1, false, 0), rfl, by rw [get_set hf, if_pos rfl], hg.1, by simp only; omega⟩
theorem NInv.stay {i : Nat} {ls : List Ent} {fs : List Nat} {all gone : List (Int × Int)} (v : NInv i ls fs all gone) : NInv (i + 1) ls fs all gone := ⟨v.v.mono (Nat.le_succ _), Nat.le_trans v.an (Nat.le_succ _), Nat.le_trans v.gn (Nat.le_succ _), v.sum, v.dif, v.al, v.go⟩
theorem j9 (b : Hp) : Wv (all8 9 [] b) (fun r h' => ∃ p, r = .ptr p 0 ∧ b.c ≤ p ∧ Arn h' p nilS 0 0 [] ∧ Ext b h') := all8_of rfl (k9 7 b)


end Go.Proofs.Ytolpndlnabodgaa
