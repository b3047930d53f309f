import Derived.Test.YtpioenfglmimgaaVG
import Derived.KernelRfl
namespace Go.Proofs.Ytpioenfglmimgaa
open Go Go.Proofs Go.RowKit Go.Proofs.Abs
set_option linter.unusedSimpArgs false
set_option linter.unusedVariables false
def ofR (us : List Int) (great : Bool) : List Int := let ys := (us.take 200).map fun x => x.tmod 16; if great = true ∧ 0 < ys.length then ys.set 0 2305843009213693952 else ys
theorem sum_small : ∀ (l : List Int) (B : Int), (∀ x, x ∈ l → x ≤ B) → l.sum ≤ B * l.length := by
  intro l B
  induction l with
  | nil => intro _; simp
  | cons a l ih =>
    intro h
    rw [List.sum_cons, List.length_cons, Int.natCast_succ, Int.mul_add, Int.mul_one]
    have := h a (.head _)
    have := ih (fun x hx => h x (.tail _ hx))
    omega
theorem tm16 {x : Int} (h : 0 ≤ x) : 0 ≤ x.tmod 16 ∧ x.tmod 16 < 16 := by
  rw [Int.tmod_eq_emod_of_nonneg h]
  exact ⟨Int.emod_nonneg _ (by omega), Int.emod_lt_of_pos _ (by omega)⟩
theorem ofR_ok {us : List Int} (hu : ∀ x ∈ us, 0 ≤ x ∧ x < 256) (great : Bool) : Val (ofR us great) ∧ (ofR us great).length ≤ 200 := by
  have h1 : ∀ x, x ∈ (us.take 200).map (fun x => x.tmod 16) → 0 ≤ x ∧ x ≤ 15 := fun x hx => by
    obtain ⟨y, hy, rfl⟩ := List.mem_map.1 hx
    have := tm16 (hu y (List.mem_of_mem_take hy)).1
    omega
  have hl : ((us.take 200).map (fun x => x.tmod 16)).length ≤ 200 := by rw [List.length_map, List.length_take]; omega
  have hs := sum_small _ 15 (fun x hx => (h1 x hx).2)
  unfold ofR
  dsimp only
  split
  · rename_i h9
    obtain ⟨v, hv⟩ := at_some h9.2
    obtain ⟨s1, s2⟩ := set_split 2305843009213693952 hv
    have hv9 := (h1 v (List.mem_of_getElem? hv)).1
    refine ⟨⟨⟨fun x hx => ?_, ?_, by rw [List.length_set]; omega⟩, fun x hx => ?_⟩, by rw [List.length_set]; exact hl⟩
    · rcases s2 x hx with rfl | h2
      · decide
      · exact (h1 x h2).1
    · rw [s1]; omega
    · rcases s2 x hx with rfl | h2
      · exact Int.le_refl _
      · have := (h1 x h2).2; omega
  · exact ⟨⟨⟨fun x hx => (h1 x hx).1, by omega, by omega⟩, fun x hx => by have := (h1 x hx).2; omega⟩, hl⟩
theorem ofR_v {us : List Int} (hu : ∀ x ∈ us, 0 ≤ x ∧ x < 256) (great : Bool) : chk (ofR us great) = 0 := (chk_iff _).2 (ofR_ok hu great).1
theorem cnv5 (x : Int) (h1 : 0 ≤ x) (h2 : x < 256) : convA ctx 2 (.lit (.int .u8 x)) = some (I x) := by
  unfold convA
  rw [ty2]
  simp only [ti2]
  rw [wrap_ok (by omega) (by omega)]
set_option maxHeartbeats 4000000 in
theorem c33 {n : Nat} (hn : 2 ≤ n) {b : Hp} {w : AV} {xs : List Int} {c : Bool} (hv : Lc c b w (xs.map I)) (gx : GT.Good xs) {j : Nat} {v x : Int} (hj : xs[j]? = some v) : Wv (runA ctx 5000 n 33 [w, I (j : Int), I x] b) (fun r h' => ∃ u, r = .tup [u, I (setE xs v x)] ∧ Ext b h' ∧ (setE xs v x = 0 → Lc false h' u ((xs.set j x).map I) ∧ ∀ m, nmO u = some m → b.c ≤ m)) := by
  obtain ⟨k, rfl⟩ : ∃ k, n = k + 1 := ⟨n - 1, by omega⟩
  have hl := gx.2.2
  have H := ((Hs.start b).z0 (z := lc c w (xs.map I)) hv).z0 (z := isl w (xs.map I)) hv.isL
  have hjl := (List.getElem?_eq_some_iff.1 hj).1
  have hjm := at_map hj
  have hvn := gx.1 v (List.mem_of_getElem? hj)
  have hsn := GT.sum_nn gx.1
  have hsx := gx.2.1
  have hvs : v ≤ xs.sum := by
    have := (set_split 0 hj).1
    have h9 := GT.sum_nn (l := xs.set j 0) (fun y hy => by rcases (set_split 0 hj).2 y hy with rfl | h4; exact Int.le_refl _; exact gx.1 y h4)
    omega
  refine wv_run fn33 rfl ?_
  have a0 : (enterEnv [w, I (j : Int), I x] Try.f33.ntmps).get 0 = some (w) := enter_get1 _ _ _
  have a1 : (enterEnv [w, I (j : Int), I x] Try.f33.ntmps).get 1 = some (I (j : Int)) := enter_get2 _ _ _ _
  have a2 : (enterEnv [w, I (j : Int), I x] Try.f33.ntmps).get 2 = some (I x) := enter_get3 _ _ _ _ _
  generalize enterEnv [w, I (j : Int), I x] Try.f33.ntmps = e at a0 a1 a2 ⊢
  unfold Try.f33
  dsimp only
  ((with_reducible apply wc_c (fun i => Nat.beq i 0 || Nat.beq i 1 || Nat.beq i 2 || Nat.beq i 6 || Nat.beq i 7 || Nat.beq i 8 || Nat.beq i 16 || Nat.beq i 23 || Nat.beq i 43)); intro e he; have w9 := he 0 rfl; (try simp only [a0] at w9); have v0 := w9; clear w9; have w9 := he 1 rfl; (try simp only [a1] at w9); have v1 := w9; clear w9; have w9 := he 2 rfl; (try simp only [a2] at w9); have v2 := w9; clear w9; have w9 := he 6 rfl; (try simp only [T.get_put, Nat.reduceEqDiff, reduceIte] at w9); have v6 := w9; clear w9; have w9 := he 7 rfl; (try simp only [T.get_put, Nat.reduceEqDiff, reduceIte] at w9); have v7 := w9; clear w9; have w9 := he 8 rfl; (try simp only [T.get_put, Nat.reduceEqDiff, reduceIte] at w9); have v8 := w9; clear w9; have w9 := he 16 rfl; (try simp only [T.get_put, Nat.reduceEqDiff, reduceIte] at w9); have v16 := w9; clear w9; have w9 := he 23 rfl; (try simp only [T.get_put, Nat.reduceEqDiff, reduceIte] at w9); have v23 := w9; clear w9; have w9 := he 43 rfl; (try simp only [T.get_put, Nat.reduceEqDiff, reduceIte] at w9); have v43 := w9; clear w9; clear he)
  repeat' (first
    | with_reducible apply wc_seq
    | ((with_reducible apply wc_region); (· (rfl)))
    | with_reducible apply wo_some
    | ((with_reducible apply wc_cond); (· (simp (disch := (first | assumption | omega)) only [ev, Option.some.injEq, v16, v23, v43] <;> rfl)); all_goals (intro hg; (try (try simp only [decide_eq_true_eq, decide_eq_false_iff_not] at hg)); first | (exfalso; exact Bool.noConfusion hg) | (exfalso; exact hg) | skip))
    | with_reducible apply wc_skip
    | with_reducible apply wc_ret
    | with_reducible apply nx_r
    | (simp only [cells_int, repl_z, ti2, ti2] at H)
    | ((with_reducible apply nx_c (fun i => Nat.beq i 0 || Nat.beq i 1 || Nat.beq i 2 || Nat.beq i 6 || Nat.beq i 7 || Nat.beq i 8 || Nat.beq i 16 || Nat.beq i 23 || Nat.beq i 43)); intro e he; have w0 := he 0 rfl; have w1 := he 1 rfl; have w2 := he 2 rfl; have w6 := he 6 rfl; have w7 := he 7 rfl; have w8 := he 8 rfl; have w16 := he 16 rfl; have w23 := he 23 rfl; have w43 := he 43 rfl; (try simp only [T.get_put, Nat.reduceEqDiff, reduceIte, v0, v1, v2, v6, v7, v8, v16, v23, v43] at w0 w1 w2 w6 w7 w8 w16 w23 w43); clear he v0 v1 v2 v6 v7 v8 v16 v23 v43; have v0 := w0; have v1 := w1; have v2 := w2; have v6 := w6; have v7 := w7; have v8 := w8; have v16 := w16; have v23 := w23; have v43 := w43; clear w0 w1 w2 w6 w7 w8 w16 w23 w43)
    | ((with_reducible apply wo_eq); (· (simp (disch := (first | assumption | omega)) only [beq_self_eq_true, eq_self, opsA_cons, opsA_nil, wantedA, guardA, yieldA, stepA_t, stepA_f, callA, calleeA, targetA, runOp_c, runOp_n, opA, ev, evs, consO, consOO, pickA, afterA_s, putA, T.get_put, Nat.reduceEqDiff, reduceIte, List.getElem?_cons_zero, List.getElem?_cons_succ, oBuiltin, oBin, binA, binG, binL, aggO, litA, oIndexAddr, Bool.not_true, tf_beq, I, Bo, ty2, ti2, ty2, ti2, ii_sub, ii_lss, ii_gtr, ii_geq, withH_s, oBuildSlice, evParts, dec_t, dec_f, wrap_ok, v0, v1, v2, v8, List.length_map, List.take_length]; exact rfl)))
    | (((with_reducible apply wo_call); (· ((with_reducible apply c22); (· (omega)); (· (exact H.lok (by (with_reducible repeat' first | exact mem_h _ _ | apply mem_t); done))); (· (assumption)); (· (exact Nat.le_refl _)))); rintro _ h ⟨rfl, rfl⟩))
    | (((with_reducible apply wo_appe H); (· (exact ty22)); (· (rfl)); (· ((first | exact ty2 | exact ty2))); (· (rfl)); (· (kernel_rfl)); (· ((with_reducible repeat' first | exact mem_h _ _ | apply mem_t); done)); (· (exact ones_I _)); (· ((simp only [List.length_map]; omega))); clear H; intro u9 h H; simp only [List.length_map] at H))
    | (((with_reducible apply wo_iast (j := j) H); (· ((with_reducible repeat' first | exact PickF.here _ _ | apply PickF.there); done)); (· (exact ty22)); (· (rfl)); (· ((first | exact ty2 | exact ty2))); (· (rfl)); (· (first | rfl | assumption)); (· ((first | omega | assumption))); intro nm9 hn9 hu9))
    | (((with_reducible apply wo_stg H); (· ((with_reducible repeat' first | exact PickF.here _ _ | apply PickF.there); done)); (· (assumption)); (· ((first | omega | assumption))); (· (rfl)); (· (rfl)); (· (rfl)); clear H; intro h H))
    | (((with_reducible apply wc_dynW (id := 7) (p := (7, 3)) (ps := [])); (· (kernel_rfl)); skip))
    | (with_reducible apply wt_cons)
    | (((with_reducible apply wt_nil); have Qc := oload1 (ti := ti2) rfl (H.pz (a := cel _ _ (I v)) (by (with_reducible repeat' first | exact mem_h _ _ | apply mem_t); done)).2; simp only [ti2] at Qc; refine And.intro ?_ (Exists.intro _ (Exists.intro _ (And.intro rfl ?_))); (· (simp (disch := (first | assumption | omega)) only [eq_self, wantedA, opA, ev, T.get_put, Nat.reduceEqDiff, reduceIte, List.getElem?_cons_zero, List.getElem?_cons_succ, Bool.and_true, I, ty2, ti2, ty2, ti2, Qc, checksD_nil, checksD_cons, checkD, checkG, sameR, av_int]; done))))
    | ((with_reducible apply wo_loadc H); (· ((with_reducible repeat' first | exact mem_h _ _ | apply mem_t); done)); (· (rfl)))
    | ((with_reducible apply wo_len H); (· ((with_reducible repeat' first | exact mem_h _ _ | apply mem_t); done)); (· (exact ty22)); (· (rfl)))
    | ((with_reducible apply wo_ia H); (· ((with_reducible repeat' first | exact mem_h _ _ | apply mem_t); done)); (· (exact ty22)); (· (rfl)); (· ((first | exact ty2 | exact ty2))); (· (rfl)); (· (rfl)); (· (assumption)); clear H; intro n o H)
    | ((with_reducible apply wo_bs H); (· (exact ty22)); (· (rfl)); (· ((first | exact ty2 | exact ty2))); (· (kernel_rfl)); (· ((first | rfl | (simp only [fillA_nil, fillA_cons, repl_z, repl_s, cells_int, cells_bool, cells_str, cells_float, cells_np, cells_nil, cells_nf, cells_ptr, cells_slice, cells_fn, cells_agg, cells_lagg, v0, v1, v2, v6, v7, v8, v16, v23, v43, List.length_map, List.take_length]; rfl)))); clear H; intro n h H0n H)
    | ((with_reducible apply wo_step) <;> intro hg <;> (try simp only [beq_false, Bool.not_eq_eq_eq_not, Bool.not_true, Bool.not_false, decide_eq_true_eq, decide_eq_false_iff_not] at hg) <;> (try subst hg) <;> (first | (exfalso; exact Bool.noConfusion hg) | skip))
    | ((first | with_reducible apply wv_ret | with_reducible apply wv_end); (· ((repeat' (first | with_reducible exact rs_nil | ((with_reducible apply rs_tmp); (· (simp (disch := (first | assumption | omega)) only [Option.some.injEq, v6, v7] <;> rfl))) | ((with_reducible apply rs_cell); (· (simp (disch := (first | assumption | omega)) only [ev, T.get_put, Nat.reduceEqDiff, reduceIte, Option.some.injEq, dec_t, dec_f, Bool.not_true, Bool.not_false, v0, v1, v2, v6, v7, v8, v16, v23, v43, List.length_map, List.take_length] <;> rfl)); (· (kernel_rfl)); (· (rfl)); (· (exact H.ld1 (by (with_reducible repeat' first | exact mem_h _ _ | apply mem_t); done) rfl))) | ((with_reducible apply rs_celln); (· (simp (disch := (first | assumption | omega)) only [ev, T.get_put, Nat.reduceEqDiff, reduceIte, Option.some.injEq, dec_t, dec_f, Bool.not_true, Bool.not_false, v0, v1, v2, v6, v7, v8, v16, v23, v43, List.length_map, List.take_length] <;> rfl)); (· (kernel_rfl)); (· (rfl)); (· (exact H.ldn (by (with_reducible repeat' first | exact mem_h _ _ | apply mem_t); done) rfl rfl))))); done)))
    | simp (disch := (first | assumption | omega)) only [I])

  all_goals (first | first | (exfalso; omega) | (have h9 : setE xs v x = 12 := (by unfold setE; rw [if_pos (by omega)]); rw [h9]; exact ⟨w, rfl, H.toExt, fun h => by cases h⟩) | (have h9 : setE xs v x = 13 := (by unfold setE; rw [if_neg (by omega), if_pos (by omega)]); rw [h9]; exact ⟨w, rfl, H.toExt, fun h => by cases h⟩) | (have h9 : setE xs v x = 0 := (by unfold setE; rw [if_neg (by omega), if_neg (by omega)]); rw [h9]; obtain ⟨u8, he8, l8, x8, f8⟩ := rw_gr (Y := xs.set j x) (e := 0) H (by (with_reducible repeat' first | exact PickF.here _ _ | apply PickF.there); done) rfl (by rw [List.map_set]) (by rw [List.length_set]); exact ⟨u8, he8, x8, fun _ => ⟨l8, f8⟩⟩) | trace_state)
set_option maxHeartbeats 4000000 in
theorem c33e {n : Nat} (hn : 2 ≤ n) {b : Hp} {w : AV} {xs : List Int} {c : Bool} (hv : Lc c b w (xs.map I)) (gx : GT.Good xs) {i x : Int} (hi : i < 0 ∨ (xs.length : Int) ≤ i) : Wv (runA ctx 5000 n 33 [w, I i, I x] b) (fun r h' => ∃ u, r = .tup [u, I 4] ∧ Ext b h') := by
  obtain ⟨k, rfl⟩ : ∃ k, n = k + 1 := ⟨n - 1, by omega⟩
  have hl := gx.2.2
  have H := ((Hs.start b).z0 (z := lc c w (xs.map I)) hv).z0 (z := isl w (xs.map I)) hv.isL
  refine wv_run fn33 rfl ?_
  have a0 : (enterEnv [w, I i, I x] Try.f33.ntmps).get 0 = some (w) := enter_get1 _ _ _
  have a1 : (enterEnv [w, I i, I x] Try.f33.ntmps).get 1 = some (I i) := enter_get2 _ _ _ _
  have a2 : (enterEnv [w, I i, I x] Try.f33.ntmps).get 2 = some (I x) := enter_get3 _ _ _ _ _
  generalize enterEnv [w, I i, I x] Try.f33.ntmps = e at a0 a1 a2 ⊢
  unfold Try.f33
  dsimp only
  ((with_reducible apply wc_c (fun i => Nat.beq i 0 || Nat.beq i 1 || Nat.beq i 2 || Nat.beq i 6 || Nat.beq i 7 || Nat.beq i 8 || Nat.beq i 16 || Nat.beq i 23 || Nat.beq i 43)); intro e he; have w9 := he 0 rfl; (try simp only [a0] at w9); have v0 := w9; clear w9; have w9 := he 1 rfl; (try simp only [a1] at w9); have v1 := w9; clear w9; have w9 := he 2 rfl; (try simp only [a2] at w9); have v2 := w9; clear w9; have w9 := he 6 rfl; (try simp only [T.get_put, Nat.reduceEqDiff, reduceIte] at w9); have v6 := w9; clear w9; have w9 := he 7 rfl; (try simp only [T.get_put, Nat.reduceEqDiff, reduceIte] at w9); have v7 := w9; clear w9; have w9 := he 8 rfl; (try simp only [T.get_put, Nat.reduceEqDiff, reduceIte] at w9); have v8 := w9; clear w9; have w9 := he 16 rfl; (try simp only [T.get_put, Nat.reduceEqDiff, reduceIte] at w9); have v16 := w9; clear w9; have w9 := he 23 rfl; (try simp only [T.get_put, Nat.reduceEqDiff, reduceIte] at w9); have v23 := w9; clear w9; have w9 := he 43 rfl; (try simp only [T.get_put, Nat.reduceEqDiff, reduceIte] at w9); have v43 := w9; clear w9; clear he)
  repeat' (first
    | with_reducible apply wc_seq
    | ((with_reducible apply wc_region); (· (rfl)))
    | with_reducible apply wo_some
    | ((with_reducible apply wc_cond); (· (simp (disch := (first | assumption | omega)) only [ev, Option.some.injEq, v16] <;> rfl)); all_goals (intro hg; (try (try simp only [Bool.not_eq_true'] at hg)); first | (exfalso; exact Bool.noConfusion hg) | (exfalso; exact hg) | skip))
    | with_reducible apply wc_ret
    | with_reducible apply nx_r
    | ((with_reducible apply nx_c (fun i => Nat.beq i 0 || Nat.beq i 1 || Nat.beq i 2 || Nat.beq i 6 || Nat.beq i 7 || Nat.beq i 8 || Nat.beq i 16 || Nat.beq i 23 || Nat.beq i 43)); intro e he; have w0 := he 0 rfl; have w1 := he 1 rfl; have w2 := he 2 rfl; have w6 := he 6 rfl; have w7 := he 7 rfl; have w8 := he 8 rfl; have w16 := he 16 rfl; have w23 := he 23 rfl; have w43 := he 43 rfl; (try simp only [T.get_put, Nat.reduceEqDiff, reduceIte, v0, v1, v2, v6, v7, v8, v16, v23, v43] at w0 w1 w2 w6 w7 w8 w16 w23 w43); clear he v0 v1 v2 v6 v7 v8 v16 v23 v43; have v0 := w0; have v1 := w1; have v2 := w2; have v6 := w6; have v7 := w7; have v8 := w8; have v16 := w16; have v23 := w23; have v43 := w43; clear w0 w1 w2 w6 w7 w8 w16 w23 w43)
    | ((with_reducible apply wo_eq); (· (simp (disch := (first | assumption | omega)) only [beq_self_eq_true, eq_self, opsA_cons, opsA_nil, wantedA, guardA, yieldA, stepA_t, stepA_f, callA, calleeA, runOp_n, opA, ev, evs, consO, consOO, pickA, afterA_s, putA, T.get_put, Nat.reduceEqDiff, reduceIte, List.getElem?_cons_zero, List.getElem?_cons_succ, oBuiltin, oBin, binA, binG, binL, aggO, litA, Bool.not_false, tf_beq, I, Bo, ii_lss, ii_geq, withH_s, dec_t, dec_f, v0, v1, List.length_map]; exact rfl)))
    | ((with_reducible apply wo_len H); (· ((with_reducible repeat' first | exact mem_h _ _ | apply mem_t); done)); (· (exact ty22)); (· (rfl)))
    | ((with_reducible apply wo_step) <;> intro hg <;> (try simp only [beq_false, Bool.not_eq_eq_eq_not, Bool.not_true, Bool.not_false, decide_eq_true_eq, decide_eq_false_iff_not] at hg) <;> (try subst hg) <;> (first | (exfalso; exact Bool.noConfusion hg) | skip))
    | ((first | with_reducible apply wv_ret | with_reducible apply wv_end); (· ((repeat' (first | with_reducible exact rs_nil | ((with_reducible apply rs_tmp); (· (simp (disch := (first | assumption | omega)) only [Option.some.injEq, v6, v7] <;> rfl))) | ((with_reducible apply rs_cell); (· (simp (disch := (first | assumption | omega)) only [ev, T.get_put, Nat.reduceEqDiff, reduceIte, Option.some.injEq, dec_t, dec_f, Bool.not_true, Bool.not_false, v0, v1, v2, v6, v7, v8, v16, v23, v43, List.length_map] <;> rfl)); (· (kernel_rfl)); (· (rfl)); (· (exact H.ld1 (by (with_reducible repeat' first | exact mem_h _ _ | apply mem_t); done) rfl))) | ((with_reducible apply rs_celln); (· (simp (disch := (first | assumption | omega)) only [ev, T.get_put, Nat.reduceEqDiff, reduceIte, Option.some.injEq, dec_t, dec_f, Bool.not_true, Bool.not_false, v0, v1, v2, v6, v7, v8, v16, v23, v43, List.length_map] <;> rfl)); (· (kernel_rfl)); (· (rfl)); (· (exact H.ldn (by (with_reducible repeat' first | exact mem_h _ _ | apply mem_t); done) rfl rfl))))); done)))
    | simp (disch := (first | assumption | omega)) only [I])

  all_goals (first | first | (exfalso; omega) | exact ⟨_, rfl, H.toExt⟩ | trace_state)
set_option maxHeartbeats 4000000 in
theorem c13 {n : Nat} (hn : 1 ≤ n) {b : Hp} {w : AV} {us : List Int} {great : Bool} (hv : IsL b w (us.map fun x => AV.lit (.int .u8 x))) (hu : ∀ x ∈ us, 0 ≤ x ∧ x < 256) : Wv (runA ctx 5000 n 13 [.agg [w, Bo great]] b) (fun r h' => ∃ u, u = r ∧ Lc false h' u ((ofR us great).map I) ∧ Ext b h' ∧ ∀ m, nmO u = some m → b.c ≤ m) := by
  obtain ⟨k, rfl⟩ : ∃ k, n = k + 1 := ⟨n - 1, by omega⟩
  have one1 := hv.one
  have cel1 := hv.cells
  have H := (Hs.start b).z0 (z := isl w (us.map fun x => AV.lit (.int .u8 x))) hv
  refine wv_run fn13 rfl ?_
  have a0 : (enterEnv [.agg [w, Bo great]] Try.f13.ntmps).get 0 = some (.agg [w, Bo great]) := enter_get1 _ _ _
  generalize enterEnv [.agg [w, Bo great]] Try.f13.ntmps = e at a0 ⊢
  unfold Try.f13
  dsimp only
  ((with_reducible apply wc_c (fun i => Nat.beq i 0 || Nat.beq i 1 || Nat.beq i 2 || Nat.beq i 3 || Nat.beq i 4 || Nat.beq i 13 || Nat.beq i 32)); intro e he; have w9 := he 0 rfl; (try simp only [a0] at w9); have v0 := w9; clear w9; have w9 := he 1 rfl; (try simp only [T.get_put, Nat.reduceEqDiff, reduceIte] at w9); have v1 := w9; clear w9; have w9 := he 2 rfl; (try simp only [T.get_put, Nat.reduceEqDiff, reduceIte] at w9); have v2 := w9; clear w9; have w9 := he 3 rfl; (try simp only [T.get_put, Nat.reduceEqDiff, reduceIte] at w9); have v3 := w9; clear w9; have w9 := he 4 rfl; (try simp only [T.get_put, Nat.reduceEqDiff, reduceIte] at w9); have v4 := w9; clear w9; have w9 := he 13 rfl; (try simp only [T.get_put, Nat.reduceEqDiff, reduceIte] at w9); have v13 := w9; clear w9; have w9 := he 32 rfl; (try simp only [T.get_put, Nat.reduceEqDiff, reduceIte] at w9); have v32 := w9; clear w9; clear he)
  repeat' (first
    | with_reducible apply wc_seq
    | ((with_reducible apply wc_region); (· (rfl)))
    | with_reducible apply wo_some
    | with_reducible apply wc_block
    | (simp only [cells_agg] at H)
    | ((with_reducible apply nx_c (fun i => Nat.beq i 0 || Nat.beq i 1 || Nat.beq i 2 || Nat.beq i 3 || Nat.beq i 4 || Nat.beq i 13 || Nat.beq i 32)); intro e he; have w0 := he 0 rfl; have w1 := he 1 rfl; have w2 := he 2 rfl; have w3 := he 3 rfl; have w4 := he 4 rfl; have w13 := he 13 rfl; have w32 := he 32 rfl; (try simp only [T.get_put, Nat.reduceEqDiff, reduceIte, v0, v1, v2, v3, v4, v13, v32] at w0 w1 w2 w3 w4 w13 w32); clear he v0 v1 v2 v3 v4 v13 v32; have v0 := w0; have v1 := w1; have v2 := w2; have v3 := w3; have v4 := w4; have v13 := w13; have v32 := w32; clear w0 w1 w2 w3 w4 w13 w32)
    | ((with_reducible apply wo_eq); (· (simp (disch := (first | assumption | omega)) only [opsA_cons, opsA_nil, wantedA, stepA_t, callA, runOp_n, opA, ev, afterA_s, putA, Bo, withH_s, v0]; exact rfl)))
    | ((with_reducible apply wo_box H); clear H; intro n h H0n H))

  obtain ⟨p1, H, v1⟩ : ∃ p1, Hs [] b h [gr 2 1 nilS [] 0, blk id p1 [w, Bo great]] [isl w (us.map fun x => AV.lit (.int .u8 x))] ∧ e.get 1 = some (.ptr p1 0) := ⟨_, H.nil 2 1, v1⟩
  obtain ⟨N, hN⟩ : ∃ N, N = min us.length 200 := ⟨_, rfl⟩
  refine wc_loop (fun m e h' => ∃ k u, m = N - k ∧ k ≤ N ∧ e.get 1 = some (.ptr p1 0) ∧ e.get 3 = some u ∧ e.get 4 = some (I (k : Int)) ∧ Hs [] b h' [gr 2 1 u (((us.take k).map fun x => x.tmod 16).map I) k, blk id p1 [w, Bo great]] [isl w (us.map fun x => AV.lit (.int .u8 x))]) N ?_ ⟨0, nilS, rfl, Nat.zero_le _, v1, v3, v4, H⟩ ?_
  · omega
  · clear H v1 v3 v4
    rintro m e h ⟨k, u, rfl, hk, v1, v3, v4, H⟩
    by_cases hlt : k < N
    · obtain ⟨x, hx⟩ := at_some (show k < us.length by omega)
      have hxs : (us.map fun x => AV.lit (.int .u8 x))[k]? = some (AV.lit (.int .u8 x)) := by rw [List.getElem?_map, hx]; rfl
      have hxb := hu x (List.mem_of_getElem? hx)
      have h16 := tm16 hxb.1
      have hcv := cnv5 (x.tmod 16) h16.1 (by omega)
      ((with_reducible apply wc_c (fun i => Nat.beq i 0 || Nat.beq i 1 || Nat.beq i 2 || Nat.beq i 3 || Nat.beq i 4 || Nat.beq i 13 || Nat.beq i 32)); intro e he; have w9 := he 0 rfl; (try simp only [T.get_put, Nat.reduceEqDiff, reduceIte] at w9); have v0 := w9; clear w9; have w9 := he 1 rfl; (try simp only [v1] at w9); replace v1 := w9; clear w9; have w9 := he 2 rfl; (try simp only [T.get_put, Nat.reduceEqDiff, reduceIte] at w9); have v2 := w9; clear w9; have w9 := he 3 rfl; (try simp only [v3] at w9); replace v3 := w9; clear w9; have w9 := he 4 rfl; (try simp only [v4] at w9); replace v4 := w9; clear w9; have w9 := he 13 rfl; (try simp only [T.get_put, Nat.reduceEqDiff, reduceIte] at w9); have v13 := w9; clear w9; have w9 := he 32 rfl; (try simp only [T.get_put, Nat.reduceEqDiff, reduceIte] at w9); have v32 := w9; clear w9; clear he)
      repeat' (first
        | with_reducible apply wc_seq
        | ((with_reducible apply wc_region); (· (rfl)))
        | with_reducible apply wo_some
        | ((with_reducible apply wc_cond); (· (simp (disch := (first | assumption | omega)) only [ev, Option.some.injEq, v13] <;> rfl)); all_goals (intro hg; (try (try simp only [Bool.not_eq_true'] at hg)); first | (exfalso; exact Bool.noConfusion hg) | (exfalso; exact hg) | skip))
        | with_reducible apply wc_block
        | with_reducible apply wc_skip
        | with_reducible apply bx_n
        | (simp only [rep1, cells_int, putAt_z, over_nil, over_cons, repl_one, Nat.mul_one, ti2, ti2] at H)
        | ((with_reducible apply nx_c (fun i => Nat.beq i 0 || Nat.beq i 1 || Nat.beq i 2 || Nat.beq i 3 || Nat.beq i 4 || Nat.beq i 13 || Nat.beq i 32)); intro e he; have w0 := he 0 rfl; have w1 := he 1 rfl; have w2 := he 2 rfl; have w3 := he 3 rfl; have w4 := he 4 rfl; have w13 := he 13 rfl; have w32 := he 32 rfl; (try simp only [T.get_put, Nat.reduceEqDiff, reduceIte, v0, v1, v2, v3, v4, v13, v32] at w0 w1 w2 w3 w4 w13 w32); clear he v0 v1 v2 v3 v4 v13 v32; have v0 := w0; have v1 := w1; have v2 := w2; have v3 := w3; have v4 := w4; have v13 := w13; have v32 := w32; clear w0 w1 w2 w3 w4 w13 w32)
        | ((with_reducible apply wo_eq); (· (simp (disch := (first | assumption | omega)) only [beq_self_eq_true, eq_self, opsA_cons, opsA_nil, wantedA, guardA, yieldA, stepA_t, callA, calleeA, runOp_n, opA, ev, evs, consO, consOO, pickA, afterA_s, putA, T.get_put, Nat.reduceEqDiff, reduceIte, List.getElem?_toArray, List.getElem?_cons_zero, List.getElem?_cons_succ, oBuiltin, oBin, binA, binG, binL, aggO, litA, oIndexAddr, cond_true, decide_true, blt_eq, I, Bo, fieldAddrA, oFieldAddr, Nat.add_zero, Nat.reduceLT, ty5, ti5, ty33, ti33, ty35, ti35, ty5, ti5, ii_add, ii_lss, iu_rem, withH_s, oBuildSlice, evParts, consP, oConv, dec_t, wrap_ok, id_eq, Nat.add_zero, v1, v3, v4, List.length_map, hcv]; exact rfl)))
        | ((with_reducible apply wo_load1 H); (· ((with_reducible repeat' first | exact mem_h _ _ | apply mem_t); done)); (· (rfl)); (· ((first | rfl | assumption))))
        | ((with_reducible apply wo_loadc H); (· ((with_reducible repeat' first | exact mem_h _ _ | apply mem_t); done)); (· (rfl)))
        | ((with_reducible apply wo_len H); (· ((with_reducible repeat' first | exact mem_h _ _ | apply mem_t); done)); (· (exact ty33)); (· (rfl)))
        | ((with_reducible apply wo_ia H); (· ((with_reducible repeat' first | exact mem_h _ _ | apply mem_t); done)); (· (exact ty33)); (· (rfl)); (· ((first | exact ty5 | exact ty5))); (· (rfl)); (· (rfl)); (· (assumption)); clear H; intro n o H)
        | ((with_reducible apply wo_bs H); (· (exact ty22)); (· (rfl)); (· ((first | exact ty2 | exact ty2))); (· (kernel_rfl)); (· ((first | rfl | (simp only [fillA_nil, fillA_cons, repl_z, repl_s, cells_int, cells_bool, cells_str, cells_float, cells_np, cells_nil, cells_nf, cells_ptr, cells_slice, cells_fn, cells_agg, cells_lagg, v0, v1, v2, v3, v4, v13, v32, one1, List.length_map, hcv]; rfl)))); clear H; intro n h H0n H)
        | ((with_reducible apply wo_app H); (· ((with_reducible repeat' first | exact PickF.here _ _ | apply PickF.there); done)); (· (exact ty22)); (· (rfl)); (· ((first | exact ty2 | exact ty2))); (· (rfl)); (· (decide)); (· (kernel_rfl)); (· ((with_reducible repeat' first | exact mem_h _ _ | apply mem_t); done)); (· (rfl)); (· ((first | rfl | (simp (disch := assumption) only [onesA_cons', onesA_nil, cells_int, cells_bool, cells_str, cells_float, cells_np, cells_nil, cells_nf, cells_ptr, cells_slice, cells_fn, cells_agg, cells_lagg, litCells_cons, litCells_nil, one_t, one_int, one_bool, one_str, one_nil, one_np, one_ptr, one_slice, GT.one_val, Bool.and_true, Bool.and_self, id_eq]; done)))); (· ((first | omega | (simp; done) | (simp; omega)))); clear H; intro u h H)
        | simp (disch := (first | assumption | omega)) only [eq_self, Option.some.injEq, I, Bo, v1, v3, v4])
      all_goals (first | (exfalso; omega) | skip)
      all_goals (
        refine ⟨N - (k + 1), by omega, k + 1, _, rfl, by omega, by trivial, rfl, by rw [show ((k + 1 : Nat) : Int) = (k : Int) + 1 from by omega], ?_⟩
        rw [take_at hx, List.map_append, List.map_append, List.map_cons, List.map_nil, List.map_cons, List.map_nil]
        exact H.sub (by (with_reducible repeat' first | exact List.Sublist.refl _ | apply List.Sublist.cons_cons | apply List.Sublist.cons); done) (by (repeat' (first | exact znil | (apply zcons; (· ((with_reducible repeat' first | exact mem_h _ _ | apply mem_t); done))))); done))
    · obtain rfl : k = N := by omega
      have hY : us.take k = us.take 200 := by rw [hN]; by_cases h7 : us.length ≤ 200; rw [List.take_of_length_le (by omega), List.take_of_length_le h7]; rw [Nat.min_eq_right (by omega)]
      have hYl : (((us.take k).map fun x => x.tmod 16)).length = k := by rw [List.length_map, List.length_take]; omega
      cases great
      · ((with_reducible apply wc_c (fun i => Nat.beq i 0 || Nat.beq i 1 || Nat.beq i 2 || Nat.beq i 3 || Nat.beq i 4 || Nat.beq i 13 || Nat.beq i 32)); intro e he; have w9 := he 0 rfl; (try simp only [T.get_put, Nat.reduceEqDiff, reduceIte] at w9); have v0 := w9; clear w9; have w9 := he 1 rfl; (try simp only [v1] at w9); replace v1 := w9; clear w9; have w9 := he 2 rfl; (try simp only [T.get_put, Nat.reduceEqDiff, reduceIte] at w9); have v2 := w9; clear w9; have w9 := he 3 rfl; (try simp only [v3] at w9); replace v3 := w9; clear w9; have w9 := he 4 rfl; (try simp only [v4] at w9); replace v4 := w9; clear w9; have w9 := he 13 rfl; (try simp only [T.get_put, Nat.reduceEqDiff, reduceIte] at w9); have v13 := w9; clear w9; have w9 := he 32 rfl; (try simp only [T.get_put, Nat.reduceEqDiff, reduceIte] at w9); have v32 := w9; clear w9; clear he)
        repeat' (first
          | with_reducible apply wc_seq
          | ((with_reducible apply wc_region); (· (rfl)))
          | with_reducible apply wo_some
          | ((with_reducible apply wc_cond); (· (simp (disch := (first | assumption | omega)) only [ev, Option.some.injEq, v13, v32] <;> rfl)); all_goals (intro hg; (try (try simp only [Bool.not_eq_true'] at hg)); first | (exfalso; exact Bool.noConfusion hg) | (exfalso; exact hg) | skip))
          | with_reducible apply wc_skip
          | with_reducible apply wc_exit
          | with_reducible apply wc_ret
          | with_reducible apply nx_e
          | ((with_reducible apply bx_hit); (· (rfl)))
          | ((with_reducible apply nx_c (fun i => Nat.beq i 0 || Nat.beq i 1 || Nat.beq i 2 || Nat.beq i 3 || Nat.beq i 4 || Nat.beq i 13 || Nat.beq i 32)); intro e he; have w0 := he 0 rfl; have w1 := he 1 rfl; have w2 := he 2 rfl; have w3 := he 3 rfl; have w4 := he 4 rfl; have w13 := he 13 rfl; have w32 := he 32 rfl; (try simp only [T.get_put, Nat.reduceEqDiff, reduceIte, v0, v1, v2, v3, v4, v13, v32] at w0 w1 w2 w3 w4 w13 w32); clear he v0 v1 v2 v3 v4 v13 v32; have v0 := w0; have v1 := w1; have v2 := w2; have v3 := w3; have v4 := w4; have v13 := w13; have v32 := w32; clear w0 w1 w2 w3 w4 w13 w32)
          | ((with_reducible apply wo_eq); (· (simp (disch := (first | assumption | omega)) only [beq_self_eq_true, eq_self, opsA_cons, opsA_nil, wantedA, guardA, yieldA, stepA_t, stepA_f, callA, calleeA, runOp_n, opA, ev, evs, consO, consOO, pickA, afterA_s, putA, T.get_put, Nat.reduceEqDiff, reduceIte, List.getElem?_toArray, List.getElem?_cons_zero, List.getElem?_cons_succ, oBuiltin, oBin, binA, binG, binL, aggO, litA, cond_true, decide_true, blt_eq, ft_beq, I, Bo, fieldAddrA, oFieldAddr, Nat.zero_add, Nat.add_zero, Nat.reduceLT, ty4, ti4, ty33, ti33, ty35, ti35, ii_lss, withH_s, dec_t, dec_f, id_eq, Nat.zero_add, Nat.add_zero, v1, v3, v4, List.length_map]; exact rfl)))
          | ((with_reducible apply wo_load1 H); (· ((with_reducible repeat' first | exact mem_h _ _ | apply mem_t); done)); (· (rfl)); (· ((first | rfl | assumption))))
          | ((with_reducible apply wo_len H); (· ((with_reducible repeat' first | exact mem_h _ _ | apply mem_t); done)); (· (exact ty33)); (· (rfl)))
          | ((with_reducible apply wo_step) <;> intro hg <;> (try simp only [beq_true, decide_eq_true_eq, decide_eq_false_iff_not] at hg) <;> (try subst hg) <;> (first | (exfalso; exact Bool.noConfusion hg) | skip))
          | ((first | with_reducible apply wv_ret | with_reducible apply wv_end); (· ((repeat' (first | with_reducible exact rs_nil | ((with_reducible apply rs_tmp); (· (simp (disch := (first | assumption | omega)) only [Option.some.injEq, v2] <;> rfl))) | ((with_reducible apply rs_cell); (· (simp (disch := (first | assumption | omega)) only [ev, T.get_put, Nat.reduceEqDiff, reduceIte, Option.some.injEq, dec_t, dec_f, Bool.not_true, Bool.not_false, v0, v1, v2, v3, v4, v13, v32, one1, List.length_map] <;> rfl)); (· (kernel_rfl)); (· (rfl)); (· (exact H.ld1 (by (with_reducible repeat' first | exact mem_h _ _ | apply mem_t); done) rfl))) | ((with_reducible apply rs_celln); (· (simp (disch := (first | assumption | omega)) only [ev, T.get_put, Nat.reduceEqDiff, reduceIte, Option.some.injEq, dec_t, dec_f, Bool.not_true, Bool.not_false, v0, v1, v2, v3, v4, v13, v32, one1, List.length_map] <;> rfl)); (· (kernel_rfl)); (· (rfl)); (· (exact H.ldn (by (with_reducible repeat' first | exact mem_h _ _ | apply mem_t); done) rfl rfl))))); done))))
        all_goals (first | first | (exfalso; omega) | (have hz9 : ofR us false = (us.take k).map (fun x => x.tmod 16) := (by unfold ofR; dsimp only; rw [← hY, if_neg (fun h => by cases h.1)]); rw [hz9]; have hm9 := H.p (a := gr 2 1 u _ _) (by (with_reducible repeat' first | exact mem_h _ _ | apply mem_t); done); exact ⟨u, rfl, gr_lc' hm9 hYl, H.toExt, fun m hn => ((H.own (gr 2 1 u _ _) (by (with_reducible repeat' first | exact mem_h _ _ | apply mem_t); done)).2 m (nmO_mem.2 hn)).elim id (fun h => by cases h)⟩) | trace_state)
      · ((with_reducible apply wc_c (fun i => Nat.beq i 0 || Nat.beq i 1 || Nat.beq i 2 || Nat.beq i 3 || Nat.beq i 4 || Nat.beq i 13 || Nat.beq i 32)); intro e he; have w9 := he 0 rfl; (try simp only [T.get_put, Nat.reduceEqDiff, reduceIte] at w9); have v0 := w9; clear w9; have w9 := he 1 rfl; (try simp only [v1] at w9); replace v1 := w9; clear w9; have w9 := he 2 rfl; (try simp only [T.get_put, Nat.reduceEqDiff, reduceIte] at w9); have v2 := w9; clear w9; have w9 := he 3 rfl; (try simp only [v3] at w9); replace v3 := w9; clear w9; have w9 := he 4 rfl; (try simp only [v4] at w9); replace v4 := w9; clear w9; have w9 := he 13 rfl; (try simp only [T.get_put, Nat.reduceEqDiff, reduceIte] at w9); have v13 := w9; clear w9; have w9 := he 32 rfl; (try simp only [T.get_put, Nat.reduceEqDiff, reduceIte] at w9); have v32 := w9; clear w9; clear he)
        repeat' (first
          | with_reducible apply wc_seq
          | ((with_reducible apply wc_region); (· (rfl)))
          | with_reducible apply wo_some
          | ((with_reducible apply wc_cond); (· (simp (disch := (first | assumption | omega)) only [ev, Option.some.injEq, v13, v32] <;> rfl)); all_goals (intro hg; (try (try simp only [decide_eq_true_eq, decide_eq_false_iff_not] at hg)); first | (exfalso; exact Bool.noConfusion hg) | (exfalso; exact hg) | skip))
          | with_reducible apply wc_skip
          | with_reducible apply wc_exit
          | with_reducible apply wc_ret
          | with_reducible apply nx_e
          | ((with_reducible apply bx_hit); (· (rfl)))
          | ((with_reducible apply nx_c (fun i => Nat.beq i 0 || Nat.beq i 1 || Nat.beq i 2 || Nat.beq i 3 || Nat.beq i 4 || Nat.beq i 13 || Nat.beq i 32)); intro e he; have w0 := he 0 rfl; have w1 := he 1 rfl; have w2 := he 2 rfl; have w3 := he 3 rfl; have w4 := he 4 rfl; have w13 := he 13 rfl; have w32 := he 32 rfl; (try simp only [T.get_put, Nat.reduceEqDiff, reduceIte, v0, v1, v2, v3, v4, v13, v32] at w0 w1 w2 w3 w4 w13 w32); clear he v0 v1 v2 v3 v4 v13 v32; have v0 := w0; have v1 := w1; have v2 := w2; have v3 := w3; have v4 := w4; have v13 := w13; have v32 := w32; clear w0 w1 w2 w3 w4 w13 w32)
          | ((with_reducible apply wo_eq); (· (simp (disch := (first | assumption | omega)) only [beq_self_eq_true, eq_self, opsA_cons, opsA_nil, wantedA, guardA, yieldA, stepA_t, stepA_f, callA, calleeA, runOp_n, opA, ev, evs, consO, consOO, pickA, afterA_s, putA, T.get_put, Nat.reduceEqDiff, reduceIte, List.getElem?_toArray, List.getElem?_cons_zero, List.getElem?_cons_succ, oBuiltin, oBin, binA, binG, binL, aggO, litA, oIndexAddr, cond_true, decide_true, blt_eq, ft_beq, I, Bo, fieldAddrA, oFieldAddr, Nat.zero_add, Nat.add_zero, Nat.reduceLT, ty2, ti2, ty4, ti4, ty33, ti33, ty35, ti35, ty2, ti2, ii_lss, ii_gtr, withH_s, dec_t, dec_f, id_eq, Nat.zero_add, Nat.add_zero, v1, v3, v4, List.length_map]; exact rfl)))
          | (((with_reducible apply wo_leng1 H); (· ((with_reducible repeat' first | exact PickF.here _ _ | apply PickF.there); done)); (· (exact ty22)); (· (rfl))))
          | (((with_reducible apply wo_iast (j := 0) H); (· ((with_reducible repeat' first | exact PickF.here _ _ | apply PickF.there); done)); (· (exact ty22)); (· (rfl)); (· ((first | exact ty2 | exact ty2))); (· (rfl)); (· (first | rfl | assumption)); (· ((first | omega | assumption))); intro nm9 hn9 hu9))
          | (((with_reducible apply wo_stg H); (· ((with_reducible repeat' first | exact PickF.here _ _ | apply PickF.there); done)); (· (assumption)); (· ((first | omega | assumption))); (· (rfl)); (· (rfl)); (· (rfl)); clear H; intro h H))
          | ((with_reducible apply wo_load1 H); (· ((with_reducible repeat' first | exact mem_h _ _ | apply mem_t); done)); (· (rfl)); (· ((first | rfl | assumption))))
          | ((with_reducible apply wo_len H); (· ((with_reducible repeat' first | exact mem_h _ _ | apply mem_t); done)); (· (exact ty33)); (· (rfl)))
          | ((with_reducible apply wo_step) <;> intro hg <;> (try simp only [beq_true, decide_eq_true_eq, decide_eq_false_iff_not] at hg) <;> (try subst hg) <;> (first | (exfalso; exact Bool.noConfusion hg) | skip))
          | ((first | with_reducible apply wv_ret | with_reducible apply wv_end); (· ((repeat' (first | with_reducible exact rs_nil | ((with_reducible apply rs_tmp); (· (simp (disch := (first | assumption | omega)) only [Option.some.injEq, v2] <;> rfl))) | ((with_reducible apply rs_cell); (· (simp (disch := (first | assumption | omega)) only [ev, T.get_put, Nat.reduceEqDiff, reduceIte, Option.some.injEq, dec_t, dec_f, Bool.not_true, Bool.not_false, v0, v1, v2, v3, v4, v13, v32, one1, List.length_map] <;> rfl)); (· (kernel_rfl)); (· (rfl)); (· (exact H.ld1 (by (with_reducible repeat' first | exact mem_h _ _ | apply mem_t); done) rfl))) | ((with_reducible apply rs_celln); (· (simp (disch := (first | assumption | omega)) only [ev, T.get_put, Nat.reduceEqDiff, reduceIte, Option.some.injEq, dec_t, dec_f, Bool.not_true, Bool.not_false, v0, v1, v2, v3, v4, v13, v32, one1, List.length_map] <;> rfl)); (· (kernel_rfl)); (· (rfl)); (· (exact H.ldn (by (with_reducible repeat' first | exact mem_h _ _ | apply mem_t); done) rfl rfl))))); done))))
        all_goals (first | first | (exfalso; omega) | (have hz9 : ofR us true = ((us.take k).map (fun x => x.tmod 16)).set 0 2305843009213693952 := (by unfold ofR; dsimp only; rw [← hY, if_pos ⟨rfl, by omega⟩]); rw [hz9]; have hm9 := H.p (a := gr 2 1 u _ _) (by (with_reducible repeat' first | exact mem_h _ _ | apply mem_t); done); rw [← List.map_set] at hm9; exact ⟨u, rfl, gr_lc' hm9 (by rw [List.length_set]; exact hYl), H.toExt, fun m hn => ((H.own (gr 2 1 u _ _) (by (with_reducible repeat' first | exact mem_h _ _ | apply mem_t); done)).2 m (nmO_mem.2 hn)).elim id (fun h => by cases h)⟩) | (have hz9 : ofR us true = (us.take k).map (fun x => x.tmod 16) := (by unfold ofR; dsimp only; rw [← hY, if_neg (by omega)]); rw [hz9]; have hm9 := H.p (a := gr 2 1 u _ _) (by (with_reducible repeat' first | exact mem_h _ _ | apply mem_t); done); exact ⟨u, rfl, gr_lc' hm9 hYl, H.toExt, fun m hn => ((H.own (gr 2 1 u _ _) (by (with_reducible repeat' first | exact mem_h _ _ | apply mem_t); done)).2 m (nmO_mem.2 hn)).elim id (fun h => by cases h)⟩) | trace_state)


def isLives (f : FuncId) : Bool := Nat.beq f 9
noncomputable def all99 : CallF := plus isLives (runA ctx 5000 99)
theorem w9 (h : Hp) : Wv (all99 9 [] h) (fun r h' => r = Bo true ∧ h' = h) := ⟨_, _, plus_lit rfl, rfl, rfl⟩
theorem all_of {f : Nat} {args : List AV} {h : Hp} {Q : AV → Hp → Prop} (hf : isLives f = false) (h1 : Wv (runA ctx 5000 99 f args h) Q) : Wv (all99 f args h) Q := by
  unfold all99; rw [plus_not hf]; exact h1
def In (a : Int) : Prop := -9223372036854775808 ≤ a ∧ a ≤ 9223372036854775807
end Go.Proofs.Ytpioenfglmimgaa
