import Derived.Test.YtolpndlnabodgaaVD
import Derived.Test.YtolpndlnabodgaaO7
import Derived.KernelRfl
namespace Go.Proofs.Ytolpndlnabodgaa
open Go Go.Proofs Go.RowKit Go.Proofs.Abs
set_option linter.unusedSimpArgs false
set_option linter.unusedVariables false
def c3e (p : Ent) : List AV := [U32 p.1, Bo p.2.1, I p.2.2]
/-- the numbers of free slots -/
def fi (fs : List Nat) : List Int := fs.map fun f : Nat => (f : Int)
theorem fi_len (fs : List Nat) : ((fi fs).map I).length = fs.length := by rw [List.length_map]; exact List.length_map _
theorem c3e_ones : ∀ ls : List Ent, onesA (ls.map c3e).flatten = true := fun ls => ones_flat fun r hr => by
  obtain ⟨p, _, rfl⟩ := List.mem_map.1 hr
  rfl
theorem av_sl (n o l c z : Nat) (r : Bool) : avB 4 (.slice n o l r c z) (.slice n o l r c z) = true := by
  show ((n == n) && (o == o) && (l == l) && (r == r) && (c == c) && (z == z)) = true
  simp
theorem av_ip (k : IntKind) (x : Int) : avB 4 (.lit (.int k x)) (.lit (.int k x)) = true := by
  show ((k == k) && (x == x)) = true
  simp
theorem isr_av {α : Type} {f : α → List AV} {s : Nat} {h : Hp} {w : AV} {ys : List α} (r : IsR f s h w ys) : avB 4 w w = true := by
  rcases r with ⟨rfl, _⟩ | ⟨nm, off, rest, cap, z, rfl, _, _⟩
  · rfl
  · exact av_sl _ _ _ _ _ _
theorem owr_av {e s : Nat} {h : Hp} {w : AV} {R : List (List AV)} (r : OwR e s h w R) : avB 4 w w = true := by
  rcases r.is with ⟨rfl, _⟩ | ⟨nm, r, c, rfl⟩
  · rfl
  · exact av_sl _ _ _ _ _ _
theorem gr_one {e s : Nat} {h : Hp} {v : AV} {cs : List AV} {n : Nat} (g : Gr e s h v cs n) : oneA v = true := by
  rcases g.is with ⟨rfl, _⟩ | ⟨nm, r, rfl, _, _⟩ <;> rfl
theorem gr_cells {e s : Nat} {h : Hp} {v : AV} {cs : List AV} {n : Nat} (g : Gr e s h v cs n) : cellsOf v = [v] := by
  rcases g.is with ⟨rfl, _⟩ | ⟨nm, r, rfl, _, _⟩ <;> rfl
theorem b29 {w u : AV} (h1 : cellsOf w = [w]) (h2 : cellsOf u = [u]) : buildA ctx 29 [(0, w), (1, u)] = some (.agg [w, u]) := by
  unfold buildA
  rw [ty29]
  simp only [ti29, fillA_cons, fillA_nil, h1, h2]
  rfl
theorem wo_b29 {k : OpsK} {env : Env} {dst : Option Tmp} {h : Hp} {Q : Env → Hp → Prop} {w u : AV} (h1 : cellsOf w = [w]) (h2 : cellsOf u = [u]) (h3 : Wo (k (putA env (.agg [w, u]) dst) h) Q) : Wo (afterA k env dst (withH h (buildA ctx 29 [(0, w), (1, u)]))) Q := by
  rw [b29 h1 h2]; exact h3
set_option maxHeartbeats 4000000 in
theorem k13 (d : Nat) (b : Hp) (vL vF : AV) (ls : List Ent) (fs : List Nat) (pL : IsR c3e 3 b vL ls) (pF : Lc false b vF ((fi fs).map I)) (hll : ls.length ≤ 1000) (hfl : fs.length ≤ 1000) : Wv (runA ctx 5000 (d + 1) 13 [.agg [vL, vF]] b) (fun r h' => ∃ wL wF, r = .agg [wL, wF] ∧ OwR 46 3 h' wL (ls.map c3e) ∧ Lc false h' wF ((fi fs).map I) ∧ Ext b h' ∧ (∀ m, nmO wL = some m → b.c ≤ m) ∧ (∀ m, nmO wF = some m → b.c ≤ m ∧ nmO wL ≠ some m)) := by
  have one1 := pL.one.1
  have one2 := pL.one.2
  have one3 := pF.one
  have one4 := pF.cells
  have hav := isl_av pF.isL
  have hal : avB 4 vL vL = true := isr_av pL
  have hfi := fi_len fs
  have H := (((Hs.start b).z0 (z := isr c3e 3 vL ls) pL).z0 (z := lc false vF ((fi fs).map I)) pF).z0 (z := isl vF ((fi fs).map I)) pF.isL
  refine wv_run fn13 rfl ?_
  have a0 : (enterEnv [.agg [vL, vF]] Try.f13.ntmps).get 0 = some (.agg [vL, vF]) := enter_get1 _ _ _
  generalize enterEnv [.agg [vL, vF]] Try.f13.ntmps = e at a0 ⊢
  unfold Try.f13
  dsimp only
  ((with_reducible apply wc_c (fun i => Nat.beq i 0 || Nat.beq i 1 || Nat.beq i 2)); intro e he; have w9 := he 0 rfl; (try simp only [a0] at w9); have v0 := w9; clear w9; have w9 := he 1 rfl; (try simp only [T.get_put, Nat.reduceEqDiff, reduceIte] at w9); have v1 := w9; clear w9; have w9 := he 2 rfl; (try simp only [T.get_put, Nat.reduceEqDiff, reduceIte] at w9); have v2 := w9; clear w9; clear he)
  repeat' (first
    | with_reducible apply wc_seq
    | ((with_reducible apply wc_region); (· (rfl)))
    | with_reducible apply wo_some
    | with_reducible apply wc_ret
    | (simp only [patch, List.take_zero, List.drop_succ_cons, List.drop_nil, List.nil_append, List.append_nil, List.length_cons, List.length_nil, Nat.zero_add, Nat.reduceAdd, cells_agg, cells_lagg, litCells_cons, litCells_nil] at H)
    | ((with_reducible apply nx_c (fun i => Nat.beq i 0 || Nat.beq i 1 || Nat.beq i 2)); intro e he; have w0 := he 0 rfl; have w1 := he 1 rfl; have w2 := he 2 rfl; (try simp only [T.get_put, Nat.reduceEqDiff, reduceIte, v0, v1, v2] at w0 w1 w2); clear he v0 v1 v2; have v0 := w0; have v1 := w1; have v2 := w2; clear w0 w1 w2)
    | ((with_reducible apply wo_eq); (· (simp (disch := (first | assumption | omega)) only [eq_self, opsA_cons, opsA_nil, wantedA, stepA_t, callA, calleeA, runOp_n, opA, ev, evs, consO, consOO, afterA_s, putA, T.get_put, Nat.reduceEqDiff, reduceIte, List.getElem?_toArray, List.getElem?_cons_zero, List.getElem?_cons_succ, oBuiltin, cond_true, decide_true, blt_eq, fieldAddrA, oFieldAddr, Nat.zero_add, Nat.add_zero, Nat.reduceLT, ty26, ti26, ty27, ti27, ty29, ti29, ty26, ti26, ty27, ti27, ty29, ti29, withH_s, oBuild, evParts, consP, id_eq, Nat.zero_add, Nat.add_zero, v0, v1, v2]; exact rfl)))
    | (((with_reducible apply wc_dynW (p := (4, 2)) (ps := [])); (· (kernel_rfl)); have dq0 := oload1 (ti := ti27) rfl (H.ld1 (f := id) (n := _) (off := 1) (N := [vL, vF]) (by (with_reducible repeat' first | exact mem_h _ _ | apply mem_t); done) rfl); (try simp only [id_eq, ti27] at dq0)))
    | (with_reducible apply wt_cons)
    | (((with_reducible apply wt_nil); refine And.intro ?_ (Exists.intro _ (Exists.intro _ (And.intro rfl ?_))); (· (simp (disch := (first | assumption | omega)) only [eq_self, wantedA, opA, ev, T.get_put, Nat.reduceEqDiff, reduceIte, List.getElem?_cons_zero, List.getElem?_cons_succ, Bool.and_true, ty27, ti27, ty27, ti27, dq0, dq1, hav, checksD_nil, checksD_cons, checkD, checkG, sameR]; done))))
    | (((with_reducible apply wo_b29); (· (first | assumption | rfl)); (· (first | assumption | rfl))))
    | (((with_reducible apply wo_rapp0 H); (· ((with_reducible repeat' first | exact mem_h _ _ | apply mem_t); done)); (· ((first | exact ty26 | exact ty26))); (· (rfl)); (· (exact ty46)); (· (rfl)); (· (decide)); (· (kernel_rfl)); (· (exact (fun _ _ => rfl))); (· (exact c3e_ones _)); (· (omega)); clear H; intro u h H; have ou := (H.p (a := owr _ _ u _) (by (with_reducible repeat' first | exact mem_h _ _ | apply mem_t); done) : OwR _ _ _ u _).one; have cu := (H.p (a := owr _ _ u _) (by (with_reducible repeat' first | exact mem_h _ _ | apply mem_t); done) : OwR _ _ _ u _).cells; have dq1 := oload1 (ti := ti27) rfl (H.ld1 (f := id) (n := _) (off := 1) (N := [vL, vF]) (by (with_reducible repeat' first | exact mem_h _ _ | apply mem_t); done) rfl); (try simp only [id_eq, ti27] at dq1)))
    | ((replace H := H.nil 3 1; ((with_reducible apply wo_appz H); (· ((with_reducible repeat' first | exact PickF.here _ _ | apply PickF.there); done)); (· ((first | exact ty27 | exact ty27))); (· (rfl)); (· (exact ty2)); (· (rfl)); (· (kernel_rfl)); (· ((with_reducible repeat' first | exact mem_h _ _ | apply mem_t); done)); (· (exact ones_I _)); (· (omega)); clear H; intro u2 h H; have ou2 := gr_one (H.p (a := gr _ _ u2 _ _) (by (with_reducible repeat' first | exact mem_h _ _ | apply mem_t); done) : Gr _ _ _ u2 _ _); have cu2 := gr_cells (H.p (a := gr _ _ u2 _ _) (by (with_reducible repeat' first | exact mem_h _ _ | apply mem_t); done) : Gr _ _ _ u2 _ _))))
    | ((with_reducible apply wo_box H); clear H; intro n h H0n H)
    | ((with_reducible apply wo_alloc H); (· (rfl)); clear H; intro n h H0n H)
    | ((with_reducible apply wo_load1 H); (· ((with_reducible repeat' first | exact mem_h _ _ | apply mem_t); done)); (· (rfl)); (· ((first | rfl | assumption))))
    | ((with_reducible apply wo_storen H); (· ((with_reducible repeat' first | exact Pick.here _ _ _ | apply Pick.there); done)); (· ((first | rfl | assumption | exact cells_one (H.pz (by (with_reducible repeat' first | exact mem_h _ _ | apply mem_t); done))))); (· ((first | rfl | (simp (disch := assumption) only [onesA_cons', onesA_nil, cells_agg, one_t, Bool.and_self]; done)))); (· (rfl)); (· ((first | exact Nat.le_of_ble_eq_true rfl | omega | (simp only [List.length_set, List.length_replicate, List.length_map, List.length_cons, List.length_nil]; omega) | (simp; done) | (simp; omega)))); clear H; intro h H)
    | ((first | with_reducible apply wv_ret | with_reducible apply wv_end); (· ((repeat' (first | with_reducible exact rs_nil | ((with_reducible apply rs_tmp); (· (simp (disch := (first | assumption | omega)) only [ev, T.get_put, Nat.reduceEqDiff, reduceIte, Option.some.injEq, dec_t, dec_f, Bool.not_true, Bool.not_false, v0, v1, v2, conv40, conv3, conv2, uu_eql, uu_neq, uu_gtr, uu_lss, uu_add, uu_sub, wrap_u32k, rws_len, one1, one2, one3, one4] <;> rfl))) | ((with_reducible apply rs_cell); (· (simp (disch := (first | assumption | omega)) only [Option.some.injEq, v2] <;> rfl)); (· ((first | exact ty29 | exact ty29))); (· (rfl)); (· (exact H.ld1 (by (with_reducible repeat' first | exact mem_h _ _ | apply mem_t); done) rfl))) | ((with_reducible apply rs_celln); (· (simp (disch := (first | assumption | omega)) only [Option.some.injEq, v2] <;> rfl)); (· ((first | exact ty29 | exact ty29))); (· (rfl)); (· (exact H.ldn (by (with_reducible repeat' first | exact mem_h _ _ | apply mem_t); done) rfl rfl))))); done)))
    | simp (disch := (first | assumption | omega)) only [ti29, ti29, List.take_succ_cons, List.take_zero, List.drop_zero])

  all_goals first | (exfalso; omega) | exact ⟨u, u2, rfl, H.p (a := owr _ _ u _) (by (with_reducible repeat' first | exact mem_h _ _ | apply mem_t); done), gr_lc' (H.p (a := gr _ _ u2 _ _) (by (with_reducible repeat' first | exact mem_h _ _ | apply mem_t); done)) (by simp), H.toExt, fun m hm => ((H.own (owr 46 3 u (ls.map c3e)) (by (with_reducible repeat' first | exact mem_h _ _ | apply mem_t); done)).2 m (nmO_mem.2 hm)).elim id (fun h => by cases h), fun m hm => ⟨((H.own (gr 3 1 u2 _ _) (by (with_reducible repeat' first | exact mem_h _ _ | apply mem_t); done)).2 m (nmO_mem.2 hm)).elim id (fun h => by cases h), fun h2 => absurd (nmO_mem.2 h2) (Pick2.apart (a := gr 3 1 u2 _ _) (b := owr 46 3 u _) (by first | exact Pick2.h1 _ (.here _ _) | exact Pick2.h1 _ (.there _ (.here _ _)) | exact Pick2.h1 _ (.there _ (.there _ (.here _ _))) | exact Pick2.h2 _ (.here _ _) | exact Pick2.h2 _ (.there _ (.here _ _)) | exact Pick2.there _ (.h1 _ (.here _ _)) | exact Pick2.there _ (.h1 _ (.there _ (.here _ _))) | exact Pick2.there _ (.h2 _ (.here _ _)) | exact Pick2.there _ (.h2 _ (.there _ (.here _ _))) | exact Pick2.there _ (.there _ (.h1 _ (.here _ _))) | exact Pick2.there _ (.there _ (.h2 _ (.here _ _))) | exact Pick2.there _ (.there _ (.there _ (.h1 _ (.here _ _)))) | exact Pick2.there _ (.there _ (.there _ (.h2 _ (.here _ _))))) H.sep m (nmO_mem.2 hm))⟩⟩


set_option maxHeartbeats 4000000 in
theorem k15 (d : Nat) (b : Hp) (vL vF : AV) (ls : List Ent) (fs : List Nat) (pL : IsR c3e 3 b vL ls) (pF : Lc false b vF ((fi fs).map I)) (hll : ls.length ≤ 1000) (hfl : fs.length ≤ 1000) (i : Nat) (g : Int) (hi : i < 4294967296) (hg : 0 ≤ g ∧ g < 4294967296) : Wv (runA ctx 5000 (d + 1) 15 [.agg [vL, vF], .agg [U32 (i : Int), U32 g]] b) (fun r h' => r = Bo (vld ls i g) ∧ Ext b h') := by
  have one1 := pL.one.1
  have one2 := pL.one.2
  have one3 := pF.one
  have one4 := pF.cells
  have hav := isl_av pF.isL
  have hal : avB 4 vL vL = true := isr_av pL
  have hfi := fi_len fs
  have H := (((Hs.start b).z0 (z := isr c3e 3 vL ls) pL).z0 (z := lc false vF ((fi fs).map I)) pF).z0 (z := isl vF ((fi fs).map I)) pF.isL
  have hg1 := hg.1
  have hg2 := hg.2
  refine wv_run fn15 rfl ?_
  have a0 : (enterEnv [.agg [vL, vF], .agg [U32 (i : Int), U32 g]] Try.f15.ntmps).get 0 = some (.agg [vL, vF]) := enter_get1 _ _ _
  have a1 : (enterEnv [.agg [vL, vF], .agg [U32 (i : Int), U32 g]] Try.f15.ntmps).get 1 = some (.agg [U32 (i : Int), U32 g]) := enter_get2 _ _ _ _
  generalize enterEnv [.agg [vL, vF], .agg [U32 (i : Int), U32 g]] Try.f15.ntmps = e at a0 a1 ⊢
  unfold Try.f15
  dsimp only
  ((with_reducible apply wc_c (fun i => Nat.beq i 0 || Nat.beq i 1 || Nat.beq i 2 || Nat.beq i 3 || Nat.beq i 4 || Nat.beq i 5 || Nat.beq i 10 || Nat.beq i 36)); intro e he; have w9 := he 0 rfl; (try simp only [a0] at w9); have v0 := w9; clear w9; have w9 := he 1 rfl; (try simp only [a1] at w9); have v1 := w9; clear w9; have w9 := he 2 rfl; (try simp only [T.get_put, Nat.reduceEqDiff, reduceIte] at w9); have v2 := w9; clear w9; have w9 := he 3 rfl; (try simp only [T.get_put, Nat.reduceEqDiff, reduceIte] at w9); have v3 := w9; clear w9; have w9 := he 4 rfl; (try simp only [T.get_put, Nat.reduceEqDiff, reduceIte] at w9); have v4 := w9; clear w9; have w9 := he 5 rfl; (try simp only [T.get_put, Nat.reduceEqDiff, reduceIte] at w9); have v5 := w9; clear w9; have w9 := he 10 rfl; (try simp only [T.get_put, Nat.reduceEqDiff, reduceIte] at w9); have v10 := w9; clear w9; have w9 := he 36 rfl; (try simp only [T.get_put, Nat.reduceEqDiff, reduceIte] at w9); have v36 := w9; clear w9; clear he)
  repeat' (first
    | with_reducible apply wc_seq
    | ((with_reducible apply wc_region); (· (rfl)))
    | with_reducible apply wo_some
    | with_reducible apply wc_block
    | (simp only [cells_agg] at H)
    | ((with_reducible apply nx_c (fun i => Nat.beq i 0 || Nat.beq i 1 || Nat.beq i 2 || Nat.beq i 3 || Nat.beq i 4 || Nat.beq i 5 || Nat.beq i 10 || Nat.beq i 36)); intro e he; have w0 := he 0 rfl; have w1 := he 1 rfl; have w2 := he 2 rfl; have w3 := he 3 rfl; have w4 := he 4 rfl; have w5 := he 5 rfl; have w10 := he 10 rfl; have w36 := he 36 rfl; (try simp only [T.get_put, Nat.reduceEqDiff, reduceIte, v0, v1, v2, v3, v4, v5, v10, v36] at w0 w1 w2 w3 w4 w5 w10 w36); clear he v0 v1 v2 v3 v4 v5 v10 v36; have v0 := w0; have v1 := w1; have v2 := w2; have v3 := w3; have v4 := w4; have v5 := w5; have v10 := w10; have v36 := w36; clear w0 w1 w2 w3 w4 w5 w10 w36)
    | ((with_reducible apply wo_eq); (· (simp (disch := (first | assumption | omega)) only [opsA_cons, opsA_nil, wantedA, stepA_t, callA, runOp_n, opA, ev, afterA_s, putA, T.get_put, Nat.reduceEqDiff, reduceIte, withH_s, v0, v1]; exact rfl)))
    | ((with_reducible apply wo_box H); clear H; intro n h H0n H)
    | simp (disch := (first | assumption | omega)) only [Bo])

  obtain ⟨p2, p3, H, v2, v3⟩ : ∃ p2 p3, Hs [] b h [blk id p3 [U32 (i : Int), U32 g], blk id p2 [vL, vF]] [isl vF ((fi fs).map I), lc false vF ((fi fs).map I), isr c3e 3 vL ls] ∧ e.get 2 = some (.ptr p2 0) ∧ e.get 3 = some (.ptr p3 0) := ⟨_, _, H, v2, v3⟩
  refine wc_loop (fun m e h' => ∃ k, m = ls.length - k ∧ k ≤ ls.length ∧ e.get 2 = some (.ptr p2 0) ∧ e.get 3 = some (.ptr p3 0) ∧ e.get 5 = some (I (k : Int)) ∧ (i < k → vld ls i g = false) ∧ Hs [] b h' [blk id p3 [U32 (i : Int), U32 g], blk id p2 [vL, vF]] [isl vF ((fi fs).map I), lc false vF ((fi fs).map I), isr c3e 3 vL ls]) ls.length (by omega) ⟨0, rfl, Nat.zero_le _, v2, v3, v5, fun h => absurd h (Nat.not_lt_zero _), H⟩ ?_
  clear H v2 v3 v5
  rintro m e h ⟨k, rfl, hk, v2, v3, v5, hno, H⟩
  by_cases hlt : k < ls.length
  · obtain ⟨⟨g0, u, x⟩, hp⟩ := at_some hlt
    have hcase : (k ≠ i) ∨ (k = i ∧ u = false) ∨ (k = i ∧ u = true ∧ g0 = g) ∨ (k = i ∧ u = true ∧ g0 ≠ g) := by
      by_cases h1 : k = i
      · cases u with
        | false => exact .inr (.inl ⟨h1, rfl⟩)
        | true => by_cases h2 : g0 = g
                  · exact .inr (.inr (.inl ⟨h1, rfl, h2⟩))
                  · exact .inr (.inr (.inr ⟨h1, rfl, h2⟩))
      · exact .inl h1
    have hv : (¬ (k = i ∧ u = true ∧ g0 = g) ∧ (i < k + 1 → vld ls i g = false)) ∨ ((k = i ∧ u = true ∧ g0 = g) ∧ vld ls i g = true) := by
      by_cases h1 : k = i ∧ u = true ∧ g0 = g
      · refine .inr ⟨h1, ?_⟩
        obtain ⟨rfl, rfl, rfl⟩ := h1
        rw [vld_used hp]
        simp
      · refine .inl ⟨h1, fun h2 => ?_⟩
        by_cases h3 : k = i
        · subst h3
          cases u with
          | false => exact vld_free hp
          | true => rw [vld_used hp]; simp; exact fun h => h1 ⟨rfl, rfl, h⟩
        · exact hno (by omega)
    rcases hcase with h1 | ⟨h1, rfl⟩ | ⟨h1, rfl, h2⟩ | ⟨h1, rfl, h2⟩
    all_goals
      rcases hv with ⟨h9, hv⟩ | ⟨h9, hv⟩
    all_goals first | (exfalso; omega) | (exfalso; exact h9 ⟨h1, rfl, h2⟩) | (exfalso; exact h1 h9.1) | (exfalso; exact Bool.noConfusion h9.2.1) | (exfalso; exact h2 h9.2.2) | skip
    all_goals have h1n : ¬ ((k : Int) = (i : Int)) ∨ k = i := by omega
    all_goals
      ((with_reducible apply wc_c (fun i => Nat.beq i 0 || Nat.beq i 1 || Nat.beq i 2 || Nat.beq i 3 || Nat.beq i 4 || Nat.beq i 5 || Nat.beq i 10 || Nat.beq i 36)); intro e he; have w9 := he 0 rfl; (try simp only [T.get_put, Nat.reduceEqDiff, reduceIte] at w9); have v0 := w9; clear w9; have w9 := he 1 rfl; (try simp only [T.get_put, Nat.reduceEqDiff, reduceIte] at w9); have v1 := w9; clear w9; have w9 := he 2 rfl; (try simp only [v2] at w9); replace v2 := w9; clear w9; have w9 := he 3 rfl; (try simp only [v3] at w9); replace v3 := w9; clear w9; have w9 := he 4 rfl; (try simp only [T.get_put, Nat.reduceEqDiff, reduceIte] at w9); have v4 := w9; clear w9; have w9 := he 5 rfl; (try simp only [v5] at w9); replace v5 := w9; clear w9; have w9 := he 10 rfl; (try simp only [T.get_put, Nat.reduceEqDiff, reduceIte] at w9); have v10 := w9; clear w9; have w9 := he 36 rfl; (try simp only [T.get_put, Nat.reduceEqDiff, reduceIte] at w9); have v36 := w9; clear w9; clear he)
      repeat' (first
        | with_reducible apply wc_seq
        | ((with_reducible apply wc_region); (· (rfl)))
        | with_reducible apply wo_some
        | ((with_reducible apply wc_cond); (· (simp (disch := (first | assumption | omega)) only [ev, Option.some.injEq, v10, v36] <;> rfl)); all_goals (intro hg; (try (try simp only [Bool.not_eq_true'] at hg)); first | (exfalso; exact Bool.noConfusion hg) | (exfalso; exact hg) | skip))
        | with_reducible apply wc_block
        | with_reducible apply wc_skip
        | with_reducible apply wc_ret
        | with_reducible apply nx_r
        | with_reducible apply bx_n
        | with_reducible apply bx_r
        | ((with_reducible apply nx_c (fun i => Nat.beq i 0 || Nat.beq i 1 || Nat.beq i 2 || Nat.beq i 3 || Nat.beq i 4 || Nat.beq i 5 || Nat.beq i 10 || Nat.beq i 36)); intro e he; have w0 := he 0 rfl; have w1 := he 1 rfl; have w2 := he 2 rfl; have w3 := he 3 rfl; have w4 := he 4 rfl; have w5 := he 5 rfl; have w10 := he 10 rfl; have w36 := he 36 rfl; (try simp only [T.get_put, Nat.reduceEqDiff, reduceIte, v0, v1, v2, v3, v4, v5, v10, v36] at w0 w1 w2 w3 w4 w5 w10 w36); clear he v0 v1 v2 v3 v4 v5 v10 v36; have v0 := w0; have v1 := w1; have v2 := w2; have v3 := w3; have v4 := w4; have v5 := w5; have v10 := w10; have v36 := w36; clear w0 w1 w2 w3 w4 w5 w10 w36)
        | ((with_reducible apply wo_eq); (· (simp (disch := (first | assumption | omega)) only [beq_self_eq_true, eq_self, opsA_cons, opsA_nil, wantedA, guardA, yieldA, stepA_t, stepA_f, callA, calleeA, runOp_n, opA, ev, evs, consO, consOO, pickA, afterA_s, putA, T.get_put, Nat.reduceEqDiff, reduceIte, List.getElem?_toArray, List.getElem?_cons_zero, List.getElem?_cons_succ, oBuiltin, oBin, binA, binG, binL, aggO, litA, oIndexAddr, cond_true, decide_true, blt_eq, ft_beq, I, Bo, fieldAddrA, oFieldAddr, Nat.zero_add, Nat.add_zero, Nat.reduceLT, ty3, ti3, ty4, ti4, ty26, ti26, ty29, ti29, ty40, ti40, ty42, ti42, ty46, ti46, ty3, ti3, ty4, ti4, ty26, ti26, ty29, ti29, ty40, ti40, ty42, ti42, ty46, ti46, ii_add, ii_lss, withH_s, oConv, dec_t, dec_f, wrap_ok, id_eq, Nat.zero_add, Nat.add_zero, v2, v3, v5, conv40, uu_eql]; exact rfl)))
        | ((first | ((with_reducible apply wo_cls (C := ctx) (j := 0) H); (· ((with_reducible repeat' first | exact mem_h _ _ | apply mem_t); done)); (· (rfl)); (· (rfl)); (· (rfl))) | ((with_reducible apply wo_cls (C := ctx) (j := 1) H); (· ((with_reducible repeat' first | exact mem_h _ _ | apply mem_t); done)); (· (rfl)); (· (rfl)); (· (rfl))) | ((with_reducible apply wo_cls (C := ctx) (j := 2) H); (· ((with_reducible repeat' first | exact mem_h _ _ | apply mem_t); done)); (· (rfl)); (· (rfl)); (· (rfl)))))
        | ((with_reducible apply wo_load1 H); (· ((with_reducible repeat' first | exact mem_h _ _ | apply mem_t); done)); (· (rfl)); (· ((first | rfl | assumption))))
        | ((with_reducible apply wo_lenr H); (· ((with_reducible repeat' first | exact mem_h _ _ | apply mem_t); done)); (· ((first | exact ty26 | exact ty26))); (· (rfl)))
        | ((with_reducible apply wo_iar H); (· ((with_reducible repeat' first | exact mem_h _ _ | apply mem_t); done)); (· ((first | exact ty26 | exact ty26))); (· (rfl)); (· ((first | exact ty46 | exact ty46))); (· (rfl)); (· (rfl)); (· (rfl)); (· (assumption)); intro n o H)
        | ((first | with_reducible apply wv_ret | with_reducible apply wv_end); (· ((repeat' (first | with_reducible exact rs_nil | ((with_reducible apply rs_tmp); (· (simp (disch := (first | assumption | omega)) only [Option.some.injEq, v4] <;> rfl))) | ((with_reducible apply rs_cell); (· (simp (disch := (first | assumption | omega)) only [ev, T.get_put, Nat.reduceEqDiff, reduceIte, Option.some.injEq, dec_t, dec_f, Bool.not_true, Bool.not_false, v0, v1, v2, v3, v4, v5, v10, v36, conv40, conv3, conv2, uu_eql, uu_neq, uu_gtr, uu_lss, uu_add, uu_sub, wrap_u32k, rws_len, one1, one2, one3, one4] <;> rfl)); (· (kernel_rfl)); (· (rfl)); (· (exact H.ld1 (by (with_reducible repeat' first | exact mem_h _ _ | apply mem_t); done) rfl))) | ((with_reducible apply rs_celln); (· (simp (disch := (first | assumption | omega)) only [ev, T.get_put, Nat.reduceEqDiff, reduceIte, Option.some.injEq, dec_t, dec_f, Bool.not_true, Bool.not_false, v0, v1, v2, v3, v4, v5, v10, v36, conv40, conv3, conv2, uu_eql, uu_neq, uu_gtr, uu_lss, uu_add, uu_sub, wrap_u32k, rws_len, one1, one2, one3, one4] <;> rfl)); (· (kernel_rfl)); (· (rfl)); (· (exact H.ldn (by (with_reducible repeat' first | exact mem_h _ _ | apply mem_t); done) rfl rfl))))); done)))
        | simp (disch := (first | assumption | omega)) only [eq_self, Option.some.injEq, I, v2, v3, v5])

      all_goals first | (exfalso; omega) | (exact ⟨by rw [hv]; rfl, H.toExt⟩) | (refine ⟨ls.length - (k + 1), by omega, k + 1, rfl, by omega, by trivial, by trivial, by rw [show ((k + 1 : Nat) : Int) = (k : Int) + 1 from by omega], hv, ?_⟩; exact H.sub (by (with_reducible repeat' first | exact List.Sublist.refl _ | apply List.Sublist.cons_cons | apply List.Sublist.cons); done) (by (repeat' (first | exact znil | (apply zcons; (· ((with_reducible repeat' first | exact mem_h _ _ | apply mem_t); done))))); done))
  · have hki : i < ls.length → vld ls i g = false := fun h => hno (by omega)
    have hv : vld ls i g = false := by
      by_cases h1 : i < ls.length
      · exact hki h1
      · exact vld_none (by omega)
    ((with_reducible apply wc_c (fun i => Nat.beq i 0 || Nat.beq i 1 || Nat.beq i 2 || Nat.beq i 3 || Nat.beq i 4 || Nat.beq i 5 || Nat.beq i 10 || Nat.beq i 36)); intro e he; have w9 := he 0 rfl; (try simp only [T.get_put, Nat.reduceEqDiff, reduceIte] at w9); have v0 := w9; clear w9; have w9 := he 1 rfl; (try simp only [T.get_put, Nat.reduceEqDiff, reduceIte] at w9); have v1 := w9; clear w9; have w9 := he 2 rfl; (try simp only [v2] at w9); replace v2 := w9; clear w9; have w9 := he 3 rfl; (try simp only [v3] at w9); replace v3 := w9; clear w9; have w9 := he 4 rfl; (try simp only [T.get_put, Nat.reduceEqDiff, reduceIte] at w9); have v4 := w9; clear w9; have w9 := he 5 rfl; (try simp only [v5] at w9); replace v5 := w9; clear w9; have w9 := he 10 rfl; (try simp only [T.get_put, Nat.reduceEqDiff, reduceIte] at w9); have v10 := w9; clear w9; have w9 := he 36 rfl; (try simp only [T.get_put, Nat.reduceEqDiff, reduceIte] at w9); have v36 := w9; clear w9; clear he)
    repeat' (first
      | with_reducible apply wc_seq
      | ((with_reducible apply wc_region); (· (rfl)))
      | with_reducible apply wo_some
      | ((with_reducible apply wc_cond); (· (simp (disch := (first | assumption | omega)) only [ev, Option.some.injEq, v10] <;> rfl)); all_goals (intro hg; (try (try simp only [Bool.not_eq_true'] at hg)); first | (exfalso; exact Bool.noConfusion hg) | (exfalso; exact hg) | skip))
      | with_reducible apply wc_exit
      | with_reducible apply wc_ret
      | with_reducible apply nx_e
      | ((with_reducible apply bx_hit); (· (rfl)))
      | ((with_reducible apply nx_c (fun i => Nat.beq i 0 || Nat.beq i 1 || Nat.beq i 2 || Nat.beq i 3 || Nat.beq i 4 || Nat.beq i 5 || Nat.beq i 10 || Nat.beq i 36)); intro e he; have w0 := he 0 rfl; have w1 := he 1 rfl; have w2 := he 2 rfl; have w3 := he 3 rfl; have w4 := he 4 rfl; have w5 := he 5 rfl; have w10 := he 10 rfl; have w36 := he 36 rfl; (try simp only [T.get_put, Nat.reduceEqDiff, reduceIte, v0, v1, v2, v3, v4, v5, v10, v36] at w0 w1 w2 w3 w4 w5 w10 w36); clear he v0 v1 v2 v3 v4 v5 v10 v36; have v0 := w0; have v1 := w1; have v2 := w2; have v3 := w3; have v4 := w4; have v5 := w5; have v10 := w10; have v36 := w36; clear w0 w1 w2 w3 w4 w5 w10 w36)
      | ((with_reducible apply wo_eq); (· (simp (disch := (first | assumption | omega)) only [eq_self, opsA_cons, opsA_nil, wantedA, stepA_t, callA, calleeA, runOp_n, opA, ev, evs, consO, consOO, afterA_s, putA, T.get_put, Nat.reduceEqDiff, reduceIte, List.getElem?_toArray, List.getElem?_cons_zero, oBuiltin, oBin, binA, binG, binL, aggO, litA, cond_true, decide_true, blt_eq, I, Bo, fieldAddrA, oFieldAddr, Nat.add_zero, Nat.reduceLT, ty26, ti26, ty29, ti29, ty26, ti26, ty29, ti29, ii_lss, withH_s, dec_f, id_eq, Nat.add_zero, v2, v5]; exact rfl)))
      | ((with_reducible apply wo_load1 H); (· ((with_reducible repeat' first | exact mem_h _ _ | apply mem_t); done)); (· (rfl)); (· ((first | rfl | assumption))))
      | ((with_reducible apply wo_lenr H); (· ((with_reducible repeat' first | exact mem_h _ _ | apply mem_t); done)); (· ((first | exact ty26 | exact ty26))); (· (rfl)))
      | ((first | with_reducible apply wv_ret | with_reducible apply wv_end); (· ((repeat' (first | with_reducible exact rs_nil | ((with_reducible apply rs_tmp); (· (simp (disch := (first | assumption | omega)) only [Option.some.injEq, v4] <;> rfl))) | ((with_reducible apply rs_cell); (· (simp (disch := (first | assumption | omega)) only [ev, T.get_put, Nat.reduceEqDiff, reduceIte, Option.some.injEq, dec_t, dec_f, Bool.not_true, Bool.not_false, v0, v1, v2, v3, v4, v5, v10, v36, conv40, conv3, conv2, uu_eql, uu_neq, uu_gtr, uu_lss, uu_add, uu_sub, wrap_u32k, rws_len, one1, one2, one3, one4] <;> rfl)); (· (kernel_rfl)); (· (rfl)); (· (exact H.ld1 (by (with_reducible repeat' first | exact mem_h _ _ | apply mem_t); done) rfl))) | ((with_reducible apply rs_celln); (· (simp (disch := (first | assumption | omega)) only [ev, T.get_put, Nat.reduceEqDiff, reduceIte, Option.some.injEq, dec_t, dec_f, Bool.not_true, Bool.not_false, v0, v1, v2, v3, v4, v5, v10, v36, conv40, conv3, conv2, uu_eql, uu_neq, uu_gtr, uu_lss, uu_add, uu_sub, wrap_u32k, rws_len, one1, one2, one3, one4] <;> rfl)); (· (kernel_rfl)); (· (rfl)); (· (exact H.ldn (by (with_reducible repeat' first | exact mem_h _ _ | apply mem_t); done) rfl rfl))))); done))))

    all_goals first | (exfalso; omega) | (exact ⟨by rw [hv]; rfl, H.toExt⟩)


theorem gs (R : List (List AV)) (n : Nat) (r : List AV) (h : n < R.length) : (R.set n r)[n]? = some r := by simp [h]
theorem gl (R : List (List AV)) (n : Nat) (r : List AV) : (R.set n r).length = R.length := List.length_set
theorem map_at {ls : List Ent} {i : Nat} {p : Ent} (h : ls[i]? = some p) : (ls.map c3e)[i]? = some (c3e p) := by rw [List.getElem?_map, h]; rfl
theorem set_set' (R : List (List AV)) (n : Nat) (r q : List AV) : (R.set n r).set n q = R.set n q := List.set_set _
theorem map_set' (ls : List Ent) (n : Nat) (p : Ent) : (ls.map c3e).set n (c3e p) = (ls.set n p).map c3e := List.map_set.symm
/-- what a function of the definition returns: an arena that stands, with new names -/
structure RA (b h' : Hp) (wL wF : AV) (ls : List Ent) (fs : List Nat) : Prop where
  l : IsR c3e 3 h' wL ls
  f : Lc false h' wF ((fi fs).map I)
  x : Ext b h'
  nl : ∀ m, nmO wL = some m → b.c ≤ m
  nf : ∀ m, nmO wF = some m → b.c ≤ m
set_option maxHeartbeats 4000000 in
theorem k28a (d : Nat) (b : Hp) (vL vF : AV) (ls : List Ent) (fs : List Nat) (pL : IsR c3e 3 b vL ls) (pF : Lc false b vF ((fi fs).map I)) (hll : ls.length ≤ 1000) (hfl : fs.length ≤ 1000) (x : Int) (hfs : fs = []) : Wv (runA ctx 5000 (d + 2) 28 [.agg [vL, vF], I x] b) (fun r h' => ∃ wL wF, r = .tup [.agg [wL, wF], .agg [U32 (ls.length : Int), U32 1]] ∧ RA b h' wL wF (ls ++ [((1, true, x) : Ent)]) ([])) := by
  have hmL : (ls.map c3e).length = ls.length := List.length_map _
  subst hfs
  have hn0 : (ls.map c3e ++ [[U32 1, Bo false, I 0]]).length = ls.length + 1 := by simp
  have hb0 : ls.length < (ls.map c3e ++ [[U32 1, Bo false, I 0]]).length := by rw [hn0]; omega
  have hr0 : (ls.map c3e ++ [[U32 1, Bo false, I 0]])[ls.length]? = some [U32 1, Bo false, I 0] := by rw [List.getElem?_append_right (by omega), hmL, Nat.sub_self]; rfl
  have hn1 : ((ls.map c3e ++ [[U32 1, Bo false, I 0]]).set ls.length [U32 1, Bo true, I 0]).length = ls.length + 1 := by rw [gl]; exact hn0
  have hb1 : ls.length < ((ls.map c3e ++ [[U32 1, Bo false, I 0]]).set ls.length [U32 1, Bo true, I 0]).length := by rw [hn1]; omega
  have hr1 : ((ls.map c3e ++ [[U32 1, Bo false, I 0]]).set ls.length [U32 1, Bo true, I 0])[ls.length]? = some [U32 1, Bo true, I 0] := gs _ _ _ (by omega)
  have hn2 : (((ls.map c3e ++ [[U32 1, Bo false, I 0]]).set ls.length [U32 1, Bo true, I 0]).set ls.length [U32 1, Bo true, I x]).length = ls.length + 1 := by rw [gl]; exact hn1
  have hb2 : ls.length < (((ls.map c3e ++ [[U32 1, Bo false, I 0]]).set ls.length [U32 1, Bo true, I 0]).set ls.length [U32 1, Bo true, I x]).length := by rw [hn2]; omega
  have hr2 : (((ls.map c3e ++ [[U32 1, Bo false, I 0]]).set ls.length [U32 1, Bo true, I 0]).set ls.length [U32 1, Bo true, I x])[ls.length]? = some [U32 1, Bo true, I x] := gs _ _ _ (by omega)
  have e9 : ((ls.map c3e ++ [[U32 1, Bo false, I 0]]).set ls.length [U32 1, Bo true, I 0]).set ls.length [U32 1, Bo true, I x] = (ls ++ [((1, true, x) : Ent)]).map c3e := by rw [set_set', List.set_append_right _ _ (by omega), hmL, Nat.sub_self, List.map_append]; rfl
  have hd0 : ((fi ([] : List Nat)).map I).length = 0 := rfl
  have one1 := pL.one.1
  have one2 := pL.one.2
  have one3 := pF.one
  have one4 := pF.cells
  have hav := isl_av pF.isL
  have hal : avB 4 vL vL = true := isr_av pL
  have hfi := fi_len ([] : List Nat)
  have H := (((Hs.start b).z0 (z := isr c3e 3 vL ls) pL).z0 (z := lc false vF ((fi ([] : List Nat)).map I)) pF).z0 (z := isl vF ((fi ([] : List Nat)).map I)) pF.isL
  refine wv_run fn28 rfl ?_
  have a0 : (enterEnv [.agg [vL, vF], I x] Try.f28.ntmps).get 0 = some (.agg [vL, vF]) := enter_get1 _ _ _
  have a1 : (enterEnv [.agg [vL, vF], I x] Try.f28.ntmps).get 1 = some (I x) := enter_get2 _ _ _ _
  generalize enterEnv [.agg [vL, vF], I x] Try.f28.ntmps = e at a0 a1 ⊢
  unfold Try.f28
  dsimp only
  ((with_reducible apply wc_c (fun i => Nat.beq i 0 || Nat.beq i 1 || Nat.beq i 2 || Nat.beq i 4 || Nat.beq i 5 || Nat.beq i 6 || Nat.beq i 7 || Nat.beq i 16)); intro e he; have w9 := he 0 rfl; (try simp only [a0] at w9); have v0 := w9; clear w9; have w9 := he 1 rfl; (try simp only [a1] at w9); have v1 := w9; clear w9; have w9 := he 2 rfl; (try simp only [T.get_put, Nat.reduceEqDiff, reduceIte] at w9); have v2 := w9; clear w9; have w9 := he 4 rfl; (try simp only [T.get_put, Nat.reduceEqDiff, reduceIte] at w9); have v4 := w9; clear w9; have w9 := he 5 rfl; (try simp only [T.get_put, Nat.reduceEqDiff, reduceIte] at w9); have v5 := w9; clear w9; have w9 := he 6 rfl; (try simp only [T.get_put, Nat.reduceEqDiff, reduceIte] at w9); have v6 := w9; clear w9; have w9 := he 7 rfl; (try simp only [T.get_put, Nat.reduceEqDiff, reduceIte] at w9); have v7 := w9; clear w9; have w9 := he 16 rfl; (try simp only [T.get_put, Nat.reduceEqDiff, reduceIte] at w9); have v16 := w9; clear w9; clear he)
  repeat' (first
    | with_reducible apply wc_seq
    | ((with_reducible apply wc_region); (· (rfl)))
    | with_reducible apply wo_some
    | ((with_reducible apply wc_cond); (· (simp (disch := (first | assumption | omega)) only [ev, Option.some.injEq, v16] <;> rfl)); all_goals (intro hg; (try (try simp only [Bool.not_eq_true'] at hg)); first | (exfalso; exact Bool.noConfusion hg) | (exfalso; exact hg) | skip))
    | with_reducible apply wc_ret
    | (simp only [patch, List.take_zero, List.drop_succ_cons, List.drop_nil, List.nil_append, List.append_nil, List.length_cons, List.length_nil, List.set_cons_zero, Nat.zero_add, Nat.reduceAdd, cells_agg, cells_lagg, putAt_z, over_nil, over_cons, litCells_cons, litCells_nil, ti46, ti46, repl_1, Nat.zero_mul] at H)
    | ((with_reducible apply nx_c (fun i => Nat.beq i 0 || Nat.beq i 1 || Nat.beq i 2 || Nat.beq i 4 || Nat.beq i 5 || Nat.beq i 6 || Nat.beq i 7 || Nat.beq i 16)); intro e he; have w0 := he 0 rfl; have w1 := he 1 rfl; have w2 := he 2 rfl; have w4 := he 4 rfl; have w5 := he 5 rfl; have w6 := he 6 rfl; have w7 := he 7 rfl; have w16 := he 16 rfl; (try simp only [T.get_put, Nat.reduceEqDiff, reduceIte, v0, v1, v2, v4, v5, v6, v7, v16] at w0 w1 w2 w4 w5 w6 w7 w16); clear he v0 v1 v2 v4 v5 v6 v7 v16; have v0 := w0; have v1 := w1; have v2 := w2; have v4 := w4; have v5 := w5; have v6 := w6; have v7 := w7; have v16 := w16; clear w0 w1 w2 w4 w5 w6 w7 w16)
    | ((with_reducible apply wo_eq); (· (simp (disch := (first | assumption | omega)) only [eq_self, opsA_cons, opsA_nil, wantedA, stepA_t, callA, calleeA, targetA, runOp_c, runOp_n, opA, ev, evs, consO, consOO, afterA_s, putA, T.get_put, Nat.reduceEqDiff, reduceIte, List.getElem?_toArray, List.getElem?_cons_zero, List.getElem?_cons_succ, oBuiltin, oBin, binA, binG, binL, aggO, litA, oIndexAddr, cond_true, decide_true, blt_eq, I, Bo, fieldAddrA, oFieldAddr, Nat.zero_add, Nat.add_zero, Nat.reduceLT, ty3, ti3, ty4, ti4, ty26, ti26, ty27, ti27, ty29, ti29, ty40, ti40, ty42, ti42, ty46, ti46, ty3, ti3, ty4, ti4, ty26, ti26, ty27, ti27, ty29, ti29, ty40, ti40, ty42, ti42, ty46, ti46, ii_gtr, List.getElem_toArray, List.getElem_cons_zero, List.getElem_cons_succ, withH_s, oBuild, oBuildSlice, evParts, consP, oConv, dec_t, dec_f, id_eq, List.take_succ_cons, List.take_zero, List.drop_zero, putAt_z, putAt_s, over_nil, over_cons, litCells_cons, litCells_nil, cells_int, cells_lagg, Nat.zero_add, Nat.add_zero, v0, v1, v2, v4, v5, v6, v7, conv40, hmL, hd0]; exact rfl)))
    | (((with_reducible apply wc_dynW (p := (4, 11)) (ps := [(8, 11)])); (· (kernel_rfl)); have dq0 := oload1 (ti := ti26) rfl (H.ld1 (f := id) (n := _) (off := 0) (N := [u, wF]) (by (with_reducible repeat' first | exact mem_h _ _ | apply mem_t); done) rfl); (try simp only [id_eq, ti26] at dq0); have pO := H.p (a := owr 46 3 _ _) (by (with_reducible repeat' first | exact mem_h _ _ | apply mem_t); done)))
    | (((fail_if_success (have := pO2)); (have := pO); ((with_reducible apply wo_storen H); (· ((with_reducible repeat' first | exact Pick.here _ _ _ | apply Pick.there); done)); (· ((first | rfl | assumption))); (· ((first | rfl | assumption | (simp (disch := assumption) only [onesA_cons', onesA_nil, cells_agg, one_t, Bool.and_self]; done)))); (· (rfl)); (· ((first | exact Nat.le_of_ble_eq_true rfl | omega))); clear H; intro h H; (try simp only [patch, List.take_zero, List.drop_succ_cons, List.drop_nil, List.nil_append, List.append_nil, List.length_cons, List.length_nil, Nat.zero_add, Nat.reduceAdd, cells_agg] at H)); have dq2 := oload1 (ti := ti26) rfl (H.ld1 (f := id) (n := _) (off := 0) (N := [u, wF]) (by (with_reducible repeat' first | exact mem_h _ _ | apply mem_t); done) rfl); (try simp only [id_eq, ti26] at dq2); have pO2 := H.p (a := owr 46 3 _ _) (by (with_reducible repeat' first | exact mem_h _ _ | apply mem_t); done)))
    | (with_reducible apply wt_cons)
    | ((have dq1 := owr_ld (ti := ti40) (j := 0) pO hw9 rfl hr2 rfl rfl; have dq3 := owr_ld (ti := ti40) (j := 0) pO2 hw9 rfl hr2 rfl rfl; (simp only [ti40, Nat.add_zero] at dq1 dq3); ((with_reducible apply wt_nil); refine And.intro ?_ (Exists.intro _ (Exists.intro _ (And.intro rfl ?_))); (· (simp (disch := (first | assumption | omega)) only [eq_self, wantedA, opA, ev, T.get_put, Nat.reduceEqDiff, reduceIte, List.getElem?_cons_zero, List.getElem?_cons_succ, Bool.and_true, ty26, ti26, ty40, ti40, ty26, ti26, ty40, ti40, dq0, dq1, dq2, dq3, hau, checksD_nil, checksD_cons, checkD, checkG, sameR, av_ip]; done)))))
    | (((with_reducible apply wo_call); (· ((with_reducible apply k13); (· (exact H.pz (a := isr c3e 3 vL ls) (by (with_reducible repeat' first | exact mem_h _ _ | apply mem_t); done))); (· (exact H.pz (a := lc false vF ((fi ([] : List Nat)).map I)) (by (with_reducible repeat' first | exact mem_h _ _ | apply mem_t); done))); (· (assumption)); (· (assumption)))); rintro _ h ⟨wL, wF, rfl, hL, hF, hx, f1, f2⟩; have fw := fun m hm => Nat.le_trans H.fr.c (f2 m hm).1; have oL := hL.one; have cL := hL.cells; have oF := hF.one; have cF := hF.cells; have hau := owr_av hL; replace H := H.cpy hx (x := owr 46 3 wL _) (z := lc false wF _) hL hF (fun n hn => f1 n (nmO_mem.1 hn)) (fun n hn => (f2 n (nmO_mem.1 hn)).1) (fun n hn h9 => (f2 n (nmO_mem.1 hn)).2 (nmO_mem.1 h9)); replace H := H.zsub (z := lc false wF _) (z' := isl wF _) (.head _) hF.isL (fun n hn => hn); clear hx f1 f2 hL hF))
    | (((with_reducible apply wo_rlenL H); (· ((first | exact ty26 | exact ty27 | exact ty26 | exact ty27))); (· (rfl)); (· ((with_reducible repeat' first | exact mem_h _ _ | apply mem_t); done))))
    | (((with_reducible apply wo_riaL H); (· ((first | exact ty26 | exact ty26))); (· (rfl)); (· ((first | exact ty46 | exact ty46))); (· ((with_reducible repeat' first | exact mem_h _ _ | apply mem_t); done)); (· (rfl)); (· ((first | rfl | assumption | omega))); (· ((first | assumption | omega))); intro w9 hw9))
    | (((with_reducible apply wo_rldL (j := 0) H); (· (assumption)); (· ((with_reducible repeat' first | exact mem_h _ _ | apply mem_t); done)); (· (rfl)); (· (assumption)); (· (rfl)); (· (rfl))))
    | (((with_reducible apply wo_rst H); (· ((with_reducible repeat' first | exact Pick.here _ _ _ | apply Pick.there); done)); (· (assumption)); (· (assumption)); (· (rfl)); (· (decide)); (· (rfl)); (· (rfl)); (· (rfl)); (· (rfl)); clear H; intro h H; (try simp only [List.set_cons_zero, List.set_cons_succ] at H)))
    | (((with_reducible apply wo_rapp H); (· ((with_reducible repeat' first | exact PickF.here _ _ | apply PickF.there); done)); (· ((first | exact ty26 | exact ty26))); (· (rfl)); (· ((first | exact ty46 | exact ty46))); (· (rfl)); (· (decide)); (· (kernel_rfl)); (· ((with_reducible repeat' first | exact mem_h _ _ | apply mem_t); done)); (· (rfl)); (· ((first | rfl | (simp (disch := assumption) only [onesA_cons', onesA_nil, one_t, one_int, one_bool, one_str, one_nil, one_np, one_ptr, one_slice, Bool.and_true, Bool.and_self, id_eq]; done)))); (· (omega)); clear H; intro u h H; have ou := (H.p (a := owr _ _ u _) (by (with_reducible repeat' first | exact mem_h _ _ | apply mem_t); done) : OwR _ _ _ u _).one; have cu := (H.p (a := owr _ _ u _) (by (with_reducible repeat' first | exact mem_h _ _ | apply mem_t); done) : OwR _ _ _ u _).cells; (try simp only [List.length_append, List.length_cons, List.length_nil] at H); have hau := owr_av (H.p (a := owr _ _ u _) (by (with_reducible repeat' first | exact mem_h _ _ | apply mem_t); done))))
    | ((with_reducible apply wo_box H); clear H; intro n h H0n H)
    | ((with_reducible apply wo_alloc H); (· (rfl)); clear H; intro n h H0n H)
    | ((with_reducible apply wo_load1 H); (· ((with_reducible repeat' first | exact mem_h _ _ | apply mem_t); done)); (· (rfl)); (· ((first | rfl | assumption))))
    | ((with_reducible apply wo_loadn H); (· ((with_reducible repeat' first | exact mem_h _ _ | apply mem_t); done)); (· (rfl)); (· (rfl)); (· (rfl)))
    | ((with_reducible apply wo_store1 H); (· ((with_reducible repeat' first | exact Pick.here _ _ _ | apply Pick.there); done)); (· ((first | rfl | assumption))); (· ((first | rfl | assumption | exact cells_one (H.pz (by (with_reducible repeat' first | exact mem_h _ _ | apply mem_t); done))))); (· ((first | rfl | assumption))); (· (rfl)); (· ((first | exact Nat.le_of_ble_eq_true rfl | omega | (simp only [List.length_set, List.length_replicate, List.length_map, List.length_cons, List.length_nil]; omega) | (simp; done) | (simp; omega)))); clear H; intro h H)
    | ((first | (fail_if_success (have := pO)) | (have := pO2)); (with_reducible apply wo_storen H); (· ((with_reducible repeat' first | exact Pick.here _ _ _ | apply Pick.there); done)); (· ((first | rfl | assumption | exact cells_one (H.pz (by (with_reducible repeat' first | exact mem_h _ _ | apply mem_t); done))))); (· ((first | rfl | (simp (disch := assumption) only [onesA_cons', onesA_nil, cells_agg, one_t, Bool.and_self]; done)))); (· (rfl)); (· ((first | exact Nat.le_of_ble_eq_true rfl | omega | (simp only [List.length_set, List.length_replicate, List.length_map, List.length_cons, List.length_nil]; omega) | (simp; done) | (simp; omega)))); clear H; intro h H)
    | ((with_reducible apply wo_len H); (· ((with_reducible repeat' first | exact mem_h _ _ | apply mem_t); done)); (· ((first | exact ty27 | exact ty27))); (· (rfl)))
    | ((with_reducible apply wo_bs H); (· ((first | exact ty26 | exact ty26))); (· (rfl)); (· ((first | exact ty46 | exact ty46))); (· (kernel_rfl)); (· ((first | rfl | (simp only [fillA_nil, fillA_cons, repl_z, repl_s, cells_int, cells_bool, cells_str, cells_float, cells_np, cells_nil, cells_nf, cells_ptr, cells_slice, cells_fn, cells_agg, cells_lagg, v0, v1, v2, v4, v5, v6, v7, v16, conv40, conv3, conv2, uu_eql, uu_neq, uu_gtr, uu_lss, uu_add, uu_sub, wrap_u32k, rws_len, one1, one2, one3, one4, hmL, hd0]; rfl)))); clear H; intro n h H0n H)
    | ((with_reducible apply wo_build); (· ((first | exact ty42 | exact ty46 | exact ty42 | exact ty46))); (· (rfl)); (· ((first | rfl | (simp only [fillA_nil, fillA_cons, repl_z, repl_s, cells_int, cells_bool, cells_str, cells_float, cells_np, cells_nil, cells_nf, cells_ptr, cells_slice, cells_fn, cells_agg, cells_lagg, v0, v1, v2, v4, v5, v6, v7, v16, conv40, conv3, conv2, uu_eql, uu_neq, uu_gtr, uu_lss, uu_add, uu_sub, wrap_u32k, rws_len, one1, one2, one3, one4, hmL, hd0]; rfl)))))
    | ((first | with_reducible apply wv_ret | with_reducible apply wv_end); (· ((repeat' (first | with_reducible exact rs_nil | ((with_reducible apply rs_tmp); (· (simp (disch := (first | assumption | omega)) only [ev, T.get_put, Nat.reduceEqDiff, reduceIte, Option.some.injEq, dec_t, dec_f, Bool.not_true, Bool.not_false, v0, v1, v2, v4, v5, v6, v7, v16, conv40, conv3, conv2, uu_eql, uu_neq, uu_gtr, uu_lss, uu_add, uu_sub, wrap_u32k, rws_len, one1, one2, one3, one4, hmL, hd0] <;> rfl))) | ((with_reducible apply rs_cell); (· (simp (disch := (first | assumption | omega)) only [Option.some.injEq, v4, v5] <;> rfl)); (· ((first | exact ty29 | exact ty42 | exact ty29 | exact ty42))); (· (rfl)); (· (exact H.ld1 (by (with_reducible repeat' first | exact mem_h _ _ | apply mem_t); done) rfl))) | ((with_reducible apply rs_celln); (· (simp (disch := (first | assumption | omega)) only [Option.some.injEq, v4, v5] <;> rfl)); (· ((first | exact ty29 | exact ty42 | exact ty29 | exact ty42))); (· (rfl)); (· (exact H.ldn (by (with_reducible repeat' first | exact mem_h _ _ | apply mem_t); done) rfl rfl))))); done)))
    | simp (disch := (first | assumption | omega)) only [ti29, ti42, ti29, ti42, List.take_succ_cons, List.take_zero, List.drop_zero])

  all_goals try (exfalso; omega)
  all_goals (rw [e9] at H; exact ⟨_, _, rfl, (H.p (a := owr 46 3 u ((ls ++ [((1, true, x) : Ent)]).map c3e)) (by (with_reducible repeat' first | exact mem_h _ _ | apply mem_t); done)).isR (fun _ _ => rfl), H.pz (a := lc false wF _) (by (with_reducible repeat' first | exact mem_h _ _ | apply mem_t); done), H.toExt, fun m hm => ((H.own (owr 46 3 u ((ls ++ [((1, true, x) : Ent)]).map c3e)) (by (with_reducible repeat' first | exact mem_h _ _ | apply mem_t); done)).2 m (nmO_mem.2 hm)).elim id (fun h => by cases h), fw⟩)
set_option maxHeartbeats 4000000 in
theorem k28b (d : Nat) (b : Hp) (vL vF : AV) (ls : List Ent) (fs : List Nat) (pL : IsR c3e 3 b vL ls) (pF : Lc false b vF ((fi fs).map I)) (hll : ls.length ≤ 1000) (hfl : fs.length ≤ 1000) (x : Int) (g x0 : Int) (f : Nat) (rr : List Nat) (hfs : fs = f :: rr) (hp : ls[f]? = some (g, false, x0)) : Wv (runA ctx 5000 (d + 2) 28 [.agg [vL, vF], I x] b) (fun r h' => ∃ wL wF, r = .tup [.agg [wL, wF], .agg [U32 (f : Int), U32 g]] ∧ RA b h' wL wF (ls.set f (g, true, x)) (rr)) := by
  have hmL : (ls.map c3e).length = ls.length := List.length_map _
  subst hfs
  have hil := (List.getElem?_eq_some_iff.1 hp).1
  have hn0 : (ls.map c3e).length = ls.length := hmL
  have hb0 : f < (ls.map c3e).length := by rw [hn0]; omega
  have hr0 : (ls.map c3e)[f]? = some [U32 g, Bo false, I x0] := map_at hp
  have hn1 : ((ls.map c3e).set f [U32 g, Bo true, I x0]).length = ls.length := by rw [gl]; exact hn0
  have hb1 : f < ((ls.map c3e).set f [U32 g, Bo true, I x0]).length := by rw [hn1]; omega
  have hr1 : ((ls.map c3e).set f [U32 g, Bo true, I x0])[f]? = some [U32 g, Bo true, I x0] := gs _ _ _ (by omega)
  have hn2 : (((ls.map c3e).set f [U32 g, Bo true, I x0]).set f [U32 g, Bo true, I x]).length = ls.length := by rw [gl]; exact hn1
  have hb2 : f < (((ls.map c3e).set f [U32 g, Bo true, I x0]).set f [U32 g, Bo true, I x]).length := by rw [hn2]; omega
  have hr2 : (((ls.map c3e).set f [U32 g, Bo true, I x0]).set f [U32 g, Bo true, I x])[f]? = some [U32 g, Bo true, I x] := gs _ _ _ (by omega)
  have e9 : ((ls.map c3e).set f [U32 g, Bo true, I x0]).set f [U32 g, Bo true, I x] = (ls.set f ((g, true, x) : Ent)).map c3e := by rw [set_set', ← map_set']; rfl
  have hd0 : ((fi (f :: rr)).map I).length = rr.length + 1 := fi_len _
  have hd1 : ((fi (f :: rr)).map I)[0]? = some (I (f : Int)) := rfl
  have one1 := pL.one.1
  have one2 := pL.one.2
  have one3 := pF.one
  have one4 := pF.cells
  have hav := isl_av pF.isL
  have hal : avB 4 vL vL = true := isr_av pL
  have hfi := fi_len (f :: rr)
  have H := (((Hs.start b).z0 (z := isr c3e 3 vL ls) pL).z0 (z := lc false vF ((fi (f :: rr)).map I)) pF).z0 (z := isl vF ((fi (f :: rr)).map I)) pF.isL
  refine wv_run fn28 rfl ?_
  have a0 : (enterEnv [.agg [vL, vF], I x] Try.f28.ntmps).get 0 = some (.agg [vL, vF]) := enter_get1 _ _ _
  have a1 : (enterEnv [.agg [vL, vF], I x] Try.f28.ntmps).get 1 = some (I x) := enter_get2 _ _ _ _
  generalize enterEnv [.agg [vL, vF], I x] Try.f28.ntmps = e at a0 a1 ⊢
  unfold Try.f28
  dsimp only
  ((with_reducible apply wc_c (fun i => Nat.beq i 0 || Nat.beq i 1 || Nat.beq i 2 || Nat.beq i 4 || Nat.beq i 5 || Nat.beq i 6 || Nat.beq i 7 || Nat.beq i 16)); intro e he; have w9 := he 0 rfl; (try simp only [a0] at w9); have v0 := w9; clear w9; have w9 := he 1 rfl; (try simp only [a1] at w9); have v1 := w9; clear w9; have w9 := he 2 rfl; (try simp only [T.get_put, Nat.reduceEqDiff, reduceIte] at w9); have v2 := w9; clear w9; have w9 := he 4 rfl; (try simp only [T.get_put, Nat.reduceEqDiff, reduceIte] at w9); have v4 := w9; clear w9; have w9 := he 5 rfl; (try simp only [T.get_put, Nat.reduceEqDiff, reduceIte] at w9); have v5 := w9; clear w9; have w9 := he 6 rfl; (try simp only [T.get_put, Nat.reduceEqDiff, reduceIte] at w9); have v6 := w9; clear w9; have w9 := he 7 rfl; (try simp only [T.get_put, Nat.reduceEqDiff, reduceIte] at w9); have v7 := w9; clear w9; have w9 := he 16 rfl; (try simp only [T.get_put, Nat.reduceEqDiff, reduceIte] at w9); have v16 := w9; clear w9; clear he)
  repeat' (first
    | with_reducible apply wc_seq
    | ((with_reducible apply wc_region); (· (rfl)))
    | with_reducible apply wo_some
    | ((with_reducible apply wc_cond); (· (simp (disch := (first | assumption | omega)) only [ev, Option.some.injEq, v16] <;> rfl)); all_goals (intro hg; (try (try simp only [Bool.not_eq_true'] at hg)); first | (exfalso; exact Bool.noConfusion hg) | (exfalso; exact hg) | skip))
    | with_reducible apply wc_ret
    | (simp only [patch, List.take_zero, List.drop_succ_cons, List.drop_nil, List.nil_append, List.append_nil, List.length_cons, List.length_nil, List.set_cons_zero, List.set_cons_succ, Nat.zero_add, Nat.reduceAdd, cells_agg, cells_lagg, litCells_cons, litCells_nil] at H)
    | ((with_reducible apply nx_c (fun i => Nat.beq i 0 || Nat.beq i 1 || Nat.beq i 2 || Nat.beq i 4 || Nat.beq i 5 || Nat.beq i 6 || Nat.beq i 7 || Nat.beq i 16)); intro e he; have w0 := he 0 rfl; have w1 := he 1 rfl; have w2 := he 2 rfl; have w4 := he 4 rfl; have w5 := he 5 rfl; have w6 := he 6 rfl; have w7 := he 7 rfl; have w16 := he 16 rfl; (try simp only [T.get_put, Nat.reduceEqDiff, reduceIte, v0, v1, v2, v4, v5, v6, v7, v16] at w0 w1 w2 w4 w5 w6 w7 w16); clear he v0 v1 v2 v4 v5 v6 v7 v16; have v0 := w0; have v1 := w1; have v2 := w2; have v4 := w4; have v5 := w5; have v6 := w6; have v7 := w7; have v16 := w16; clear w0 w1 w2 w4 w5 w6 w7 w16)
    | ((with_reducible apply wo_eq); (· (simp (disch := (first | assumption | omega)) only [eq_self, opsA_cons, opsA_nil, wantedA, stepA_t, callA, calleeA, targetA, runOp_c, runOp_n, opA, ev, evs, evo, consO, consOO, afterA_s, putA, T.get_put, Nat.reduceEqDiff, reduceIte, List.getElem?_toArray, List.getElem?_cons_zero, List.getElem?_cons_succ, oBuiltin, oBin, binA, binG, binL, aggO, litA, oIndexAddr, cond_true, decide_true, blt_eq, I, Bo, fieldAddrA, oFieldAddr, Nat.zero_add, Nat.add_zero, Nat.reduceLT, ty3, ti3, ty4, ti4, ty26, ti26, ty27, ti27, ty29, ti29, ty40, ti40, ty42, ti42, ty46, ti46, ty3, ti3, ty4, ti4, ty26, ti26, ty27, ti27, ty29, ti29, ty40, ti40, ty42, ti42, ty46, ti46, ii_gtr, List.getElem_toArray, List.getElem_cons_zero, List.getElem_cons_succ, withH_s, oBuild, oSlice, evParts, consP, oConv, dec_t, id_eq, List.take_succ_cons, List.take_zero, List.drop_zero, putAt_z, putAt_s, over_nil, over_cons, litCells_cons, litCells_nil, cells_int, cells_lagg, Nat.zero_add, Nat.add_zero, v0, v1, v2, v4, v5, v6, v7, conv40, hmL, hd0]; exact rfl)))
    | (((with_reducible apply wc_dynW (p := (4, 11)) (ps := [(8, 11)])); (· (kernel_rfl)); have dq0 := oload1 (ti := ti26) rfl (H.ld1 (f := id) (n := _) (off := 0) (N := [wL, w8]) (by (with_reducible repeat' first | exact mem_h _ _ | apply mem_t); done) rfl); (try simp only [id_eq, ti26] at dq0); have pO := H.p (a := owr 46 3 _ _) (by (with_reducible repeat' first | exact mem_h _ _ | apply mem_t); done)))
    | (((fail_if_success (have := pO2)); (have := pO); ((with_reducible apply wo_storen H); (· ((with_reducible repeat' first | exact Pick.here _ _ _ | apply Pick.there); done)); (· ((first | rfl | assumption))); (· ((first | rfl | assumption | (simp (disch := assumption) only [onesA_cons', onesA_nil, cells_agg, one_t, Bool.and_self]; done)))); (· (rfl)); (· ((first | exact Nat.le_of_ble_eq_true rfl | omega))); clear H; intro h H; (try simp only [patch, List.take_zero, List.drop_succ_cons, List.drop_nil, List.nil_append, List.append_nil, List.length_cons, List.length_nil, Nat.zero_add, Nat.reduceAdd, cells_agg] at H)); have dq2 := oload1 (ti := ti26) rfl (H.ld1 (f := id) (n := _) (off := 0) (N := [wL, w8]) (by (with_reducible repeat' first | exact mem_h _ _ | apply mem_t); done) rfl); (try simp only [id_eq, ti26] at dq2); have pO2 := H.p (a := owr 46 3 _ _) (by (with_reducible repeat' first | exact mem_h _ _ | apply mem_t); done)))
    | (with_reducible apply wt_cons)
    | ((have dq1 := owr_ld (ti := ti40) (j := 0) pO hw9 rfl hr2 rfl rfl; have dq3 := owr_ld (ti := ti40) (j := 0) pO2 hw9 rfl hr2 rfl rfl; (simp only [ti40, Nat.add_zero] at dq1 dq3); ((with_reducible apply wt_nil); refine And.intro ?_ (Exists.intro _ (Exists.intro _ (And.intro rfl ?_))); (· (simp (disch := (first | assumption | omega)) only [eq_self, wantedA, opA, ev, T.get_put, Nat.reduceEqDiff, reduceIte, List.getElem?_cons_zero, List.getElem?_cons_succ, Bool.and_true, ty26, ti26, ty40, ti40, ty26, ti26, ty40, ti40, dq0, dq1, dq2, dq3, hau, checksD_nil, checksD_cons, checkD, checkG, sameR, av_ip]; done)))))
    | (((with_reducible apply wo_call); (· ((with_reducible apply k13); (· (exact H.pz (a := isr c3e 3 vL ls) (by (with_reducible repeat' first | exact mem_h _ _ | apply mem_t); done))); (· (exact H.pz (a := lc false vF ((fi (f :: rr)).map I)) (by (with_reducible repeat' first | exact mem_h _ _ | apply mem_t); done))); (· (assumption)); (· (assumption)))); rintro _ h ⟨wL, wF, rfl, hL, hF, hx, f1, f2⟩; have fw := fun m hm => Nat.le_trans H.fr.c (f2 m hm).1; have oL := hL.one; have cL := hL.cells; have oF := hF.one; have cF := hF.cells; have hau := owr_av hL; replace H := H.cpy hx (x := owr 46 3 wL _) (z := lc false wF _) hL hF (fun n hn => f1 n (nmO_mem.1 hn)) (fun n hn => (f2 n (nmO_mem.1 hn)).1) (fun n hn h9 => (f2 n (nmO_mem.1 hn)).2 (nmO_mem.1 h9)); replace H := H.zsub (z := lc false wF _) (z' := isl wF _) (.head _) hF.isL (fun n hn => hn); clear hx f1 f2 hL hF))
    | (((with_reducible apply wo_rlenL H); (· ((first | exact ty26 | exact ty27 | exact ty26 | exact ty27))); (· (rfl)); (· ((with_reducible repeat' first | exact mem_h _ _ | apply mem_t); done))))
    | (((with_reducible apply wo_riaL H); (· ((first | exact ty26 | exact ty27 | exact ty26 | exact ty27))); (· (rfl)); (· ((first | exact ty3 | exact ty46 | exact ty3 | exact ty46))); (· ((with_reducible repeat' first | exact mem_h _ _ | apply mem_t); done)); (· (rfl)); (· ((first | rfl | assumption | omega))); (· ((first | assumption | omega))); intro w9 hw9))
    | (((with_reducible apply wo_rldL (j := 0) H); (· (assumption)); (· ((with_reducible repeat' first | exact mem_h _ _ | apply mem_t); done)); (· (rfl)); (· (assumption)); (· (rfl)); (· (rfl))))
    | (((with_reducible apply wo_rst H); (· ((with_reducible repeat' first | exact Pick.here _ _ _ | apply Pick.there); done)); (· (assumption)); (· (assumption)); (· (rfl)); (· (decide)); (· (rfl)); (· (rfl)); (· (rfl)); (· (rfl)); clear H; intro h H; (try simp only [List.set_cons_zero, List.set_cons_succ] at H)))
    | (((with_reducible apply wo_sl1 H); (· ((with_reducible repeat' first | exact mem_h _ _ | apply mem_t); done)); (· ((first | exact ty27 | exact ty27))); (· (rfl)); (· ((first | exact ty3 | exact ty3))); (· (rfl)); (· ((first | assumption | omega))); clear H; intro w8 hw8l hw8 H; have ow := hw8l.one; have cw := hw8l.cells))
    | (((with_reducible apply wo_ia (j := 0) H); (· ((with_reducible repeat' first | exact mem_h _ _ | apply mem_t); done)); (· ((first | exact ty27 | exact ty27))); (· (rfl)); (· ((first | exact ty3 | exact ty3))); (· (rfl)); (· (rfl)); (· (assumption)); clear H; intro n o H))
    | ((with_reducible apply wo_box H); clear H; intro n h H0n H)
    | ((with_reducible apply wo_alloc H); (· (rfl)); clear H; intro n h H0n H)
    | ((with_reducible apply wo_load1 H); (· ((with_reducible repeat' first | exact mem_h _ _ | apply mem_t); done)); (· (rfl)); (· ((first | rfl | assumption))))
    | ((with_reducible apply wo_loadc H); (· ((with_reducible repeat' first | exact mem_h _ _ | apply mem_t); done)); (· (rfl)))
    | ((with_reducible apply wo_loadn H); (· ((with_reducible repeat' first | exact mem_h _ _ | apply mem_t); done)); (· (rfl)); (· (rfl)); (· (rfl)))
    | ((with_reducible apply wo_store1 H); (· ((with_reducible repeat' first | exact Pick.here _ _ _ | apply Pick.there); done)); (· ((first | rfl | assumption))); (· ((first | rfl | assumption | exact cells_one (H.pz (by (with_reducible repeat' first | exact mem_h _ _ | apply mem_t); done))))); (· ((first | rfl | assumption))); (· (rfl)); (· ((first | exact Nat.le_of_ble_eq_true rfl | omega | (simp only [List.length_set, List.length_replicate, List.length_map, List.length_cons, List.length_nil]; omega) | (simp; done) | (simp; omega)))); clear H; intro h H)
    | ((first | (fail_if_success (have := pO)) | (have := pO2)); (with_reducible apply wo_storen H); (· ((with_reducible repeat' first | exact Pick.here _ _ _ | apply Pick.there); done)); (· ((first | rfl | assumption | exact cells_one (H.pz (by (with_reducible repeat' first | exact mem_h _ _ | apply mem_t); done))))); (· ((first | rfl | (simp (disch := assumption) only [onesA_cons', onesA_nil, cells_agg, one_t, Bool.and_self]; done)))); (· (rfl)); (· ((first | exact Nat.le_of_ble_eq_true rfl | omega | (simp only [List.length_set, List.length_replicate, List.length_map, List.length_cons, List.length_nil]; omega) | (simp; done) | (simp; omega)))); clear H; intro h H)
    | ((with_reducible apply wo_len H); (· ((with_reducible repeat' first | exact mem_h _ _ | apply mem_t); done)); (· ((first | exact ty27 | exact ty27))); (· (rfl)))
    | ((with_reducible apply wo_build); (· ((first | exact ty42 | exact ty42))); (· (rfl)); (· ((first | rfl | (simp only [fillA_nil, fillA_cons, repl_z, repl_s, cells_int, cells_bool, cells_str, cells_float, cells_np, cells_nil, cells_nf, cells_ptr, cells_slice, cells_fn, cells_agg, cells_lagg, v0, v1, v2, v4, v5, v6, v7, v16, conv40, conv3, conv2, uu_eql, uu_neq, uu_gtr, uu_lss, uu_add, uu_sub, wrap_u32k, rws_len, one1, one2, one3, one4, hmL, hd0]; rfl)))))
    | ((first | with_reducible apply wv_ret | with_reducible apply wv_end); (· ((repeat' (first | with_reducible exact rs_nil | ((with_reducible apply rs_tmp); (· (simp (disch := (first | assumption | omega)) only [ev, T.get_put, Nat.reduceEqDiff, reduceIte, Option.some.injEq, dec_t, dec_f, Bool.not_true, Bool.not_false, v0, v1, v2, v4, v5, v6, v7, v16, conv40, conv3, conv2, uu_eql, uu_neq, uu_gtr, uu_lss, uu_add, uu_sub, wrap_u32k, rws_len, one1, one2, one3, one4, hmL, hd0] <;> rfl))) | ((with_reducible apply rs_cell); (· (simp (disch := (first | assumption | omega)) only [Option.some.injEq, v4, v5] <;> rfl)); (· ((first | exact ty29 | exact ty42 | exact ty29 | exact ty42))); (· (rfl)); (· (exact H.ld1 (by (with_reducible repeat' first | exact mem_h _ _ | apply mem_t); done) rfl))) | ((with_reducible apply rs_celln); (· (simp (disch := (first | assumption | omega)) only [Option.some.injEq, v4, v5] <;> rfl)); (· ((first | exact ty29 | exact ty42 | exact ty29 | exact ty42))); (· (rfl)); (· (exact H.ldn (by (with_reducible repeat' first | exact mem_h _ _ | apply mem_t); done) rfl rfl))))); done)))
    | simp (disch := (first | assumption | omega)) only [ti29, ti42, ti29, ti42, List.take_succ_cons, List.take_zero, List.drop_zero])

  all_goals try (exfalso; omega)
  all_goals (rw [e9] at H; exact ⟨_, _, rfl, (H.p (a := owr 46 3 wL ((ls.set f (g, true, x)).map c3e)) (by (with_reducible repeat' first | exact mem_h _ _ | apply mem_t); done)).isR (fun _ _ => rfl), H.pz (a := lc false w8 (List.drop 1 ((fi (f :: rr)).map I))) (by (with_reducible repeat' first | exact mem_h _ _ | apply mem_t); done), H.toExt, fun m hm => ((H.own (owr 46 3 wL ((ls.set f (g, true, x)).map c3e)) (by (with_reducible repeat' first | exact mem_h _ _ | apply mem_t); done)).2 m (nmO_mem.2 hm)).elim id (fun h => by cases h), fun m hm => fw m (hw8 ▸ hm)⟩)


end Go.Proofs.Ytolpndlnabodgaa
