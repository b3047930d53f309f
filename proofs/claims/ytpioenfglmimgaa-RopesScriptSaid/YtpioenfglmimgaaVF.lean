import Derived.Test.YtpioenfglmimgaaVE
import Derived.KernelRfl
namespace Go.Proofs.Ytpioenfglmimgaa
open Go Go.Proofs Go.RowKit Go.Proofs.Abs
set_option linter.unusedSimpArgs false
set_option linter.unusedVariables false
theorem sum_sub : ∀ {X Y : List Int}, X.Sublist Y → (∀ y, y ∈ Y → 0 ≤ y) → X.sum ≤ Y.sum := by
  intro X Y h
  induction h with
  | slnil => intro _; exact Int.le_refl _
  | cons a h ih =>
    intro hy
    rw [List.sum_cons]
    have := ih (fun y h2 => hy y (.tail _ h2))
    have := hy a (.head _)
    omega
  | cons_cons a h ih =>
    intro hy
    rw [List.sum_cons, List.sum_cons]
    have := ih (fun y h2 => hy y (.tail _ h2))
    omega
theorem good_sub {X Y : List Int} (h : X.Sublist Y) (g : GT.Good Y) : GT.Good X :=
  ⟨fun x hx => g.1 x (h.subset hx), by have := sum_sub h g.1; have := g.2.1; omega, by have := h.length_le; have := g.2.2; omega⟩
theorem sum_perm {X Y : List Int} (h : X.Perm Y) : X.sum = Y.sum := by
  induction h with
  | nil => rfl
  | cons a _ ih => rw [List.sum_cons, List.sum_cons, ih]
  | swap a b l => simp only [List.sum_cons]; omega
  | trans _ _ h1 h2 => rw [h1, h2]
theorem good_perm {X Y : List Int} (h : X.Perm Y) (g : GT.Good Y) : GT.Good X :=
  ⟨fun x hx => g.1 x (h.mem_iff.1 hx), by rw [sum_perm h]; exact g.2.1, by rw [h.length_eq]; exact g.2.2⟩
def remL (l : List Int) (j q : Nat) : List Int := l.take j ++ l.drop (j + q)
def movL (l : List Int) (j q z : Nat) : List Int := (remL l j q).take z ++ (l.drop j).take q ++ (remL l j q).drop z
def insL (l : List Int) (j : Nat) (xs : List Int) : List Int := l.take j ++ xs ++ l.drop j
theorem good_rem {l : List Int} (g : GT.Good l) (j q : Nat) : GT.Good (remL l j q) := by
  refine good_sub ?_ g
  unfold remL
  have h1 : (l.take j ++ l.drop (j + q)).Sublist (l.take j ++ l.drop j) := List.Sublist.append (List.Sublist.refl _) (by rw [← List.drop_drop]; exact List.drop_sublist _ _)
  rwa [List.take_append_drop] at h1
theorem mov_perm (l : List Int) (j q z : Nat) : (movL l j q z).Perm l := by
  unfold movL
  have h1 : ((remL l j q).take z ++ (l.drop j).take q ++ (remL l j q).drop z).Perm ((l.drop j).take q ++ ((remL l j q).take z ++ (remL l j q).drop z)) := by
    rw [← List.append_assoc]
    exact List.Perm.append_right _ List.perm_append_comm
  rw [List.take_append_drop] at h1
  refine h1.trans ?_
  unfold remL
  rw [← List.append_assoc]
  refine (List.Perm.append_right _ List.perm_append_comm).trans ?_
  rw [List.append_assoc, ← List.drop_drop, List.take_append_drop, List.take_append_drop]
theorem ins_perm (l : List Int) (j : Nat) (xs : List Int) : (insL l j xs).Perm (l ++ xs) := by
  unfold insL
  have h1 : (l.take j ++ xs ++ l.drop j).Perm (l.take j ++ (l.drop j ++ xs)) := by
    rw [List.append_assoc]
    exact List.Perm.append_left _ List.perm_append_comm
  rw [← List.append_assoc, List.take_append_drop] at h1
  exact h1
theorem good_mov {l : List Int} (g : GT.Good l) (j q z : Nat) : GT.Good (movL l j q z) := good_perm (mov_perm l j q z) g
theorem rem_len {l : List Int} {j q : Nat} (h : j + q ≤ l.length) : (remL l j q).length = l.length - q := by
  unfold remL
  rw [List.length_append, List.length_take, List.length_drop]
  omega
theorem mid_eq (l : List Int) (j q : Nat) : (l.take (j + q)).drop j = (l.drop j).take q := by rw [List.drop_take, Nat.add_sub_cancel_left]
theorem take_take' (l : List Int) (j q : Nat) : (l.take (j + q)).take j = l.take j := by rw [List.take_take, Nat.min_eq_left (by omega)]
set_option maxHeartbeats 4000000 in
theorem c50 {n : Nat} (hn : 3 ≤ n) {b : Hp} {g : GT} (pg : g.ok b) (gd : GT.Good g.lst) {j q : Nat} (hj : j + q ≤ g.cnt) : Wv (runA ctx 5000 n 50 [.agg [g.val], I (j : Int), I (q : Int)] b) (fun r h' => r = Bo true ∧ Ext b h') := by
  obtain ⟨k, rfl⟩ : ∃ k, n = k + 1 := ⟨n - 1, by omega⟩
  have s1 := gd.sm
  have H := (Hs.start b).z0 (z := tre g) pg
  refine wv_run fn50 rfl ?_
  have a0 : (enterEnv [.agg [g.val], I (j : Int), I (q : Int)] Try.f50.ntmps).get 0 = some (.agg [g.val]) := enter_get1 _ _ _
  have a1 : (enterEnv [.agg [g.val], I (j : Int), I (q : Int)] Try.f50.ntmps).get 1 = some (I (j : Int)) := enter_get2 _ _ _ _
  have a2 : (enterEnv [.agg [g.val], I (j : Int), I (q : Int)] Try.f50.ntmps).get 2 = some (I (q : Int)) := enter_get3 _ _ _ _ _
  generalize enterEnv [.agg [g.val], I (j : Int), I (q : Int)] Try.f50.ntmps = e at a0 a1 a2 ⊢
  unfold Try.f50
  dsimp only
  ((with_reducible apply wc_c (fun i => Nat.beq i 0 || Nat.beq i 1 || Nat.beq i 2 || Nat.beq i 3 || Nat.beq i 6)); intro e he; have w9 := he 0 rfl; (try simp only [a0] at w9); have v0 := w9; clear w9; have w9 := he 1 rfl; (try simp only [a1] at w9); have v1 := w9; clear w9; have w9 := he 2 rfl; (try simp only [a2] at w9); have v2 := w9; clear w9; have w9 := he 3 rfl; (try simp only [T.get_put, Nat.reduceEqDiff, reduceIte] at w9); have v3 := w9; clear w9; have w9 := he 6 rfl; (try simp only [T.get_put, Nat.reduceEqDiff, reduceIte] at w9); have v6 := w9; clear w9; clear he)
  repeat' (first
    | with_reducible apply wc_seq
    | ((with_reducible apply wc_region); (· (rfl)))
    | with_reducible apply wo_some
    | with_reducible apply wc_ret
    | (simp only [cells_agg] at H)
    | ((with_reducible apply nx_c (fun i => Nat.beq i 0 || Nat.beq i 1 || Nat.beq i 2 || Nat.beq i 3 || Nat.beq i 6)); intro e he; have w0 := he 0 rfl; have w1 := he 1 rfl; have w2 := he 2 rfl; have w3 := he 3 rfl; have w6 := he 6 rfl; (try simp only [T.get_put, Nat.reduceEqDiff, reduceIte, v0, v1, v2, v3, v6] at w0 w1 w2 w3 w6); clear he v0 v1 v2 v3 v6; have v0 := w0; have v1 := w1; have v2 := w2; have v3 := w3; have v6 := w6; clear w0 w1 w2 w3 w6)
    | ((with_reducible apply wo_eq); (· (simp (disch := (first | assumption | omega)) only [beq_self_eq_true, eq_self, opsA_cons, opsA_nil, wantedA, guardA, yieldA, stepA_t, callA, calleeA, targetA, runOp_c, runOp_n, opA, ev, evs, consO, consOO, pickA, afterA_s, putA, T.get_put, Nat.reduceEqDiff, reduceIte, List.getElem?_cons_zero, List.getElem?_cons_succ, oBin, binA, binG, binL, aggO, litA, Bool.not_false, I, Bo, ty27, ti27, ii_sub, ii_geq, ii_leq, withH_s, dec_f, wrap_ok, List.take_succ_cons, List.take_zero, List.drop_zero, v0, v1, v2, v3]; exact rfl)))
    | (((with_reducible apply wo_call); (· ((with_reducible apply c36); (· (omega)); (· (exact H.tok (by (with_reducible repeat' first | exact mem_h _ _ | apply mem_t); done))))); rintro _ h ⟨rfl, x1⟩; replace H := H.ext x1; clear x1))
    | ((with_reducible apply wo_box H); clear H; intro n h H0n H)
    | ((with_reducible apply wo_loadn H); (· ((with_reducible repeat' first | exact mem_h _ _ | apply mem_t); done)); (· (rfl)); (· (rfl)); (· (rfl)))
    | ((first | with_reducible apply wv_ret | with_reducible apply wv_end); (· ((repeat' (first | with_reducible exact rs_nil | ((with_reducible apply rs_tmp); (· (simp (disch := (first | assumption | omega)) only [Option.some.injEq, v6] <;> rfl))) | ((with_reducible apply rs_cell); (· (simp (disch := (first | assumption | omega)) only [ev, T.get_put, Nat.reduceEqDiff, reduceIte, Option.some.injEq, dec_t, dec_f, Bool.not_true, Bool.not_false, v0, v1, v2, v3, v6, GT.cells_val] <;> rfl)); (· (kernel_rfl)); (· (rfl)); (· (exact H.ld1 (by (with_reducible repeat' first | exact mem_h _ _ | apply mem_t); done) rfl))) | ((with_reducible apply rs_celln); (· (simp (disch := (first | assumption | omega)) only [ev, T.get_put, Nat.reduceEqDiff, reduceIte, Option.some.injEq, dec_t, dec_f, Bool.not_true, Bool.not_false, v0, v1, v2, v3, v6, GT.cells_val] <;> rfl)); (· (kernel_rfl)); (· (rfl)); (· (exact H.ldn (by (with_reducible repeat' first | exact mem_h _ _ | apply mem_t); done) rfl rfl))))); done)))
    | simp (disch := (first | assumption | omega)) only [Bo])

  all_goals (first | first | exact ⟨rfl, H.toExt⟩ | (exfalso; omega) | trace_state)
set_option maxHeartbeats 4000000 in
theorem c50e {n : Nat} (hn : 3 ≤ n) {b : Hp} {g : GT} (pg : g.ok b) (gd : GT.Good g.lst) {i q : Int} (hj : ¬ (0 ≤ i ∧ 0 ≤ q ∧ i ≤ (g.cnt : Int) ∧ q ≤ (g.cnt : Int) - i)) : Wv (runA ctx 5000 n 50 [.agg [g.val], I i, I q] b) (fun r h' => r = Bo false ∧ Ext b h') := by
  obtain ⟨k, rfl⟩ : ∃ k, n = k + 1 := ⟨n - 1, by omega⟩
  have s1 := gd.sm
  have H := (Hs.start b).z0 (z := tre g) pg
  refine wv_run fn50 rfl ?_
  have a0 : (enterEnv [.agg [g.val], I i, I q] Try.f50.ntmps).get 0 = some (.agg [g.val]) := enter_get1 _ _ _
  have a1 : (enterEnv [.agg [g.val], I i, I q] Try.f50.ntmps).get 1 = some (I i) := enter_get2 _ _ _ _
  have a2 : (enterEnv [.agg [g.val], I i, I q] Try.f50.ntmps).get 2 = some (I q) := enter_get3 _ _ _ _ _
  generalize enterEnv [.agg [g.val], I i, I q] Try.f50.ntmps = e at a0 a1 a2 ⊢
  unfold Try.f50
  dsimp only
  ((with_reducible apply wc_c (fun i => Nat.beq i 0 || Nat.beq i 1 || Nat.beq i 2 || Nat.beq i 3 || Nat.beq i 6)); intro e he; have w9 := he 0 rfl; (try simp only [a0] at w9); have v0 := w9; clear w9; have w9 := he 1 rfl; (try simp only [a1] at w9); have v1 := w9; clear w9; have w9 := he 2 rfl; (try simp only [a2] at w9); have v2 := w9; clear w9; have w9 := he 3 rfl; (try simp only [T.get_put, Nat.reduceEqDiff, reduceIte] at w9); have v3 := w9; clear w9; have w9 := he 6 rfl; (try simp only [T.get_put, Nat.reduceEqDiff, reduceIte] at w9); have v6 := w9; clear w9; clear he)
  repeat' (first
    | with_reducible apply wc_seq
    | ((with_reducible apply wc_region); (· (rfl)))
    | with_reducible apply wo_some
    | with_reducible apply wc_ret
    | (simp only [cells_agg] at H)
    | ((with_reducible apply nx_c (fun i => Nat.beq i 0 || Nat.beq i 1 || Nat.beq i 2 || Nat.beq i 3 || Nat.beq i 6)); intro e he; have w0 := he 0 rfl; have w1 := he 1 rfl; have w2 := he 2 rfl; have w3 := he 3 rfl; have w6 := he 6 rfl; (try simp only [T.get_put, Nat.reduceEqDiff, reduceIte, v0, v1, v2, v3, v6] at w0 w1 w2 w3 w6); clear he v0 v1 v2 v3 v6; have v0 := w0; have v1 := w1; have v2 := w2; have v3 := w3; have v6 := w6; clear w0 w1 w2 w3 w6)
    | ((with_reducible apply wo_eq); (· (simp (disch := (first | assumption | omega)) only [beq_self_eq_true, eq_self, opsA_cons, opsA_nil, wantedA, guardA, yieldA, stepA_t, stepA_f, callA, calleeA, targetA, runOp_c, runOp_n, opA, ev, evs, consO, consOO, pickA, afterA_s, putA, T.get_put, Nat.reduceEqDiff, reduceIte, List.getElem?_cons_zero, List.getElem?_cons_succ, oBin, binA, binG, binL, aggO, litA, Bool.not_true, Bool.not_false, ft_beq, I, Bo, ty27, ti27, ii_sub, ii_geq, ii_leq, withH_s, dec_t, dec_f, wrap_ok, List.take_succ_cons, List.take_zero, List.drop_zero, v0, v1, v2, v3]; exact rfl)))
    | (((with_reducible apply wo_call); (· ((with_reducible apply c36); (· (omega)); (· (exact H.tok (by (with_reducible repeat' first | exact mem_h _ _ | apply mem_t); done))))); rintro _ h ⟨rfl, x1⟩; replace H := H.ext x1; clear x1))
    | ((with_reducible apply wo_box H); clear H; intro n h H0n H)
    | ((with_reducible apply wo_loadn H); (· ((with_reducible repeat' first | exact mem_h _ _ | apply mem_t); done)); (· (rfl)); (· (rfl)); (· (rfl)))
    | ((with_reducible apply wo_step) <;> intro hg <;> (try simp only [beq_true, Bool.not_eq_eq_eq_not, Bool.not_true, Bool.not_false, decide_eq_true_eq, decide_eq_false_iff_not] at hg) <;> (try subst hg) <;> (first | (exfalso; exact Bool.noConfusion hg) | skip))
    | ((first | with_reducible apply wv_ret | with_reducible apply wv_end); (· ((repeat' (first | with_reducible exact rs_nil | ((with_reducible apply rs_tmp); (· (simp (disch := (first | assumption | omega)) only [Option.some.injEq, v6] <;> rfl))) | ((with_reducible apply rs_cell); (· (simp (disch := (first | assumption | omega)) only [ev, T.get_put, Nat.reduceEqDiff, reduceIte, Option.some.injEq, dec_t, dec_f, Bool.not_true, Bool.not_false, v0, v1, v2, v3, v6, GT.cells_val] <;> rfl)); (· (kernel_rfl)); (· (rfl)); (· (exact H.ld1 (by (with_reducible repeat' first | exact mem_h _ _ | apply mem_t); done) rfl))) | ((with_reducible apply rs_celln); (· (simp (disch := (first | assumption | omega)) only [ev, T.get_put, Nat.reduceEqDiff, reduceIte, Option.some.injEq, dec_t, dec_f, Bool.not_true, Bool.not_false, v0, v1, v2, v3, v6, GT.cells_val] <;> rfl)); (· (kernel_rfl)); (· (rfl)); (· (exact H.ldn (by (with_reducible repeat' first | exact mem_h _ _ | apply mem_t); done) rfl rfl))))); done)))
    | simp (disch := (first | assumption | omega)) only [Bo])

  all_goals (first | first | exact ⟨rfl, H.toExt⟩ | (exfalso; omega) | exact ⟨by rw [dec_f (by omega)], H.toExt⟩ | trace_state)
set_option maxHeartbeats 4000000 in
theorem c30 {n : Nat} (hn : 70 ≤ n) {b : Hp} {g : GT} (pg : g.ok b) (gd : GT.Good g.lst) (bl : g.bal) {j q : Nat} (hj : j + q ≤ g.cnt) : Wv (runA ctx 5000 n 30 [.agg [g.val], I (j : Int), I (q : Int)] b) (fun r h' => RR b h' r g.names 0 (remL g.lst j q)) := by
  obtain ⟨k, rfl⟩ : ∃ k, n = k + 1 := ⟨n - 1, by omega⟩
  have hjq : (j : Int) + (q : Int) = ((j + q : Nat) : Int) := by omega
  have s1 := gd.sm
  have hh := GT.bal_hgt bl s1.2.2
  have hlen := GT.len g
  have H := (Hs.start b).z0 (z := tre g) pg
  refine wv_run fn30 rfl ?_
  have a0 : (enterEnv [.agg [g.val], I (j : Int), I (q : Int)] Try.f30.ntmps).get 0 = some (.agg [g.val]) := enter_get1 _ _ _
  have a1 : (enterEnv [.agg [g.val], I (j : Int), I (q : Int)] Try.f30.ntmps).get 1 = some (I (j : Int)) := enter_get2 _ _ _ _
  have a2 : (enterEnv [.agg [g.val], I (j : Int), I (q : Int)] Try.f30.ntmps).get 2 = some (I (q : Int)) := enter_get3 _ _ _ _ _
  generalize enterEnv [.agg [g.val], I (j : Int), I (q : Int)] Try.f30.ntmps = e at a0 a1 a2 ⊢
  unfold Try.f30
  dsimp only
  ((with_reducible apply wc_c (fun i => Nat.beq i 0 || Nat.beq i 1 || Nat.beq i 2 || Nat.beq i 3 || Nat.beq i 6 || Nat.beq i 7 || Nat.beq i 8 || Nat.beq i 9 || Nat.beq i 10 || Nat.beq i 16)); intro e he; have w9 := he 0 rfl; (try simp only [a0] at w9); have v0 := w9; clear w9; have w9 := he 1 rfl; (try simp only [a1] at w9); have v1 := w9; clear w9; have w9 := he 2 rfl; (try simp only [a2] at w9); have v2 := w9; clear w9; have w9 := he 3 rfl; (try simp only [T.get_put, Nat.reduceEqDiff, reduceIte] at w9); have v3 := w9; clear w9; have w9 := he 6 rfl; (try simp only [T.get_put, Nat.reduceEqDiff, reduceIte] at w9); have v6 := w9; clear w9; have w9 := he 7 rfl; (try simp only [T.get_put, Nat.reduceEqDiff, reduceIte] at w9); have v7 := w9; clear w9; have w9 := he 8 rfl; (try simp only [T.get_put, Nat.reduceEqDiff, reduceIte] at w9); have v8 := w9; clear w9; have w9 := he 9 rfl; (try simp only [T.get_put, Nat.reduceEqDiff, reduceIte] at w9); have v9 := w9; clear w9; have w9 := he 10 rfl; (try simp only [T.get_put, Nat.reduceEqDiff, reduceIte] at w9); have v10 := w9; clear w9; have w9 := he 16 rfl; (try simp only [T.get_put, Nat.reduceEqDiff, reduceIte] at w9); have v16 := w9; clear w9; clear he)
  repeat' (first
    | with_reducible apply wc_seq
    | ((with_reducible apply wc_region); (· (rfl)))
    | with_reducible apply wo_some
    | ((with_reducible apply wc_cond); (· (simp (disch := (first | assumption | omega)) only [ev, Option.some.injEq, v16] <;> rfl)); all_goals (intro hg; (try (try simp only [Bool.not_eq_true'] at hg)); first | (exfalso; exact Bool.noConfusion hg) | (exfalso; exact hg) | skip))
    | with_reducible apply wc_skip
    | with_reducible apply wc_ret
    | (simp only [patch, List.take_zero, List.drop_succ_cons, List.drop_nil, List.nil_append, List.append_nil, List.length_cons, List.length_nil, Nat.zero_add, cells_agg, cells_lagg, litCells_cons, litCells_nil] at H)
    | ((with_reducible apply nx_c (fun i => Nat.beq i 0 || Nat.beq i 1 || Nat.beq i 2 || Nat.beq i 3 || Nat.beq i 6 || Nat.beq i 7 || Nat.beq i 8 || Nat.beq i 9 || Nat.beq i 10 || Nat.beq i 16)); intro e he; have w0 := he 0 rfl; have w1 := he 1 rfl; have w2 := he 2 rfl; have w3 := he 3 rfl; have w6 := he 6 rfl; have w7 := he 7 rfl; have w8 := he 8 rfl; have w9 := he 9 rfl; have w10 := he 10 rfl; have w16 := he 16 rfl; (try simp only [T.get_put, Nat.reduceEqDiff, reduceIte, v0, v1, v2, v3, v6, v7, v8, v9, v10, v16] at w0 w1 w2 w3 w6 w7 w8 w9 w10 w16); clear he v0 v1 v2 v3 v6 v7 v8 v9 v10 v16; have v0 := w0; have v1 := w1; have v2 := w2; have v3 := w3; have v6 := w6; have v7 := w7; have v8 := w8; have v9 := w9; have v10 := w10; have v16 := w16; clear w0 w1 w2 w3 w6 w7 w8 w9 w10 w16)
    | ((with_reducible apply wo_eq); (· (simp (disch := (first | assumption | omega)) only [oUn_not, eq_self, opsA_cons, opsA_nil, wantedA, stepA_t, callA, calleeA, targetA, runOp_c, runOp_n, opA, ev, evs, consO, consOO, afterA_s, putA, T.get_put, Nat.reduceEqDiff, reduceIte, List.getElem?_toArray, List.getElem?_cons_zero, List.getElem?_cons_succ, oBin, binA, binG, binL, aggO, litA, cond_true, Bool.not_true, blt_eq, I, Bo, oExtract, fieldAddrA, oFieldAddr, Nat.add_zero, Nat.reduceLT, ty25, ti25, ty27, ti27, ii_add, List.getElem_toArray, List.getElem_cons_zero, withH_s, oBuild, evParts, consP, dec_t, wrap_ok, id_eq, List.take_succ_cons, List.take_zero, List.drop_zero, putAt_z, over_nil, over_cons, litCells_cons, litCells_nil, cells_lagg, Nat.add_zero, v0, v1, v2, v3, v6, v8, v9, v10, hjq]; exact rfl)))
    | (((with_reducible apply wo_call); (· ((with_reducible apply c50); (· (omega)); (· (exact H.tok (by (with_reducible repeat' first | exact mem_h _ _ | apply mem_t); done))); (· (exact gd)); (· (exact hj)))); rintro _ h ⟨rfl, x1⟩; replace H := H.ext x1; clear x1))
    | (((fail_if_success have := g1); (with_reducible apply wo_call); (· ((with_reducible apply (c47 16 k _ g (j + q))); (· (exact hh)); (· (omega)); (· (exact H.tok (by (with_reducible repeat' first | exact mem_h _ _ | apply mem_t); done))); (· (exact gd)); (· (exact bl)); (· (exact hj)))); rintro _ h ⟨g1, g2, rfl, pg1, pg2, xg1, ng1, ng2, e1, e2, c1, c2⟩; have fc := H.fr.c; have H1 := H.tnew xg1 pg1 ng1 (src1t (by (with_reducible repeat' first | exact mem_h _ _ | apply mem_t); done)); have H2 := H.tnew xg1 pg2 ng2 (src1t (by (with_reducible repeat' first | exact mem_h _ _ | apply mem_t); done)); replace ng1 := fun n hn => (ng1 n hn).imp id (Nat.le_trans fc); replace ng2 := fun n hn => (ng2 n hn).imp id (Nat.le_trans fc); replace H := H1.z1 (z := tre g2) pg2 (H2.std _ (.head _)).2; clear H1 H2 xg1 fc; have d1 : GT.Good g1.lst := (by rw [e1]; exact good_take gd _); have l1 := GT.len g1; rw [e1, List.length_take] at l1; have hh1 := GT.bal_hgt c1 d1.sm.2.2))
    | (((with_reducible apply wo_call); (· ((with_reducible apply (c47 16 k _ g1 j)); (· (exact hh1)); (· (omega)); (· (exact H.tok (by (with_reducible repeat' first | exact mem_h _ _ | apply mem_t); done))); (· (exact d1)); (· (exact c1)); (· (omega)))); rintro _ h ⟨g3, g4, rfl, pg3, pg4, xg3, ng3, ng4, e3, e4, c3, c4⟩; have fc := H.fr.c; have H1 := H.tnew xg3 pg3 ng3 (src1t (by (with_reducible repeat' first | exact mem_h _ _ | apply mem_t); done)); have H2 := H.tnew xg3 pg4 ng4 (src1t (by (with_reducible repeat' first | exact mem_h _ _ | apply mem_t); done)); replace ng3 := fun n hn => (ng3 n hn).imp id (Nat.le_trans fc); replace ng4 := fun n hn => (ng4 n hn).imp id (Nat.le_trans fc); replace H := H1.z1 (z := tre g4) pg4 (H2.std _ (.head _)).2; clear H1 H2 xg3 fc; rw [e1, take_take'] at e3; rw [e1, mid_eq] at e4))
    | (((with_reducible apply wo_call); (· ((with_reducible apply c49); (· (omega)); (· (exact H.tok (by (with_reducible repeat' first | exact mem_h _ _ | apply mem_t); done))); (· (exact H.tok (by (with_reducible repeat' first | exact mem_h _ _ | apply mem_t); done))); (· ((rw [e3, e2]; exact good_rem gd j q))); (· (exact c3)); (· (exact c2)))); rintro _ h ⟨g5, rfl, pg5, xg5, ng5, e5, c5⟩; have fc := H.fr.c; replace H := H.tnew xg5 pg5 ng5 (src2t (by (with_reducible repeat' first | exact mem_h _ _ | apply mem_t); done) (by (with_reducible repeat' first | exact mem_h _ _ | apply mem_t); done)); replace ng5 := fun n hn => (ng5 n hn).imp id (Nat.le_trans fc); clear xg5 fc))
    | ((with_reducible apply wo_box H); clear H; intro n h H0n H)
    | ((with_reducible apply wo_alloc H); (· (rfl)); clear H; intro n h H0n H)
    | ((with_reducible apply wo_load1 H); (· ((with_reducible repeat' first | exact mem_h _ _ | apply mem_t); done)); (· (rfl)); (· ((first | rfl | assumption))))
    | ((with_reducible apply wo_loadn H); (· ((with_reducible repeat' first | exact mem_h _ _ | apply mem_t); done)); (· (rfl)); (· (rfl)); (· (rfl)))
    | ((with_reducible apply wo_storen H); (· ((with_reducible repeat' first | exact Pick.here _ _ _ | apply Pick.there); done)); (· ((first | rfl | assumption | exact cells_one (H.pz (by (with_reducible repeat' first | exact mem_h _ _ | apply mem_t); done))))); (· ((first | rfl | (simp (disch := assumption) only [onesA_cons', onesA_nil, cells_agg, GT.one_val, Bool.and_self]; done)))); (· (rfl)); (· ((first | exact Nat.le_of_ble_eq_true rfl | omega | (simp only [List.length_set, List.length_replicate, List.length_map, List.length_cons, List.length_nil]; omega) | (simp; done) | (simp; omega)))); clear H; intro h H)
    | ((with_reducible apply wo_build); (· (exact ty27)); (· (rfl)); (· ((first | rfl | (simp only [fillA_nil, fillA_cons, GT.cells_val]; rfl)))))
    | ((first | with_reducible apply wv_ret | with_reducible apply wv_end); (· ((repeat' (first | with_reducible exact rs_nil | ((with_reducible apply rs_tmp); (· (simp (disch := (first | assumption | omega)) only [Option.some.injEq, v7] <;> rfl))) | ((with_reducible apply rs_cell); (· (simp (disch := (first | assumption | omega)) only [Option.some.injEq, v6] <;> rfl)); (· (exact ty27)); (· (rfl)); (· (exact H.ld1 (by (with_reducible repeat' first | exact mem_h _ _ | apply mem_t); done) rfl))) | ((with_reducible apply rs_celln); (· (simp (disch := (first | assumption | omega)) only [Option.some.injEq, v6] <;> rfl)); (· (exact ty27)); (· (rfl)); (· (exact H.ldn (by (with_reducible repeat' first | exact mem_h _ _ | apply mem_t); done) rfl rfl))))); done)))
    | simp (disch := (first | assumption | omega)) only [ti27, List.take_succ_cons, List.take_zero, List.drop_zero])

  all_goals (first | exact ⟨g5, rfl, H.tok (by (with_reducible repeat' first | exact mem_h _ _ | apply mem_t); done), H.toExt, by (intro n hn; simp only [List.mem_append] at *; grind), by rw [e5, e3, e2]; rfl, c5⟩ | trace_state)
set_option maxHeartbeats 4000000 in
theorem c30e {n : Nat} (hn : 70 ≤ n) {b : Hp} {g : GT} (pg : g.ok b) (gd : GT.Good g.lst) (bl : g.bal) {i q : Int} (hj : ¬ (0 ≤ i ∧ 0 ≤ q ∧ i ≤ (g.cnt : Int) ∧ q ≤ (g.cnt : Int) - i)) : Wv (runA ctx 5000 n 30 [.agg [g.val], I i, I q] b) (fun r h' => RR b h' r g.names 4 []) := by
  obtain ⟨k, rfl⟩ : ∃ k, n = k + 1 := ⟨n - 1, by omega⟩
  have s1 := gd.sm
  have hh := GT.bal_hgt bl s1.2.2
  have hlen := GT.len g
  have H := (Hs.start b).z0 (z := tre g) pg
  refine wv_run fn30 rfl ?_
  have a0 : (enterEnv [.agg [g.val], I i, I q] Try.f30.ntmps).get 0 = some (.agg [g.val]) := enter_get1 _ _ _
  have a1 : (enterEnv [.agg [g.val], I i, I q] Try.f30.ntmps).get 1 = some (I i) := enter_get2 _ _ _ _
  have a2 : (enterEnv [.agg [g.val], I i, I q] Try.f30.ntmps).get 2 = some (I q) := enter_get3 _ _ _ _ _
  generalize enterEnv [.agg [g.val], I i, I q] Try.f30.ntmps = e at a0 a1 a2 ⊢
  unfold Try.f30
  dsimp only
  ((with_reducible apply wc_c (fun i => Nat.beq i 0 || Nat.beq i 1 || Nat.beq i 2 || Nat.beq i 3 || Nat.beq i 6 || Nat.beq i 7 || Nat.beq i 8 || Nat.beq i 9 || Nat.beq i 10 || Nat.beq i 16)); intro e he; have w9 := he 0 rfl; (try simp only [a0] at w9); have v0 := w9; clear w9; have w9 := he 1 rfl; (try simp only [a1] at w9); have v1 := w9; clear w9; have w9 := he 2 rfl; (try simp only [a2] at w9); have v2 := w9; clear w9; have w9 := he 3 rfl; (try simp only [T.get_put, Nat.reduceEqDiff, reduceIte] at w9); have v3 := w9; clear w9; have w9 := he 6 rfl; (try simp only [T.get_put, Nat.reduceEqDiff, reduceIte] at w9); have v6 := w9; clear w9; have w9 := he 7 rfl; (try simp only [T.get_put, Nat.reduceEqDiff, reduceIte] at w9); have v7 := w9; clear w9; have w9 := he 8 rfl; (try simp only [T.get_put, Nat.reduceEqDiff, reduceIte] at w9); have v8 := w9; clear w9; have w9 := he 9 rfl; (try simp only [T.get_put, Nat.reduceEqDiff, reduceIte] at w9); have v9 := w9; clear w9; have w9 := he 10 rfl; (try simp only [T.get_put, Nat.reduceEqDiff, reduceIte] at w9); have v10 := w9; clear w9; have w9 := he 16 rfl; (try simp only [T.get_put, Nat.reduceEqDiff, reduceIte] at w9); have v16 := w9; clear w9; clear he)
  repeat' (first
    | with_reducible apply wc_seq
    | ((with_reducible apply wc_region); (· (rfl)))
    | with_reducible apply wo_some
    | ((with_reducible apply wc_cond); (· (simp (disch := (first | assumption | omega)) only [ev, Option.some.injEq, v16] <;> rfl)); all_goals (intro hg; (try (try simp only [Bool.not_eq_true'] at hg)); first | (exfalso; exact Bool.noConfusion hg) | (exfalso; exact hg) | skip))
    | with_reducible apply wc_ret
    | with_reducible apply nx_r
    | (simp only [patch, List.take_zero, List.drop_succ_cons, List.drop_nil, List.nil_append, List.append_nil, List.length_cons, List.length_nil, Nat.zero_add, cells_agg, cells_lagg, litCells_cons, litCells_nil] at H)
    | ((with_reducible apply nx_c (fun i => Nat.beq i 0 || Nat.beq i 1 || Nat.beq i 2 || Nat.beq i 3 || Nat.beq i 6 || Nat.beq i 7 || Nat.beq i 8 || Nat.beq i 9 || Nat.beq i 10 || Nat.beq i 16)); intro e he; have w0 := he 0 rfl; have w1 := he 1 rfl; have w2 := he 2 rfl; have w3 := he 3 rfl; have w6 := he 6 rfl; have w7 := he 7 rfl; have w8 := he 8 rfl; have w9 := he 9 rfl; have w10 := he 10 rfl; have w16 := he 16 rfl; (try simp only [T.get_put, Nat.reduceEqDiff, reduceIte, v0, v1, v2, v3, v6, v7, v8, v9, v10, v16] at w0 w1 w2 w3 w6 w7 w8 w9 w10 w16); clear he v0 v1 v2 v3 v6 v7 v8 v9 v10 v16; have v0 := w0; have v1 := w1; have v2 := w2; have v3 := w3; have v6 := w6; have v7 := w7; have v8 := w8; have v9 := w9; have v10 := w10; have v16 := w16; clear w0 w1 w2 w3 w6 w7 w8 w9 w10 w16)
    | ((with_reducible apply wo_eq); (· (simp (disch := (first | assumption | omega)) only [oUn_not, eq_self, opsA_cons, opsA_nil, wantedA, stepA_t, callA, calleeA, targetA, runOp_c, runOp_n, opA, ev, evs, consO, consOO, afterA_s, putA, T.get_put, Nat.reduceEqDiff, reduceIte, Bool.not_false, I, Bo, ty27, ti27, withH_s, oBuild, evParts, List.take_succ_cons, List.take_zero, List.drop_zero, litCells_cons, litCells_nil, cells_lagg, v0, v1, v2, v3, v6]; exact rfl)))
    | (((with_reducible apply wo_call); (· ((with_reducible apply c50e); (· (omega)); (· (exact H.tok (by (with_reducible repeat' first | exact mem_h _ _ | apply mem_t); done))); (· (exact gd)); (· (exact hj)))); rintro _ h ⟨rfl, x1⟩; replace H := H.ext x1; clear x1))
    | ((with_reducible apply wo_box H); clear H; intro n h H0n H)
    | ((with_reducible apply wo_alloc H); (· (rfl)); clear H; intro n h H0n H)
    | ((with_reducible apply wo_loadn H); (· ((with_reducible repeat' first | exact mem_h _ _ | apply mem_t); done)); (· (rfl)); (· (rfl)); (· (rfl)))
    | ((with_reducible apply wo_storen H); (· ((with_reducible repeat' first | exact Pick.here _ _ _ | apply Pick.there); done)); (· ((first | rfl | assumption | exact cells_one (H.pz (by (with_reducible repeat' first | exact mem_h _ _ | apply mem_t); done))))); (· ((first | rfl | (simp (disch := assumption) only [onesA_cons', onesA_nil, cells_int, cells_bool, cells_str, cells_float, cells_np, cells_nil, cells_nf, cells_ptr, cells_slice, cells_fn, cells_agg, cells_lagg, litCells_cons, litCells_nil, one_t, one_int, one_bool, one_str, one_nil, one_np, one_ptr, one_slice, GT.one_val, Bool.and_true, Bool.and_self, id_eq]; done)))); (· (rfl)); (· ((first | exact Nat.le_of_ble_eq_true rfl | omega | (simp only [List.length_set, List.length_replicate, List.length_map, List.length_cons, List.length_nil]; omega) | (simp; done) | (simp; omega)))); clear H; intro h H)
    | ((with_reducible apply wo_build); (· (exact ty27)); (· (rfl)); (· ((first | rfl | (simp only [fillA_nil, fillA_cons, repl_z, repl_s, cells_int, cells_bool, cells_str, cells_float, cells_np, cells_nil, cells_nf, cells_ptr, cells_slice, cells_fn, cells_agg, cells_lagg, v0, v1, v2, v3, v6, v7, v8, v9, v10, v16, GT.cells_val]; rfl)))))
    | ((first | with_reducible apply wv_ret | with_reducible apply wv_end); (· ((repeat' (first | with_reducible exact rs_nil | ((with_reducible apply rs_tmp); (· (simp (disch := (first | assumption | omega)) only [Option.some.injEq, v7] <;> rfl))) | ((with_reducible apply rs_cell); (· (simp (disch := (first | assumption | omega)) only [Option.some.injEq, v6] <;> rfl)); (· (exact ty27)); (· (rfl)); (· (exact H.ld1 (by (with_reducible repeat' first | exact mem_h _ _ | apply mem_t); done) rfl))) | ((with_reducible apply rs_celln); (· (simp (disch := (first | assumption | omega)) only [Option.some.injEq, v6] <;> rfl)); (· (exact ty27)); (· (rfl)); (· (exact H.ldn (by (with_reducible repeat' first | exact mem_h _ _ | apply mem_t); done) rfl rfl))))); done)))
    | simp (disch := (first | assumption | omega)) only [ti27, List.take_succ_cons, List.take_zero, List.drop_zero])

  all_goals (first | exact rr_nil rfl H.toExt rfl | trace_state)
set_option maxHeartbeats 4000000 in
theorem c32 {n : Nat} (hn : 70 ≤ n) {b : Hp} {g : GT} (pg : g.ok b) (gd : GT.Good g.lst) (bl : g.bal) {j q z : Nat} (hj : j + q ≤ g.cnt) (hz : z ≤ g.cnt - q) : Wv (runA ctx 5000 n 32 [.agg [g.val], I (j : Int), I (q : Int), I (z : Int)] b) (fun r h' => RR b h' r g.names 0 (movL g.lst j q z)) := by
  obtain ⟨k, rfl⟩ : ∃ k, n = k + 1 := ⟨n - 1, by omega⟩
  have hjq : (j : Int) + (q : Int) = ((j + q : Nat) : Int) := by omega
  have gm := good_mov gd j q z
  have hrl := rem_len (l := g.lst) (j := j) (q := q) (by rw [GT.len]; exact hj)
  have s1 := gd.sm
  have hh := GT.bal_hgt bl s1.2.2
  have hlen := GT.len g
  have H := (Hs.start b).z0 (z := tre g) pg
  refine wv_run fn32 rfl ?_
  have a0 : (enterEnv [.agg [g.val], I (j : Int), I (q : Int), I (z : Int)] Try.f32.ntmps).get 0 = some (.agg [g.val]) := enter_get1 _ _ _
  have a1 : (enterEnv [.agg [g.val], I (j : Int), I (q : Int), I (z : Int)] Try.f32.ntmps).get 1 = some (I (j : Int)) := enter_get2 _ _ _ _
  have a2 : (enterEnv [.agg [g.val], I (j : Int), I (q : Int), I (z : Int)] Try.f32.ntmps).get 2 = some (I (q : Int)) := enter_get3 _ _ _ _ _
  have a3 : (enterEnv [.agg [g.val], I (j : Int), I (q : Int), I (z : Int)] Try.f32.ntmps).get 3 = some (I (z : Int)) := enter_get4 _ _ _ _ _ _
  generalize enterEnv [.agg [g.val], I (j : Int), I (q : Int), I (z : Int)] Try.f32.ntmps = e at a0 a1 a2 a3 ⊢
  unfold Try.f32
  dsimp only
  ((with_reducible apply wc_c (fun i => Nat.beq i 0 || Nat.beq i 1 || Nat.beq i 2 || Nat.beq i 3 || Nat.beq i 4 || Nat.beq i 8 || Nat.beq i 9 || Nat.beq i 10 || Nat.beq i 11 || Nat.beq i 12 || Nat.beq i 13 || Nat.beq i 30)); intro e he; have w9 := he 0 rfl; (try simp only [a0] at w9); have v0 := w9; clear w9; have w9 := he 1 rfl; (try simp only [a1] at w9); have v1 := w9; clear w9; have w9 := he 2 rfl; (try simp only [a2] at w9); have v2 := w9; clear w9; have w9 := he 3 rfl; (try simp only [a3] at w9); have v3 := w9; clear w9; have w9 := he 4 rfl; (try simp only [T.get_put, Nat.reduceEqDiff, reduceIte] at w9); have v4 := w9; clear w9; have w9 := he 8 rfl; (try simp only [T.get_put, Nat.reduceEqDiff, reduceIte] at w9); have v8 := w9; clear w9; have w9 := he 9 rfl; (try simp only [T.get_put, Nat.reduceEqDiff, reduceIte] at w9); have v9 := w9; clear w9; have w9 := he 10 rfl; (try simp only [T.get_put, Nat.reduceEqDiff, reduceIte] at w9); have v10 := w9; clear w9; have w9 := he 11 rfl; (try simp only [T.get_put, Nat.reduceEqDiff, reduceIte] at w9); have v11 := w9; clear w9; have w9 := he 12 rfl; (try simp only [T.get_put, Nat.reduceEqDiff, reduceIte] at w9); have v12 := w9; clear w9; have w9 := he 13 rfl; (try simp only [T.get_put, Nat.reduceEqDiff, reduceIte] at w9); have v13 := w9; clear w9; have w9 := he 30 rfl; (try simp only [T.get_put, Nat.reduceEqDiff, reduceIte] at w9); have v30 := w9; clear w9; clear he)
  repeat' (first
    | with_reducible apply wc_seq
    | ((with_reducible apply wc_region); (· (rfl)))
    | with_reducible apply wo_some
    | ((with_reducible apply wc_cond); (· (simp (disch := (first | assumption | omega)) only [ev, Option.some.injEq, v30] <;> rfl)); all_goals (intro hg; (try (try simp only [Bool.not_eq_true'] at hg)); first | (exfalso; exact Bool.noConfusion hg) | (exfalso; exact hg) | skip))
    | with_reducible apply wc_skip
    | with_reducible apply wc_ret
    | (simp only [patch, List.take_zero, List.drop_succ_cons, List.drop_nil, List.nil_append, List.append_nil, List.length_cons, List.length_nil, Nat.zero_add, cells_agg, cells_lagg, litCells_cons, litCells_nil] at H)
    | ((with_reducible apply nx_c (fun i => Nat.beq i 0 || Nat.beq i 1 || Nat.beq i 2 || Nat.beq i 3 || Nat.beq i 4 || Nat.beq i 8 || Nat.beq i 9 || Nat.beq i 10 || Nat.beq i 11 || Nat.beq i 12 || Nat.beq i 13 || Nat.beq i 30)); intro e he; have w0 := he 0 rfl; have w1 := he 1 rfl; have w2 := he 2 rfl; have w3 := he 3 rfl; have w4 := he 4 rfl; have w8 := he 8 rfl; have w9 := he 9 rfl; have w10 := he 10 rfl; have w11 := he 11 rfl; have w12 := he 12 rfl; have w13 := he 13 rfl; have w30 := he 30 rfl; (try simp only [T.get_put, Nat.reduceEqDiff, reduceIte, v0, v1, v2, v3, v4, v8, v9, v10, v11, v12, v13, v30] at w0 w1 w2 w3 w4 w8 w9 w10 w11 w12 w13 w30); clear he v0 v1 v2 v3 v4 v8 v9 v10 v11 v12 v13 v30; have v0 := w0; have v1 := w1; have v2 := w2; have v3 := w3; have v4 := w4; have v8 := w8; have v9 := w9; have v10 := w10; have v11 := w11; have v12 := w12; have v13 := w13; have v30 := w30; clear w0 w1 w2 w3 w4 w8 w9 w10 w11 w12 w13 w30)
    | ((with_reducible apply wo_eq); (· (simp (disch := (first | assumption | omega)) only [oUn_not, beq_self_eq_true, eq_self, opsA_cons, opsA_nil, wantedA, guardA, yieldA, stepA_t, callA, calleeA, targetA, runOp_c, runOp_n, opA, ev, evs, consO, consOO, pickA, afterA_s, putA, T.get_put, Nat.reduceEqDiff, reduceIte, List.getElem?_toArray, List.getElem?_cons_zero, List.getElem?_cons_succ, oBin, binA, binG, binL, aggO, litA, cond_true, Bool.not_true, blt_eq, I, Bo, oExtract, fieldAddrA, oFieldAddr, Nat.add_zero, Nat.reduceLT, ty25, ti25, ty27, ti27, ii_add, ii_sub, ii_lss, ii_gtr, List.getElem_toArray, List.getElem_cons_zero, withH_s, oBuild, evParts, consP, dec_t, dec_f, wrap_ok, id_eq, List.take_succ_cons, List.take_zero, List.drop_zero, putAt_z, over_nil, over_cons, litCells_cons, litCells_nil, cells_lagg, Nat.add_zero, v0, v1, v2, v3, v4, v8, v10, v11, v12, v13, hjq]; exact rfl)))
    | (((with_reducible apply wo_call); (· ((with_reducible apply c50); (· (omega)); (· (exact H.tok (by (with_reducible repeat' first | exact mem_h _ _ | apply mem_t); done))); (· (exact gd)); (· (exact hj)))); rintro _ h ⟨rfl, x1⟩; replace H := H.ext x1; clear x1))
    | (((with_reducible apply wo_call); (· ((with_reducible apply c36); (· (omega)); (· (exact H.tok (by (with_reducible repeat' first | exact mem_h _ _ | apply mem_t); done))))); rintro _ h ⟨rfl, x1⟩; replace H := H.ext x1; clear x1))
    | (((fail_if_success have := g1); (with_reducible apply wo_call); (· ((with_reducible apply (c47 16 k _ g (j + q))); (· (exact hh)); (· (omega)); (· (exact H.tok (by (with_reducible repeat' first | exact mem_h _ _ | apply mem_t); done))); (· (exact gd)); (· (exact bl)); (· (exact hj)))); rintro _ h ⟨g1, g2, rfl, pg1, pg2, xg1, ng1, ng2, e1, e2, c1, c2⟩; have fc := H.fr.c; have H1 := H.tnew xg1 pg1 ng1 (src1t (by (with_reducible repeat' first | exact mem_h _ _ | apply mem_t); done)); have H2 := H.tnew xg1 pg2 ng2 (src1t (by (with_reducible repeat' first | exact mem_h _ _ | apply mem_t); done)); replace ng1 := fun n hn => (ng1 n hn).imp id (Nat.le_trans fc); replace ng2 := fun n hn => (ng2 n hn).imp id (Nat.le_trans fc); replace H := H1.z1 (z := tre g2) pg2 (H2.std _ (.head _)).2; clear H1 H2 xg1 fc; have d1 : GT.Good g1.lst := (by rw [e1]; exact good_take gd _); have l1 := GT.len g1; rw [e1, List.length_take] at l1; have hh1 := GT.bal_hgt c1 d1.sm.2.2))
    | (((fail_if_success have := g3); (have := g1); (with_reducible apply wo_call); (· ((with_reducible apply (c47 16 k _ g1 j)); (· (exact hh1)); (· (omega)); (· (exact H.tok (by (with_reducible repeat' first | exact mem_h _ _ | apply mem_t); done))); (· (exact d1)); (· (exact c1)); (· (omega)))); rintro _ h ⟨g3, g4, rfl, pg3, pg4, xg3, ng3, ng4, e3, e4, c3, c4⟩; have fc := H.fr.c; have H1 := H.tnew xg3 pg3 ng3 (src1t (by (with_reducible repeat' first | exact mem_h _ _ | apply mem_t); done)); have H2 := H.tnew xg3 pg4 ng4 (src1t (by (with_reducible repeat' first | exact mem_h _ _ | apply mem_t); done)); replace ng3 := fun n hn => (ng3 n hn).imp id (Nat.le_trans fc); replace ng4 := fun n hn => (ng4 n hn).imp id (Nat.le_trans fc); replace H := H1.z1 (z := tre g4) pg4 (H2.std _ (.head _)).2; clear H1 H2 xg3 fc; rw [e1, take_take'] at e3; rw [e1, mid_eq] at e4))
    | (((fail_if_success have := g5); (have := g3); (with_reducible apply wo_call); (· ((with_reducible apply c49); (· (omega)); (· (exact H.tok (by (with_reducible repeat' first | exact mem_h _ _ | apply mem_t); done))); (· (exact H.tok (by (with_reducible repeat' first | exact mem_h _ _ | apply mem_t); done))); (· ((rw [e3, e2]; exact good_rem gd j q))); (· (exact c3)); (· (exact c2)))); rintro _ h ⟨g5, rfl, pg5, xg5, ng5, e5, c5⟩; have fc := H.fr.c; replace H := H.tnew xg5 pg5 ng5 (src2t (by (with_reducible repeat' first | exact mem_h _ _ | apply mem_t); done) (by (with_reducible repeat' first | exact mem_h _ _ | apply mem_t); done)); replace ng5 := fun n hn => (ng5 n hn).imp id (Nat.le_trans fc); clear xg5 fc; rw [e3, e2] at e5; have e5 : g5.lst = remL g.lst j q := e5; have d5 : GT.Good g5.lst := (by rw [e5]; exact good_rem gd j q); have l5 := GT.len g5; rw [e5, hrl] at l5; have hh5 := GT.bal_hgt c5 d5.sm.2.2))
    | (((fail_if_success have := g6); (have := g5); (with_reducible apply wo_call); (· ((with_reducible apply (c47 16 k _ g5 z)); (· (exact hh5)); (· (omega)); (· (exact H.tok (by (with_reducible repeat' first | exact mem_h _ _ | apply mem_t); done))); (· (exact d5)); (· (exact c5)); (· (omega)))); rintro _ h ⟨g6, g7, rfl, pg6, pg7, xg6, ng6, ng7, e6, e7, c6, c7⟩; have fc := H.fr.c; have H1 := H.tnew xg6 pg6 ng6 (src1t (by (with_reducible repeat' first | exact mem_h _ _ | apply mem_t); done)); have H2 := H.tnew xg6 pg7 ng7 (src1t (by (with_reducible repeat' first | exact mem_h _ _ | apply mem_t); done)); replace ng6 := fun n hn => (ng6 n hn).imp id (Nat.le_trans fc); replace ng7 := fun n hn => (ng7 n hn).imp id (Nat.le_trans fc); replace H := H1.z1 (z := tre g7) pg7 (H2.std _ (.head _)).2; clear H1 H2 xg6 fc; rw [e5] at e6 e7))
    | (((fail_if_success have := g8); (have := g6); (with_reducible apply wo_call); (· ((with_reducible apply c49); (· (omega)); (· (exact H.tok (by (with_reducible repeat' first | exact mem_h _ _ | apply mem_t); done))); (· (exact H.tok (by (with_reducible repeat' first | exact mem_h _ _ | apply mem_t); done))); (· ((rw [e6, e4]; exact gm.left))); (· (exact c6)); (· (exact c4)))); rintro _ h ⟨g8, rfl, pg8, xg8, ng8, e8, c8⟩; have fc := H.fr.c; replace H := H.tnew xg8 pg8 ng8 (src2t (by (with_reducible repeat' first | exact mem_h _ _ | apply mem_t); done) (by (with_reducible repeat' first | exact mem_h _ _ | apply mem_t); done)); replace ng8 := fun n hn => (ng8 n hn).imp id (Nat.le_trans fc); clear xg8 fc; rw [e6, e4] at e8))
    | (((fail_if_success have := g9); (have := g8); (with_reducible apply wo_call); (· ((with_reducible apply c49); (· (omega)); (· (exact H.tok (by (with_reducible repeat' first | exact mem_h _ _ | apply mem_t); done))); (· (exact H.tok (by (with_reducible repeat' first | exact mem_h _ _ | apply mem_t); done))); (· ((rw [e8, e7]; exact gm))); (· (exact c8)); (· (exact c7)))); rintro _ h ⟨g9, rfl, pg9, xg9, ng9, e9, c9⟩; have fc := H.fr.c; replace H := H.tnew xg9 pg9 ng9 (src2t (by (with_reducible repeat' first | exact mem_h _ _ | apply mem_t); done) (by (with_reducible repeat' first | exact mem_h _ _ | apply mem_t); done)); replace ng9 := fun n hn => (ng9 n hn).imp id (Nat.le_trans fc); clear xg9 fc))
    | ((with_reducible apply wo_box H); clear H; intro n h H0n H)
    | ((with_reducible apply wo_alloc H); (· (rfl)); clear H; intro n h H0n H)
    | ((with_reducible apply wo_load1 H); (· ((with_reducible repeat' first | exact mem_h _ _ | apply mem_t); done)); (· (rfl)); (· ((first | rfl | assumption))))
    | ((with_reducible apply wo_loadn H); (· ((with_reducible repeat' first | exact mem_h _ _ | apply mem_t); done)); (· (rfl)); (· (rfl)); (· (rfl)))
    | ((with_reducible apply wo_storen H); (· ((with_reducible repeat' first | exact Pick.here _ _ _ | apply Pick.there); done)); (· ((first | rfl | assumption | exact cells_one (H.pz (by (with_reducible repeat' first | exact mem_h _ _ | apply mem_t); done))))); (· ((first | rfl | (simp (disch := assumption) only [onesA_cons', onesA_nil, cells_agg, GT.one_val, Bool.and_self]; done)))); (· (rfl)); (· ((first | exact Nat.le_of_ble_eq_true rfl | omega | (simp only [List.length_set, List.length_replicate, List.length_map, List.length_cons, List.length_nil]; omega) | (simp; done) | (simp; omega)))); clear H; intro h H)
    | ((with_reducible apply wo_build); (· (exact ty27)); (· (rfl)); (· ((first | rfl | (simp only [fillA_nil, fillA_cons, GT.cells_val]; rfl)))))
    | ((first | with_reducible apply wv_ret | with_reducible apply wv_end); (· ((repeat' (first | with_reducible exact rs_nil | ((with_reducible apply rs_tmp); (· (simp (disch := (first | assumption | omega)) only [Option.some.injEq, v9] <;> rfl))) | ((with_reducible apply rs_cell); (· (simp (disch := (first | assumption | omega)) only [Option.some.injEq, v8] <;> rfl)); (· (exact ty27)); (· (rfl)); (· (exact H.ld1 (by (with_reducible repeat' first | exact mem_h _ _ | apply mem_t); done) rfl))) | ((with_reducible apply rs_celln); (· (simp (disch := (first | assumption | omega)) only [Option.some.injEq, v8] <;> rfl)); (· (exact ty27)); (· (rfl)); (· (exact H.ldn (by (with_reducible repeat' first | exact mem_h _ _ | apply mem_t); done) rfl rfl))))); done)))
    | simp (disch := (first | assumption | omega)) only [ti27, List.take_succ_cons, List.take_zero, List.drop_zero])

  all_goals (first | first | (exfalso; omega) | exact ⟨g9, rfl, H.tok (by (with_reducible repeat' first | exact mem_h _ _ | apply mem_t); done), H.toExt, by (intro n hn; simp only [List.mem_append] at *; grind), by rw [e9, e8, e7]; rfl, c9⟩ | trace_state)
set_option maxHeartbeats 4000000 in
theorem c32e {n : Nat} (hn : 70 ≤ n) {b : Hp} {g : GT} (pg : g.ok b) (gd : GT.Good g.lst) (bl : g.bal) {i q z : Int} (hj : ¬ (0 ≤ i ∧ 0 ≤ q ∧ i ≤ (g.cnt : Int) ∧ q ≤ (g.cnt : Int) - i)) : Wv (runA ctx 5000 n 32 [.agg [g.val], I i, I q, I z] b) (fun r h' => RR b h' r g.names 4 []) := by
  obtain ⟨k, rfl⟩ : ∃ k, n = k + 1 := ⟨n - 1, by omega⟩
  have s1 := gd.sm
  have hh := GT.bal_hgt bl s1.2.2
  have hlen := GT.len g
  have H := (Hs.start b).z0 (z := tre g) pg
  refine wv_run fn32 rfl ?_
  have a0 : (enterEnv [.agg [g.val], I i, I q, I z] Try.f32.ntmps).get 0 = some (.agg [g.val]) := enter_get1 _ _ _
  have a1 : (enterEnv [.agg [g.val], I i, I q, I z] Try.f32.ntmps).get 1 = some (I i) := enter_get2 _ _ _ _
  have a2 : (enterEnv [.agg [g.val], I i, I q, I z] Try.f32.ntmps).get 2 = some (I q) := enter_get3 _ _ _ _ _
  have a3 : (enterEnv [.agg [g.val], I i, I q, I z] Try.f32.ntmps).get 3 = some (I z) := enter_get4 _ _ _ _ _ _
  generalize enterEnv [.agg [g.val], I i, I q, I z] Try.f32.ntmps = e at a0 a1 a2 a3 ⊢
  unfold Try.f32
  dsimp only
  ((with_reducible apply wc_c (fun i => Nat.beq i 0 || Nat.beq i 1 || Nat.beq i 2 || Nat.beq i 3 || Nat.beq i 4 || Nat.beq i 8 || Nat.beq i 9 || Nat.beq i 10 || Nat.beq i 11 || Nat.beq i 12 || Nat.beq i 13 || Nat.beq i 30)); intro e he; have w9 := he 0 rfl; (try simp only [a0] at w9); have v0 := w9; clear w9; have w9 := he 1 rfl; (try simp only [a1] at w9); have v1 := w9; clear w9; have w9 := he 2 rfl; (try simp only [a2] at w9); have v2 := w9; clear w9; have w9 := he 3 rfl; (try simp only [a3] at w9); have v3 := w9; clear w9; have w9 := he 4 rfl; (try simp only [T.get_put, Nat.reduceEqDiff, reduceIte] at w9); have v4 := w9; clear w9; have w9 := he 8 rfl; (try simp only [T.get_put, Nat.reduceEqDiff, reduceIte] at w9); have v8 := w9; clear w9; have w9 := he 9 rfl; (try simp only [T.get_put, Nat.reduceEqDiff, reduceIte] at w9); have v9 := w9; clear w9; have w9 := he 10 rfl; (try simp only [T.get_put, Nat.reduceEqDiff, reduceIte] at w9); have v10 := w9; clear w9; have w9 := he 11 rfl; (try simp only [T.get_put, Nat.reduceEqDiff, reduceIte] at w9); have v11 := w9; clear w9; have w9 := he 12 rfl; (try simp only [T.get_put, Nat.reduceEqDiff, reduceIte] at w9); have v12 := w9; clear w9; have w9 := he 13 rfl; (try simp only [T.get_put, Nat.reduceEqDiff, reduceIte] at w9); have v13 := w9; clear w9; have w9 := he 30 rfl; (try simp only [T.get_put, Nat.reduceEqDiff, reduceIte] at w9); have v30 := w9; clear w9; clear he)
  repeat' (first
    | with_reducible apply wc_seq
    | ((with_reducible apply wc_region); (· (rfl)))
    | with_reducible apply wo_some
    | ((with_reducible apply wc_cond); (· (simp (disch := (first | assumption | omega)) only [ev, Option.some.injEq, v30] <;> rfl)); all_goals (intro hg; (try (try simp only [Bool.not_eq_true'] at hg)); first | (exfalso; exact Bool.noConfusion hg) | (exfalso; exact hg) | skip))
    | with_reducible apply wc_ret
    | with_reducible apply nx_r
    | (simp only [patch, List.take_zero, List.drop_succ_cons, List.drop_nil, List.nil_append, List.append_nil, List.length_cons, List.length_nil, Nat.zero_add, cells_agg, cells_lagg, litCells_cons, litCells_nil] at H)
    | ((with_reducible apply nx_c (fun i => Nat.beq i 0 || Nat.beq i 1 || Nat.beq i 2 || Nat.beq i 3 || Nat.beq i 4 || Nat.beq i 8 || Nat.beq i 9 || Nat.beq i 10 || Nat.beq i 11 || Nat.beq i 12 || Nat.beq i 13 || Nat.beq i 30)); intro e he; have w0 := he 0 rfl; have w1 := he 1 rfl; have w2 := he 2 rfl; have w3 := he 3 rfl; have w4 := he 4 rfl; have w8 := he 8 rfl; have w9 := he 9 rfl; have w10 := he 10 rfl; have w11 := he 11 rfl; have w12 := he 12 rfl; have w13 := he 13 rfl; have w30 := he 30 rfl; (try simp only [T.get_put, Nat.reduceEqDiff, reduceIte, v0, v1, v2, v3, v4, v8, v9, v10, v11, v12, v13, v30] at w0 w1 w2 w3 w4 w8 w9 w10 w11 w12 w13 w30); clear he v0 v1 v2 v3 v4 v8 v9 v10 v11 v12 v13 v30; have v0 := w0; have v1 := w1; have v2 := w2; have v3 := w3; have v4 := w4; have v8 := w8; have v9 := w9; have v10 := w10; have v11 := w11; have v12 := w12; have v13 := w13; have v30 := w30; clear w0 w1 w2 w3 w4 w8 w9 w10 w11 w12 w13 w30)
    | ((with_reducible apply wo_eq); (· (simp (disch := (first | assumption | omega)) only [oUn_not, eq_self, opsA_cons, opsA_nil, wantedA, guardA, yieldA, stepA_t, stepA_f, callA, calleeA, targetA, runOp_c, runOp_n, opA, ev, evs, consO, consOO, pickA, afterA_s, putA, T.get_put, Nat.reduceEqDiff, reduceIte, List.getElem?_cons_zero, List.getElem?_cons_succ, Bool.not_false, tf_beq, I, Bo, ty27, ti27, withH_s, oBuild, evParts, List.take_succ_cons, List.take_zero, List.drop_zero, litCells_cons, litCells_nil, cells_lagg, v0, v1, v2, v4, v8]; exact rfl)))
    | (((with_reducible apply wo_call); (· ((with_reducible apply c50e); (· (omega)); (· (exact H.tok (by (with_reducible repeat' first | exact mem_h _ _ | apply mem_t); done))); (· (exact gd)); (· (exact hj)))); rintro _ h ⟨rfl, x1⟩; replace H := H.ext x1; clear x1))
    | ((with_reducible apply wo_box H); clear H; intro n h H0n H)
    | ((with_reducible apply wo_alloc H); (· (rfl)); clear H; intro n h H0n H)
    | ((with_reducible apply wo_loadn H); (· ((with_reducible repeat' first | exact mem_h _ _ | apply mem_t); done)); (· (rfl)); (· (rfl)); (· (rfl)))
    | ((with_reducible apply wo_storen H); (· ((with_reducible repeat' first | exact Pick.here _ _ _ | apply Pick.there); done)); (· ((first | rfl | assumption | exact cells_one (H.pz (by (with_reducible repeat' first | exact mem_h _ _ | apply mem_t); done))))); (· ((first | rfl | (simp (disch := assumption) only [onesA_cons', onesA_nil, cells_int, cells_bool, cells_str, cells_float, cells_np, cells_nil, cells_nf, cells_ptr, cells_slice, cells_fn, cells_agg, cells_lagg, litCells_cons, litCells_nil, one_t, one_int, one_bool, one_str, one_nil, one_np, one_ptr, one_slice, GT.one_val, Bool.and_true, Bool.and_self, id_eq]; done)))); (· (rfl)); (· ((first | exact Nat.le_of_ble_eq_true rfl | omega | (simp only [List.length_set, List.length_replicate, List.length_map, List.length_cons, List.length_nil]; omega) | (simp; done) | (simp; omega)))); clear H; intro h H)
    | ((with_reducible apply wo_build); (· (exact ty27)); (· (rfl)); (· ((first | rfl | (simp only [fillA_nil, fillA_cons, repl_z, repl_s, cells_int, cells_bool, cells_str, cells_float, cells_np, cells_nil, cells_nf, cells_ptr, cells_slice, cells_fn, cells_agg, cells_lagg, v0, v1, v2, v3, v4, v8, v9, v10, v11, v12, v13, v30, GT.cells_val]; rfl)))))
    | ((first | with_reducible apply wv_ret | with_reducible apply wv_end); (· ((repeat' (first | with_reducible exact rs_nil | ((with_reducible apply rs_tmp); (· (simp (disch := (first | assumption | omega)) only [Option.some.injEq, v9] <;> rfl))) | ((with_reducible apply rs_cell); (· (simp (disch := (first | assumption | omega)) only [Option.some.injEq, v8] <;> rfl)); (· (exact ty27)); (· (rfl)); (· (exact H.ld1 (by (with_reducible repeat' first | exact mem_h _ _ | apply mem_t); done) rfl))) | ((with_reducible apply rs_celln); (· (simp (disch := (first | assumption | omega)) only [Option.some.injEq, v8] <;> rfl)); (· (exact ty27)); (· (rfl)); (· (exact H.ldn (by (with_reducible repeat' first | exact mem_h _ _ | apply mem_t); done) rfl rfl))))); done)))
    | simp (disch := (first | assumption | omega)) only [ti27, List.take_succ_cons, List.take_zero, List.drop_zero])

  all_goals (first | exact rr_nil rfl H.toExt rfl | trace_state)
set_option maxHeartbeats 4000000 in
theorem c32f {n : Nat} (hn : 70 ≤ n) {b : Hp} {g : GT} (pg : g.ok b) (gd : GT.Good g.lst) (bl : g.bal) {j q : Nat} {z : Int} (hj : j + q ≤ g.cnt) (hz : z < 0 ∨ (g.cnt : Int) - (q : Int) < z) : Wv (runA ctx 5000 n 32 [.agg [g.val], I (j : Int), I (q : Int), I z] b) (fun r h' => RR b h' r g.names 4 []) := by
  obtain ⟨k, rfl⟩ : ∃ k, n = k + 1 := ⟨n - 1, by omega⟩
  have s1 := gd.sm
  have hh := GT.bal_hgt bl s1.2.2
  have hlen := GT.len g
  have H := (Hs.start b).z0 (z := tre g) pg
  refine wv_run fn32 rfl ?_
  have a0 : (enterEnv [.agg [g.val], I (j : Int), I (q : Int), I z] Try.f32.ntmps).get 0 = some (.agg [g.val]) := enter_get1 _ _ _
  have a1 : (enterEnv [.agg [g.val], I (j : Int), I (q : Int), I z] Try.f32.ntmps).get 1 = some (I (j : Int)) := enter_get2 _ _ _ _
  have a2 : (enterEnv [.agg [g.val], I (j : Int), I (q : Int), I z] Try.f32.ntmps).get 2 = some (I (q : Int)) := enter_get3 _ _ _ _ _
  have a3 : (enterEnv [.agg [g.val], I (j : Int), I (q : Int), I z] Try.f32.ntmps).get 3 = some (I z) := enter_get4 _ _ _ _ _ _
  generalize enterEnv [.agg [g.val], I (j : Int), I (q : Int), I z] Try.f32.ntmps = e at a0 a1 a2 a3 ⊢
  unfold Try.f32
  dsimp only
  ((with_reducible apply wc_c (fun i => Nat.beq i 0 || Nat.beq i 1 || Nat.beq i 2 || Nat.beq i 3 || Nat.beq i 4 || Nat.beq i 8 || Nat.beq i 9 || Nat.beq i 10 || Nat.beq i 11 || Nat.beq i 12 || Nat.beq i 13 || Nat.beq i 30)); intro e he; have w9 := he 0 rfl; (try simp only [a0] at w9); have v0 := w9; clear w9; have w9 := he 1 rfl; (try simp only [a1] at w9); have v1 := w9; clear w9; have w9 := he 2 rfl; (try simp only [a2] at w9); have v2 := w9; clear w9; have w9 := he 3 rfl; (try simp only [a3] at w9); have v3 := w9; clear w9; have w9 := he 4 rfl; (try simp only [T.get_put, Nat.reduceEqDiff, reduceIte] at w9); have v4 := w9; clear w9; have w9 := he 8 rfl; (try simp only [T.get_put, Nat.reduceEqDiff, reduceIte] at w9); have v8 := w9; clear w9; have w9 := he 9 rfl; (try simp only [T.get_put, Nat.reduceEqDiff, reduceIte] at w9); have v9 := w9; clear w9; have w9 := he 10 rfl; (try simp only [T.get_put, Nat.reduceEqDiff, reduceIte] at w9); have v10 := w9; clear w9; have w9 := he 11 rfl; (try simp only [T.get_put, Nat.reduceEqDiff, reduceIte] at w9); have v11 := w9; clear w9; have w9 := he 12 rfl; (try simp only [T.get_put, Nat.reduceEqDiff, reduceIte] at w9); have v12 := w9; clear w9; have w9 := he 13 rfl; (try simp only [T.get_put, Nat.reduceEqDiff, reduceIte] at w9); have v13 := w9; clear w9; have w9 := he 30 rfl; (try simp only [T.get_put, Nat.reduceEqDiff, reduceIte] at w9); have v30 := w9; clear w9; clear he)
  repeat' (first
    | with_reducible apply wc_seq
    | ((with_reducible apply wc_region); (· (rfl)))
    | with_reducible apply wo_some
    | ((with_reducible apply wc_cond); (· (simp (disch := (first | assumption | omega)) only [ev, Option.some.injEq, v30] <;> rfl)); all_goals (intro hg; (try (try simp only [Bool.not_eq_true'] at hg)); first | (exfalso; exact Bool.noConfusion hg) | (exfalso; exact hg) | skip))
    | with_reducible apply wc_ret
    | with_reducible apply nx_r
    | (simp only [patch, List.take_zero, List.drop_succ_cons, List.drop_nil, List.nil_append, List.append_nil, List.length_cons, List.length_nil, Nat.zero_add, cells_agg, cells_lagg, litCells_cons, litCells_nil] at H)
    | ((with_reducible apply nx_c (fun i => Nat.beq i 0 || Nat.beq i 1 || Nat.beq i 2 || Nat.beq i 3 || Nat.beq i 4 || Nat.beq i 8 || Nat.beq i 9 || Nat.beq i 10 || Nat.beq i 11 || Nat.beq i 12 || Nat.beq i 13 || Nat.beq i 30)); intro e he; have w0 := he 0 rfl; have w1 := he 1 rfl; have w2 := he 2 rfl; have w3 := he 3 rfl; have w4 := he 4 rfl; have w8 := he 8 rfl; have w9 := he 9 rfl; have w10 := he 10 rfl; have w11 := he 11 rfl; have w12 := he 12 rfl; have w13 := he 13 rfl; have w30 := he 30 rfl; (try simp only [T.get_put, Nat.reduceEqDiff, reduceIte, v0, v1, v2, v3, v4, v8, v9, v10, v11, v12, v13, v30] at w0 w1 w2 w3 w4 w8 w9 w10 w11 w12 w13 w30); clear he v0 v1 v2 v3 v4 v8 v9 v10 v11 v12 v13 v30; have v0 := w0; have v1 := w1; have v2 := w2; have v3 := w3; have v4 := w4; have v8 := w8; have v9 := w9; have v10 := w10; have v11 := w11; have v12 := w12; have v13 := w13; have v30 := w30; clear w0 w1 w2 w3 w4 w8 w9 w10 w11 w12 w13 w30)
    | ((with_reducible apply wo_eq); (· (simp (disch := (first | assumption | omega)) only [oUn_not, beq_self_eq_true, eq_self, opsA_cons, opsA_nil, wantedA, guardA, yieldA, stepA_t, stepA_f, callA, calleeA, targetA, runOp_c, runOp_n, opA, ev, evs, consO, consOO, pickA, afterA_s, putA, T.get_put, Nat.reduceEqDiff, reduceIte, List.getElem?_cons_zero, List.getElem?_cons_succ, oBin, binA, binG, binL, aggO, litA, Bool.not_true, tf_beq, I, Bo, ty27, ti27, ii_sub, ii_lss, ii_gtr, withH_s, oBuild, evParts, dec_t, dec_f, wrap_ok, List.take_succ_cons, List.take_zero, List.drop_zero, litCells_cons, litCells_nil, cells_lagg, v0, v1, v2, v3, v4, v8]; exact rfl)))
    | (((with_reducible apply wo_call); (· ((with_reducible apply c50); (· (omega)); (· (exact H.tok (by (with_reducible repeat' first | exact mem_h _ _ | apply mem_t); done))); (· (exact gd)); (· (exact hj)))); rintro _ h ⟨rfl, x1⟩; replace H := H.ext x1; clear x1))
    | (((with_reducible apply wo_call); (· ((with_reducible apply c36); (· (omega)); (· (exact H.tok (by (with_reducible repeat' first | exact mem_h _ _ | apply mem_t); done))))); rintro _ h ⟨rfl, x1⟩; replace H := H.ext x1; clear x1))
    | ((with_reducible apply wo_box H); clear H; intro n h H0n H)
    | ((with_reducible apply wo_alloc H); (· (rfl)); clear H; intro n h H0n H)
    | ((with_reducible apply wo_loadn H); (· ((with_reducible repeat' first | exact mem_h _ _ | apply mem_t); done)); (· (rfl)); (· (rfl)); (· (rfl)))
    | ((with_reducible apply wo_storen H); (· ((with_reducible repeat' first | exact Pick.here _ _ _ | apply Pick.there); done)); (· ((first | rfl | assumption | exact cells_one (H.pz (by (with_reducible repeat' first | exact mem_h _ _ | apply mem_t); done))))); (· ((first | rfl | (simp (disch := assumption) only [onesA_cons', onesA_nil, cells_int, cells_bool, cells_str, cells_float, cells_np, cells_nil, cells_nf, cells_ptr, cells_slice, cells_fn, cells_agg, cells_lagg, litCells_cons, litCells_nil, one_t, one_int, one_bool, one_str, one_nil, one_np, one_ptr, one_slice, GT.one_val, Bool.and_true, Bool.and_self, id_eq]; done)))); (· (rfl)); (· ((first | exact Nat.le_of_ble_eq_true rfl | omega | (simp only [List.length_set, List.length_replicate, List.length_map, List.length_cons, List.length_nil]; omega) | (simp; done) | (simp; omega)))); clear H; intro h H)
    | ((with_reducible apply wo_build); (· (exact ty27)); (· (rfl)); (· ((first | rfl | (simp only [fillA_nil, fillA_cons, repl_z, repl_s, cells_int, cells_bool, cells_str, cells_float, cells_np, cells_nil, cells_nf, cells_ptr, cells_slice, cells_fn, cells_agg, cells_lagg, v0, v1, v2, v3, v4, v8, v9, v10, v11, v12, v13, v30, GT.cells_val]; rfl)))))
    | ((with_reducible apply wo_step) <;> intro hg <;> (try simp only [beq_false, Bool.not_eq_eq_eq_not, Bool.not_true, Bool.not_false, decide_eq_true_eq, decide_eq_false_iff_not] at hg) <;> (try subst hg) <;> (first | (exfalso; exact Bool.noConfusion hg) | skip))
    | ((first | with_reducible apply wv_ret | with_reducible apply wv_end); (· ((repeat' (first | with_reducible exact rs_nil | ((with_reducible apply rs_tmp); (· (simp (disch := (first | assumption | omega)) only [Option.some.injEq, v9] <;> rfl))) | ((with_reducible apply rs_cell); (· (simp (disch := (first | assumption | omega)) only [Option.some.injEq, v8] <;> rfl)); (· (exact ty27)); (· (rfl)); (· (exact H.ld1 (by (with_reducible repeat' first | exact mem_h _ _ | apply mem_t); done) rfl))) | ((with_reducible apply rs_celln); (· (simp (disch := (first | assumption | omega)) only [Option.some.injEq, v8] <;> rfl)); (· (exact ty27)); (· (rfl)); (· (exact H.ldn (by (with_reducible repeat' first | exact mem_h _ _ | apply mem_t); done) rfl rfl))))); done)))
    | simp (disch := (first | assumption | omega)) only [ti27, List.take_succ_cons, List.take_zero, List.drop_zero])

  all_goals (first | first | exact rr_nil rfl H.toExt rfl | (exfalso; omega) | trace_state)


def insE (l xs : List Int) : Int := if chk xs = 0 then joinE l xs else chk xs
theorem insE_0 {l xs : List Int} (h : chk xs = 0) : insE l xs = joinE l xs := if_pos h
theorem insE_e {l xs : List Int} (h : ¬ chk xs = 0) : insE l xs = chk xs := if_neg h
theorem good_ins {l xs : List Int} (g : GT.Good l) (h1 : chk xs = 0) (h2 : joinE l xs = 0) (j : Nat) : GT.Good (insL l j xs) := good_perm (ins_perm l j xs) (good_join g ((chk_iff xs).1 h1).1 h2)
set_option maxHeartbeats 4000000 in
theorem c28 {n : Nat} (hn : 70 ≤ n) {b : Hp} {g : GT} (pg : g.ok b) (gd : GT.Good g.lst) (bl : g.bal) {j : Nat} {w : AV} {xs : List Int} {c : Bool} (hj : j ≤ g.cnt) (hv : Lc c b w (xs.map I)) (hx0 : xs.length ≤ 5000) : Wv (runA ctx 5000 n 28 [.agg [g.val], I (j : Int), w] b) (fun r h' => RR b h' r g.names (insE g.lst xs) (okL (insE g.lst xs) (insL g.lst j xs))) := by
  obtain ⟨k, rfl⟩ : ∃ k, n = k + 1 := ⟨n - 1, by omega⟩
  have s1 := gd.sm
  have hh := GT.bal_hgt bl s1.2.2
  have hlen := GT.len g
  have H := ((Hs.start b).z0 (z := tre g) pg).z0 (z := lc c w (xs.map I)) hv
  refine wv_run fn28 rfl ?_
  have a0 : (enterEnv [.agg [g.val], I (j : Int), w] Try.f28.ntmps).get 0 = some (.agg [g.val]) := enter_get1 _ _ _
  have a1 : (enterEnv [.agg [g.val], I (j : Int), w] Try.f28.ntmps).get 1 = some (I (j : Int)) := enter_get2 _ _ _ _
  have a2 : (enterEnv [.agg [g.val], I (j : Int), w] Try.f28.ntmps).get 2 = some (w) := enter_get3 _ _ _ _ _
  generalize enterEnv [.agg [g.val], I (j : Int), w] Try.f28.ntmps = e at a0 a1 a2 ⊢
  unfold Try.f28
  dsimp only
  ((with_reducible apply wc_c (fun i => Nat.beq i 0 || Nat.beq i 1 || Nat.beq i 2 || Nat.beq i 3 || Nat.beq i 6 || Nat.beq i 7 || Nat.beq i 8 || Nat.beq i 9 || Nat.beq i 10 || Nat.beq i 11 || Nat.beq i 12 || Nat.beq i 21 || Nat.beq i 30 || Nat.beq i 37)); intro e he; have w9 := he 0 rfl; (try simp only [a0] at w9); have v0 := w9; clear w9; have w9 := he 1 rfl; (try simp only [a1] at w9); have v1 := w9; clear w9; have w9 := he 2 rfl; (try simp only [a2] at w9); have v2 := w9; clear w9; have w9 := he 3 rfl; (try simp only [T.get_put, Nat.reduceEqDiff, reduceIte] at w9); have v3 := w9; clear w9; have w9 := he 6 rfl; (try simp only [T.get_put, Nat.reduceEqDiff, reduceIte] at w9); have v6 := w9; clear w9; have w9 := he 7 rfl; (try simp only [T.get_put, Nat.reduceEqDiff, reduceIte] at w9); have v7 := w9; clear w9; have w9 := he 8 rfl; (try simp only [T.get_put, Nat.reduceEqDiff, reduceIte] at w9); have v8 := w9; clear w9; have w9 := he 9 rfl; (try simp only [T.get_put, Nat.reduceEqDiff, reduceIte] at w9); have v9 := w9; clear w9; have w9 := he 10 rfl; (try simp only [T.get_put, Nat.reduceEqDiff, reduceIte] at w9); have v10 := w9; clear w9; have w9 := he 11 rfl; (try simp only [T.get_put, Nat.reduceEqDiff, reduceIte] at w9); have v11 := w9; clear w9; have w9 := he 12 rfl; (try simp only [T.get_put, Nat.reduceEqDiff, reduceIte] at w9); have v12 := w9; clear w9; have w9 := he 21 rfl; (try simp only [T.get_put, Nat.reduceEqDiff, reduceIte] at w9); have v21 := w9; clear w9; have w9 := he 30 rfl; (try simp only [T.get_put, Nat.reduceEqDiff, reduceIte] at w9); have v30 := w9; clear w9; have w9 := he 37 rfl; (try simp only [T.get_put, Nat.reduceEqDiff, reduceIte] at w9); have v37 := w9; clear w9; clear he)
  repeat' (first
    | with_reducible apply wc_seq
    | ((with_reducible apply wc_region); (· (rfl)))
    | with_reducible apply wo_some
    | ((with_reducible apply wc_cond); (· (simp (disch := (first | assumption | omega)) only [ev, Option.some.injEq, v21, v30, v37] <;> rfl)); all_goals (intro hg; (try (try simp only [Bool.not_eq_eq_eq_not, Bool.not_true, Bool.not_false, decide_eq_true_eq, decide_eq_false_iff_not] at hg)); first | (exfalso; exact Bool.noConfusion hg) | (exfalso; exact hg) | skip))
    | with_reducible apply wc_skip
    | with_reducible apply wc_ret
    | with_reducible apply nx_r
    | (simp only [patch, List.take_zero, List.drop_succ_cons, List.drop_nil, List.nil_append, List.append_nil, List.length_cons, List.length_nil, Nat.zero_add, cells_agg, cells_lagg, litCells_cons, litCells_nil] at H)
    | ((with_reducible apply nx_c (fun i => Nat.beq i 0 || Nat.beq i 1 || Nat.beq i 2 || Nat.beq i 3 || Nat.beq i 6 || Nat.beq i 7 || Nat.beq i 8 || Nat.beq i 9 || Nat.beq i 10 || Nat.beq i 11 || Nat.beq i 12 || Nat.beq i 21 || Nat.beq i 30 || Nat.beq i 37)); intro e he; have w0 := he 0 rfl; have w1 := he 1 rfl; have w2 := he 2 rfl; have w3 := he 3 rfl; have w6 := he 6 rfl; have w7 := he 7 rfl; have w8 := he 8 rfl; have w9 := he 9 rfl; have w10 := he 10 rfl; have w11 := he 11 rfl; have w12 := he 12 rfl; have w21 := he 21 rfl; have w30 := he 30 rfl; have w37 := he 37 rfl; (try simp only [T.get_put, Nat.reduceEqDiff, reduceIte, v0, v1, v2, v3, v6, v7, v8, v9, v10, v11, v12, v21, v30, v37] at w0 w1 w2 w3 w6 w7 w8 w9 w10 w11 w12 w21 w30 w37); clear he v0 v1 v2 v3 v6 v7 v8 v9 v10 v11 v12 v21 v30 v37; have v0 := w0; have v1 := w1; have v2 := w2; have v3 := w3; have v6 := w6; have v7 := w7; have v8 := w8; have v9 := w9; have v10 := w10; have v11 := w11; have v12 := w12; have v21 := w21; have v30 := w30; have v37 := w37; clear w0 w1 w2 w3 w6 w7 w8 w9 w10 w11 w12 w21 w30 w37)
    | ((with_reducible apply wo_eq); (· (simp (disch := (first | assumption | omega)) only [eq_self, opsA_cons, opsA_nil, wantedA, stepA_t, callA, calleeA, targetA, runOp_c, runOp_n, opA, ev, evs, consO, consOO, afterA_s, putA, T.get_put, Nat.reduceEqDiff, reduceIte, List.getElem?_toArray, List.getElem?_cons_zero, List.getElem?_cons_succ, oBin, binA, binG, binL, aggO, litA, cond_true, Bool.not_true, decide_true, blt_eq, I, Bo, oExtract, fieldAddrA, oFieldAddr, Nat.add_zero, Nat.reduceLT, ty25, ti25, ty27, ti27, ii_neq, List.getElem_toArray, List.getElem_cons_zero, withH_s, oBuild, evParts, consP, dec_t, id_eq, List.take_succ_cons, List.take_zero, List.drop_zero, putAt_z, over_nil, over_cons, litCells_cons, litCells_nil, cells_lagg, Nat.add_zero, v0, v1, v2, v3, v6, v8, v9, v10, v11, v12]; exact rfl)))
    | (((fail_if_success have := g1); (with_reducible apply wo_call); (· ((with_reducible apply c23); (· (omega)); (· (exact H.tok (by (with_reducible repeat' first | exact mem_h _ _ | apply mem_t); done))); (· (exact gd)); (· (exact bl)); (· (exact hj)))); rintro _ h ⟨g1, g2, rfl, pg1, pg2, xg1, ng1, ng2, e1, e2, c1, c2⟩; have fc := H.fr.c; have H1 := H.tnew xg1 pg1 ng1 (src1t (by (with_reducible repeat' first | exact mem_h _ _ | apply mem_t); done)); have H2 := H.tnew xg1 pg2 ng2 (src1t (by (with_reducible repeat' first | exact mem_h _ _ | apply mem_t); done)); replace ng1 := fun n hn => (ng1 n hn).imp id (Nat.le_trans fc); replace ng2 := fun n hn => (ng2 n hn).imp id (Nat.le_trans fc); replace H := H1.z1 (z := tre g2) pg2 (H2.std _ (.head _)).2; clear H1 H2 xg1 fc))
    | (((fail_if_success have := g3); (have := g1); (with_reducible apply wo_call); (· ((with_reducible apply c11); (· (omega)); (· (exact H.lok (by (with_reducible repeat' first | exact mem_h _ _ | apply mem_t); done))); (· (exact hx0)))); rintro _ h ⟨g3, rfl, pg3, xg3, ng3, e3, c3⟩; have fc := H.fr.c; replace H := H.tnew xg3 pg3 ng3 (fun n hn => (List.not_mem_nil hn).elim); replace ng3 := fun n hn => (ng3 n hn).imp id (Nat.le_trans fc); clear xg3 fc; have d3 : GT.Good g3.lst := (by rw [e3]; exact good_chk)))
    | (((with_reducible apply wo_call); (· ((with_reducible apply c48); (· (omega)); (· (exact H.tok (by (with_reducible repeat' first | exact mem_h _ _ | apply mem_t); done))); (· (exact H.tok (by (with_reducible repeat' first | exact mem_h _ _ | apply mem_t); done))); (· (exact gd)); (· (exact d3)))); rintro _ h ⟨rfl, x1⟩; replace H := H.ext x1; clear x1; (try rw [e3, okL_0 (by assumption)])))
    | (((fail_if_success have := g5); (have := g3); (with_reducible apply wo_call); (· ((with_reducible apply c49); (· (omega)); (· (exact H.tok (by (with_reducible repeat' first | exact mem_h _ _ | apply mem_t); done))); (· (exact H.tok (by (with_reducible repeat' first | exact mem_h _ _ | apply mem_t); done))); (· ((rw [e1, e3, okL_0 (by assumption)]; exact (good_ins gd (by assumption) (by assumption) j).left))); (· (exact c1)); (· (exact c3)))); rintro _ h ⟨g5, rfl, pg5, xg5, ng5, e5, c5⟩; have fc := H.fr.c; replace H := H.tnew xg5 pg5 ng5 (src2t (by (with_reducible repeat' first | exact mem_h _ _ | apply mem_t); done) (by (with_reducible repeat' first | exact mem_h _ _ | apply mem_t); done)); replace ng5 := fun n hn => (ng5 n hn).imp id (Nat.le_trans fc); clear xg5 fc; rw [e1, e3, okL_0 (by assumption)] at e5; replace Qf := And.intro Qf (oload1 (ti := ti25) rfl (H.ld1 (f := id) (N := [g2.val]) (off := 0) (by (with_reducible repeat' first | exact mem_h _ _ | apply mem_t); done) rfl)); simp only [ti25, id_eq] at Qf))
    | (((fail_if_success have := g6); (have := g5); (with_reducible apply wo_call); (· ((with_reducible apply c49); (· (omega)); (· (exact H.tok (by (with_reducible repeat' first | exact mem_h _ _ | apply mem_t); done))); (· (exact H.tok (by (with_reducible repeat' first | exact mem_h _ _ | apply mem_t); done))); (· ((rw [e5, e2]; exact good_ins gd (by assumption) (by assumption) j))); (· (exact c5)); (· (exact c2)))); rintro _ h ⟨g6, rfl, pg6, xg6, ng6, e6, c6⟩; have fc := H.fr.c; replace H := H.tnew xg6 pg6 ng6 (src2t (by (with_reducible repeat' first | exact mem_h _ _ | apply mem_t); done) (by (with_reducible repeat' first | exact mem_h _ _ | apply mem_t); done)); replace ng6 := fun n hn => (ng6 n hn).imp id (Nat.le_trans fc); clear xg6 fc; rw [e5, e2] at e6; replace Qf := And.intro Qf (oload1 (ti := ti25) rfl (H.ld1 (f := id) (N := [g2.val]) (off := 0) (by (with_reducible repeat' first | exact mem_h _ _ | apply mem_t); done) rfl)); simp only [ti25, id_eq] at Qf))
    | (((with_reducible apply wc_dynW (id := 10) (p := (6, 4)) (ps := [])); (· (kernel_rfl)); have Qf := (oload1 (ti := ti25) rfl (H.ld1 (f := id) (N := [g2.val]) (off := 0) (by (with_reducible repeat' first | exact mem_h _ _ | apply mem_t); done) rfl)); simp only [ti25, id_eq] at Qf))
    | (with_reducible apply wt_cons)
    | (((with_reducible apply wt_nil); refine And.intro ?_ (Exists.intro _ (Exists.intro _ (And.intro rfl ?_))); (· (simp (disch := (first | assumption | omega)) only [eq_self, wantedA, opA, ev, T.get_put, Nat.reduceEqDiff, reduceIte, List.getElem?_cons_zero, List.getElem?_cons_succ, Bool.and_true, ty25, ti25, Qf, checksD_nil, checksD_cons, checkD, checkG, sameR, GT.av_val]; done))))
    | ((with_reducible apply wo_box H); clear H; intro n h H0n H)
    | ((with_reducible apply wo_alloc H); (· (rfl)); clear H; intro n h H0n H)
    | ((with_reducible apply wo_load1 H); (· ((with_reducible repeat' first | exact mem_h _ _ | apply mem_t); done)); (· (rfl)); (· ((first | rfl | assumption))))
    | ((with_reducible apply wo_loadn H); (· ((with_reducible repeat' first | exact mem_h _ _ | apply mem_t); done)); (· (rfl)); (· (rfl)); (· (rfl)))
    | ((with_reducible apply wo_storen H); (· ((with_reducible repeat' first | exact Pick.here _ _ _ | apply Pick.there); done)); (· ((first | rfl | assumption | exact cells_one (H.pz (by (with_reducible repeat' first | exact mem_h _ _ | apply mem_t); done))))); (· ((first | rfl | (simp (disch := assumption) only [onesA_cons', onesA_nil, cells_agg, GT.one_val, Bool.and_self]; done)))); (· (rfl)); (· ((first | exact Nat.le_of_ble_eq_true rfl | omega | (simp only [List.length_set, List.length_replicate, List.length_map, List.length_cons, List.length_nil]; omega) | (simp; done) | (simp; omega)))); clear H; intro h H)
    | ((with_reducible apply wo_build); (· (exact ty27)); (· (rfl)); (· ((first | rfl | (simp only [fillA_nil, fillA_cons, GT.cells_val]; rfl)))))
    | ((first | with_reducible apply wv_ret | with_reducible apply wv_end); (· ((repeat' (first | with_reducible exact rs_nil | ((with_reducible apply rs_tmp); (· (simp (disch := (first | assumption | omega)) only [Option.some.injEq, v7] <;> rfl))) | ((with_reducible apply rs_cell); (· (simp (disch := (first | assumption | omega)) only [Option.some.injEq, v6] <;> rfl)); (· (exact ty27)); (· (rfl)); (· (exact H.ld1 (by (with_reducible repeat' first | exact mem_h _ _ | apply mem_t); done) rfl))) | ((with_reducible apply rs_celln); (· (simp (disch := (first | assumption | omega)) only [Option.some.injEq, v6] <;> rfl)); (· (exact ty27)); (· (rfl)); (· (exact H.ldn (by (with_reducible repeat' first | exact mem_h _ _ | apply mem_t); done) rfl rfl))))); done)))
    | simp (disch := (first | assumption | omega)) only [ti27, List.take_succ_cons, List.take_zero, List.drop_zero])

  all_goals (first | first | (exfalso; omega) | (have hc9 : ¬ chk xs = 0 := (by assumption); rw [insE_e hc9, okL_e hc9]; exact rr_nil rfl H.toExt rfl) | (have hc9 : chk xs = 0 := (by assumption); have hj9 : ¬ joinE g.lst xs = 0 := (by assumption); rw [insE_0 hc9, okL_e hj9]; exact rr_nil rfl H.toExt rfl) | (have hc9 : chk xs = 0 := (by assumption); have hj9 : joinE g.lst xs = 0 := (by assumption); rw [insE_0 hc9, okL_0 hj9, hj9]; exact ⟨g6, rfl, H.tok (by (with_reducible repeat' first | exact mem_h _ _ | apply mem_t); done), H.toExt, by (intro n hn; simp only [List.mem_append] at *; grind), e6, c6⟩) | trace_state)
set_option maxHeartbeats 4000000 in
theorem c28e {n : Nat} (hn : 70 ≤ n) {b : Hp} {g : GT} (pg : g.ok b) (gd : GT.Good g.lst) (bl : g.bal) {i : Int} {w : AV} (hi : i < 0 ∨ (g.cnt : Int) < i) : Wv (runA ctx 5000 n 28 [.agg [g.val], I i, w] b) (fun r h' => RR b h' r g.names 4 []) := by
  obtain ⟨k, rfl⟩ : ∃ k, n = k + 1 := ⟨n - 1, by omega⟩
  have s1 := gd.sm
  have hh := GT.bal_hgt bl s1.2.2
  have hlen := GT.len g
  have H := (Hs.start b).z0 (z := tre g) pg
  refine wv_run fn28 rfl ?_
  have a0 : (enterEnv [.agg [g.val], I i, w] Try.f28.ntmps).get 0 = some (.agg [g.val]) := enter_get1 _ _ _
  have a1 : (enterEnv [.agg [g.val], I i, w] Try.f28.ntmps).get 1 = some (I i) := enter_get2 _ _ _ _
  have a2 : (enterEnv [.agg [g.val], I i, w] Try.f28.ntmps).get 2 = some (w) := enter_get3 _ _ _ _ _
  generalize enterEnv [.agg [g.val], I i, w] Try.f28.ntmps = e at a0 a1 a2 ⊢
  unfold Try.f28
  dsimp only
  ((with_reducible apply wc_c (fun i => Nat.beq i 0 || Nat.beq i 1 || Nat.beq i 2 || Nat.beq i 3 || Nat.beq i 6 || Nat.beq i 7 || Nat.beq i 8 || Nat.beq i 9 || Nat.beq i 10 || Nat.beq i 11 || Nat.beq i 12 || Nat.beq i 21 || Nat.beq i 30 || Nat.beq i 37)); intro e he; have w9 := he 0 rfl; (try simp only [a0] at w9); have v0 := w9; clear w9; have w9 := he 1 rfl; (try simp only [a1] at w9); have v1 := w9; clear w9; have w9 := he 2 rfl; (try simp only [a2] at w9); have v2 := w9; clear w9; have w9 := he 3 rfl; (try simp only [T.get_put, Nat.reduceEqDiff, reduceIte] at w9); have v3 := w9; clear w9; have w9 := he 6 rfl; (try simp only [T.get_put, Nat.reduceEqDiff, reduceIte] at w9); have v6 := w9; clear w9; have w9 := he 7 rfl; (try simp only [T.get_put, Nat.reduceEqDiff, reduceIte] at w9); have v7 := w9; clear w9; have w9 := he 8 rfl; (try simp only [T.get_put, Nat.reduceEqDiff, reduceIte] at w9); have v8 := w9; clear w9; have w9 := he 9 rfl; (try simp only [T.get_put, Nat.reduceEqDiff, reduceIte] at w9); have v9 := w9; clear w9; have w9 := he 10 rfl; (try simp only [T.get_put, Nat.reduceEqDiff, reduceIte] at w9); have v10 := w9; clear w9; have w9 := he 11 rfl; (try simp only [T.get_put, Nat.reduceEqDiff, reduceIte] at w9); have v11 := w9; clear w9; have w9 := he 12 rfl; (try simp only [T.get_put, Nat.reduceEqDiff, reduceIte] at w9); have v12 := w9; clear w9; have w9 := he 21 rfl; (try simp only [T.get_put, Nat.reduceEqDiff, reduceIte] at w9); have v21 := w9; clear w9; have w9 := he 30 rfl; (try simp only [T.get_put, Nat.reduceEqDiff, reduceIte] at w9); have v30 := w9; clear w9; have w9 := he 37 rfl; (try simp only [T.get_put, Nat.reduceEqDiff, reduceIte] at w9); have v37 := w9; clear w9; clear he)
  repeat' (first
    | with_reducible apply wc_seq
    | ((with_reducible apply wc_region); (· (rfl)))
    | with_reducible apply wo_some
    | ((with_reducible apply wc_cond); (· (simp (disch := (first | assumption | omega)) only [ev, Option.some.injEq, v21] <;> rfl)); all_goals (intro hg; (try (try simp only [Bool.not_eq_true'] at hg)); first | (exfalso; exact Bool.noConfusion hg) | (exfalso; exact hg) | skip))
    | with_reducible apply wc_ret
    | with_reducible apply nx_r
    | (simp only [patch, List.take_zero, List.drop_succ_cons, List.drop_nil, List.nil_append, List.append_nil, List.length_cons, List.length_nil, Nat.zero_add, cells_agg, cells_lagg, litCells_cons, litCells_nil] at H)
    | ((with_reducible apply nx_c (fun i => Nat.beq i 0 || Nat.beq i 1 || Nat.beq i 2 || Nat.beq i 3 || Nat.beq i 6 || Nat.beq i 7 || Nat.beq i 8 || Nat.beq i 9 || Nat.beq i 10 || Nat.beq i 11 || Nat.beq i 12 || Nat.beq i 21 || Nat.beq i 30 || Nat.beq i 37)); intro e he; have w0 := he 0 rfl; have w1 := he 1 rfl; have w2 := he 2 rfl; have w3 := he 3 rfl; have w6 := he 6 rfl; have w7 := he 7 rfl; have w8 := he 8 rfl; have w9 := he 9 rfl; have w10 := he 10 rfl; have w11 := he 11 rfl; have w12 := he 12 rfl; have w21 := he 21 rfl; have w30 := he 30 rfl; have w37 := he 37 rfl; (try simp only [T.get_put, Nat.reduceEqDiff, reduceIte, v0, v1, v2, v3, v6, v7, v8, v9, v10, v11, v12, v21, v30, v37] at w0 w1 w2 w3 w6 w7 w8 w9 w10 w11 w12 w21 w30 w37); clear he v0 v1 v2 v3 v6 v7 v8 v9 v10 v11 v12 v21 v30 v37; have v0 := w0; have v1 := w1; have v2 := w2; have v3 := w3; have v6 := w6; have v7 := w7; have v8 := w8; have v9 := w9; have v10 := w10; have v11 := w11; have v12 := w12; have v21 := w21; have v30 := w30; have v37 := w37; clear w0 w1 w2 w3 w6 w7 w8 w9 w10 w11 w12 w21 w30 w37)
    | ((with_reducible apply wo_eq); (· (simp (disch := (first | assumption | omega)) only [eq_self, opsA_cons, opsA_nil, wantedA, stepA_t, callA, calleeA, targetA, runOp_c, runOp_n, opA, ev, evs, consO, consOO, afterA_s, putA, T.get_put, Nat.reduceEqDiff, reduceIte, List.getElem?_cons_zero, List.getElem?_cons_succ, oBin, binA, binG, binL, aggO, litA, Bool.not_false, I, Bo, oExtract, ty27, ti27, ii_neq, withH_s, oBuild, evParts, dec_f, List.take_succ_cons, List.take_zero, List.drop_zero, litCells_cons, litCells_nil, cells_lagg, v0, v1, v3, v6, v8, v9, v10]; exact rfl)))
    | (((with_reducible apply wo_call); (· ((with_reducible apply c23e); (· (omega)); (· (exact H.tok (by (with_reducible repeat' first | exact mem_h _ _ | apply mem_t); done))); (· (exact gd)); (· (exact bl)); (· (exact hi)))); rintro _ h ⟨rfl, x1⟩; replace H := H.ext x1; clear x1; simp only [GT.val_nil]))
    | ((with_reducible apply wo_box H); clear H; intro n h H0n H)
    | ((with_reducible apply wo_alloc H); (· (rfl)); clear H; intro n h H0n H)
    | ((with_reducible apply wo_loadn H); (· ((with_reducible repeat' first | exact mem_h _ _ | apply mem_t); done)); (· (rfl)); (· (rfl)); (· (rfl)))
    | ((with_reducible apply wo_storen H); (· ((with_reducible repeat' first | exact Pick.here _ _ _ | apply Pick.there); done)); (· ((first | rfl | assumption | exact cells_one (H.pz (by (with_reducible repeat' first | exact mem_h _ _ | apply mem_t); done))))); (· ((first | rfl | (simp (disch := assumption) only [onesA_cons', onesA_nil, cells_int, cells_bool, cells_str, cells_float, cells_np, cells_nil, cells_nf, cells_ptr, cells_slice, cells_fn, cells_agg, cells_lagg, litCells_cons, litCells_nil, one_t, one_int, one_bool, one_str, one_nil, one_np, one_ptr, one_slice, GT.one_val, Bool.and_true, Bool.and_self, id_eq]; done)))); (· (rfl)); (· ((first | exact Nat.le_of_ble_eq_true rfl | omega | (simp only [List.length_set, List.length_replicate, List.length_map, List.length_cons, List.length_nil]; omega) | (simp; done) | (simp; omega)))); clear H; intro h H)
    | ((with_reducible apply wo_build); (· (exact ty27)); (· (rfl)); (· ((first | rfl | (simp only [fillA_nil, fillA_cons, repl_z, repl_s, cells_int, cells_bool, cells_str, cells_float, cells_np, cells_nil, cells_nf, cells_ptr, cells_slice, cells_fn, cells_agg, cells_lagg, v0, v1, v2, v3, v6, v7, v8, v9, v10, v11, v12, v21, v30, v37, GT.cells_val]; rfl)))))
    | ((first | with_reducible apply wv_ret | with_reducible apply wv_end); (· ((repeat' (first | with_reducible exact rs_nil | ((with_reducible apply rs_tmp); (· (simp (disch := (first | assumption | omega)) only [Option.some.injEq, v7] <;> rfl))) | ((with_reducible apply rs_cell); (· (simp (disch := (first | assumption | omega)) only [Option.some.injEq, v6] <;> rfl)); (· (exact ty27)); (· (rfl)); (· (exact H.ld1 (by (with_reducible repeat' first | exact mem_h _ _ | apply mem_t); done) rfl))) | ((with_reducible apply rs_celln); (· (simp (disch := (first | assumption | omega)) only [Option.some.injEq, v6] <;> rfl)); (· (exact ty27)); (· (rfl)); (· (exact H.ldn (by (with_reducible repeat' first | exact mem_h _ _ | apply mem_t); done) rfl rfl))))); done)))
    | simp (disch := (first | assumption | omega)) only [ti27, List.take_succ_cons, List.take_zero, List.drop_zero])

  all_goals (first | exact rr_nil rfl H.toExt rfl | trace_state)


end Go.Proofs.Ytpioenfglmimgaa
