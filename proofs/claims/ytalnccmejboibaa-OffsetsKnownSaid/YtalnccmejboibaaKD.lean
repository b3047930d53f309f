import Derived.Test.YtalnccmejboibaaKA
import Derived.Test.YtalnccmejboibaaQ11
import Derived.Test.YtalnccmejboibaaKB
import Derived.Test.YtalnccmejboibaaKC
import Derived.Test.YtalnccmejboibaaU6
import Derived.Test.YtalnccmejboibaaO1
import Derived.KernelRfl
namespace Go.Proofs.Ytalnccmejboibaa
open Go Go.Proofs Go.RowKit Go.Proofs.Abs
set_option linter.unusedSimpArgs false
set_option linter.unusedVariables false
open Go.Proofs.Abs
theorem fn9 : ctx.funs.get 9 = some Try.f9 := by kernel_rfl
/-- one of two, as the function is -/
noncomputable def pick2 (L : Nat → Bool) (c1 c2 : CallF) : CallF := fun f args h => cond (L f) (c1 f args h) (c2 f args h)
theorem pick2_ok {P : Program} {L : Nat → Bool} {c1 c2 : CallF} (h1 : CallOk P c1) (h2 : CallOk P c2) : CallOk P (pick2 L c1 c2) := by
  have e : ∀ f vs h, pick2 L c1 c2 f vs h = c1 f vs h ∨ pick2 L c1 c2 f vs h = c2 f vs h := fun f vs h => by
    unfold pick2
    cases L f
    · exact .inr rfl
    · exact .inl rfl
  refine ⟨fun f vs h r hr => ?_, fun f vs h r hr => ?_⟩
  · rcases e f vs h with e | e
    · rw [e] at hr; exact h1.fn f vs h r hr
    · rw [e] at hr; exact h2.fn f vs h r hr
  · rcases e f vs h with e | e
    · rw [e] at hr; exact h1.run f vs h r hr
    · rw [e] at hr; exact h2.run f vs h r hr
def is345 (f : Nat) : Bool := Nat.beq f 3 || Nat.beq f 4 || Nat.beq f 5
noncomputable def all9 : CallF := pick2 is345 (fun f args h => funA ctx all4 5000 args h (ctx.funs.get f)) all8
theorem p9_t {f : Nat} {args : List AV} {h : Hp} (hf : is345 f = true) : all9 f args h = funA ctx all4 5000 args h (ctx.funs.get f) := by
  unfold all9 pick2
  rw [hf]
  rfl
theorem p9_f {f : Nat} {args : List AV} {h : Hp} (hf : is345 f = false) (hl : isLives f = false) : all9 f args h = runA ctx 5000 8 f args h := by
  unfold all9 pick2
  rw [hf]
  show all8 f args h = _
  unfold all8
  rw [plus_not hl]
theorem y12 (h : Hp) : Wv (all9 12 [] h) (fun r h' => r = Bo true ∧ h' = h) := by
  refine ⟨Bo true, h, ?_, rfl, rfl⟩
  unfold all9 pick2
  show all8 12 [] h = _
  exact r12 h
theorem y3 (h : Hp) (a b : Int) (ha : In a) (hb' : In b) : Wv (all9 3 [I a, I b] h) (fun r h' => r = Bo true ∧ Ext h h') := by
  rw [p9_t rfl]; exact plus_lawE h a b ha hb'
theorem y4 (h : Hp) (x y t v : Int) (hx : In x) (hy : In y) (ht : In t) (hv' : In v) : Wv (all9 4 [I x, I y, .agg [I t, I v]] h) (fun r h' => r = Bo true ∧ Ext h h') := by
  rw [p9_t rfl]; exact clamp_lawE h x y t v hx hy ht hv'
theorem y5 (h : Hp) (a b o : Int) (ha : In a) (hb' : In b) (ho : In o) : Wv (all9 5 [I a, I b, I o] h) (fun r h' => r = Bo true ∧ Ext h h') := by
  rw [p9_t rfl]; exact ceil_lawE h a b o ha hb' ho
theorem y18 (h : Hp) : Wv (all9 18 [I 2147483648, I 1, I 16] h) (fun r h' => r = .tup [I 2147483682, I 0] ∧ h' = h) := by
  rw [p9_f rfl rfl]
  refine ⟨_, _, c18 6 h 2147483648 1 16 (by unfold Bv; omega), ?_, rfl⟩
  rw [show ceilI 2147483648 1 + 2 * 16 + 2 = 2147483682 by decide]
abbrev A0 : AV := .lit (.complex .f64 0 4845873199050653694)
abbrev A1 : AV := .lit (.complex .f64 4845873199050653694 4607182418800017408)
abbrev B0 : AV := .lit (.complex .f64 4607182418800017408 4845873199050653694)
abbrev Z0 : AV := .lit (.complex .f64 0 0)
theorem eA0 : CX (0, 9007199254740990) = A0 := by kernel_rfl
theorem eA1 : CX (9007199254740990, 1) = A1 := by kernel_rfl
theorem eB0 : CX (1, 9007199254740990) = B0 := by kernel_rfl
theorem eZ0 : CX (0, 0) = Z0 := by kernel_rfl
theorem y23 (h : Hp) (v : AV) (hv : IsL h v [I 9007199254740990, I 1]) : Wv (all9 23 [v] h) (fun r h' => ∃ ng, r = .tup [.slice ng 0 2 false 2 0, I 0] ∧ Ext h h' ∧ h.c ≤ ng ∧ IsL h' (.slice ng 0 2 false 2 0) [A0, A1]) := by
  rw [p9_f rfl rfl]
  refine (c23 6 h v [9007199254740990, 1] hv (by decide)).mono (fun r h' ⟨hx, hc⟩ => ?_)
  rcases hc with ⟨h1, _⟩ | ⟨_, ng, e, h1, h2, h3⟩
  · exact absurd h1 (by decide)
  · refine ⟨ng, e, hx, h1, ?_⟩
    have := (ownX_of h2 h3).isL
    rw [show rwl [9007199254740990, 1] = [(0, 9007199254740990), (9007199254740990, 1)] by decide] at this
    simp only [List.map_cons, List.map_nil, eA0, eA1] at this
    exact this
theorem y23b (h : Hp) (v : AV) (hv : IsL h v [I 9007199254740991, I 1]) : Wv (all9 23 [v] h) (fun r h' => r = .tup [nilS, I 13] ∧ Ext h h') := by
  rw [p9_f rfl rfl]
  refine (c23 6 h v [9007199254740991, 1] hv (by decide)).mono (fun r h' ⟨hx, hc⟩ => ?_)
  rcases hc with ⟨_, e⟩ | ⟨h1, _⟩
  · exact ⟨e, hx⟩
  · exact absurd h1 (by decide)
theorem y25a (h : Hp) (v : AV) (hv : IsL h v [A0]) : Wv (all9 25 [v, I 1] h) (fun r h' => ∃ ng, r = .tup [.slice ng 0 1 false 1 0, I 0] ∧ Ext h h' ∧ h.c ≤ ng ∧ IsL h' (.slice ng 0 1 false 1 0) [B0]) := by
  rw [p9_f rfl rfl]
  rw [← eA0] at hv
  refine (c25 3 h v 1 [(0, 9007199254740990)] hv (fun k p hp => ?_) (by decide) (by unfold In; omega)).mono (fun r h' ⟨hx, hc⟩ => ?_)
  · have := List.mem_of_getElem? hp
    rw [List.mem_singleton] at this
    subst this
    unfold Ex1
    decide
  · rcases hc with ⟨h1, _⟩ | ⟨_, ng, e, h1, h2, h3⟩
    · exact absurd h1 (by decide)
    · refine ⟨ng, e, hx, h1, ?_⟩
      rw [show sld 1 [(0, 9007199254740990)] = [(1, 9007199254740990)] by decide] at h3
      have := (ownX_of h2 h3).isL
      simp only [List.map_cons, List.map_nil, eB0] at this
      exact this
theorem y25b (h : Hp) (v : AV) (hv : IsL h v [A0, A1]) : Wv (all9 25 [v, I 4503599627370496] h) (fun r h' => r = .tup [nilS, I 13] ∧ Ext h h') := by
  rw [p9_f rfl rfl]
  rw [← eA0, ← eA1] at hv
  refine (c25 3 h v 4503599627370496 [(0, 9007199254740990), (9007199254740990, 1)] hv (fun k p hp => ?_) (by decide) (by unfold In; omega)).mono (fun r h' ⟨hx, hc⟩ => ?_)
  · have := List.mem_of_getElem? hp
    simp only [List.mem_cons, List.not_mem_nil, or_false] at this
    rcases this with rfl | rfl <;> (unfold Ex1; decide)
  · rcases hc with ⟨_, e⟩ | ⟨h1, _⟩
    · exact ⟨e, hx⟩
    · exact absurd h1 (by decide)
theorem y25d (h : Hp) (v : AV) (hv : IsL h v (List.replicate 4096 Z0)) : Wv (all9 25 [v, I 5] h) (fun r h' => ∃ ng, r = .tup [.slice ng 0 4096 false 4096 0, I 0] ∧ Ext h h') := by
  rw [p9_f rfl rfl]
  have hv2 : IsL h v ((List.replicate 4096 (0, 0)).map CX) := by rw [List.map_replicate, eZ0]; exact hv
  refine (c25 3 h v 5 (List.replicate 4096 (0, 0)) hv2 (fun k p hp => ?_) (by rw [List.length_replicate]; exact Nat.le_refl _) (by unfold In; omega)).mono (fun r h' ⟨hx, hc⟩ => ?_)
  · rw [List.eq_of_mem_replicate (List.mem_of_getElem? hp)]
    unfold Ex1
    decide
  · rcases hc with ⟨h1, _⟩ | ⟨_, ng, e, _⟩
    · unfold farB at h1
      rw [List.any_eq_true] at h1
      obtain ⟨p, hp, hf⟩ := h1
      rw [List.eq_of_mem_replicate hp] at hf
      exact absurd hf (by decide)
    · rw [List.length_replicate] at e
      exact ⟨ng, e, hx⟩
theorem y21 (h : Hp) (v : AV) (hv : IsL h v (List.replicate 4097 (I 0))) : Wv (all9 21 [v] h) (fun r h' => r = .tup [nilS, I 3] ∧ Ext h h') := by
  rw [p9_f rfl rfl]
  have hc3 : chkL (List.replicate 4097 0) = 3 := by
    unfold chkL
    rw [List.length_replicate, if_pos (by omega)]
  refine (c21 7 h v (List.replicate 4097 0) (by rw [List.map_replicate]; exact hv)).mono (fun r h' ⟨hx, hc⟩ => ?_)
  rw [hc3] at hc
  rcases hc with ⟨_, e⟩ | ⟨h1, _⟩
  · exact ⟨e, hx⟩
  · exact absurd h1 (by decide)
theorem y24 (h : Hp) (g v : AV) (ng : Nat) (hg : g = .slice ng 0 2 false 2 0) (h1 : IsL h g [A0, A1]) (hv : IsL h v [A0, A1]) : Wv (all9 24 [g, I 0, v, I 0] h) (fun r h' => r = Bo true ∧ h' = h) := by
  rw [p9_f rfl rfl]
  subst hg
  rw [← eA0, ← eA1] at h1 hv
  refine ⟨_, _, c24 7 h _ v 0 [(0, 9007199254740990), (9007199254740990, 1)] ⟨h1, fun h' => cap42 h'⟩ hv (fun k p hp => ?_) (by decide), rfl, rfl⟩
  have := List.mem_of_getElem? hp
  simp only [List.mem_cons, List.not_mem_nil, or_false] at this
  rcases this with rfl | rfl <;> (unfold Ex1; decide)
theorem y24b (h : Hp) (g v : AV) (ng : Nat) (hg : g = .slice ng 0 1 false 1 0) (h1 : IsL h g [B0]) (hv : IsL h v [B0]) : Wv (all9 24 [g, I 0, v, I 0] h) (fun r h' => r = Bo true ∧ h' = h) := by
  rw [p9_f rfl rfl]
  subst hg
  rw [← eB0] at h1 hv
  refine ⟨_, _, c24 7 h _ v 0 [(1, 9007199254740990)] ⟨h1, fun h' => cap42 h'⟩ hv (fun k p hp => ?_) (by decide), rfl, rfl⟩
  have := List.mem_of_getElem? hp
  rw [List.mem_singleton] at this
  subst this
  unfold Ex1
  decide
theorem repl1 (x : AV) : ∀ n : Nat, repl [x] n = List.replicate n x := by
  intro n
  induction n with
  | zero => rfl
  | succ n ih => rw [repl_s, ih]; rfl
theorem mkIsL {h : Hp} {n k : Nat} {x : AV} (b : Blks id h n (repl [x] k)) : IsL h (.slice n 0 k false k 0) (List.replicate k x) := by
  rw [repl1] at b
  have := b.isl (r := false) (c := k) (z := 0)
  rwa [List.length_replicate] at this
theorem isl_hd {h : Hp} {ng : Nat} {x y : AV} (p : IsL h (.slice ng 0 2 false 2 0) [x, y]) : IsL h (.slice ng 0 1 false 1 0) [x] := by
  rcases p with ⟨h1, _⟩ | ⟨nm, off, rest, cap, z, h1, h2, h3⟩
  · cases h1
  · cases h1
    refine .inr ⟨ng, 0, false, 1, 0, rfl, h2, fun k w hw => h3 k w ?_⟩
    cases k with
    | zero => exact hw
    | succ k => cases hw
set_option maxHeartbeats 4000000 in
theorem k25 (d : Nat) (h : Hp) (v : AV) (xs : List AV) (y : Int) (hv : IsL h v xs) (hl : 4096 < xs.length) : Wv (runA ctx 5000 (d + 1) 25 [v, I y] h) (fun r h' => r = .tup [nilS, I 3] ∧ Ext h h') := by
  have H := (Hs.start h).z0 (z := isl v xs) hv
  refine wv_run fn25 rfl ?_
  have a0 : (enterEnv [v, I y] Try.f25.ntmps).get 0 = some (v) := enter_get1 _ _ _
  have a1 : (enterEnv [v, I y] Try.f25.ntmps).get 1 = some (I y) := enter_get2 _ _ _ _
  generalize enterEnv [v, I y] Try.f25.ntmps = e at a0 a1 ⊢
  unfold Try.f25
  dsimp only
  ((with_reducible apply wc_c (fun i => Nat.beq i 0 || Nat.beq i 1 || Nat.beq i 4 || Nat.beq i 5 || Nat.beq i 6 || Nat.beq i 7 || Nat.beq i 9 || Nat.beq i 10 || Nat.beq i 11 || Nat.beq i 12 || Nat.beq i 15 || Nat.beq i 19 || Nat.beq i 20 || Nat.beq i 21 || Nat.beq i 22 || Nat.beq i 32 || Nat.beq i 45 || Nat.beq i 55)); intro e he; have w9 := he 0 rfl; (try simp only [T.get_put, Nat.reduceEqDiff, reduceIte, a0] at w9); have v0 := w9; clear w9; have w9 := he 1 rfl; (try simp only [T.get_put, Nat.reduceEqDiff, reduceIte, a1] at w9); have v1 := w9; clear w9; have w9 := he 4 rfl; (try simp only [T.get_put, Nat.reduceEqDiff, reduceIte] at w9); have v4 := w9; clear w9; have w9 := he 5 rfl; (try simp only [T.get_put, Nat.reduceEqDiff, reduceIte] at w9); have v5 := w9; clear w9; have w9 := he 6 rfl; (try simp only [T.get_put, Nat.reduceEqDiff, reduceIte] at w9); have v6 := w9; clear w9; have w9 := he 7 rfl; (try simp only [T.get_put, Nat.reduceEqDiff, reduceIte] at w9); have v7 := w9; clear w9; have w9 := he 9 rfl; (try simp only [T.get_put, Nat.reduceEqDiff, reduceIte] at w9); have v9 := w9; clear w9; have w9 := he 10 rfl; (try simp only [T.get_put, Nat.reduceEqDiff, reduceIte] at w9); have v10 := w9; clear w9; have w9 := he 11 rfl; (try simp only [T.get_put, Nat.reduceEqDiff, reduceIte] at w9); have v11 := w9; clear w9; have w9 := he 12 rfl; (try simp only [T.get_put, Nat.reduceEqDiff, reduceIte] at w9); have v12 := w9; clear w9; have w9 := he 15 rfl; (try simp only [T.get_put, Nat.reduceEqDiff, reduceIte] at w9); have v15 := w9; clear w9; have w9 := he 19 rfl; (try simp only [T.get_put, Nat.reduceEqDiff, reduceIte] at w9); have v19 := w9; clear w9; have w9 := he 20 rfl; (try simp only [T.get_put, Nat.reduceEqDiff, reduceIte] at w9); have v20 := w9; clear w9; have w9 := he 21 rfl; (try simp only [T.get_put, Nat.reduceEqDiff, reduceIte] at w9); have v21 := w9; clear w9; have w9 := he 22 rfl; (try simp only [T.get_put, Nat.reduceEqDiff, reduceIte] at w9); have v22 := w9; clear w9; have w9 := he 32 rfl; (try simp only [T.get_put, Nat.reduceEqDiff, reduceIte] at w9); have v32 := w9; clear w9; have w9 := he 45 rfl; (try simp only [T.get_put, Nat.reduceEqDiff, reduceIte] at w9); have v45 := w9; clear w9; have w9 := he 55 rfl; (try simp only [T.get_put, Nat.reduceEqDiff, reduceIte] at w9); have v55 := w9; clear w9; clear he)
  repeat' (first
    | with_reducible apply wc_seq
    | ((with_reducible apply wc_region); (· (rfl)))
    | with_reducible apply wo_some
    | ((with_reducible apply wc_cond); (· (simp (disch := (first | assumption | omega)) only [ev, T.get_put, Nat.reduceEqDiff, reduceIte, Option.some.injEq, dec_t, dec_f, Bool.not_true, Bool.not_false, v0, v1, v4, v5, v6, v7, v9, v10, v11, v12, v15, v19, v20, v21, v22, v32, v45, v55] <;> rfl)); all_goals (intro hg; (try (try simp only [Bool.not_eq_true', Bool.not_eq_false', beq_false, beq_true, Bool.not_not, Bool.not_eq_eq_eq_not, Bool.not_true, Bool.not_false, decide_eq_true_eq, decide_eq_false_iff_not, Bool.and_eq_true, not_true, not_false_eq_true] at hg)); first | (exfalso; exact Bool.noConfusion hg) | (exfalso; exact hg) | skip))
    | with_reducible apply wc_block
    | with_reducible apply wc_skip
    | with_reducible apply wc_label
    | with_reducible apply wc_exit
    | with_reducible apply wc_ret
    | with_reducible apply nx_r
    | with_reducible apply nx_e
    | with_reducible apply bx_n
    | with_reducible apply bx_r
    | with_reducible apply gx_n
    | with_reducible apply gx_r
    | with_reducible apply gx_e
    | ((with_reducible apply bx_hit); (· (rfl)))
    | ((with_reducible apply bx_pass); (· (rfl)))
    | ((with_reducible apply wc_scope); (· (decide)))
    | (simp only [rep0, rep1, rep2, rep3, List.getElem_toArray, List.getElem_cons_zero, List.getElem_cons_succ, patch, List.take_succ_cons, List.take_zero, List.take_nil, List.drop_succ_cons, List.drop_zero, List.drop_nil, List.nil_append, List.cons_append, List.append_nil, List.length_cons, List.length_nil, List.set_cons_zero, List.set_cons_succ, Nat.zero_add, Nat.reduceAdd, cells_int, cells_bool, cells_str, cells_float, cells_np, cells_nil, cells_nf, cells_ptr, cells_slice, cells_fn, cells_agg, cells_lagg, putAt_z, putAt_s, over_nil, over_cons, litCells_cons, litCells_nil, List.toList_toArray, id_eq, repl_z, repl_one, Int.toNat_natCast, Int.reduceToNat, Nat.add_zero, Nat.mul_one, ti2, ti3, ti42, ti46, ti47] at H)
    | ((with_reducible apply nx_c (fun i => Nat.beq i 0 || Nat.beq i 1 || Nat.beq i 4 || Nat.beq i 5 || Nat.beq i 6 || Nat.beq i 7 || Nat.beq i 9 || Nat.beq i 10 || Nat.beq i 11 || Nat.beq i 12 || Nat.beq i 15 || Nat.beq i 19 || Nat.beq i 20 || Nat.beq i 21 || Nat.beq i 22 || Nat.beq i 32 || Nat.beq i 45 || Nat.beq i 55)); intro e he; have w0 := he 0 rfl; have w1 := he 1 rfl; have w4 := he 4 rfl; have w5 := he 5 rfl; have w6 := he 6 rfl; have w7 := he 7 rfl; have w9 := he 9 rfl; have w10 := he 10 rfl; have w11 := he 11 rfl; have w12 := he 12 rfl; have w15 := he 15 rfl; have w19 := he 19 rfl; have w20 := he 20 rfl; have w21 := he 21 rfl; have w22 := he 22 rfl; have w32 := he 32 rfl; have w45 := he 45 rfl; have w55 := he 55 rfl; (try simp only [T.get_put, Nat.reduceEqDiff, reduceIte, v0, v1, v4, v5, v6, v7, v9, v10, v11, v12, v15, v19, v20, v21, v22, v32, v45, v55] at w0 w1 w4 w5 w6 w7 w9 w10 w11 w12 w15 w19 w20 w21 w22 w32 w45 w55); clear he v0 v1 v4 v5 v6 v7 v9 v10 v11 v12 v15 v19 v20 v21 v22 v32 v45 v55; have v0 := w0; have v1 := w1; have v4 := w4; have v5 := w5; have v6 := w6; have v7 := w7; have v9 := w9; have v10 := w10; have v11 := w11; have v12 := w12; have v15 := w15; have v19 := w19; have v20 := w20; have v21 := w21; have v22 := w22; have v32 := w32; have v45 := w45; have v55 := w55; clear w0 w1 w4 w5 w6 w7 w9 w10 w11 w12 w15 w19 w20 w21 w22 w32 w45 w55)
    | ((with_reducible apply wo_eq); (· (simp (disch := (first | assumption | omega)) only [oUn_not, beq_self_eq_true, eq_self, List.toList_toArray, opsA_cons, opsA_nil, wantedA, guardA, yieldA, stepA_t, stepA_f, callA, calleeA, targetA, runOp_c, runOp_n, opA, ev, evs, evo, consO, consOO, pickA, afterA_s, putA, T.get_put, Nat.reduceEqDiff, reduceIte, List.getElem?_toArray, List.getElem?_cons_zero, List.getElem?_cons_succ, oBuiltin, oBin, binA, binG, binL, aggO, litA, ltF_eq, eqF_eq, oIndexAddr, cond_true, cond_false, Bool.not_true, Bool.not_false, decide_true, decide_false, blt_eq, tt_beq, tf_beq, ft_beq, ff_beq, Bool.and_true, Bool.true_and, Option.some.injEq, I, Bo, oExtract, Bool.not_eq_true', fieldAddrA, oFieldAddr, fieldA, partA, List.length_cons, List.length_nil, Nat.reduceAdd, Nat.zero_add, Nat.add_zero, Nat.mul_one, Nat.reduceMul, Nat.reduceLT, ty2, ti2, ty3, ti3, ty42, ti42, ty46, ti46, ty47, ti47, ii_add, ii_sub, ii_mul, ii_lss, ii_gtr, ii_geq, ii_leq, ii_eql, ii_neq, ii_rem, ii_quo, iu_rem, iu_lss, iu_gtr, iu_eql, iu_neq, bi_min, bi_max, List.getElem_toArray, List.getElem_cons_zero, List.getElem_cons_succ, withH_s, eqA, eqD, eqOp, nilCheckA, oBuild, oBuildSlice, oMakeSlice, oSlice, evParts, consP, oFn, oConv, dec_t, dec_f, wrap_ok, beq_dec, Int.toNat_natCast, Int.reduceToNat, id_eq, List.take_succ_cons, List.take_zero, List.drop_succ_cons, List.drop_zero, putAt_z, putAt_s, over_nil, over_cons, litCells_cons, litCells_nil, cells_int, cells_bool, cells_str, cells_float, cells_np, cells_nil, cells_nf, cells_ptr, cells_slice, cells_fn, cells_agg, cells_lagg, List.cons_append, List.nil_append, Nat.zero_add, Nat.add_zero, Nat.mul_one, Nat.reduceMul, Nat.reduceAdd, v0, v1, v4, v5, v6, v7, v9, v10, v11, v12, v15, v19, v20, v21, v22, v32, v45, v55]; exact rfl)))
    | ((with_reducible apply wo_load1 H); (· ((with_reducible repeat' first | exact mem_h _ _ | apply mem_t); done)); (· (rfl)); (· ((first | rfl | assumption))))
    | ((with_reducible apply wo_load1z H); (· ((with_reducible repeat' first | exact mem_h _ _ | apply mem_t); done)); (· (rfl)); (· ((first | rfl | assumption))))
    | ((with_reducible apply wo_loadc H); (· ((with_reducible repeat' first | exact mem_h _ _ | apply mem_t); done)); (· (rfl)))
    | ((with_reducible apply wo_loadn H); (· ((with_reducible repeat' first | exact mem_h _ _ | apply mem_t); done)); (· (rfl)); (· (rfl)); (· (rfl)))
    | ((with_reducible apply wo_loadnz H); (· ((with_reducible repeat' first | exact mem_h _ _ | apply mem_t); done)); (· (rfl)); (· (rfl)); (· (rfl)))
    | ((with_reducible apply wo_len H); (· ((with_reducible repeat' first | exact mem_h _ _ | apply mem_t); done)); (· ((first | exact ty2 | exact ty3 | exact ty42 | exact ty46 | exact ty47 | kernel_rfl))); (· (rfl)))
    | ((with_reducible apply wo_lenr H); (· ((with_reducible repeat' first | exact mem_h _ _ | apply mem_t); done)); (· ((first | exact ty2 | exact ty3 | exact ty42 | exact ty46 | exact ty47 | kernel_rfl))); (· (rfl)))
    | ((with_reducible apply wo_iar H); (· ((with_reducible repeat' first | exact mem_h _ _ | apply mem_t); done)); (· ((first | exact ty2 | exact ty3 | exact ty42 | exact ty46 | exact ty47 | kernel_rfl))); (· (rfl)); (· ((first | exact ty2 | exact ty3 | exact ty42 | exact ty46 | exact ty47 | kernel_rfl))); (· (rfl)); (· (rfl)); (· (rfl)); (· (assumption)); intro n o H)
    | ((with_reducible apply wo_loadcn H); (· ((with_reducible repeat' first | exact mem_h _ _ | apply mem_t); done)); (· (rfl)); (· (rfl)))
    | ((with_reducible apply wo_ia H); (· ((with_reducible repeat' first | exact mem_h _ _ | apply mem_t); done)); (· ((first | exact ty2 | exact ty3 | exact ty42 | exact ty46 | exact ty47 | kernel_rfl))); (· (rfl)); (· ((first | exact ty2 | exact ty3 | exact ty42 | exact ty46 | exact ty47 | kernel_rfl))); (· (rfl)); (· (rfl)); (· (assumption)); clear H; intro n o H)
    | ((with_reducible apply wo_make H); (· ((first | exact ty2 | exact ty3 | exact ty42 | exact ty46 | exact ty47 | kernel_rfl))); (· (rfl)); (· ((first | exact ty2 | exact ty3 | exact ty42 | exact ty46 | exact ty47 | kernel_rfl))); (· (kernel_rfl)); (· (omega)); (· (omega)); (· (omega)); clear H; intro n h H0n H)
    | ((with_reducible apply wo_bs H); (· ((first | exact ty2 | exact ty3 | exact ty42 | exact ty46 | exact ty47 | kernel_rfl))); (· (rfl)); (· ((first | exact ty2 | exact ty3 | exact ty42 | exact ty46 | exact ty47 | kernel_rfl))); (· (kernel_rfl)); (· ((first | rfl | (simp only [fillA_nil, fillA_cons, repl_z, repl_s, cells_int, cells_bool, cells_str, cells_float, cells_np, cells_nil, cells_nf, cells_ptr, cells_slice, cells_fn, cells_agg, cells_lagg, v0, v1, v4, v5, v6, v7, v9, v10, v11, v12, v15, v19, v20, v21, v22, v32, v45, v55]; rfl)))); clear H; intro n h H0n H)
    | ((with_reducible apply wo_app H); (· ((with_reducible repeat' first | exact PickF.here _ _ | apply PickF.there); done)); (· ((first | exact ty2 | exact ty3 | exact ty42 | exact ty46 | exact ty47 | kernel_rfl))); (· (rfl)); (· ((first | exact ty2 | exact ty3 | exact ty42 | exact ty46 | exact ty47 | kernel_rfl))); (· (rfl)); (· (decide)); (· (kernel_rfl)); (· ((with_reducible repeat' first | exact mem_h _ _ | apply mem_t); done)); (· (rfl)); (· ((first | rfl | (simp (disch := assumption) only [onesA_cons', onesA_nil, cells_int, cells_bool, cells_str, cells_float, cells_np, cells_nil, cells_nf, cells_ptr, cells_slice, cells_fn, cells_agg, cells_lagg, litCells_cons, litCells_nil, one_t, one_int, one_bool, one_str, one_nil, one_np, one_ptr, one_slice, Bool.and_true, Bool.and_self, id_eq]; done)))); (· ((first | omega | (simp; done) | (simp; omega)))); clear H; intro u h H)
    | ((with_reducible apply wo_step) <;> intro hg <;> (try simp only [Bool.not_eq_true', Bool.not_eq_false', beq_false, beq_true, Bool.not_not, Bool.not_eq_eq_eq_not, Bool.not_true, Bool.not_false, decide_eq_true_eq, decide_eq_false_iff_not, Bool.and_eq_true, not_true, not_false_eq_true] at hg) <;> (try subst hg) <;> (first | (exfalso; exact Bool.noConfusion hg) | skip))
    | ((first | with_reducible apply wv_ret | with_reducible apply wv_end); (· ((repeat' (first | with_reducible exact rs_nil | ((with_reducible apply rs_tmp); (· (simp (disch := (first | assumption | omega)) only [ev, T.get_put, Nat.reduceEqDiff, reduceIte, Option.some.injEq, dec_t, dec_f, Bool.not_true, Bool.not_false, v0, v1, v4, v5, v6, v7, v9, v10, v11, v12, v15, v19, v20, v21, v22, v32, v45, v55] <;> rfl))) | ((with_reducible apply rs_cell); (· (simp (disch := (first | assumption | omega)) only [ev, T.get_put, Nat.reduceEqDiff, reduceIte, Option.some.injEq, dec_t, dec_f, Bool.not_true, Bool.not_false, v0, v1, v4, v5, v6, v7, v9, v10, v11, v12, v15, v19, v20, v21, v22, v32, v45, v55] <;> rfl)); (· ((first | exact ty2 | exact ty3 | exact ty42 | exact ty46 | exact ty47 | kernel_rfl))); (· (rfl)); (· (exact H.ld1 (by (with_reducible repeat' first | exact mem_h _ _ | apply mem_t); done) rfl))) | ((with_reducible apply rs_celln); (· (simp (disch := (first | assumption | omega)) only [ev, T.get_put, Nat.reduceEqDiff, reduceIte, Option.some.injEq, dec_t, dec_f, Bool.not_true, Bool.not_false, v0, v1, v4, v5, v6, v7, v9, v10, v11, v12, v15, v19, v20, v21, v22, v32, v45, v55] <;> rfl)); (· ((first | exact ty2 | exact ty3 | exact ty42 | exact ty46 | exact ty47 | kernel_rfl))); (· (rfl)); (· (exact H.ldn (by (with_reducible repeat' first | exact mem_h _ _ | apply mem_t); done) rfl rfl))))); done)))
    | simp (disch := (first | assumption | omega)) only [oUn_not, beq_self_eq_true, eq_self, List.toList_toArray, opsA_cons, opsA_nil, wantedA, guardA, yieldA, stepA_t, stepA_f, callA, calleeA, targetA, runOp_c, runOp_n, opA, ev, evs, evo, consO, consOO, pickA, afterA_s, putA, T.get_put, Nat.reduceEqDiff, reduceIte, List.getElem?_toArray, List.getElem?_cons_zero, List.getElem?_cons_succ, oBuiltin, oBin, binA, binG, binL, aggO, litA, ltF_eq, eqF_eq, oIndexAddr, cond_true, cond_false, Bool.not_true, Bool.not_false, decide_true, decide_false, blt_eq, tt_beq, tf_beq, ft_beq, ff_beq, Bool.and_true, Bool.true_and, Option.some.injEq, I, Bo, oExtract, Bool.not_eq_true', fieldAddrA, oFieldAddr, fieldA, partA, List.length_cons, List.length_nil, Nat.reduceAdd, Nat.zero_add, Nat.add_zero, Nat.mul_one, Nat.reduceMul, Nat.reduceLT, ty2, ti2, ty3, ti3, ty42, ti42, ty46, ti46, ty47, ti47, ii_add, ii_sub, ii_mul, ii_lss, ii_gtr, ii_geq, ii_leq, ii_eql, ii_neq, ii_rem, ii_quo, iu_rem, iu_lss, iu_gtr, iu_eql, iu_neq, bi_min, bi_max, List.getElem_toArray, List.getElem_cons_zero, List.getElem_cons_succ, withH_s, eqA, eqD, eqOp, nilCheckA, oBuild, oBuildSlice, oMakeSlice, oSlice, evParts, consP, oFn, oConv, dec_t, dec_f, wrap_ok, beq_dec, Int.toNat_natCast, Int.reduceToNat, id_eq, List.take_succ_cons, List.take_zero, List.drop_succ_cons, List.drop_zero, putAt_z, putAt_s, over_nil, over_cons, litCells_cons, litCells_nil, cells_int, cells_bool, cells_str, cells_float, cells_np, cells_nil, cells_nf, cells_ptr, cells_slice, cells_fn, cells_agg, cells_lagg, List.cons_append, List.nil_append, Nat.zero_add, Nat.add_zero, Nat.mul_one, Nat.reduceMul, Nat.reduceAdd, v0, v1, v4, v5, v6, v7, v9, v10, v11, v12, v15, v19, v20, v21, v22, v32, v45, v55])

  all_goals first | (exfalso; omega) | exact ⟨rfl, H.toExt⟩
theorem y25c (h : Hp) (v : AV) (hv : IsL h v (List.replicate 4097 Z0)) : Wv (all9 25 [v, I 0] h) (fun r h' => r = .tup [nilS, I 3] ∧ Ext h h') := by
  rw [p9_f rfl rfl]
  exact k25 7 h v _ 0 hv (by rw [List.length_replicate]; omega)

end Go.Proofs.Ytalnccmejboibaa
