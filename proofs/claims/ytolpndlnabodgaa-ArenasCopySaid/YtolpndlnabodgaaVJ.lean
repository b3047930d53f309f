import Derived.Test.YtolpndlnabodgaaVI
import Derived.KernelRfl
namespace Go.Proofs.Ytolpndlnabodgaa
open Go Go.Proofs Go.RowKit Go.Proofs.Abs
set_option linter.unusedSimpArgs false
set_option linter.unusedVariables false
theorem opS_ok {K : Nat} {o1 o2 o3 : Int} {ls : List Ent} {fs : List Nat} {all : List Q2} (v : Iv K ls fs) (hK : K ≤ 1000) (ho3 : Inb o3) (ha : ∀ q ∈ all, R32 q) : Iv (K + 1) (opS o1 o2 o3 ls fs all).1 (opS o1 o2 o3 ls fs all).2.1 ∧ (∀ q ∈ (opS o1 o2 o3 ls fs all).2.2, R32 q) ∧ (opS o1 o2 o3 ls fs all).2.2.length ≤ all.length + 1 := by
  unfold opS
  dsimp only
  split
  · refine ⟨v.tk ho3, fun q hq => ?_, by simp⟩
    rcases List.mem_append.1 hq with h | h
    · exact ha q h
    · rw [List.mem_singleton] at h
      subst h
      obtain ⟨j, h1, h2, h3, _⟩ := tkH_rng v hK
      exact ⟨⟨by omega, by omega⟩, h3⟩
  · split
    · exact ⟨v.fr _ _, ha, Nat.le_succ _⟩
    · split
      · exact ⟨v.st _ _ ho3, ha, Nat.le_succ _⟩
      · split
        · exact ⟨v.ut _ _, ha, Nat.le_succ _⟩
        · exact ⟨v.uf _ _ ho3, ha, Nat.le_succ _⟩
theorem BZ_names {h : Hp} {Z : List As} {vL vF wL wF : AV} {ls ls2 : List Ent} {fs fs2 : List Nat} (hz : ∀ z, z ∈ BZ vL vF ls fs → z ∈ Z) (hn : ∀ m, (nmO wL = some m ∨ nmO wF = some m) → h.c ≤ m ∨ nmO vL = some m ∨ nmO vF = some m) : ∀ z, z ∈ BZ wL wF ls2 fs2 → ∀ n, n ∈ z.foot → h.c ≤ n ∨ ∃ y, y ∈ Z ∧ n ∈ y.foot := by
  have key : ∀ n, (nmO wL = some n ∨ nmO wF = some n) → h.c ≤ n ∨ ∃ y, y ∈ Z ∧ n ∈ y.foot := fun n h1 => by
    rcases hn n h1 with h2 | h2 | h2
    · exact .inl h2
    · exact .inr ⟨isr c3e 3 vL ls, hz _ (.tail _ (.tail _ (.head _))), nmO_mem.2 h2⟩
    · exact .inr ⟨isl vF ((fi fs).map I), hz _ (.head _), nmO_mem.2 h2⟩
  intro z h1 n h2
  rcases List.mem_cons.1 h1 with rfl | h1
  · exact key n (.inr (nmO_mem.1 h2))
  · rcases List.mem_cons.1 h1 with rfl | h1
    · exact key n (.inr (nmO_mem.1 h2))
    · rw [List.mem_singleton] at h1
      subst h1
      exact key n (.inl (nmO_mem.1 h2))
theorem n10 {M : List Nat} {h0 h : Hp} {L2 Z : List As} {q0 p : Nat} {s vL vF u : AV} {ls : List Ent} {fs : List Nat} {all : List Q2} {K : Nat} (H : Hs M h0 h (BL q0 p s vL vF u ls fs all ++ L2) Z) (hz : ∀ z, z ∈ BZ vL vF ls fs → z ∈ Z) (hK1 : K + 1 ≤ 1000) (v : Iv K ls fs) {o1 o2 o3 : Int} (ho1 : Inb o1) (ho2 : Inb o2) (ho3 : Inb o3) (ha : ∀ q ∈ all, R32 q) (hal : all.length ≤ 1000) :
    Wv (all8 10 [.ptr q0 0, .agg [U8 o1, U8 o2, U8 o3]] h) (fun r h' => r = I 1 ∧ ∃ s' wL wF u' A B C, opS o1 o2 o3 ls fs all = (A, B, C) ∧ Iv (K + 1) A B ∧ (∀ q ∈ C, R32 q) ∧ C.length ≤ all.length + 1 ∧ Hs M h0 h' (BL q0 p s' wL wF u' A B C ++ L2) (BZ wL wF A B ++ Z)) := by
  refine all8_of rfl ((k10 4 h q0 p s vL vF u ls fs all K hK1 v o1 o2 o3 ho1 ho2 ho3 ha hal (H.begin hz)).mono (fun r h' ⟨s', wL, wF, u', e, G, hn⟩ => ⟨e, ?_⟩))
  obtain ⟨w1, w2, w3⟩ := opS_ok (o1 := o1) (o2 := o2) v (by omega) ho3 ha
  have H2 := H.call G (BZ_names hz hn)
  exact ⟨s', wL, wF, u', _, _, _, rfl, w1, w2, w3, H2⟩
theorem n11 (h : Hp) (q0 p : Nat) (s vL vF u : AV) (ls : List Ent) (fs : List Nat) (K : Nat) (hK : K ≤ 1000) (v : Iv K ls fs) (a : Arn h p s (nxt fs) (cnt ls) (rws ls fs)) (bq : Blks id h q0 [.ptr p 0, vL, vF, u]) (pL : IsR c3e 3 h vL ls) (pF : Lc false h vF ((fi fs).map I)) : Wv (all8 11 [.ptr q0 0] h) (fun r h' => r = I 1 ∧ Ext h h') := all8_of rfl (k11 5 h q0 p s vL vF u ls fs K hK v.v a bq pL pF)


set_option maxRecDepth 100000 in
set_option maxHeartbeats 16000000 in
theorem play_law (b : Hp) (v : AV) (st : List Q3) (hP : IsR c3 3 b v st) (hq : ∀ q ∈ st, Inb q.1 ∧ Inb q.2.1 ∧ Inb q.2.2) : Wv (funA ctx all8 5000 [v] b (ctx.funs.get 3)) (fun v _ => v = Bo true) := by
  have H := (Hs.start b).z0 (z := isr c3 3 v st) hP
  have one := hP.one.1
  have cel := hP.one.2
  refine wv_fun fn3 rfl ?_
  have a0 : (enterEnv [v] Try.f3.ntmps).get 0 = some (v) := enter_get1 _ _ _
  generalize enterEnv [v] Try.f3.ntmps = e at a0 ⊢
  unfold Try.f3
  dsimp only
  ((with_reducible apply wc_c (fun i => Nat.beq i 0 || Nat.beq i 2 || Nat.beq i 3 || Nat.beq i 4 || Nat.beq i 15 || Nat.beq i 29)); intro e he; have w9 := he 0 rfl; (try simp only [a0] at w9); have v0 := w9; clear w9; have w9 := he 2 rfl; (try simp only [T.get_put, Nat.reduceEqDiff, reduceIte] at w9); have v2 := w9; clear w9; have w9 := he 3 rfl; (try simp only [T.get_put, Nat.reduceEqDiff, reduceIte] at w9); have v3 := w9; clear w9; have w9 := he 4 rfl; (try simp only [T.get_put, Nat.reduceEqDiff, reduceIte] at w9); have v4 := w9; clear w9; have w9 := he 15 rfl; (try simp only [T.get_put, Nat.reduceEqDiff, reduceIte] at w9); have v15 := w9; clear w9; have w9 := he 29 rfl; (try simp only [T.get_put, Nat.reduceEqDiff, reduceIte] at w9); have v29 := w9; clear w9; clear he)
  repeat' (first
    | with_reducible apply wc_seq
    | ((with_reducible apply wc_region); (· (rfl)))
    | with_reducible apply wo_some
    | with_reducible apply wc_block
    | (simp only [cells_agg] at H)
    | ((with_reducible apply nx_c (fun i => Nat.beq i 0 || Nat.beq i 2 || Nat.beq i 3 || Nat.beq i 4 || Nat.beq i 15 || Nat.beq i 29)); intro e he; have w0 := he 0 rfl; have w2 := he 2 rfl; have w3 := he 3 rfl; have w4 := he 4 rfl; have w15 := he 15 rfl; have w29 := he 29 rfl; (try simp only [T.get_put, Nat.reduceEqDiff, reduceIte, v0, v2, v3, v4, v15, v29] at w0 w2 w3 w4 w15 w29); clear he v0 v2 v3 v4 v15 v29; have v0 := w0; have v2 := w2; have v3 := w3; have v4 := w4; have v15 := w15; have v29 := w29; clear w0 w2 w3 w4 w15 w29)
    | ((with_reducible apply wo_eq); (· (simp (disch := (first | assumption | omega)) only [eq_self, opsA_cons, opsA_nil, wantedA, stepA_t, callA, calleeA, targetA, runOp_c, runOp_n, opA, ev, evs, afterA_s, putA, T.get_put, Nat.reduceEqDiff, reduceIte, ti32, ti32, List.getElem_toArray, List.getElem_cons_zero, withH_s, oBuild, evParts, consP, putAt_z, over_nil, over_cons, litCells_cons, litCells_nil, cells_ptr, cells_lagg]; exact rfl)))
    | (((with_reducible apply wo_call); (· ((with_reducible apply j9))); rintro _ h ⟨p, rfl, fp, ar, hx⟩; replace H := H.fresh (Ext.refl _) (x := owr 42 2 nilS []) (OwR.nil _ _ _) (fun n hn => by cases hn); replace H := H.fresh (Ext.refl _) (x := owr 77 4 nilS []) (OwR.nil _ _ _) (fun n hn => by cases hn); replace H := H.fresh hx (x := blk id p [nilS, I 0, I 0]) ar.b (fun n hn => by rw [List.mem_singleton.1 hn]; exact fp); replace H := H.freshz (Ext.refl _) (x := isr c3e 3 nilS []) (.inl ⟨rfl, rfl⟩) (fun n hn => by cases hn); replace H := H.freshz (Ext.refl _) (x := lc false nilS []) (Lc.nil _ _) (fun n hn => by cases hn); replace H := H.freshz (Ext.refl _) (x := isl nilS []) (.inl ⟨rfl, rfl⟩) (fun n hn => by cases hn); clear hx ar))
    | ((with_reducible apply wo_box H); clear H; intro n h H0n H)
    | ((with_reducible apply wo_build); (· ((first | exact ty32 | exact ty32))); (· (rfl)); (· ((first | rfl | (simp only [fillA_nil, fillA_cons, repl_z, repl_s, cells_int, cells_bool, cells_str, cells_float, cells_np, cells_nil, cells_nf, cells_ptr, cells_slice, cells_fn, cells_agg, cells_lagg, v0, v2, v3, v4, v15, v29, conv40, conv3, conv2, uu_eql, uu_neq, uu_gtr, uu_lss, uu_add, uu_sub, wrap_u32k, rws_len, one, cel]; rfl)))))
    | simp (disch := (first | assumption | omega)) only [Bo])

  obtain ⟨q0, H, v3⟩ : ∃ q0, Hs [] b h [blk id q0 [.ptr p 0, nilS, nilS, nilS], blk id p [nilS, I 0, I 0], owr 77 4 nilS [], owr 42 2 nilS []] [isl nilS [], lc false nilS [], isr c3e 3 nilS [], isr c3 3 v st] ∧ e.get 3 = some (.ptr q0 0) := ⟨_, H, v3⟩
  refine wc_loop (fun m e h' => ∃ (k : Nat) (s vL vF u : AV) (ls : List Ent) (fs : List Nat) (all : List Q2), m = 60 - k ∧ k ≤ 60 ∧ k ≤ st.length ∧ Iv k ls fs ∧ (∀ q ∈ all, R32 q) ∧ all.length ≤ k ∧ e.get 0 = some v ∧ e.get 3 = some (.ptr q0 0) ∧ e.get 4 = some (I (k : Int)) ∧ Hs [] b h' [blk id q0 [.ptr p 0, vL, vF, u], blk id p [s, I (nxt fs), I (cnt ls)], owr 77 4 s (rws ls fs), owr 42 2 u (all.map c2h)] [isl vF ((fi fs).map I), lc false vF ((fi fs).map I), isr c3e 3 vL ls, isr c3 3 v st]) 60 (by omega) ⟨0, nilS, nilS, nilS, nilS, [], [], [], rfl, by omega, Nat.zero_le _, Iv.nil, fun q hq => (by cases hq), Nat.le_refl _, v0, v3, v4, H⟩ ?_
  clear H v0 v3 v4
  rintro m e h ⟨k, s, vL, vF, u, ls, fs, all, rfl, hk, hks, hv, ha, hal, v0, v3, v4, H⟩
  by_cases hlt : k < st.length ∧ k < 60
  · obtain ⟨hlt, hlt2⟩ := hlt
    obtain ⟨⟨q1, q2, q3⟩, hqk⟩ := at_some hlt
    obtain ⟨qq1, qq2, qq3⟩ := hq _ (List.mem_of_getElem? hqk)
    simp only at qq1 qq2 qq3
    ((with_reducible apply wc_c (fun i => Nat.beq i 0 || Nat.beq i 2 || Nat.beq i 3 || Nat.beq i 4 || Nat.beq i 15 || Nat.beq i 29)); intro e he; have w9 := he 0 rfl; (try simp only [v0] at w9); replace v0 := w9; clear w9; have w9 := he 2 rfl; (try simp only [T.get_put, Nat.reduceEqDiff, reduceIte] at w9); have v2 := w9; clear w9; have w9 := he 3 rfl; (try simp only [v3] at w9); replace v3 := w9; clear w9; have w9 := he 4 rfl; (try simp only [v4] at w9); replace v4 := w9; clear w9; have w9 := he 15 rfl; (try simp only [T.get_put, Nat.reduceEqDiff, reduceIte] at w9); have v15 := w9; clear w9; have w9 := he 29 rfl; (try simp only [T.get_put, Nat.reduceEqDiff, reduceIte] at w9); have v29 := w9; clear w9; clear he)
    repeat' (first
      | with_reducible apply wc_seq
      | ((with_reducible apply wc_region); (· (rfl)))
      | with_reducible apply wo_some
      | ((with_reducible apply wc_cond); (· (simp (disch := (first | assumption | omega)) only [ev, Option.some.injEq, v15, v29] <;> rfl)); all_goals (intro hg; (try (try simp only [Bool.not_eq_true'] at hg)); first | (exfalso; exact Bool.noConfusion hg) | (exfalso; exact hg) | skip))
      | with_reducible apply wc_block
      | with_reducible apply wc_skip
      | with_reducible apply bx_n
      | ((with_reducible apply nx_c (fun i => Nat.beq i 0 || Nat.beq i 2 || Nat.beq i 3 || Nat.beq i 4 || Nat.beq i 15 || Nat.beq i 29)); intro e he; have w0 := he 0 rfl; have w2 := he 2 rfl; have w3 := he 3 rfl; have w4 := he 4 rfl; have w15 := he 15 rfl; have w29 := he 29 rfl; (try simp only [T.get_put, Nat.reduceEqDiff, reduceIte, v0, v2, v3, v4, v15, v29] at w0 w2 w3 w4 w15 w29); clear he v0 v2 v3 v4 v15 v29; have v0 := w0; have v2 := w2; have v3 := w3; have v4 := w4; have v15 := w15; have v29 := w29; clear w0 w2 w3 w4 w15 w29)
      | ((with_reducible apply wo_eq); (· (simp (disch := (first | assumption | omega)) only [beq_self_eq_true, eq_self, opsA_cons, opsA_nil, wantedA, guardA, yieldA, stepA_t, callA, calleeA, targetA, runOp_c, runOp_n, opA, ev, evs, consO, consOO, pickA, afterA_s, putA, T.get_put, Nat.reduceEqDiff, reduceIte, List.getElem?_cons_zero, List.getElem?_cons_succ, oBuiltin, oBin, binA, binG, binL, aggO, litA, oIndexAddr, I, Bo, ty35, ti35, ty35, ti35, ii_add, ii_lss, ii_eql, withH_s, dec_t, dec_f, wrap_ok, v0, v3, v4, c3]; exact rfl)))
      | (((with_reducible apply wo_call); (· ((with_reducible apply n10 (p := p) (s := s) (vL := vL) (vF := vF) (u := u) (ls := ls) (fs := fs) (all := all) (L2 := []) (K := k)); (· (exact H)); (· ((unfold BZ; (repeat' (first | exact znil | (apply zcons; (· ((with_reducible repeat' first | exact mem_h _ _ | apply mem_t); done))))); done))); (· (omega)); (· (assumption)); (· (assumption)); (· (assumption)); (· (assumption)); (· (assumption)); (· (omega)))); rintro _ h ⟨rfl, s, vL, vF, u, A, B, C, hop, v', ha', hal', H⟩; simp only [BL, BZ, List.cons_append, List.nil_append] at H))
      | (((with_reducible apply wo_call); (· ((with_reducible apply n11 (vL := vL) (vF := vF) (u := u) (s := s) (K := k + 1)); (· (omega)); (· (exact v')); (· (exact H.arn (by first | exact Pick2.h1 _ (.here _ _) | exact Pick2.there _ (Pick2.h1 _ (.here _ _)) | exact Pick2.there _ (Pick2.there _ (Pick2.h1 _ (.here _ _))) | exact Pick2.there _ (Pick2.there _ (Pick2.there _ (Pick2.h1 _ (.here _ _)))) | exact Pick2.there _ (Pick2.there _ (Pick2.there _ (Pick2.there _ (Pick2.h1 _ (.here _ _))))) | exact Pick2.there _ (Pick2.there _ (Pick2.there _ (Pick2.there _ (Pick2.there _ (Pick2.h1 _ (.here _ _)))))) | exact Pick2.there _ (Pick2.there _ (Pick2.there _ (Pick2.there _ (Pick2.there _ (Pick2.there _ (Pick2.h1 _ (.here _ _))))))) | exact Pick2.there _ (Pick2.there _ (Pick2.there _ (Pick2.there _ (Pick2.there _ (Pick2.there _ (Pick2.there _ (Pick2.h1 _ (.here _ _)))))))) | exact Pick2.there _ (Pick2.there _ (Pick2.there _ (Pick2.there _ (Pick2.there _ (Pick2.there _ (Pick2.there _ (Pick2.there _ (Pick2.h1 _ (.here _ _))))))))) | exact Pick2.there _ (Pick2.there _ (Pick2.there _ (Pick2.there _ (Pick2.there _ (Pick2.there _ (Pick2.there _ (Pick2.there _ (Pick2.there _ (Pick2.h1 _ (.here _ _)))))))))) | exact Pick2.there _ (Pick2.there _ (Pick2.there _ (Pick2.there _ (Pick2.there _ (Pick2.there _ (Pick2.there _ (Pick2.there _ (Pick2.there _ (Pick2.there _ (Pick2.h1 _ (.here _ _))))))))))) | exact Pick2.there _ (Pick2.there _ (Pick2.there _ (Pick2.there _ (Pick2.there _ (Pick2.there _ (Pick2.there _ (Pick2.there _ (Pick2.there _ (Pick2.there _ (Pick2.there _ (Pick2.h1 _ (.here _ _)))))))))))) ))); (· (refine H.p (a := blk id q0 [.ptr p 0, vL, vF, u]) ?_; (with_reducible repeat' first | exact mem_h _ _ | apply mem_t); done)); (· (refine H.pz (a := isr c3e 3 vL _) ?_; (with_reducible repeat' first | exact mem_h _ _ | apply mem_t); done)); (· (refine H.pz (a := lc false vF ((fi _).map I)) ?_; (with_reducible repeat' first | exact mem_h _ _ | apply mem_t); done)))); rintro _ h ⟨rfl, hx⟩; replace H := H.ext hx; clear hx))
      | ((with_reducible apply wo_lenr H); (· ((with_reducible repeat' first | exact mem_h _ _ | apply mem_t); done)); (· ((first | exact ty22 | exact ty22))); (· (rfl)))
      | ((with_reducible apply wo_iar H); (· ((with_reducible repeat' first | exact mem_h _ _ | apply mem_t); done)); (· ((first | exact ty22 | exact ty22))); (· (rfl)); (· ((first | exact ty35 | exact ty35))); (· (rfl)); (· (rfl)); (· (rfl)); (· (assumption)); intro n o H)
      | ((with_reducible apply wo_loadcn H); (· ((with_reducible repeat' first | exact mem_h _ _ | apply mem_t); done)); (· (rfl)); (· (rfl)))
      | simp (disch := (first | assumption | omega)) only [eq_self, Option.some.injEq, I, v0, v3, v4])

    all_goals first | (exfalso; omega) | (refine ⟨60 - (k + 1), by omega, k + 1, s, vL, vF, u, A, B, C, rfl, by omega, by omega, v', ha', by omega, by trivial, by trivial, by rw [show ((k + 1 : Nat) : Int) = (k : Int) + 1 from by omega], ?_⟩; exact H.sub (by (with_reducible repeat' first | exact List.Sublist.refl _ | apply List.Sublist.cons_cons | apply List.Sublist.cons); done) (by (repeat' (first | exact znil | (apply zcons; (· ((with_reducible repeat' first | exact mem_h _ _ | apply mem_t); done))))); done))
  · have hlt' : ¬ (k < st.length ∧ k < 60) := hlt
    ((with_reducible apply wc_c (fun i => Nat.beq i 0 || Nat.beq i 2 || Nat.beq i 3 || Nat.beq i 4 || Nat.beq i 15 || Nat.beq i 29)); intro e he; have w9 := he 0 rfl; (try simp only [v0] at w9); replace v0 := w9; clear w9; have w9 := he 2 rfl; (try simp only [T.get_put, Nat.reduceEqDiff, reduceIte] at w9); have v2 := w9; clear w9; have w9 := he 3 rfl; (try simp only [v3] at w9); replace v3 := w9; clear w9; have w9 := he 4 rfl; (try simp only [v4] at w9); replace v4 := w9; clear w9; have w9 := he 15 rfl; (try simp only [T.get_put, Nat.reduceEqDiff, reduceIte] at w9); have v15 := w9; clear w9; have w9 := he 29 rfl; (try simp only [T.get_put, Nat.reduceEqDiff, reduceIte] at w9); have v29 := w9; clear w9; clear he)
    repeat' (first
      | with_reducible apply wc_seq
      | ((with_reducible apply wc_region); (· (rfl)))
      | with_reducible apply wo_some
      | ((with_reducible apply wc_cond); (· (simp (disch := (first | assumption | omega)) only [ev, Option.some.injEq, v15] <;> rfl)); all_goals (intro hg; (try (try simp only [Bool.not_eq_true'] at hg)); first | (exfalso; exact Bool.noConfusion hg) | (exfalso; exact hg) | skip))
      | with_reducible apply wc_exit
      | with_reducible apply wc_ret
      | with_reducible apply nx_e
      | ((with_reducible apply bx_hit); (· (rfl)))
      | ((with_reducible apply nx_c (fun i => Nat.beq i 0 || Nat.beq i 2 || Nat.beq i 3 || Nat.beq i 4 || Nat.beq i 15 || Nat.beq i 29)); intro e he; have w0 := he 0 rfl; have w2 := he 2 rfl; have w3 := he 3 rfl; have w4 := he 4 rfl; have w15 := he 15 rfl; have w29 := he 29 rfl; (try simp only [T.get_put, Nat.reduceEqDiff, reduceIte, v0, v2, v3, v4, v15, v29] at w0 w2 w3 w4 w15 w29); clear he v0 v2 v3 v4 v15 v29; have v0 := w0; have v2 := w2; have v3 := w3; have v4 := w4; have v15 := w15; have v29 := w29; clear w0 w2 w3 w4 w15 w29)
      | ((with_reducible apply wo_eq); (· (simp (disch := (first | assumption | omega)) only [beq_self_eq_true, eq_self, opsA_cons, opsA_nil, wantedA, guardA, yieldA, stepA_t, stepA_f, callA, calleeA, targetA, runOp_c, runOp_n, opA, ev, evs, consO, consOO, pickA, afterA_s, putA, T.get_put, Nat.reduceEqDiff, reduceIte, List.getElem?_cons_zero, List.getElem?_cons_succ, oBuiltin, oBin, binA, binG, binL, aggO, litA, ft_beq, I, Bo, ii_lss, ii_eql, withH_s, dec_t, dec_f, v0, v3, v4]; exact rfl)))
      | (((with_reducible apply wo_call); (· ((with_reducible apply n11 (vL := vL) (vF := vF) (u := u) (s := s) (K := k)); (· (omega)); (· (exact hv)); (· (exact H.arn (by first | exact Pick2.h1 _ (.here _ _) | exact Pick2.there _ (Pick2.h1 _ (.here _ _)) | exact Pick2.there _ (Pick2.there _ (Pick2.h1 _ (.here _ _))) | exact Pick2.there _ (Pick2.there _ (Pick2.there _ (Pick2.h1 _ (.here _ _)))) | exact Pick2.there _ (Pick2.there _ (Pick2.there _ (Pick2.there _ (Pick2.h1 _ (.here _ _))))) | exact Pick2.there _ (Pick2.there _ (Pick2.there _ (Pick2.there _ (Pick2.there _ (Pick2.h1 _ (.here _ _)))))) | exact Pick2.there _ (Pick2.there _ (Pick2.there _ (Pick2.there _ (Pick2.there _ (Pick2.there _ (Pick2.h1 _ (.here _ _))))))) | exact Pick2.there _ (Pick2.there _ (Pick2.there _ (Pick2.there _ (Pick2.there _ (Pick2.there _ (Pick2.there _ (Pick2.h1 _ (.here _ _)))))))) | exact Pick2.there _ (Pick2.there _ (Pick2.there _ (Pick2.there _ (Pick2.there _ (Pick2.there _ (Pick2.there _ (Pick2.there _ (Pick2.h1 _ (.here _ _))))))))) | exact Pick2.there _ (Pick2.there _ (Pick2.there _ (Pick2.there _ (Pick2.there _ (Pick2.there _ (Pick2.there _ (Pick2.there _ (Pick2.there _ (Pick2.h1 _ (.here _ _)))))))))) | exact Pick2.there _ (Pick2.there _ (Pick2.there _ (Pick2.there _ (Pick2.there _ (Pick2.there _ (Pick2.there _ (Pick2.there _ (Pick2.there _ (Pick2.there _ (Pick2.h1 _ (.here _ _))))))))))) | exact Pick2.there _ (Pick2.there _ (Pick2.there _ (Pick2.there _ (Pick2.there _ (Pick2.there _ (Pick2.there _ (Pick2.there _ (Pick2.there _ (Pick2.there _ (Pick2.there _ (Pick2.h1 _ (.here _ _)))))))))))) ))); (· (refine H.p (a := blk id q0 [.ptr p 0, vL, vF, u]) ?_; (with_reducible repeat' first | exact mem_h _ _ | apply mem_t); done)); (· (refine H.pz (a := isr c3e 3 vL _) ?_; (with_reducible repeat' first | exact mem_h _ _ | apply mem_t); done)); (· (refine H.pz (a := lc false vF ((fi _).map I)) ?_; (with_reducible repeat' first | exact mem_h _ _ | apply mem_t); done)))); rintro _ h ⟨rfl, hx⟩; replace H := H.ext hx; clear hx))
      | (((with_reducible apply wo_call); (· (exact w12 _)); rintro _ h ⟨rfl, rfl⟩))
      | ((with_reducible apply wo_lenr H); (· ((with_reducible repeat' first | exact mem_h _ _ | apply mem_t); done)); (· ((first | exact ty22 | exact ty22))); (· (rfl)))
      | ((with_reducible apply wo_step) <;> intro hg <;> (try simp only [beq_true, decide_eq_true_eq, decide_eq_false_iff_not] at hg) <;> (try subst hg) <;> (first | (exfalso; exact Bool.noConfusion hg) | skip))
      | ((first | with_reducible apply wv_ret | with_reducible apply wv_end); (· ((repeat' (first | with_reducible exact rs_nil | ((with_reducible apply rs_tmp); (· (simp (disch := (first | assumption | omega)) only [Option.some.injEq, v2] <;> rfl))) | ((with_reducible apply rs_cell); (· (simp (disch := (first | assumption | omega)) only [ev, T.get_put, Nat.reduceEqDiff, reduceIte, Option.some.injEq, dec_t, dec_f, Bool.not_true, Bool.not_false, v0, v2, v3, v4, v15, v29, conv40, conv3, conv2, uu_eql, uu_neq, uu_gtr, uu_lss, uu_add, uu_sub, wrap_u32k, rws_len, one, cel] <;> rfl)); (· (kernel_rfl)); (· (rfl)); (· (exact H.ld1 (by (with_reducible repeat' first | exact mem_h _ _ | apply mem_t); done) rfl))) | ((with_reducible apply rs_celln); (· (simp (disch := (first | assumption | omega)) only [ev, T.get_put, Nat.reduceEqDiff, reduceIte, Option.some.injEq, dec_t, dec_f, Bool.not_true, Bool.not_false, v0, v2, v3, v4, v15, v29, conv40, conv3, conv2, uu_eql, uu_neq, uu_gtr, uu_lss, uu_add, uu_sub, wrap_u32k, rws_len, one, cel] <;> rfl)); (· (kernel_rfl)); (· (rfl)); (· (exact H.ldn (by (with_reducible repeat' first | exact mem_h _ _ | apply mem_t); done) rfl rfl))))); done))))

    all_goals first | (exfalso; omega) | rfl


end Go.Proofs.Ytolpndlnabodgaa
