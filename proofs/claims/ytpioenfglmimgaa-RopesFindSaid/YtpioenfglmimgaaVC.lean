import Derived.Test.YtpioenfglmimgaaVB
import Derived.KernelRfl
namespace Go.Proofs.Ytpioenfglmimgaa
open Go Go.Proofs Go.RowKit Go.Proofs.Abs
set_option linter.unusedSimpArgs false
set_option linter.unusedVariables false
/-- two trees that come back -/
def RT2 (b h' : Hp) (x : AV) (src : List Nat) (P : GT → GT → Prop) : Prop := ∃ g1 g2 : GT, x = .tup [g1.val, g2.val] ∧ g1.ok h' ∧ g2.ok h' ∧ Ext b h' ∧ (∀ n, n ∈ g1.names → n ∈ src ∨ b.c ≤ n) ∧ (∀ n, n ∈ g2.names → n ∈ src ∨ b.c ≤ n) ∧ P g1 g2
theorem take_l {l r : List Int} {s : Int} {at' : Nat} (h : at' ≤ l.length) : (l ++ s :: r).take at' = l.take at' := List.take_append_of_le_length h
theorem take_r {l r : List Int} {s : Int} {k : Nat} : (l ++ s :: r).take (l.length + 1 + k) = l ++ s :: r.take k := by
  rw [List.take_append, List.take_of_length_le (by omega), show l.length + 1 + k - l.length = k + 1 from by omega, List.take_succ_cons]
theorem good_take {l : List Int} (h : GT.Good l) (k : Nat) : GT.Good (l.take k) := GT.Good.left (b := l.drop k) (by rw [List.take_append_drop]; exact h)
theorem good_drop {l : List Int} (h : GT.Good l) (k : Nat) : GT.Good (l.drop k) := GT.Good.right (a := l.take k) (by rw [List.take_append_drop]; exact h)
theorem pow_half {h m : Nat} (h1 : m < 2 ^ (h + 1)) : m / 2 < 2 ^ h := by rw [Nat.pow_succ] at h1; omega
theorem hb_le {ha hb a c : Nat} (h1 : 0 < ha → 2 ^ (ha - 1) ≤ a) (h2 : a ≤ c + 1) (h3 : c < 2 ^ hb) : ha ≤ hb + 1 := by
  by_cases h4 : ha = 0
  · omega
  · have h5 : 2 ^ (ha - 1) ≤ 2 ^ hb := by have := h1 (by omega); omega
    have := (Nat.pow_le_pow_iff_right (show 1 < 2 by decide)).1 h5
    omega
theorem ia22 {nm off n j c z : Nat} {r : Bool} (hj : j < n) : indexAddrA ctx 22 (.slice nm off n r c z) (.lit (.int .i64 (j : Int))) = some (.ptr nm (off + j)) := ia_own ty22 rfl ty2 rfl hj
theorem lst_half (xs : List Int) {x : Int} (hx : xs[xs.length / 2]? = some x) : xs = xs.take (xs.length / 2) ++ x :: xs.drop (xs.length / 2 + 1) := by
  have e := List.take_append_drop (xs.length / 2) xs
  rw [drop_at hx] at e
  exact e.symm
theorem at_map {xs : List Int} {k : Nat} {x : Int} (h : xs[k]? = some x) : (xs.map I)[k]? = some (I x) := by rw [List.getElem?_map, h]; rfl
set_option maxHeartbeats 4000000 in
theorem k38n {n : Nat} (hn : 1 ≤ n) {b : Hp} {w : AV} {xs : List Int} {c : Bool} (hv : Lc c b w (xs.map I)) (h0 : xs.length = 0) : Wv (runA ctx 5000 n 38 [w] b) (fun x h' => RT b h' x [] (fun g => g.lst = xs ∧ g.bal ∧ xs.length < 2 ^ g.hgt ∧ (0 < g.hgt → 2 ^ (g.hgt - 1) ≤ xs.length))) := by
  obtain ⟨k, rfl⟩ : ∃ k, n = k + 1 := ⟨n - 1, by omega⟩
  have H := ((Hs.start b).z0 (z := lc c w (xs.map I)) hv).z0 (z := isl w (xs.map I)) hv.isL
  refine wv_run fn38 rfl ?_
  have a0 : (enterEnv [w] Try.f38.ntmps).get 0 = some (w) := enter_get1 _ _ _
  generalize enterEnv [w] Try.f38.ntmps = e at a0 ⊢
  unfold Try.f38
  dsimp only
  ((with_reducible apply wc_c (fun i => Nat.beq i 0 || Nat.beq i 2 || Nat.beq i 3 || Nat.beq i 6)); intro e he; have w9 := he 0 rfl; (try simp only [a0] at w9); have v0 := w9; clear w9; have w9 := he 2 rfl; (try simp only [T.get_put, Nat.reduceEqDiff, reduceIte] at w9); have v2 := w9; clear w9; have w9 := he 3 rfl; (try simp only [T.get_put, Nat.reduceEqDiff, reduceIte] at w9); have v3 := w9; clear w9; have w9 := he 6 rfl; (try simp only [T.get_put, Nat.reduceEqDiff, reduceIte] at w9); have v6 := w9; clear w9; clear he)
  repeat' (first
    | with_reducible apply wc_seq
    | ((with_reducible apply wc_region); (· (rfl)))
    | with_reducible apply wo_some
    | ((with_reducible apply wc_cond); (· (simp (disch := (first | assumption | omega)) only [ev, Option.some.injEq, v6] <;> rfl)); all_goals (intro hg; (try (try simp only [Bool.not_eq_true'] at hg)); first | (exfalso; exact Bool.noConfusion hg) | (exfalso; exact hg) | skip))
    | with_reducible apply wc_ret
    | with_reducible apply nx_r
    | ((with_reducible apply nx_c (fun i => Nat.beq i 0 || Nat.beq i 2 || Nat.beq i 3 || Nat.beq i 6)); intro e he; have w0 := he 0 rfl; have w2 := he 2 rfl; have w3 := he 3 rfl; have w6 := he 6 rfl; (try simp only [T.get_put, Nat.reduceEqDiff, reduceIte, v0, v2, v3, v6] at w0 w2 w3 w6); clear he v0 v2 v3 v6; have v0 := w0; have v2 := w2; have v3 := w3; have v6 := w6; clear w0 w2 w3 w6)
    | ((with_reducible apply wo_len H); (· ((with_reducible repeat' first | exact mem_h _ _ | apply mem_t); done)); (· (exact ty22)); (· (rfl)))
    | ((first | with_reducible apply wv_ret | with_reducible apply wv_end); (· ((repeat' (first | with_reducible exact rs_nil | ((with_reducible apply rs_tmp); (· (simp (disch := (first | assumption | omega)) only [Option.some.injEq, v2] <;> rfl))) | ((with_reducible apply rs_cell); (· (simp (disch := (first | assumption | omega)) only [ev, T.get_put, Nat.reduceEqDiff, reduceIte, Option.some.injEq, dec_t, dec_f, Bool.not_true, Bool.not_false, v0, v2, v3, v6, List.length_map, h0] <;> rfl)); (· (kernel_rfl)); (· (rfl)); (· (exact H.ld1 (by (with_reducible repeat' first | exact mem_h _ _ | apply mem_t); done) rfl))) | ((with_reducible apply rs_celln); (· (simp (disch := (first | assumption | omega)) only [ev, T.get_put, Nat.reduceEqDiff, reduceIte, Option.some.injEq, dec_t, dec_f, Bool.not_true, Bool.not_false, v0, v2, v3, v6, List.length_map, h0] <;> rfl)); (· (kernel_rfl)); (· (rfl)); (· (exact H.ldn (by (with_reducible repeat' first | exact mem_h _ _ | apply mem_t); done) rfl rfl))))); done)))
    | simp (disch := (first | assumption | omega)) only [eq_self, opsA_cons, opsA_nil, wantedA, stepA_t, callA, calleeA, runOp_n, opA, ev, evs, consO, consOO, afterA_s, putA, T.get_put, Nat.reduceEqDiff, reduceIte, oBuiltin, oBin, binA, binG, binL, aggO, litA, I, Bo, ii_eql, withH_s, dec_t, v0, List.length_map, h0])

  all_goals (first | exact ⟨.nil, rfl, trivial, H.toExt, fun n hn => (List.not_mem_nil hn).elim, (List.length_eq_zero_iff.1 h0).symm, trivial, by first | exact Nat.one_pos | (rw [h0]; exact Nat.one_pos), fun h => absurd h (Nat.lt_irrefl 0)⟩ | trace_state)
set_option maxHeartbeats 4000000 in
theorem k38a (m : Nat) (ih : ∀ (n : Nat) (b : Hp) (w : AV) (xs : List Int) (c : Bool), xs.length < 2 ^ m → m + 5 ≤ n → Lc c b w (xs.map I) → GT.Good xs → Wv (runA ctx 5000 n 38 [w] b) (fun x h' => RT b h' x [] (fun g => g.lst = xs ∧ g.bal ∧ xs.length < 2 ^ g.hgt ∧ (0 < g.hgt → 2 ^ (g.hgt - 1) ≤ xs.length)))) {n : Nat} (hn : m + 6 ≤ n) {b : Hp} {nm off cap z : Nat} {rest : Bool} {xs : List Int} {c : Bool} (hx : xs.length < 2 ^ (m + 1)) (hv : Lc c b (.slice nm off (xs.map I).length rest cap z) (xs.map I)) (rd : ∀ k x, (xs.map I)[k]? = some x → ∀ h', Ext b h' → Abs.load h' nm (off + k) 1 = some [x]) (gd : GT.Good xs) (h0 : 0 < xs.length) : Wv (runA ctx 5000 n 38 [(.slice nm off (xs.map I).length rest cap z)] b) (fun x h' => RT b h' x [] (fun g => g.lst = xs ∧ g.bal ∧ xs.length < 2 ^ g.hgt ∧ (0 < g.hgt → 2 ^ (g.hgt - 1) ≤ xs.length))) := by
  obtain ⟨k, rfl⟩ : ∃ k, n = k + 1 := ⟨n - 1, by omega⟩
  have hln := gd.2.2
  have hq : ((xs.length : Nat) : Int).tdiv 2 = ((xs.length / 2 : Nat) : Int) := by rw [Int.tdiv_eq_ediv_of_nonneg (by omega)]; rfl
  obtain ⟨y, hy⟩ := at_some (show xs.length / 2 < xs.length by omega)
  have hsp := lst_half xs hy
  have r9 : ∀ h', Ext b h' → oLoad h' (some ti2) (some (.ptr nm (off + xs.length / 2))) = some (I y, h') := fun h' e => oload1 rfl (rd _ _ (at_map hy) h' e)
  simp only [ti2] at r9
  have hs1 : ((xs.length / 2 : Nat) : Int) + 1 = ((xs.length / 2 + 1 : Nat) : Int) := by omega
  have i9 := ia22 (nm := nm) (off := off) (n := xs.length) (j := xs.length / 2) (c := cap) (z := z) (r := rest) (by omega)
  have g1' : GT.Good (xs.take (xs.length / 2)) := good_take gd _
  have g2' : GT.Good (xs.drop (xs.length / 2 + 1)) := good_drop gd _
  have gd' : GT.Good (xs.take (xs.length / 2) ++ y :: xs.drop (xs.length / 2 + 1)) := by rw [← hsp]; exact gd
  have H := ((Hs.start b).z0 (z := lc c (.slice nm off (xs.map I).length rest cap z) (xs.map I)) hv).z0 (z := isl (.slice nm off (xs.map I).length rest cap z) (xs.map I)) hv.isL
  rw [List.length_map] at *
  have Q := r9 b H.toExt
  refine wv_run fn38 rfl ?_
  have a0 : (enterEnv [(.slice nm off xs.length rest cap z)] Try.f38.ntmps).get 0 = some ((.slice nm off xs.length rest cap z)) := enter_get1 _ _ _
  generalize enterEnv [(.slice nm off xs.length rest cap z)] Try.f38.ntmps = e at a0 ⊢
  unfold Try.f38
  dsimp only
  ((with_reducible apply wc_c (fun i => Nat.beq i 0 || Nat.beq i 2 || Nat.beq i 3 || Nat.beq i 6)); intro e he; have w9 := he 0 rfl; (try simp only [a0] at w9); have v0 := w9; clear w9; have w9 := he 2 rfl; (try simp only [T.get_put, Nat.reduceEqDiff, reduceIte] at w9); have v2 := w9; clear w9; have w9 := he 3 rfl; (try simp only [T.get_put, Nat.reduceEqDiff, reduceIte] at w9); have v3 := w9; clear w9; have w9 := he 6 rfl; (try simp only [T.get_put, Nat.reduceEqDiff, reduceIte] at w9); have v6 := w9; clear w9; clear he)
  repeat' (first
    | with_reducible apply wc_seq
    | ((with_reducible apply wc_region); (· (rfl)))
    | with_reducible apply wo_some
    | ((with_reducible apply wc_cond); (· (simp (disch := (first | assumption | omega)) only [ev, Option.some.injEq, v6] <;> rfl)); all_goals (intro hg; (try (try simp only [Bool.not_eq_true'] at hg)); first | (exfalso; exact Bool.noConfusion hg) | (exfalso; exact hg) | skip))
    | with_reducible apply wc_skip
    | with_reducible apply wc_ret
    | ((with_reducible apply nx_c (fun i => Nat.beq i 0 || Nat.beq i 2 || Nat.beq i 3 || Nat.beq i 6)); intro e he; have w0 := he 0 rfl; have w2 := he 2 rfl; have w3 := he 3 rfl; have w6 := he 6 rfl; (try simp only [T.get_put, Nat.reduceEqDiff, reduceIte, v0, v2, v3, v6] at w0 w2 w3 w6); clear he v0 v2 v3 v6; have v0 := w0; have v2 := w2; have v3 := w3; have v6 := w6; clear w0 w2 w3 w6)
    | (((with_reducible apply wo_call); (· ((with_reducible apply (ih k _ _ (xs.take (xs.length / 2)))); (· ((rw [List.length_take]; have := pow_half hx; omega))); (· (omega)); (· (exact H.pz (a := lc _ _ _) (by (with_reducible repeat' first | exact mem_h _ _ | apply mem_t); done))); (· (exact g1')))); rintro _ h ⟨g1, rfl, pg1, xg1, ng1, e1, c1, u1, v1'⟩; have fc := H.fr.c; replace H := H.tnew xg1 pg1 ng1 (fun n hn => (List.not_mem_nil hn).elim); replace ng1 := fun n hn => (ng1 n hn).imp id (Nat.le_trans fc); clear xg1 fc; replace Q := And.intro Q (r9 _ H.toExt)))
    | (((with_reducible apply wo_call); (· ((with_reducible apply (ih k _ _ (xs.drop (xs.length / 2 + 1)))); (· ((rw [List.length_drop]; have := pow_half hx; omega))); (· (omega)); (· (exact H.pz (a := lc _ _ _) (by (with_reducible repeat' first | exact mem_h _ _ | apply mem_t); done))); (· (exact g2')))); rintro _ h ⟨g2, rfl, pg2, xg2, ng2, e2, c2, u2, v2'⟩; have fc := H.fr.c; replace H := H.tnew xg2 pg2 ng2 (fun n hn => (List.not_mem_nil hn).elim); replace ng2 := fun n hn => (ng2 n hn).imp id (Nat.le_trans fc); clear xg2 fc; replace Q := And.intro Q (r9 _ H.toExt)))
    | (((with_reducible apply wo_call); (· ((with_reducible apply c53); (· (omega)); (· (exact H.tok (by (with_reducible repeat' first | exact mem_h _ _ | apply mem_t); done))); (· (exact H.tok (by (with_reducible repeat' first | exact mem_h _ _ | apply mem_t); done))); (· ((rw [e1, e2]; exact gd'))))); rintro _ h ⟨_, rfl, pg3, xg3, ng3, m3, rfl⟩; have fc := H.fr.c; replace H := H.tnew xg3 pg3 ng3 (src2t (by (with_reducible repeat' first | exact mem_h _ _ | apply mem_t); done) (by (with_reducible repeat' first | exact mem_h _ _ | apply mem_t); done)); replace ng3 := fun n hn => (ng3 n hn).imp id (Nat.le_trans fc); clear xg3 fc; replace Q := And.intro Q (r9 _ H.toExt)))
    | (((with_reducible apply wc_dynW (id := 4) (p := (7, 3)) (ps := [(7, 13)])); (· (kernel_rfl)); skip))
    | (with_reducible apply wt_cons)
    | (((with_reducible apply wt_nil); refine And.intro ?_ (Exists.intro _ (Exists.intro _ (And.intro rfl ?_))); (· (simp (disch := (first | assumption | omega)) only [eq_self, wantedA, opA, ev, T.get_put, Nat.reduceEqDiff, reduceIte, List.getElem?_cons_zero, List.getElem?_cons_succ, Bool.and_true, I, ty2, ti2, Q, checksD_nil, checksD_cons, checkD, checkG, sameR, av_int]; done))))
    | (((with_reducible apply wo_slb H); (· ((with_reducible repeat' first | exact mem_h _ _ | apply mem_t); done)); (· (exact ty22)); (· (rfl)); (· (exact ty2)); (· (rfl)); (· (rfl)); (· (simp only [List.length_map]; omega)); clear H; intro w9 r8 hn9 H; simp only [← List.map_take] at H r8))
    | (((with_reducible apply wo_sla H); (· ((with_reducible repeat' first | exact mem_h _ _ | apply mem_t); done)); (· (exact ty22)); (· (rfl)); (· (exact ty2)); (· (rfl)); (· (rfl)); (· (simp only [List.length_map]; omega)); clear H; intro w9 r8 hn9 H; simp only [← List.map_drop] at H r8))
    | ((with_reducible apply wo_len H); (· ((with_reducible repeat' first | exact mem_h _ _ | apply mem_t); done)); (· (exact ty22)); (· (rfl)))
    | ((first | with_reducible apply wv_ret | with_reducible apply wv_end); (· ((repeat' (first | with_reducible exact rs_nil | ((with_reducible apply rs_tmp); (· (simp (disch := (first | assumption | omega)) only [Option.some.injEq, v2] <;> rfl))) | ((with_reducible apply rs_cell); (· (simp (disch := (first | assumption | omega)) only [ev, T.get_put, Nat.reduceEqDiff, reduceIte, Option.some.injEq, dec_t, dec_f, Bool.not_true, Bool.not_false, v0, v2, v3, v6, List.length_map, hq, hs1, i9, Q] <;> rfl)); (· (kernel_rfl)); (· (rfl)); (· (exact H.ld1 (by (with_reducible repeat' first | exact mem_h _ _ | apply mem_t); done) rfl))) | ((with_reducible apply rs_celln); (· (simp (disch := (first | assumption | omega)) only [ev, T.get_put, Nat.reduceEqDiff, reduceIte, Option.some.injEq, dec_t, dec_f, Bool.not_true, Bool.not_false, v0, v2, v3, v6, List.length_map, hq, hs1, i9, Q] <;> rfl)); (· (kernel_rfl)); (· (rfl)); (· (exact H.ldn (by (with_reducible repeat' first | exact mem_h _ _ | apply mem_t); done) rfl rfl))))); done)))
    | simp (disch := (first | assumption | omega)) only [eq_self, opsA_cons, opsA_nil, wantedA, stepA_t, callA, calleeA, targetA, runOp_c, runOp_n, opA, ev, evs, evo, consO, consOO, afterA_s, putA, T.get_put, Nat.reduceEqDiff, reduceIte, List.getElem?_cons_succ, oBuiltin, oBin, binA, binG, binL, aggO, litA, oIndexAddr, I, Bo, List.length_cons, List.length_nil, Nat.reduceAdd, Nat.zero_add, ty2, ti2, ii_add, ii_eql, ii_quo, withH_s, oSlice, dec_f, wrap_ok, Nat.zero_add, Nat.reduceAdd, v0, v3, List.length_map, hq, hs1, i9, Q])

  all_goals (
    rw [List.length_take] at u1 v1'
    rw [List.length_drop] at u2 v2'
    have q1 := hb_le (ha := g1.hgt) (hb := g2.hgt) v1' (by omega) u2
    have q2 := hb_le (ha := g2.hgt) (hb := g1.hgt) v2' (by omega) u1
    refine ⟨_, rfl, H.tok (.head _), H.toExt, by (intro n hn; simp only [GT.names, List.mem_append, List.mem_cons] at *; grind), by rw [GT.lst, e1, e2]; exact hsp.symm, ⟨c1, c2, q1, q2⟩, ?_, fun _ => ?_⟩
    · rw [GT.hgt_nd, Nat.pow_succ]
      have := Nat.pow_le_pow_right (show 0 < 2 by decide) (Nat.le_max_left g1.hgt g2.hgt)
      omega
    · rw [GT.hgt_nd, Nat.add_sub_cancel]
      by_cases hz : g1.hgt ≤ g2.hgt
      · rw [Nat.max_eq_right hz]
        by_cases hz0 : g2.hgt = 0
        · rw [hz0]; omega
        · have := v2' (by omega)
          obtain ⟨e, he⟩ : ∃ e, g2.hgt = e + 1 := ⟨g2.hgt - 1, by omega⟩
          rw [he] at this ⊢
          rw [Nat.add_sub_cancel] at this
          rw [Nat.pow_succ]
          omega
      · rw [Nat.max_eq_left (by omega)]
        have := v1' (by omega)
        obtain ⟨e, he⟩ : ∃ e, g1.hgt = e + 1 := ⟨g1.hgt - 1, by omega⟩
        rw [he] at this ⊢
        rw [Nat.add_sub_cancel] at this
        rw [Nat.pow_succ]
        omega)
theorem c38 : ∀ (m n : Nat) (b : Hp) (w : AV) (xs : List Int) (c : Bool), xs.length < 2 ^ m → m + 5 ≤ n → Lc c b w (xs.map I) → GT.Good xs → Wv (runA ctx 5000 n 38 [w] b) (fun x h' => RT b h' x [] (fun g => g.lst = xs ∧ g.bal ∧ xs.length < 2 ^ g.hgt ∧ (0 < g.hgt → 2 ^ (g.hgt - 1) ≤ xs.length))) := by
  intro m
  induction m with
  | zero => exact fun n b w xs c hx hn hv gd => k38n (by omega) hv (by rw [Nat.pow_zero] at hx; omega)
  | succ m ih =>
    intro n b w xs c hx hn hv gd
    by_cases h0 : xs.length = 0
    · exact k38n (by omega) hv h0
    · rcases hv.isL with ⟨rfl, h1⟩ | ⟨nm, off, rest, cap, z, rfl, h2, h3⟩
      · exact absurd (by rw [← List.length_map (f := I), h1]; rfl) h0
      · exact k38a m ih (by omega) hx hv (fun k x hk h' e => (load_ext e h2 _ _).trans (h3 k x hk)) gd (by omega)


end Go.Proofs.Ytpioenfglmimgaa
