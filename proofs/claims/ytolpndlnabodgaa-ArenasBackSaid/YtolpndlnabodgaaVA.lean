import Derived.Test.YtolpndlnabodgaaCtx
import Derived.Test.YtolpndlnabodgaaO6
import Derived.KernelRfl
namespace Go.Proofs.Ytolpndlnabodgaa
open Go Go.Proofs Go.RowKit Go.Proofs.Abs
set_option linter.unusedSimpArgs false
set_option linter.unusedVariables false
open Go.Proofs.Abs
theorem fn4 : ctx.funs.get 4 = some Try.f4 := by kernel_rfl
theorem fn9 : ctx.funs.get 9 = some Try.f9 := by kernel_rfl
theorem fn10 : ctx.funs.get 10 = some Try.f10 := by kernel_rfl
theorem fn11 : ctx.funs.get 11 = some Try.f11 := by kernel_rfl
theorem fn13 : ctx.funs.get 13 = some Try.f13 := by kernel_rfl
theorem fn14 : ctx.funs.get 14 = some Try.f14 := by kernel_rfl
theorem fn15 : ctx.funs.get 15 = some Try.f15 := by kernel_rfl
theorem fn16 : ctx.funs.get 16 = some Try.f16 := by kernel_rfl
theorem fn17 : ctx.funs.get 17 = some Try.f17 := by kernel_rfl
theorem fn18 : ctx.funs.get 18 = some Try.f18 := by kernel_rfl
theorem fn20 : ctx.funs.get 20 = some Try.f20 := by kernel_rfl
theorem fn21 : ctx.funs.get 21 = some Try.f21 := by kernel_rfl
theorem fn22 : ctx.funs.get 22 = some Try.f22 := by kernel_rfl
theorem fn23 : ctx.funs.get 23 = some Try.f23 := by kernel_rfl
theorem fn24 : ctx.funs.get 24 = some Try.f24 := by kernel_rfl
theorem fn25 : ctx.funs.get 25 = some Try.f25 := by kernel_rfl
theorem fn26 : ctx.funs.get 26 = some Try.f26 := by kernel_rfl
theorem fn27 : ctx.funs.get 27 = some Try.f27 := by kernel_rfl
theorem fn28 : ctx.funs.get 28 = some Try.f28 := by kernel_rfl
theorem fn29 : ctx.funs.get 29 = some Try.f29 := by kernel_rfl
theorem fn30 : ctx.funs.get 30 = some Try.f30 := by kernel_rfl
theorem fn31 : ctx.funs.get 31 = some Try.f31 := by kernel_rfl
theorem fn32 : ctx.funs.get 32 = some Try.f32 := by kernel_rfl
theorem fn41 : ctx.funs.get 41 = some Try.f41 := by kernel_rfl
theorem fn42 : ctx.funs.get 42 = some Try.f42 := by kernel_rfl
theorem fn44 : ctx.funs.get 44 = some Try.f44 := by kernel_rfl
theorem fn45 : ctx.funs.get 45 = some Try.f45 := by kernel_rfl
theorem ty2 : ctx.tys.get 2 = some ti2 := by kernel_rfl
theorem ty3 : ctx.tys.get 3 = some ti3 := by kernel_rfl
theorem ty4 : ctx.tys.get 4 = some ti4 := by kernel_rfl
theorem ty5 : ctx.tys.get 5 = some ti5 := by kernel_rfl
theorem ty22 : ctx.tys.get 22 = some ti22 := by kernel_rfl
theorem ty24 : ctx.tys.get 24 = some ti24 := by kernel_rfl
theorem ty26 : ctx.tys.get 26 = some ti26 := by kernel_rfl
theorem ty27 : ctx.tys.get 27 = some ti27 := by kernel_rfl
theorem ty29 : ctx.tys.get 29 = some ti29 := by kernel_rfl
theorem ty30 : ctx.tys.get 30 = some ti30 := by kernel_rfl
theorem ty32 : ctx.tys.get 32 = some ti32 := by kernel_rfl
theorem ty35 : ctx.tys.get 35 = some ti35 := by kernel_rfl
theorem ty40 : ctx.tys.get 40 = some ti40 := by kernel_rfl
theorem ty42 : ctx.tys.get 42 = some ti42 := by kernel_rfl
theorem ty46 : ctx.tys.get 46 = some ti46 := by kernel_rfl
theorem ty58 : ctx.tys.get 58 = some ti58 := by kernel_rfl
theorem ty60 : ctx.tys.get 60 = some ti60 := by kernel_rfl
theorem ty77 : ctx.tys.get 77 = some ti77 := by kernel_rfl

def In (a : Int) : Prop := -9223372036854775808 ≤ a ∧ a ≤ 9223372036854775807
abbrev U32 (x : Int) : AV := .lit (.int .u32 x)
abbrev U8 (x : Int) : AV := .lit (.int .u8 x)
theorem conv40 {k : IntKind} {n : Int} (h1 : 0 ≤ n) (h2 : n < 4294967296) : convA ctx 40 (.lit (.int k n)) = some (U32 n) := by
  unfold convA
  rw [ty40]
  show some (AV.lit (.int .u32 (IntKind.wrap .u32 n))) = _
  rw [wrap_u32k h1 h2]
theorem conv3 {k : IntKind} {n : Int} (h1 : 0 ≤ n) (h2 : n < 4294967296) : convA ctx 3 (.lit (.int k n)) = some (I n) := by
  unfold convA
  rw [ty3]
  show some (AV.lit (.int .i64 (IntKind.wrap .i64 n))) = _
  rw [wrap_id (by omega) (by omega)]
theorem conv2 {k : IntKind} {n : Int} (h1 : 0 ≤ n) (h2 : n < 4294967296) : convA ctx 2 (.lit (.int k n)) = some (I n) := by
  unfold convA
  rw [ty2]
  show some (AV.lit (.int .i64 (IntKind.wrap .i64 n))) = _
  rw [wrap_id (by omega) (by omega)]
theorem nat_of {a : Int} (h : 0 ≤ a) : ∃ n : Nat, a = Int.ofNat n := ⟨a.toNat, by simp; omega⟩
theorem at_some {α : Type} {xs : List α} {k : Nat} (h : k < xs.length) : ∃ x, xs[k]? = some x := ⟨_, List.getElem?_eq_getElem h⟩
/-- a slot: its generation, whether it is used, its value -/
abbrev Ent := Int × Bool × Int
def nxt : List Nat → Int
  | [] => 0
  | f :: _ => (f : Int) + 1
def nx : List Nat → Nat → Int
  | [], _ => 0
  | f :: r, i => if f = i then nxt r else nx r i
/-- a slot as the program has it -/
def row (fs : List Nat) (i : Nat) (p : Ent) : List AV := if p.2.1 then [U8 1, U32 p.1, I 0, I p.2.2] else [U8 2, U32 p.1, I (nx fs i), I 0]
def rws (ls : List Ent) (fs : List Nat) : List (List AV) := ls.mapIdx (row fs)
theorem rws_len (ls : List Ent) (fs : List Nat) : (rws ls fs).length = ls.length := by simp [rws]
theorem rws_get (ls : List Ent) (fs : List Nat) (i : Nat) : (rws ls fs)[i]? = ls[i]?.map (row fs i) := by simp [rws]
theorem rws_at {ls : List Ent} {fs : List Nat} {i : Nat} {p : Ent} (h : ls[i]? = some p) : (rws ls fs)[i]? = some (row fs i p) := by rw [rws_get, h]; rfl
theorem rws_used {ls : List Ent} {fs : List Nat} {i : Nat} {g x : Int} (h : ls[i]? = some (g, true, x)) : (rws ls fs)[i]? = some [U8 1, U32 g, I 0, I x] := rws_at h
theorem rws_free {ls : List Ent} {fs : List Nat} {i : Nat} {g x : Int} (h : ls[i]? = some (g, false, x)) : (rws ls fs)[i]? = some [U8 2, U32 g, I (nx fs i), I 0] := rws_at h
theorem rws_set {ls : List Ent} {fs fs' : List Nat} {i : Nat} {r : List AV} {q : Ent} (hr : r = row fs' i q) (hj : ∀ j p, j ≠ i → ls[j]? = some p → p.2.1 = false → nx fs j = nx fs' j) : (rws ls fs).set i r = rws (ls.set i q) fs' := by
  subst hr
  apply List.ext_getElem?
  intro j
  rw [List.getElem?_set, rws_get, rws_get, rws_len, List.getElem?_set]
  by_cases h : i = j
  · subst h
    rw [if_pos rfl, if_pos rfl]
    by_cases h2 : i < ls.length
    · rw [if_pos h2, if_pos h2]; rfl
    · rw [if_neg h2, if_neg h2]; rfl
  · rw [if_neg h, if_neg h]
    cases hp : ls[j]? with
    | none => rfl
    | some p =>
      obtain ⟨g, u, x⟩ := p
      show some (row fs j (g, u, x)) = some (row fs' j (g, u, x))
      cases u with
      | true => rfl
      | false =>
        have := hj j _ (fun e => h e.symm) hp rfl
        show some [U8 2, U32 g, I (nx fs j), I 0] = some [U8 2, U32 g, I (nx fs' j), I 0]
        rw [this]
theorem rws_snoc (ls : List Ent) (fs : List Nat) (q : Ent) : rws (ls ++ [q]) fs = rws ls fs ++ [row fs ls.length q] := by
  unfold rws
  rw [List.mapIdx_append]
  simp
theorem rws_take (ls : List Ent) (fs : List Nat) (k : Nat) : rws (ls.take k) fs = (rws ls fs).take k := by
  apply List.ext_getElem?
  intro j
  rw [rws_get, List.getElem?_take, List.getElem?_take, rws_get]
  split <;> rfl
/-- how many are used -/
def cnt : List Ent → Int
  | [] => 0
  | p :: l => (if p.2.1 then 1 else 0) + cnt l
theorem cnt_bound : ∀ ls : List Ent, 0 ≤ cnt ls ∧ cnt ls ≤ ls.length := by
  intro ls
  induction ls with
  | nil => exact ⟨Int.le_refl _, Int.le_refl _⟩
  | cons p l ih =>
    unfold cnt
    rw [List.length_cons]
    split <;> omega
theorem cnt_app (l m : List Ent) : cnt (l ++ m) = cnt l + cnt m := by
  induction l with
  | nil => simp [cnt]
  | cons p l ih => simp only [List.cons_append, cnt, ih]; omega
theorem cnt_set : ∀ {ls : List Ent} {i : Nat} {p q : Ent}, ls[i]? = some p → cnt (ls.set i q) = cnt ls - (if p.2.1 then 1 else 0) + (if q.2.1 then 1 else 0) := by
  intro ls
  induction ls with
  | nil => intro i p q h; cases h
  | cons a l ih =>
    intro i p q h
    cases i with
    | zero => cases h; simp only [List.set_cons_zero, cnt]; omega
    | succ i => simp only [List.set_cons_succ, cnt]; rw [ih (by simpa using h)]; omega
theorem cnt_take_last {ls : List Ent} {i : Nat} {p : Ent} (h : ls[i]? = some p) (hl : i + 1 = ls.length) : cnt (ls.take i) = cnt ls - (if p.2.1 then 1 else 0) := by
  have e : ls = ls.take i ++ [p] := by
    apply List.ext_getElem?
    intro j
    rw [List.getElem?_append, List.length_take, Nat.min_eq_left (by omega), List.getElem?_take]
    by_cases h1 : j < i
    · rw [if_pos h1, if_pos h1]
    · rw [if_neg h1]
      by_cases h2 : j = i
      · subst h2; rw [h, Nat.sub_self]; rfl
      · rw [List.getElem?_eq_none (by omega), List.getElem?_eq_none (by simp; omega)]
  have := congrArg cnt e
  rw [cnt_app] at this
  simp only [cnt] at this
  omega
/-- what is always so -/
structure Inv (K : Nat) (ls : List Ent) (fs : List Nat) : Prop where
  n : ls.length ≤ K
  gen : ∀ (i : Nat) (p : Ent), ls[i]? = some p → 1 ≤ p.1 ∧ p.1 ≤ (K : Int) + 1
  nd : fs.Nodup
  fsI : ∀ i, i ∈ fs ↔ ∃ g x, ls[i]? = some (g, false, x)
  zero : ∀ (i : Nat) (g x : Int), ls[i]? = some (g, false, x) → x = 0
theorem Inv.nil : Inv 0 [] [] := ⟨Nat.le_refl _, fun i p h => (by cases h), .nil, fun i => ⟨fun h => (by cases h), fun ⟨g, x, h⟩ => (by cases h)⟩, fun i g x h => (by cases h)⟩
theorem Inv.mono {K K' : Nat} {ls : List Ent} {fs : List Nat} (v : Inv K ls fs) (h : K ≤ K') : Inv K' ls fs := ⟨Nat.le_trans v.n h, fun i p hp => by have := v.gen i p hp; omega, v.nd, v.fsI, v.zero⟩
theorem nx_ne {fs : List Nat} {i j : Nat} (h : j ≠ i) : nx (i :: fs) j = nx fs j := by
  show (if i = j then nxt fs else nx fs j) = _
  rw [if_neg (fun e => h e.symm)]
theorem get_set {ls : List Ent} {i j : Nat} {q : Ent} (hi : i < ls.length) : (ls.set i q)[j]? = if i = j then some q else ls[j]? := by
  rw [List.getElem?_set]
  by_cases h : i = j
  · rw [if_pos h, if_pos h, if_pos (h ▸ hi)]
  · rw [if_neg h, if_neg h]
/-- the parts of an arena: its struct and its slots -/
structure Arn (h : Hp) (p : Nat) (s : AV) (fr lv : Int) (R : List (List AV)) : Prop where
  b : Blks id h p [s, I fr, I lv]
  o : OwR 77 4 h s R
  ne : nmO s ≠ some p
/-- what a function changes in it -/
structure Mut (b h' : Hp) (p : Nat) (s s' : AV) (fr lv : Int) (R : List (List AV)) : Prop where
  a : Arn h' p s' fr lv R
  fr : Fr (fun n => n = p ∨ nmO s = some n) b h'
  nm : ∀ n, nmO s' = some n → nmO s = some n ∨ b.c ≤ n
section
variable {M : List Nat} {h0 h h' : Hp} {L Z : List As}
theorem _root_.Go.Proofs.Abs.Hs.arn (H : Hs M h0 h L Z) {p : Nat} {s : AV} {fr lv : Int} {R : List (List AV)} {F : As → As → List As} (q : Pick2 L (blk id p [s, I fr, I lv]) (owr 77 4 s R) F) : Arn h p s fr lv R :=
  ⟨H.p q.mem1, H.p q.mem2, fun e => q.apart H.sep p (List.mem_singleton.2 rfl) (nmO_mem.2 e)⟩
theorem _root_.Go.Proofs.Abs.Hs.mut (H : Hs M h0 h L Z) {p : Nat} {s s' : AV} {fr lv fr' lv' : Int} {R R' : List (List AV)} {F : As → As → List As} (q : Pick2 L (blk id p [s, I fr, I lv]) (owr 77 4 s R) F) (m : Mut h h' p s s' fr' lv' R') : Hs M h0 h' (F (blk id p [s', I fr', I lv']) (owr 77 4 s' R')) Z := by
  refine H.upd2 q ⟨m.fr.c, m.fr.ro, fun n h1 h2 => m.fr.m n h1 (fun h3 => h2 ?_)⟩ m.a.b m.a.o (fun n hn => .inl hn) (fun n hn => ?_) (fun n hn h2 => ?_)
  · rcases h3 with h3 | h3
    · exact .inl (List.mem_singleton.2 h3)
    · exact .inr (nmO_mem.2 h3)
  · rcases m.nm n (nmO_mem.1 hn) with h3 | h3
    · exact .inr (.inl (nmO_mem.2 h3))
    · exact .inr (.inr h3)
  · have e := List.mem_singleton.1 hn
    subst e
    exact m.a.ne (nmO_mem.1 h2)
theorem Arn.start {b : Hp} {p : Nat} {s : AV} {fr lv : Int} {R : List (List AV)} (a : Arn b p s fr lv R) : Hs (p :: (nmO s).toList) b b [blk id p [s, I fr, I lv], owr 77 4 s R] [] := by
  refine ⟨Fr.refl _ _, fun x hx => ?_, ?_, fun z hz => (by cases hz)⟩
  · rcases List.mem_cons.1 hx with rfl | hx
    · exact ⟨a.b, fun n hn => .inr (by rw [List.mem_singleton.1 hn]; exact .head _)⟩
    · rw [List.mem_singleton] at hx
      subst hx
      exact ⟨a.o, fun n hn => .inr (.tail _ hn)⟩
  · refine List.pairwise_cons.2 ⟨fun x hx n hn h2 => ?_, List.pairwise_singleton _ _⟩
    rw [List.mem_singleton] at hx
    subst hx
    rw [List.mem_singleton.1 hn] at h2
    exact a.ne (nmO_mem.1 h2)
theorem _root_.Go.Proofs.Abs.Hs.toMut {b : Hp} {p : Nat} {s s' : AV} {fr lv : Int} {R : List (List AV)} {F : As → As → List As} (H : Hs (p :: (nmO s).toList) b h L Z) (q : Pick2 L (blk id p [s', I fr, I lv]) (owr 77 4 s' R) F) : Mut b h p s s' fr lv R := by
  refine ⟨H.arn q, ⟨H.fr.c, H.fr.ro, fun n h1 h2 => H.fr.m n h1 (fun h3 => h2 ?_)⟩, fun n hn => ?_⟩
  · rcases List.mem_cons.1 h3 with h3 | h3
    · exact .inl h3
    · exact .inr (nmO_mem.1 h3)
  · rcases (H.own _ q.mem2).2 n (nmO_mem.2 hn) with h3 | h3
    · exact .inr h3
    · rcases List.mem_cons.1 h3 with h3 | h3
      · subst h3
        exact absurd (nmO_mem.2 hn) (q.apart H.sep n (List.mem_singleton.2 rfl))
      · exact .inl (nmO_mem.1 h3)
theorem Arn.reads {b : Hp} {p : Nat} {s : AV} {fr lv : Int} {R : List (List AV)} (a : Arn b p s fr lv R) : Hs [] b b [] [owr 77 4 s R, blk id p [s, I fr, I lv]] := ((Hs.start b).z0 (z := blk id p [s, I fr, I lv]) a.b).z0 (z := owr 77 4 s R) a.o
end


set_option maxHeartbeats 4000000 in
theorem k44 (d : Nat) (b : Hp) (p : Nat) (s : AV) (fr lv : Int) (R : List (List AV)) (i : Nat) (g : Int) (st nx' vx : AV) (a : Arn b p s fr lv R) (hr : R[i]? = some [st, U32 g, nx', vx]) (hi : i < 4294967296) : Wv (runA ctx 5000 (d + 1) 44 [.ptr p 0, I (i : Int)] b) (fun r h' => r = .agg [U32 (i : Int), U32 g] ∧ Ext b h') := by
  have hil := (List.getElem?_eq_some_iff.1 hr).1
  have H := a.reads
  refine wv_run fn44 rfl ?_
  have a0 : (enterEnv [.ptr p 0, I (i : Int)] Try.f44.ntmps).get 0 = some (.ptr p 0) := enter_get1 _ _ _
  have a1 : (enterEnv [.ptr p 0, I (i : Int)] Try.f44.ntmps).get 1 = some (I (i : Int)) := enter_get2 _ _ _ _
  generalize enterEnv [.ptr p 0, I (i : Int)] Try.f44.ntmps = e at a0 a1 ⊢
  unfold Try.f44
  dsimp only
  ((with_reducible apply wc_c (fun i => Nat.beq i 0 || Nat.beq i 1 || Nat.beq i 4)); intro e he; have w9 := he 0 rfl; (try simp only [a0] at w9); have v0 := w9; clear w9; have w9 := he 1 rfl; (try simp only [a1] at w9); have v1 := w9; clear w9; have w9 := he 4 rfl; (try simp only [T.get_put, Nat.reduceEqDiff, reduceIte] at w9); have v4 := w9; clear w9; clear he)
  repeat' (first
    | with_reducible apply wc_seq
    | ((with_reducible apply wc_region); (· (rfl)))
    | with_reducible apply wo_some
    | with_reducible apply wc_ret
    | (simp only [patch, List.take_zero, List.drop_succ_cons, List.drop_nil, List.nil_append, List.append_nil, List.length_cons, List.length_nil, Nat.zero_add, Nat.reduceAdd, cells_agg, cells_lagg, litCells_cons, litCells_nil] at H)
    | ((with_reducible apply nx_c (fun i => Nat.beq i 0 || Nat.beq i 1 || Nat.beq i 4)); intro e he; have w0 := he 0 rfl; have w1 := he 1 rfl; have w4 := he 4 rfl; (try simp only [T.get_put, Nat.reduceEqDiff, reduceIte, v0, v1, v4] at w0 w1 w4); clear he v0 v1 v4; have v0 := w0; have v1 := w1; have v4 := w4; clear w0 w1 w4)
    | ((with_reducible apply wo_eq); (· (simp (disch := (first | assumption | omega)) only [eq_self, opsA_cons, opsA_nil, wantedA, stepA_t, callA, runOp_n, opA, ev, afterA_s, putA, T.get_put, Nat.reduceEqDiff, reduceIte, List.getElem?_toArray, List.getElem?_cons_zero, List.getElem?_cons_succ, oIndexAddr, cond_true, decide_true, blt_eq, I, fieldAddrA, oFieldAddr, Nat.add_zero, Nat.reduceLT, ty3, ti3, ty40, ti40, ty42, ti42, ty58, ti58, ty60, ti60, ty77, ti77, ty3, ti3, ty40, ti40, ty42, ti42, ty60, ti60, ty77, ti77, ty58, ti58, List.getElem_toArray, List.getElem_cons_zero, List.getElem_cons_succ, withH_s, nilCheckA, oBuild, evParts, consP, oConv, id_eq, putAt_z, putAt_s, over_nil, over_cons, litCells_cons, litCells_nil, cells_int, cells_lagg, Nat.add_zero, v0, v1, v4, conv40]; exact rfl)))
    | (((with_reducible apply wo_riaZ H); (· ((first | exact ty58 | exact ty58))); (· (rfl)); (· ((first | exact ty77 | exact ty77))); (· ((with_reducible repeat' first | exact mem_h _ _ | apply mem_t); done)); (· (rfl)); (· ((first | rfl | assumption | omega))); (· ((first | assumption | omega))); intro w9 hw9))
    | (((with_reducible apply wo_rldZ H); (· (assumption)); (· ((with_reducible repeat' first | exact mem_h _ _ | apply mem_t); done)); (· (rfl)); (· (assumption)); (· (rfl)); (· (rfl))))
    | ((with_reducible apply wo_alloc H); (· (rfl)); clear H; intro n h H0n H)
    | ((with_reducible apply wo_load1z H); (· ((with_reducible repeat' first | exact mem_h _ _ | apply mem_t); done)); (· (rfl)); (· ((first | rfl | assumption))))
    | ((with_reducible apply wo_storen H); (· ((with_reducible repeat' first | exact Pick.here _ _ _ | apply Pick.there); done)); (· ((first | rfl | assumption | exact cells_one (H.pz (by (with_reducible repeat' first | exact mem_h _ _ | apply mem_t); done))))); (· ((first | rfl | (simp (disch := assumption) only [onesA_cons', onesA_nil, cells_int, cells_bool, cells_str, cells_float, cells_np, cells_nil, cells_nf, cells_ptr, cells_slice, cells_fn, cells_agg, cells_lagg, litCells_cons, litCells_nil, one_t, one_int, one_bool, one_str, one_nil, one_np, one_ptr, one_slice, Bool.and_true, Bool.and_self, id_eq]; done)))); (· (rfl)); (· ((first | exact Nat.le_of_ble_eq_true rfl | omega | (simp only [List.length_set, List.length_replicate, List.length_map, List.length_cons, List.length_nil]; omega) | (simp; done) | (simp; omega)))); clear H; intro h H)
    | ((with_reducible apply wo_build); (· ((first | exact ty42 | exact ty42))); (· (rfl)); (· ((first | rfl | (simp only [fillA_nil, fillA_cons, repl_z, repl_s, cells_int, cells_bool, cells_str, cells_float, cells_np, cells_nil, cells_nf, cells_ptr, cells_slice, cells_fn, cells_agg, cells_lagg, v0, v1, v4, conv40, conv3, conv2, uu_eql, uu_neq, uu_gtr, uu_lss, uu_add, uu_sub, wrap_u32k, rws_len]; rfl)))))
    | ((first | with_reducible apply wv_ret | with_reducible apply wv_end); (· ((repeat' (first | with_reducible exact rs_nil | ((with_reducible apply rs_tmp); (· (simp (disch := (first | assumption | omega)) only [ev, T.get_put, Nat.reduceEqDiff, reduceIte, Option.some.injEq, dec_t, dec_f, Bool.not_true, Bool.not_false, v0, v1, v4, conv40, conv3, conv2, uu_eql, uu_neq, uu_gtr, uu_lss, uu_add, uu_sub, wrap_u32k, rws_len] <;> rfl))) | ((with_reducible apply rs_cell); (· (simp (disch := (first | assumption | omega)) only [Option.some.injEq, v4] <;> rfl)); (· ((first | exact ty42 | exact ty42))); (· (rfl)); (· (exact H.ld1 (by (with_reducible repeat' first | exact mem_h _ _ | apply mem_t); done) rfl))) | ((with_reducible apply rs_celln); (· (simp (disch := (first | assumption | omega)) only [Option.some.injEq, v4] <;> rfl)); (· ((first | exact ty42 | exact ty42))); (· (rfl)); (· (exact H.ldn (by (with_reducible repeat' first | exact mem_h _ _ | apply mem_t); done) rfl rfl))))); done)))
    | simp (disch := (first | assumption | omega)) only [ti42, ti42, List.take_succ_cons, List.take_zero, List.drop_zero])

  all_goals exact ⟨rfl, H.toExt⟩
set_option maxHeartbeats 4000000 in
theorem k42 (d : Nat) (b : Hp) (p : Nat) (s : AV) (fr lv : Int) (R : List (List AV)) (i : Nat) (g x nv : Int) (st g0 vx : AV) (a : Arn b p s fr lv R) (hr : R[i]? = some [st, g0, I nv, vx]) (hlv : 0 ≤ lv ∧ lv ≤ 100000) : Wv (runA ctx 5000 (d + 1) 42 [.ptr p 0, I (i : Int), U32 g, I x] b) (fun r h' => Mut b h' p s s nv (lv + 1) (R.set i [U8 1, U32 g, I 0, I x])) := by
  have hil := (List.getElem?_eq_some_iff.1 hr).1
  have one := a.o.one
  have H := a.start
  refine wv_run fn42 rfl ?_
  have a0 : (enterEnv [.ptr p 0, I (i : Int), U32 g, I x] Try.f42.ntmps).get 0 = some (.ptr p 0) := enter_get1 _ _ _
  have a1 : (enterEnv [.ptr p 0, I (i : Int), U32 g, I x] Try.f42.ntmps).get 1 = some (I (i : Int)) := enter_get2 _ _ _ _
  have a2 : (enterEnv [.ptr p 0, I (i : Int), U32 g, I x] Try.f42.ntmps).get 2 = some (U32 g) := enter_get3 _ _ _ _ _
  have a3 : (enterEnv [.ptr p 0, I (i : Int), U32 g, I x] Try.f42.ntmps).get 3 = some (I x) := enter_get4 _ _ _ _ _ _
  generalize enterEnv [.ptr p 0, I (i : Int), U32 g, I x] Try.f42.ntmps = e at a0 a1 a2 a3 ⊢
  unfold Try.f42
  dsimp only
  ((with_reducible apply wc_c (fun i => Nat.beq i 0 || Nat.beq i 1 || Nat.beq i 2 || Nat.beq i 3)); intro e he; have w9 := he 0 rfl; (try simp only [a0] at w9); have v0 := w9; clear w9; have w9 := he 1 rfl; (try simp only [a1] at w9); have v1 := w9; clear w9; have w9 := he 2 rfl; (try simp only [a2] at w9); have v2 := w9; clear w9; have w9 := he 3 rfl; (try simp only [a3] at w9); have v3 := w9; clear w9; clear he)
  repeat' (first
    | with_reducible apply wc_seq
    | ((with_reducible apply wc_region); (· (rfl)))
    | with_reducible apply wo_some
    | (simp only [List.set_cons_zero, List.set_cons_succ, cells_agg] at H)
    | ((with_reducible apply nx_c (fun i => Nat.beq i 0 || Nat.beq i 1 || Nat.beq i 2 || Nat.beq i 3)); intro e he; have w0 := he 0 rfl; have w1 := he 1 rfl; have w2 := he 2 rfl; have w3 := he 3 rfl; (try simp only [T.get_put, Nat.reduceEqDiff, reduceIte, v0, v1, v2, v3] at w0 w1 w2 w3); clear he v0 v1 v2 v3; have v0 := w0; have v1 := w1; have v2 := w2; have v3 := w3; clear w0 w1 w2 w3)
    | ((with_reducible apply wo_eq); (· (simp (disch := (first | assumption | omega)) only [eq_self, opsA_cons, opsA_nil, wantedA, stepA_t, callA, runOp_n, opA, ev, afterA_s, putA, T.get_put, Nat.reduceEqDiff, reduceIte, List.getElem?_toArray, List.getElem?_cons_zero, List.getElem?_cons_succ, oBin, binA, binG, binL, aggO, litA, oIndexAddr, cond_true, decide_true, blt_eq, I, fieldAddrA, oFieldAddr, Nat.zero_add, Nat.add_zero, Nat.reduceLT, ty3, ti3, ty58, ti58, ty60, ti60, ty77, ti77, ty3, ti3, ty60, ti60, ty77, ti77, ty58, ti58, ii_add, List.getElem_toArray, List.getElem_cons_zero, List.getElem_cons_succ, withH_s, nilCheckA, oBuild, evParts, consP, wrap_ok, id_eq, putAt_z, putAt_s, over_nil, over_cons, litCells_cons, litCells_nil, cells_int, cells_lagg, Nat.zero_add, Nat.add_zero, v0, v1, v2, v3]; exact rfl)))
    | (((with_reducible apply wo_riaL H); (· ((first | exact ty58 | exact ty58))); (· (rfl)); (· ((first | exact ty77 | exact ty77))); (· ((with_reducible repeat' first | exact mem_h _ _ | apply mem_t); done)); (· (rfl)); (· ((first | rfl | assumption | omega))); (· ((first | assumption | omega))); intro w9 hw9))
    | (((with_reducible apply wo_rldL H); (· (assumption)); (· ((with_reducible repeat' first | exact mem_h _ _ | apply mem_t); done)); (· (rfl)); (· (assumption)); (· (rfl)); (· (rfl))))
    | (((with_reducible apply wo_rstn H); (· ((with_reducible repeat' first | exact Pick.here _ _ _ | apply Pick.there); done)); (· (assumption)); (· (rfl)); (· ((first | assumption | omega))); (· (rfl)); (· ((first | rfl | (simp only [onesA_cons', onesA_nil, oneA, Value.oneCell', Bool.and_true, Bool.and_self]; done)))); (· (rfl)); (· (rfl)); clear H; intro h H; (try simp only [List.set_cons_zero, List.set_cons_succ] at H)))
    | ((with_reducible apply wo_load1 H); (· ((with_reducible repeat' first | exact mem_h _ _ | apply mem_t); done)); (· (rfl)); (· ((first | rfl | assumption))))
    | ((with_reducible apply wo_store1 H); (· ((with_reducible repeat' first | exact Pick.here _ _ _ | apply Pick.there); done)); (· ((first | rfl | assumption))); (· ((first | rfl | assumption | exact cells_one (H.pz (by (with_reducible repeat' first | exact mem_h _ _ | apply mem_t); done))))); (· ((first | rfl | assumption))); (· (rfl)); (· ((first | exact Nat.le_of_ble_eq_true rfl | omega | (simp only [List.length_set, List.length_replicate, List.length_map, List.length_cons, List.length_nil]; omega) | (simp; done) | (simp; omega)))); clear H; intro h H)
    | ((with_reducible apply wo_build); (· ((first | exact ty77 | exact ty77))); (· (rfl)); (· ((first | rfl | (simp only [fillA_nil, fillA_cons, repl_z, repl_s, cells_int, cells_bool, cells_str, cells_float, cells_np, cells_nil, cells_nf, cells_ptr, cells_slice, cells_fn, cells_agg, cells_lagg, v0, v1, v2, v3, conv40, conv3, conv2, uu_eql, uu_neq, uu_gtr, uu_lss, uu_add, uu_sub, wrap_u32k, rws_len, one]; rfl)))))
    | ((first | with_reducible apply wv_ret | with_reducible apply wv_end); (· ((repeat' (first | with_reducible exact rs_nil | ((with_reducible apply rs_tmp); (· (simp (disch := (first | assumption | omega)) only [ev, T.get_put, Nat.reduceEqDiff, reduceIte, Option.some.injEq, dec_t, dec_f, Bool.not_true, Bool.not_false, v0, v1, v2, v3, conv40, conv3, conv2, uu_eql, uu_neq, uu_gtr, uu_lss, uu_add, uu_sub, wrap_u32k, rws_len, one] <;> rfl))) | ((with_reducible apply rs_cell); (· (simp (disch := (first | assumption | omega)) only [ev, T.get_put, Nat.reduceEqDiff, reduceIte, Option.some.injEq, dec_t, dec_f, Bool.not_true, Bool.not_false, v0, v1, v2, v3, conv40, conv3, conv2, uu_eql, uu_neq, uu_gtr, uu_lss, uu_add, uu_sub, wrap_u32k, rws_len, one] <;> rfl)); (· (kernel_rfl)); (· (rfl)); (· (exact H.ld1 (by (with_reducible repeat' first | exact mem_h _ _ | apply mem_t); done) rfl))) | ((with_reducible apply rs_celln); (· (simp (disch := (first | assumption | omega)) only [ev, T.get_put, Nat.reduceEqDiff, reduceIte, Option.some.injEq, dec_t, dec_f, Bool.not_true, Bool.not_false, v0, v1, v2, v3, conv40, conv3, conv2, uu_eql, uu_neq, uu_gtr, uu_lss, uu_add, uu_sub, wrap_u32k, rws_len, one] <;> rfl)); (· (kernel_rfl)); (· (rfl)); (· (exact H.ldn (by (with_reducible repeat' first | exact mem_h _ _ | apply mem_t); done) rfl rfl))))); done)))
    | simp (disch := (first | assumption | omega)) only [I])

  all_goals exact H.toMut (by first | exact Pick2.h1 _ (.here _ _) | exact Pick2.h1 _ (.there _ (.here _ _)) | exact Pick2.h1 _ (.there _ (.there _ (.here _ _))) | exact Pick2.h2 _ (.here _ _) | exact Pick2.h2 _ (.there _ (.here _ _)) | exact Pick2.there _ (.h1 _ (.here _ _)) | exact Pick2.there _ (.h1 _ (.there _ (.here _ _))) | exact Pick2.there _ (.h2 _ (.here _ _)) | exact Pick2.there _ (.h2 _ (.there _ (.here _ _))) | exact Pick2.there _ (.there _ (.h1 _ (.here _ _))) | exact Pick2.there _ (.there _ (.h2 _ (.here _ _))) | exact Pick2.there _ (.there _ (.there _ (.h1 _ (.here _ _)))) | exact Pick2.there _ (.there _ (.there _ (.h2 _ (.here _ _)))))
set_option maxHeartbeats 4000000 in
theorem k41 (d : Nat) (b : Hp) (p : Nat) (s : AV) (fr lv : Int) (R : List (List AV)) (i : Nat) (g : Int) (a : Arn b p s fr lv R) (hil : i < R.length) (hi : i ≤ 100000) (hlv : 0 ≤ lv ∧ lv ≤ 100000) : Wv (runA ctx 5000 (d + 1) 41 [.ptr p 0, I (i : Int), U32 g] b) (fun r h' => Mut b h' p s s ((i : Int) + 1) (lv - 1) (R.set i [U8 2, U32 g, I fr, I 0])) := by
  have one := a.o.one
  have H := a.start
  refine wv_run fn41 rfl ?_
  have a0 : (enterEnv [.ptr p 0, I (i : Int), U32 g] Try.f41.ntmps).get 0 = some (.ptr p 0) := enter_get1 _ _ _
  have a1 : (enterEnv [.ptr p 0, I (i : Int), U32 g] Try.f41.ntmps).get 1 = some (I (i : Int)) := enter_get2 _ _ _ _
  have a2 : (enterEnv [.ptr p 0, I (i : Int), U32 g] Try.f41.ntmps).get 2 = some (U32 g) := enter_get3 _ _ _ _ _
  generalize enterEnv [.ptr p 0, I (i : Int), U32 g] Try.f41.ntmps = e at a0 a1 a2 ⊢
  unfold Try.f41
  dsimp only
  ((with_reducible apply wc_c (fun i => Nat.beq i 0 || Nat.beq i 1 || Nat.beq i 2)); intro e he; have w9 := he 0 rfl; (try simp only [a0] at w9); have v0 := w9; clear w9; have w9 := he 1 rfl; (try simp only [a1] at w9); have v1 := w9; clear w9; have w9 := he 2 rfl; (try simp only [a2] at w9); have v2 := w9; clear w9; clear he)
  repeat' (first
    | with_reducible apply wc_seq
    | ((with_reducible apply wc_region); (· (rfl)))
    | with_reducible apply wo_some
    | (simp only [List.set_cons_zero, List.set_cons_succ, cells_agg] at H)
    | ((with_reducible apply nx_c (fun i => Nat.beq i 0 || Nat.beq i 1 || Nat.beq i 2)); intro e he; have w0 := he 0 rfl; have w1 := he 1 rfl; have w2 := he 2 rfl; (try simp only [T.get_put, Nat.reduceEqDiff, reduceIte, v0, v1, v2] at w0 w1 w2); clear he v0 v1 v2; have v0 := w0; have v1 := w1; have v2 := w2; clear w0 w1 w2)
    | ((with_reducible apply wo_eq); (· (simp (disch := (first | assumption | omega)) only [eq_self, opsA_cons, opsA_nil, wantedA, stepA_t, callA, runOp_n, opA, ev, afterA_s, putA, T.get_put, Nat.reduceEqDiff, reduceIte, List.getElem?_toArray, List.getElem?_cons_zero, List.getElem?_cons_succ, oBin, binA, binG, binL, aggO, litA, oIndexAddr, cond_true, decide_true, blt_eq, I, fieldAddrA, oFieldAddr, Nat.zero_add, Nat.add_zero, Nat.reduceLT, ty3, ti3, ty58, ti58, ty60, ti60, ty77, ti77, ty3, ti3, ty60, ti60, ty77, ti77, ty58, ti58, ii_add, ii_sub, List.getElem_toArray, List.getElem_cons_zero, List.getElem_cons_succ, withH_s, nilCheckA, oBuild, evParts, consP, wrap_ok, id_eq, putAt_z, putAt_s, over_nil, over_cons, litCells_cons, litCells_nil, cells_int, cells_lagg, Nat.zero_add, Nat.add_zero, v0, v1, v2]; exact rfl)))
    | (((with_reducible apply wo_riaL H); (· ((first | exact ty58 | exact ty58))); (· (rfl)); (· ((first | exact ty77 | exact ty77))); (· ((with_reducible repeat' first | exact mem_h _ _ | apply mem_t); done)); (· (rfl)); (· ((first | rfl | assumption | omega))); (· ((first | assumption | omega))); intro w9 hw9))
    | (((with_reducible apply wo_rstn H); (· ((with_reducible repeat' first | exact Pick.here _ _ _ | apply Pick.there); done)); (· (assumption)); (· (rfl)); (· ((first | assumption | omega))); (· (rfl)); (· ((first | rfl | (simp only [onesA_cons', onesA_nil, oneA, Value.oneCell', Bool.and_true, Bool.and_self]; done)))); (· (rfl)); (· (rfl)); clear H; intro h H; (try simp only [List.set_cons_zero, List.set_cons_succ] at H)))
    | ((with_reducible apply wo_load1 H); (· ((with_reducible repeat' first | exact mem_h _ _ | apply mem_t); done)); (· (rfl)); (· ((first | rfl | assumption))))
    | ((with_reducible apply wo_store1 H); (· ((with_reducible repeat' first | exact Pick.here _ _ _ | apply Pick.there); done)); (· ((first | rfl | assumption))); (· ((first | rfl | assumption | exact cells_one (H.pz (by (with_reducible repeat' first | exact mem_h _ _ | apply mem_t); done))))); (· ((first | rfl | assumption))); (· (rfl)); (· ((first | exact Nat.le_of_ble_eq_true rfl | omega | (simp only [List.length_set, List.length_replicate, List.length_map, List.length_cons, List.length_nil]; omega) | (simp; done) | (simp; omega)))); clear H; intro h H)
    | ((with_reducible apply wo_build); (· ((first | exact ty77 | exact ty77))); (· (rfl)); (· ((first | rfl | (simp only [fillA_nil, fillA_cons, repl_z, repl_s, cells_int, cells_bool, cells_str, cells_float, cells_np, cells_nil, cells_nf, cells_ptr, cells_slice, cells_fn, cells_agg, cells_lagg, v0, v1, v2, conv40, conv3, conv2, uu_eql, uu_neq, uu_gtr, uu_lss, uu_add, uu_sub, wrap_u32k, rws_len, one]; rfl)))))
    | ((first | with_reducible apply wv_ret | with_reducible apply wv_end); (· ((repeat' (first | with_reducible exact rs_nil | ((with_reducible apply rs_tmp); (· (simp (disch := (first | assumption | omega)) only [ev, T.get_put, Nat.reduceEqDiff, reduceIte, Option.some.injEq, dec_t, dec_f, Bool.not_true, Bool.not_false, v0, v1, v2, conv40, conv3, conv2, uu_eql, uu_neq, uu_gtr, uu_lss, uu_add, uu_sub, wrap_u32k, rws_len, one] <;> rfl))) | ((with_reducible apply rs_cell); (· (simp (disch := (first | assumption | omega)) only [ev, T.get_put, Nat.reduceEqDiff, reduceIte, Option.some.injEq, dec_t, dec_f, Bool.not_true, Bool.not_false, v0, v1, v2, conv40, conv3, conv2, uu_eql, uu_neq, uu_gtr, uu_lss, uu_add, uu_sub, wrap_u32k, rws_len, one] <;> rfl)); (· (kernel_rfl)); (· (rfl)); (· (exact H.ld1 (by (with_reducible repeat' first | exact mem_h _ _ | apply mem_t); done) rfl))) | ((with_reducible apply rs_celln); (· (simp (disch := (first | assumption | omega)) only [ev, T.get_put, Nat.reduceEqDiff, reduceIte, Option.some.injEq, dec_t, dec_f, Bool.not_true, Bool.not_false, v0, v1, v2, conv40, conv3, conv2, uu_eql, uu_neq, uu_gtr, uu_lss, uu_add, uu_sub, wrap_u32k, rws_len, one] <;> rfl)); (· (kernel_rfl)); (· (rfl)); (· (exact H.ldn (by (with_reducible repeat' first | exact mem_h _ _ | apply mem_t); done) rfl rfl))))); done)))
    | simp (disch := (first | assumption | omega)) only [I])

  all_goals exact H.toMut (by first | exact Pick2.h1 _ (.here _ _) | exact Pick2.h1 _ (.there _ (.here _ _)) | exact Pick2.h1 _ (.there _ (.there _ (.here _ _))) | exact Pick2.h2 _ (.here _ _) | exact Pick2.h2 _ (.there _ (.here _ _)) | exact Pick2.there _ (.h1 _ (.here _ _)) | exact Pick2.there _ (.h1 _ (.there _ (.here _ _))) | exact Pick2.there _ (.h2 _ (.here _ _)) | exact Pick2.there _ (.h2 _ (.there _ (.here _ _))) | exact Pick2.there _ (.there _ (.h1 _ (.here _ _))) | exact Pick2.there _ (.there _ (.h2 _ (.here _ _))) | exact Pick2.there _ (.there _ (.there _ (.h1 _ (.here _ _)))) | exact Pick2.there _ (.there _ (.there _ (.h2 _ (.here _ _)))))
set_option maxHeartbeats 4000000 in
theorem k9 (d : Nat) (b : Hp) : Wv (runA ctx 5000 (d + 1) 9 [] b) (fun r h' => ∃ p, r = .ptr p 0 ∧ b.c ≤ p ∧ Arn h' p nilS 0 0 [] ∧ Ext b h') := by
  have H := Hs.start b
  refine wv_run fn9 rfl ?_
  generalize enterEnv [] Try.f9.ntmps = e at ⊢
  unfold Try.f9
  dsimp only
  ((with_reducible apply wc_c (fun i => Nat.beq i 0)); intro e he; have w9 := he 0 rfl; (try simp only [T.get_put, Nat.reduceEqDiff, reduceIte] at w9); have v0 := w9; clear w9; clear he)
  repeat' (first
    | with_reducible apply wc_seq
    | ((with_reducible apply wc_region); (· (rfl)))
    | with_reducible apply wo_some
    | with_reducible apply wc_ret
    | (simp only [cells_agg] at H)
    | ((with_reducible apply nx_c (fun i => Nat.beq i 0)); intro e he; have w0 := he 0 rfl; (try simp only [T.get_put, Nat.reduceEqDiff, reduceIte, v0] at w0); clear he v0; have v0 := w0; clear w0)
    | ((with_reducible apply wo_eq); (· (simp (disch := (first | assumption | omega)) only [eq_self, opsA_cons, opsA_nil, wantedA, stepA_t, callA, runOp_n, opA, ev, afterA_s, putA, T.get_put, Nat.reduceEqDiff, reduceIte, ti60, ti60, withH_s, oBuild, evParts, litCells_cons, litCells_nil, cells_lagg]; exact rfl)))
    | ((with_reducible apply wo_box H); clear H; intro n h H0n H)
    | ((with_reducible apply wo_build); (· ((first | exact ty60 | exact ty60))); (· (rfl)); (· ((first | rfl | (simp only [fillA_nil, fillA_cons, repl_z, repl_s, cells_int, cells_bool, cells_str, cells_float, cells_np, cells_nil, cells_nf, cells_ptr, cells_slice, cells_fn, cells_agg, cells_lagg, v0, conv40, conv3, conv2, uu_eql, uu_neq, uu_gtr, uu_lss, uu_add, uu_sub, wrap_u32k, rws_len]; rfl)))))
    | ((first | with_reducible apply wv_ret | with_reducible apply wv_end); (· ((repeat' (first | with_reducible exact rs_nil | ((with_reducible apply rs_tmp); (· (simp (disch := (first | assumption | omega)) only [Option.some.injEq, v0] <;> rfl))) | ((with_reducible apply rs_cell); (· (simp (disch := (first | assumption | omega)) only [ev, T.get_put, Nat.reduceEqDiff, reduceIte, Option.some.injEq, dec_t, dec_f, Bool.not_true, Bool.not_false, v0, conv40, conv3, conv2, uu_eql, uu_neq, uu_gtr, uu_lss, uu_add, uu_sub, wrap_u32k, rws_len] <;> rfl)); (· (kernel_rfl)); (· (rfl)); (· (exact H.ld1 (by (with_reducible repeat' first | exact mem_h _ _ | apply mem_t); done) rfl))) | ((with_reducible apply rs_celln); (· (simp (disch := (first | assumption | omega)) only [ev, T.get_put, Nat.reduceEqDiff, reduceIte, Option.some.injEq, dec_t, dec_f, Bool.not_true, Bool.not_false, v0, conv40, conv3, conv2, uu_eql, uu_neq, uu_gtr, uu_lss, uu_add, uu_sub, wrap_u32k, rws_len] <;> rfl)); (· (kernel_rfl)); (· (rfl)); (· (exact H.ldn (by (with_reducible repeat' first | exact mem_h _ _ | apply mem_t); done) rfl rfl))))); done))))

  all_goals exact ⟨_, rfl, by assumption, ⟨H.p (by (with_reducible repeat' first | exact mem_h _ _ | apply mem_t); done), OwR.nil _ _ _, fun h => by cases h⟩, H.toExt⟩
set_option maxHeartbeats 4000000 in
theorem k23 (d : Nat) (b : Hp) (p : Nat) (s : AV) (fr lv : Int) (R : List (List AV)) (a : Arn b p s fr lv R) : Wv (runA ctx 5000 (d + 1) 23 [.ptr p 0] b) (fun r h' => r = I lv ∧ Ext b h') := by
  have H := a.reads
  refine wv_run fn23 rfl ?_
  have a0 : (enterEnv [.ptr p 0] Try.f23.ntmps).get 0 = some (.ptr p 0) := enter_get1 _ _ _
  generalize enterEnv [.ptr p 0] Try.f23.ntmps = e at a0 ⊢
  unfold Try.f23
  dsimp only
  ((with_reducible apply wc_c (fun i => Nat.beq i 0 || Nat.beq i 2 || Nat.beq i 4)); intro e he; have w9 := he 0 rfl; (try simp only [a0] at w9); have v0 := w9; clear w9; have w9 := he 2 rfl; (try simp only [T.get_put, Nat.reduceEqDiff, reduceIte] at w9); have v2 := w9; clear w9; have w9 := he 4 rfl; (try simp only [T.get_put, Nat.reduceEqDiff, reduceIte] at w9); have v4 := w9; clear w9; clear he)
  repeat' (first
    | with_reducible apply wc_seq
    | ((with_reducible apply wc_region); (· (rfl)))
    | with_reducible apply wo_some
    | ((with_reducible apply wc_cond); (· (simp (disch := (first | assumption | omega)) only [ev, Option.some.injEq, v4] <;> rfl)); all_goals (intro hg; (try (try simp only [Bool.not_eq_true'] at hg)); first | (exfalso; exact Bool.noConfusion hg) | (exfalso; exact hg) | skip))
    | with_reducible apply wc_skip
    | with_reducible apply wc_ret
    | ((with_reducible apply nx_c (fun i => Nat.beq i 0 || Nat.beq i 2 || Nat.beq i 4)); intro e he; have w0 := he 0 rfl; have w2 := he 2 rfl; have w4 := he 4 rfl; (try simp only [T.get_put, Nat.reduceEqDiff, reduceIte, v0, v2, v4] at w0 w2 w4); clear he v0 v2 v4; have v0 := w0; have v2 := w2; have v4 := w4; clear w0 w2 w4)
    | ((with_reducible apply wo_eq); (· (simp (disch := (first | assumption | omega)) only [eq_self, opsA_cons, opsA_nil, wantedA, stepA_t, callA, runOp_n, opA, ev, afterA_s, putA, T.get_put, Nat.reduceEqDiff, reduceIte, List.getElem?_toArray, List.getElem?_cons_zero, List.getElem?_cons_succ, oBin, binA, binG, binL, aggO, cond_true, blt_eq, I, fieldAddrA, oFieldAddr, Nat.zero_add, Nat.reduceLT, ty3, ti3, ty24, ti24, ty60, ti60, ty3, ti3, ty60, ti60, withH_s, eqA, eqD, eqOp, nilCheckA, dec_t, id_eq, Nat.zero_add, v0]; exact rfl)))
    | ((with_reducible apply wo_load1z H); (· ((with_reducible repeat' first | exact mem_h _ _ | apply mem_t); done)); (· (rfl)); (· ((first | rfl | assumption))))
    | ((first | with_reducible apply wv_ret | with_reducible apply wv_end); (· ((repeat' (first | with_reducible exact rs_nil | ((with_reducible apply rs_tmp); (· (simp (disch := (first | assumption | omega)) only [Option.some.injEq, v2] <;> rfl))) | ((with_reducible apply rs_cell); (· (simp (disch := (first | assumption | omega)) only [ev, T.get_put, Nat.reduceEqDiff, reduceIte, Option.some.injEq, dec_t, dec_f, Bool.not_true, Bool.not_false, v0, v2, v4, conv40, conv3, conv2, uu_eql, uu_neq, uu_gtr, uu_lss, uu_add, uu_sub, wrap_u32k, rws_len] <;> rfl)); (· (kernel_rfl)); (· (rfl)); (· (exact H.ld1 (by (with_reducible repeat' first | exact mem_h _ _ | apply mem_t); done) rfl))) | ((with_reducible apply rs_celln); (· (simp (disch := (first | assumption | omega)) only [ev, T.get_put, Nat.reduceEqDiff, reduceIte, Option.some.injEq, dec_t, dec_f, Bool.not_true, Bool.not_false, v0, v2, v4, conv40, conv3, conv2, uu_eql, uu_neq, uu_gtr, uu_lss, uu_add, uu_sub, wrap_u32k, rws_len] <;> rfl)); (· (kernel_rfl)); (· (rfl)); (· (exact H.ldn (by (with_reducible repeat' first | exact mem_h _ _ | apply mem_t); done) rfl rfl))))); done)))
    | simp (disch := (first | assumption | omega)) only [I])

  all_goals exact ⟨rfl, H.toExt⟩
set_option maxHeartbeats 4000000 in
theorem k25 (d : Nat) (b : Hp) (p : Nat) (s : AV) (fr lv : Int) (R : List (List AV)) (a : Arn b p s fr lv R) : Wv (runA ctx 5000 (d + 1) 25 [.ptr p 0] b) (fun r h' => r = I (R.length : Int) ∧ Ext b h') := by
  have H := a.reads
  refine wv_run fn25 rfl ?_
  have a0 : (enterEnv [.ptr p 0] Try.f25.ntmps).get 0 = some (.ptr p 0) := enter_get1 _ _ _
  generalize enterEnv [.ptr p 0] Try.f25.ntmps = e at a0 ⊢
  unfold Try.f25
  dsimp only
  ((with_reducible apply wc_c (fun i => Nat.beq i 0 || Nat.beq i 2 || Nat.beq i 4)); intro e he; have w9 := he 0 rfl; (try simp only [a0] at w9); have v0 := w9; clear w9; have w9 := he 2 rfl; (try simp only [T.get_put, Nat.reduceEqDiff, reduceIte] at w9); have v2 := w9; clear w9; have w9 := he 4 rfl; (try simp only [T.get_put, Nat.reduceEqDiff, reduceIte] at w9); have v4 := w9; clear w9; clear he)
  repeat' (first
    | with_reducible apply wc_seq
    | ((with_reducible apply wc_region); (· (rfl)))
    | with_reducible apply wo_some
    | ((with_reducible apply wc_cond); (· (simp (disch := (first | assumption | omega)) only [ev, Option.some.injEq, v4] <;> rfl)); all_goals (intro hg; (try (try simp only [Bool.not_eq_true'] at hg)); first | (exfalso; exact Bool.noConfusion hg) | (exfalso; exact hg) | skip))
    | with_reducible apply wc_skip
    | with_reducible apply wc_ret
    | ((with_reducible apply nx_c (fun i => Nat.beq i 0 || Nat.beq i 2 || Nat.beq i 4)); intro e he; have w0 := he 0 rfl; have w2 := he 2 rfl; have w4 := he 4 rfl; (try simp only [T.get_put, Nat.reduceEqDiff, reduceIte, v0, v2, v4] at w0 w2 w4); clear he v0 v2 v4; have v0 := w0; have v2 := w2; have v4 := w4; clear w0 w2 w4)
    | ((with_reducible apply wo_eq); (· (simp (disch := (first | assumption | omega)) only [eq_self, opsA_cons, opsA_nil, wantedA, stepA_t, callA, calleeA, runOp_n, opA, ev, evs, consO, consOO, afterA_s, putA, T.get_put, Nat.reduceEqDiff, reduceIte, List.getElem?_toArray, List.getElem?_cons_zero, oBuiltin, oBin, binA, binG, binL, aggO, cond_true, blt_eq, I, fieldAddrA, oFieldAddr, Nat.add_zero, Nat.reduceLT, ty24, ti24, ty58, ti58, ty60, ti60, ty60, ti60, ty58, ti58, withH_s, eqA, eqD, eqOp, nilCheckA, dec_t, id_eq, Nat.add_zero, v0]; exact rfl)))
    | (((with_reducible apply wo_rlenZ H); (· ((first | exact ty58 | exact ty58))); (· (rfl)); (· ((with_reducible repeat' first | exact mem_h _ _ | apply mem_t); done))))
    | ((with_reducible apply wo_load1z H); (· ((with_reducible repeat' first | exact mem_h _ _ | apply mem_t); done)); (· (rfl)); (· ((first | rfl | assumption))))
    | ((first | with_reducible apply wv_ret | with_reducible apply wv_end); (· ((repeat' (first | with_reducible exact rs_nil | ((with_reducible apply rs_tmp); (· (simp (disch := (first | assumption | omega)) only [Option.some.injEq, v2] <;> rfl))) | ((with_reducible apply rs_cell); (· (simp (disch := (first | assumption | omega)) only [ev, T.get_put, Nat.reduceEqDiff, reduceIte, Option.some.injEq, dec_t, dec_f, Bool.not_true, Bool.not_false, v0, v2, v4, conv40, conv3, conv2, uu_eql, uu_neq, uu_gtr, uu_lss, uu_add, uu_sub, wrap_u32k, rws_len] <;> rfl)); (· (kernel_rfl)); (· (rfl)); (· (exact H.ld1 (by (with_reducible repeat' first | exact mem_h _ _ | apply mem_t); done) rfl))) | ((with_reducible apply rs_celln); (· (simp (disch := (first | assumption | omega)) only [ev, T.get_put, Nat.reduceEqDiff, reduceIte, Option.some.injEq, dec_t, dec_f, Bool.not_true, Bool.not_false, v0, v2, v4, conv40, conv3, conv2, uu_eql, uu_neq, uu_gtr, uu_lss, uu_add, uu_sub, wrap_u32k, rws_len] <;> rfl)); (· (kernel_rfl)); (· (rfl)); (· (exact H.ldn (by (with_reducible repeat' first | exact mem_h _ _ | apply mem_t); done) rfl rfl))))); done)))
    | simp (disch := (first | assumption | omega)) only [I])

  all_goals exact ⟨rfl, H.toExt⟩
def vld (ls : List Ent) (i : Nat) (g : Int) : Bool := match ls[i]? with | some (g', true, _) => decide (g' = g) | _ => false
theorem vld_none {ls : List Ent} {i : Nat} {g : Int} (h : ls.length ≤ i) : vld ls i g = false := by unfold vld; rw [List.getElem?_eq_none h]
theorem vld_used {ls : List Ent} {i : Nat} {g g' x : Int} (h : ls[i]? = some (g', true, x)) : vld ls i g = decide (g' = g) := by unfold vld; rw [h]
theorem vld_free {ls : List Ent} {i : Nat} {g g' x : Int} (h : ls[i]? = some (g', false, x)) : vld ls i g = false := by unfold vld; rw [h]
theorem vld_t {ls : List Ent} {i : Nat} {g : Int} (h : vld ls i g = true) : ∃ x, ls[i]? = some (g, true, x) := by
  unfold vld at h
  split at h
  · rename_i g' x h2
    have := of_decide_eq_true h
    subst this
    exact ⟨x, h2⟩
  · cases h
set_option maxHeartbeats 4000000 in
theorem k22 (d : Nat) (b : Hp) (p : Nat) (s : AV) (fr lv : Int) (ls : List Ent) (fs : List Nat) (i : Nat) (g : Int) (hi : i < 4294967296) (hg : 0 ≤ g ∧ g < 4294967296) (a : Arn b p s fr lv (rws ls fs)) (hn : ls.length ≤ 100000) : Wv (runA ctx 5000 (d + 1) 22 [.ptr p 0, .agg [U32 (i : Int), U32 g]] b) (fun r h' => r = Bo (vld ls i g) ∧ Ext b h') := by
  have H := a.reads
  have hrl := rws_len ls fs
  have hg1 := hg.1
  have hg2 := hg.2
  refine wv_run fn22 rfl ?_
  have a0 : (enterEnv [.ptr p 0, .agg [U32 (i : Int), U32 g]] Try.f22.ntmps).get 0 = some (.ptr p 0) := enter_get1 _ _ _
  have a1 : (enterEnv [.ptr p 0, .agg [U32 (i : Int), U32 g]] Try.f22.ntmps).get 1 = some (.agg [U32 (i : Int), U32 g]) := enter_get2 _ _ _ _
  generalize enterEnv [.ptr p 0, .agg [U32 (i : Int), U32 g]] Try.f22.ntmps = e at a0 a1 ⊢
  unfold Try.f22
  dsimp only
  ((with_reducible apply wc_c (fun i => Nat.beq i 0 || Nat.beq i 1 || Nat.beq i 3 || Nat.beq i 4 || Nat.beq i 5 || Nat.beq i 18)); intro e he; have w9 := he 0 rfl; (try simp only [a0] at w9); have v0 := w9; clear w9; have w9 := he 1 rfl; (try simp only [a1] at w9); have v1 := w9; clear w9; have w9 := he 3 rfl; (try simp only [T.get_put, Nat.reduceEqDiff, reduceIte] at w9); have v3 := w9; clear w9; have w9 := he 4 rfl; (try simp only [T.get_put, Nat.reduceEqDiff, reduceIte] at w9); have v4 := w9; clear w9; have w9 := he 5 rfl; (try simp only [T.get_put, Nat.reduceEqDiff, reduceIte] at w9); have v5 := w9; clear w9; have w9 := he 18 rfl; (try simp only [T.get_put, Nat.reduceEqDiff, reduceIte] at w9); have v18 := w9; clear w9; clear he)
  rcases Nat.lt_or_ge i ls.length with hil | hil
  · obtain ⟨⟨g0, u, x⟩, hp⟩ := at_some hil
    cases u with
    | true =>
      have hr := rws_used (fs := fs) hp
      rw [vld_used hp]
      rcases Classical.em (g0 = g) with e9 | e9
      · rw [decide_eq_true e9]
        repeat' (first
          | with_reducible apply wc_seq
          | ((with_reducible apply wc_region); (· (rfl)))
          | with_reducible apply wo_some
          | ((with_reducible apply wc_cond); (· (simp (disch := (first | assumption | omega)) only [ev, Option.some.injEq, v18] <;> rfl)); all_goals (intro hg; (try (try simp only [Bool.not_eq_true'] at hg)); first | (exfalso; exact Bool.noConfusion hg) | (exfalso; exact hg) | skip))
          | with_reducible apply wc_skip
          | with_reducible apply wc_ret
          | (simp only [cells_agg] at H)
          | ((with_reducible apply nx_c (fun i => Nat.beq i 0 || Nat.beq i 1 || Nat.beq i 3 || Nat.beq i 4 || Nat.beq i 5 || Nat.beq i 18)); intro e he; have w0 := he 0 rfl; have w1 := he 1 rfl; have w3 := he 3 rfl; have w4 := he 4 rfl; have w5 := he 5 rfl; have w18 := he 18 rfl; (try simp only [T.get_put, Nat.reduceEqDiff, reduceIte, v0, v1, v3, v4, v5, v18] at w0 w1 w3 w4 w5 w18); clear he v0 v1 v3 v4 v5 v18; have v0 := w0; have v1 := w1; have v3 := w3; have v4 := w4; have v5 := w5; have v18 := w18; clear w0 w1 w3 w4 w5 w18)
          | ((with_reducible apply wo_eq); (· (simp (disch := (first | assumption | omega)) only [beq_self_eq_true, eq_self, opsA_cons, opsA_nil, wantedA, guardA, yieldA, stepA_t, callA, calleeA, runOp_n, opA, ev, evs, consO, consOO, pickA, afterA_s, putA, T.get_put, Nat.reduceEqDiff, reduceIte, List.getElem?_toArray, List.getElem?_cons_zero, List.getElem?_cons_succ, oBuiltin, oBin, binA, binG, binL, aggO, litA, oIndexAddr, cond_true, Bool.not_true, decide_true, blt_eq, I, Bo, fieldAddrA, oFieldAddr, Nat.zero_add, Nat.add_zero, Nat.reduceLT, ty5, ti5, ty24, ti24, ty40, ti40, ty42, ti42, ty58, ti58, ty60, ti60, ty77, ti77, ty5, ti5, ty40, ti40, ty42, ti42, ty60, ti60, ty77, ti77, ty58, ti58, ii_geq, iu_eql, withH_s, eqA, eqD, eqOp, nilCheckA, oConv, dec_t, id_eq, Nat.zero_add, Nat.add_zero, v0, v1, v3, v5, conv2, uu_eql, rws_len]; exact rfl)))
          | (((with_reducible apply wo_rlenZ H); (· ((first | exact ty58 | exact ty58))); (· (rfl)); (· ((with_reducible repeat' first | exact mem_h _ _ | apply mem_t); done))))
          | (((with_reducible apply wo_riaZ H); (· ((first | exact ty58 | exact ty58))); (· (rfl)); (· ((first | exact ty77 | exact ty77))); (· ((with_reducible repeat' first | exact mem_h _ _ | apply mem_t); done)); (· (rfl)); (· ((first | rfl | assumption | omega))); (· ((first | assumption | omega))); intro w9 hw9))
          | (((with_reducible apply wo_rldZ H); (· (assumption)); (· ((with_reducible repeat' first | exact mem_h _ _ | apply mem_t); done)); (· (rfl)); (· (assumption)); (· (rfl)); (· (rfl))))
          | (((with_reducible apply wo_rldZ (j := 0) H); (· (assumption)); (· ((with_reducible repeat' first | exact mem_h _ _ | apply mem_t); done)); (· (rfl)); (· (assumption)); (· (rfl)); (· (rfl))))
          | ((with_reducible apply wo_box H); clear H; intro n h H0n H)
          | ((with_reducible apply wo_load1 H); (· ((with_reducible repeat' first | exact mem_h _ _ | apply mem_t); done)); (· (rfl)); (· ((first | rfl | assumption))))
          | ((with_reducible apply wo_load1z H); (· ((with_reducible repeat' first | exact mem_h _ _ | apply mem_t); done)); (· (rfl)); (· ((first | rfl | assumption))))
          | ((first | with_reducible apply wv_ret | with_reducible apply wv_end); (· ((repeat' (first | with_reducible exact rs_nil | ((with_reducible apply rs_tmp); (· (simp (disch := (first | assumption | omega)) only [Option.some.injEq, v4] <;> rfl))) | ((with_reducible apply rs_cell); (· (simp (disch := (first | assumption | omega)) only [ev, T.get_put, Nat.reduceEqDiff, reduceIte, Option.some.injEq, dec_t, dec_f, Bool.not_true, Bool.not_false, v0, v1, v3, v4, v5, v18, conv40, conv3, conv2, uu_eql, uu_neq, uu_gtr, uu_lss, uu_add, uu_sub, wrap_u32k, rws_len] <;> rfl)); (· (kernel_rfl)); (· (rfl)); (· (exact H.ld1 (by (with_reducible repeat' first | exact mem_h _ _ | apply mem_t); done) rfl))) | ((with_reducible apply rs_celln); (· (simp (disch := (first | assumption | omega)) only [ev, T.get_put, Nat.reduceEqDiff, reduceIte, Option.some.injEq, dec_t, dec_f, Bool.not_true, Bool.not_false, v0, v1, v3, v4, v5, v18, conv40, conv3, conv2, uu_eql, uu_neq, uu_gtr, uu_lss, uu_add, uu_sub, wrap_u32k, rws_len] <;> rfl)); (· (kernel_rfl)); (· (rfl)); (· (exact H.ldn (by (with_reducible repeat' first | exact mem_h _ _ | apply mem_t); done) rfl rfl))))); done)))
          | simp (disch := (first | assumption | omega)) only [Bo])

        all_goals first | exact ⟨rfl, H.toExt⟩ | (exfalso; omega)
      · rw [decide_eq_false e9]
        repeat' (first
          | with_reducible apply wc_seq
          | ((with_reducible apply wc_region); (· (rfl)))
          | with_reducible apply wo_some
          | ((with_reducible apply wc_cond); (· (simp (disch := (first | assumption | omega)) only [ev, Option.some.injEq, v18] <;> rfl)); all_goals (intro hg; (try (try simp only [Bool.not_eq_true'] at hg)); first | (exfalso; exact Bool.noConfusion hg) | (exfalso; exact hg) | skip))
          | with_reducible apply wc_skip
          | with_reducible apply wc_ret
          | (simp only [cells_agg] at H)
          | ((with_reducible apply nx_c (fun i => Nat.beq i 0 || Nat.beq i 1 || Nat.beq i 3 || Nat.beq i 4 || Nat.beq i 5 || Nat.beq i 18)); intro e he; have w0 := he 0 rfl; have w1 := he 1 rfl; have w3 := he 3 rfl; have w4 := he 4 rfl; have w5 := he 5 rfl; have w18 := he 18 rfl; (try simp only [T.get_put, Nat.reduceEqDiff, reduceIte, v0, v1, v3, v4, v5, v18] at w0 w1 w3 w4 w5 w18); clear he v0 v1 v3 v4 v5 v18; have v0 := w0; have v1 := w1; have v3 := w3; have v4 := w4; have v5 := w5; have v18 := w18; clear w0 w1 w3 w4 w5 w18)
          | ((with_reducible apply wo_eq); (· (simp (disch := (first | assumption | omega)) only [beq_self_eq_true, eq_self, opsA_cons, opsA_nil, wantedA, guardA, yieldA, stepA_t, callA, calleeA, runOp_n, opA, ev, evs, consO, consOO, pickA, afterA_s, putA, T.get_put, Nat.reduceEqDiff, reduceIte, List.getElem?_toArray, List.getElem?_cons_zero, List.getElem?_cons_succ, oBuiltin, oBin, binA, binG, binL, aggO, litA, oIndexAddr, cond_true, Bool.not_true, decide_true, blt_eq, I, Bo, fieldAddrA, oFieldAddr, Nat.zero_add, Nat.add_zero, Nat.reduceLT, ty5, ti5, ty24, ti24, ty40, ti40, ty42, ti42, ty58, ti58, ty60, ti60, ty77, ti77, ty5, ti5, ty40, ti40, ty42, ti42, ty60, ti60, ty77, ti77, ty58, ti58, ii_geq, iu_eql, withH_s, eqA, eqD, eqOp, nilCheckA, oConv, dec_t, dec_f, id_eq, Nat.zero_add, Nat.add_zero, v0, v1, v3, v5, conv2, uu_eql, rws_len]; exact rfl)))
          | (((with_reducible apply wo_rlenZ H); (· ((first | exact ty58 | exact ty58))); (· (rfl)); (· ((with_reducible repeat' first | exact mem_h _ _ | apply mem_t); done))))
          | (((with_reducible apply wo_riaZ H); (· ((first | exact ty58 | exact ty58))); (· (rfl)); (· ((first | exact ty77 | exact ty77))); (· ((with_reducible repeat' first | exact mem_h _ _ | apply mem_t); done)); (· (rfl)); (· ((first | rfl | assumption | omega))); (· ((first | assumption | omega))); intro w9 hw9))
          | (((with_reducible apply wo_rldZ H); (· (assumption)); (· ((with_reducible repeat' first | exact mem_h _ _ | apply mem_t); done)); (· (rfl)); (· (assumption)); (· (rfl)); (· (rfl))))
          | (((with_reducible apply wo_rldZ (j := 0) H); (· (assumption)); (· ((with_reducible repeat' first | exact mem_h _ _ | apply mem_t); done)); (· (rfl)); (· (assumption)); (· (rfl)); (· (rfl))))
          | ((with_reducible apply wo_box H); clear H; intro n h H0n H)
          | ((with_reducible apply wo_load1 H); (· ((with_reducible repeat' first | exact mem_h _ _ | apply mem_t); done)); (· (rfl)); (· ((first | rfl | assumption))))
          | ((with_reducible apply wo_load1z H); (· ((with_reducible repeat' first | exact mem_h _ _ | apply mem_t); done)); (· (rfl)); (· ((first | rfl | assumption))))
          | ((first | with_reducible apply wv_ret | with_reducible apply wv_end); (· ((repeat' (first | with_reducible exact rs_nil | ((with_reducible apply rs_tmp); (· (simp (disch := (first | assumption | omega)) only [Option.some.injEq, v4] <;> rfl))) | ((with_reducible apply rs_cell); (· (simp (disch := (first | assumption | omega)) only [ev, T.get_put, Nat.reduceEqDiff, reduceIte, Option.some.injEq, dec_t, dec_f, Bool.not_true, Bool.not_false, v0, v1, v3, v4, v5, v18, conv40, conv3, conv2, uu_eql, uu_neq, uu_gtr, uu_lss, uu_add, uu_sub, wrap_u32k, rws_len] <;> rfl)); (· (kernel_rfl)); (· (rfl)); (· (exact H.ld1 (by (with_reducible repeat' first | exact mem_h _ _ | apply mem_t); done) rfl))) | ((with_reducible apply rs_celln); (· (simp (disch := (first | assumption | omega)) only [ev, T.get_put, Nat.reduceEqDiff, reduceIte, Option.some.injEq, dec_t, dec_f, Bool.not_true, Bool.not_false, v0, v1, v3, v4, v5, v18, conv40, conv3, conv2, uu_eql, uu_neq, uu_gtr, uu_lss, uu_add, uu_sub, wrap_u32k, rws_len] <;> rfl)); (· (kernel_rfl)); (· (rfl)); (· (exact H.ldn (by (with_reducible repeat' first | exact mem_h _ _ | apply mem_t); done) rfl rfl))))); done)))
          | simp (disch := (first | assumption | omega)) only [Bo])

        all_goals first | exact ⟨rfl, H.toExt⟩ | (exfalso; omega)
    | false =>
      have hr := rws_free (fs := fs) hp
      rw [vld_free hp]
      repeat' (first
        | with_reducible apply wc_seq
        | ((with_reducible apply wc_region); (· (rfl)))
        | with_reducible apply wo_some
        | ((with_reducible apply wc_cond); (· (simp (disch := (first | assumption | omega)) only [ev, Option.some.injEq, v18] <;> rfl)); all_goals (intro hg; (try (try simp only [Bool.not_eq_true'] at hg)); first | (exfalso; exact Bool.noConfusion hg) | (exfalso; exact hg) | skip))
        | with_reducible apply wc_skip
        | with_reducible apply wc_ret
        | (simp only [cells_agg] at H)
        | ((with_reducible apply nx_c (fun i => Nat.beq i 0 || Nat.beq i 1 || Nat.beq i 3 || Nat.beq i 4 || Nat.beq i 5 || Nat.beq i 18)); intro e he; have w0 := he 0 rfl; have w1 := he 1 rfl; have w3 := he 3 rfl; have w4 := he 4 rfl; have w5 := he 5 rfl; have w18 := he 18 rfl; (try simp only [T.get_put, Nat.reduceEqDiff, reduceIte, v0, v1, v3, v4, v5, v18] at w0 w1 w3 w4 w5 w18); clear he v0 v1 v3 v4 v5 v18; have v0 := w0; have v1 := w1; have v3 := w3; have v4 := w4; have v5 := w5; have v18 := w18; clear w0 w1 w3 w4 w5 w18)
        | ((with_reducible apply wo_eq); (· (simp (disch := (first | assumption | omega)) only [beq_self_eq_true, eq_self, opsA_cons, opsA_nil, wantedA, guardA, yieldA, stepA_t, stepA_f, callA, calleeA, runOp_n, opA, ev, evs, consO, consOO, pickA, afterA_s, putA, T.get_put, Nat.reduceEqDiff, reduceIte, List.getElem?_toArray, List.getElem?_cons_zero, List.getElem?_cons_succ, oBuiltin, oBin, binA, binG, binL, aggO, litA, oIndexAddr, cond_true, Bool.not_true, decide_true, blt_eq, ft_beq, I, Bo, fieldAddrA, oFieldAddr, Nat.add_zero, Nat.reduceLT, ty5, ti5, ty24, ti24, ty40, ti40, ty42, ti42, ty58, ti58, ty60, ti60, ty77, ti77, ty5, ti5, ty40, ti40, ty42, ti42, ty60, ti60, ty77, ti77, ty58, ti58, ii_geq, iu_eql, withH_s, eqA, eqD, eqOp, nilCheckA, oConv, dec_t, dec_f, id_eq, Nat.add_zero, v0, v1, v3, v5, conv2, rws_len]; exact rfl)))
        | (((with_reducible apply wo_rlenZ H); (· ((first | exact ty58 | exact ty58))); (· (rfl)); (· ((with_reducible repeat' first | exact mem_h _ _ | apply mem_t); done))))
        | (((with_reducible apply wo_riaZ H); (· ((first | exact ty58 | exact ty58))); (· (rfl)); (· ((first | exact ty77 | exact ty77))); (· ((with_reducible repeat' first | exact mem_h _ _ | apply mem_t); done)); (· (rfl)); (· ((first | rfl | assumption | omega))); (· ((first | assumption | omega))); intro w9 hw9))
        | (((with_reducible apply wo_rldZ (j := 0) H); (· (assumption)); (· ((with_reducible repeat' first | exact mem_h _ _ | apply mem_t); done)); (· (rfl)); (· (assumption)); (· (rfl)); (· (rfl))))
        | ((with_reducible apply wo_box H); clear H; intro n h H0n H)
        | ((with_reducible apply wo_load1 H); (· ((with_reducible repeat' first | exact mem_h _ _ | apply mem_t); done)); (· (rfl)); (· ((first | rfl | assumption))))
        | ((with_reducible apply wo_load1z H); (· ((with_reducible repeat' first | exact mem_h _ _ | apply mem_t); done)); (· (rfl)); (· ((first | rfl | assumption))))
        | ((first | with_reducible apply wv_ret | with_reducible apply wv_end); (· ((repeat' (first | with_reducible exact rs_nil | ((with_reducible apply rs_tmp); (· (simp (disch := (first | assumption | omega)) only [Option.some.injEq, v4] <;> rfl))) | ((with_reducible apply rs_cell); (· (simp (disch := (first | assumption | omega)) only [ev, T.get_put, Nat.reduceEqDiff, reduceIte, Option.some.injEq, dec_t, dec_f, Bool.not_true, Bool.not_false, v0, v1, v3, v4, v5, v18, conv40, conv3, conv2, uu_eql, uu_neq, uu_gtr, uu_lss, uu_add, uu_sub, wrap_u32k, rws_len] <;> rfl)); (· (kernel_rfl)); (· (rfl)); (· (exact H.ld1 (by (with_reducible repeat' first | exact mem_h _ _ | apply mem_t); done) rfl))) | ((with_reducible apply rs_celln); (· (simp (disch := (first | assumption | omega)) only [ev, T.get_put, Nat.reduceEqDiff, reduceIte, Option.some.injEq, dec_t, dec_f, Bool.not_true, Bool.not_false, v0, v1, v3, v4, v5, v18, conv40, conv3, conv2, uu_eql, uu_neq, uu_gtr, uu_lss, uu_add, uu_sub, wrap_u32k, rws_len] <;> rfl)); (· (kernel_rfl)); (· (rfl)); (· (exact H.ldn (by (with_reducible repeat' first | exact mem_h _ _ | apply mem_t); done) rfl rfl))))); done)))
        | simp (disch := (first | assumption | omega)) only [Bo])

      all_goals first | exact ⟨rfl, H.toExt⟩ | (exfalso; omega)
  · rw [vld_none hil]
    repeat' (first
      | with_reducible apply wc_seq
      | ((with_reducible apply wc_region); (· (rfl)))
      | with_reducible apply wo_some
      | ((with_reducible apply wc_cond); (· (simp (disch := (first | assumption | omega)) only [ev, Option.some.injEq, v18] <;> rfl)); all_goals (intro hg; (try (try simp only [Bool.not_eq_true'] at hg)); first | (exfalso; exact Bool.noConfusion hg) | (exfalso; exact hg) | skip))
      | with_reducible apply wc_ret
      | with_reducible apply nx_r
      | (simp only [cells_agg] at H)
      | ((with_reducible apply nx_c (fun i => Nat.beq i 0 || Nat.beq i 1 || Nat.beq i 3 || Nat.beq i 4 || Nat.beq i 5 || Nat.beq i 18)); intro e he; have w0 := he 0 rfl; have w1 := he 1 rfl; have w3 := he 3 rfl; have w4 := he 4 rfl; have w5 := he 5 rfl; have w18 := he 18 rfl; (try simp only [T.get_put, Nat.reduceEqDiff, reduceIte, v0, v1, v3, v4, v5, v18] at w0 w1 w3 w4 w5 w18); clear he v0 v1 v3 v4 v5 v18; have v0 := w0; have v1 := w1; have v3 := w3; have v4 := w4; have v5 := w5; have v18 := w18; clear w0 w1 w3 w4 w5 w18)
      | ((with_reducible apply wo_eq); (· (simp (disch := (first | assumption | omega)) only [beq_self_eq_true, eq_self, opsA_cons, opsA_nil, wantedA, guardA, yieldA, stepA_t, callA, calleeA, runOp_n, opA, ev, evs, consO, consOO, pickA, afterA_s, putA, T.get_put, Nat.reduceEqDiff, reduceIte, List.getElem?_toArray, List.getElem?_cons_zero, List.getElem?_cons_succ, oBuiltin, oBin, binA, binG, binL, aggO, litA, cond_true, Bool.not_false, decide_true, blt_eq, I, Bo, fieldAddrA, oFieldAddr, Nat.add_zero, Nat.reduceLT, ty24, ti24, ty40, ti40, ty42, ti42, ty58, ti58, ty60, ti60, ty40, ti40, ty42, ti42, ty60, ti60, ty58, ti58, ii_geq, withH_s, eqA, eqD, eqOp, nilCheckA, oConv, dec_f, id_eq, Nat.add_zero, v0, v1, v3, conv2, rws_len]; exact rfl)))
      | (((with_reducible apply wo_rlenZ H); (· ((first | exact ty58 | exact ty58))); (· (rfl)); (· ((with_reducible repeat' first | exact mem_h _ _ | apply mem_t); done))))
      | ((with_reducible apply wo_box H); clear H; intro n h H0n H)
      | ((with_reducible apply wo_load1 H); (· ((with_reducible repeat' first | exact mem_h _ _ | apply mem_t); done)); (· (rfl)); (· ((first | rfl | assumption))))
      | ((with_reducible apply wo_load1z H); (· ((with_reducible repeat' first | exact mem_h _ _ | apply mem_t); done)); (· (rfl)); (· ((first | rfl | assumption))))
      | ((first | with_reducible apply wv_ret | with_reducible apply wv_end); (· ((repeat' (first | with_reducible exact rs_nil | ((with_reducible apply rs_tmp); (· (simp (disch := (first | assumption | omega)) only [Option.some.injEq, v4] <;> rfl))) | ((with_reducible apply rs_cell); (· (simp (disch := (first | assumption | omega)) only [ev, T.get_put, Nat.reduceEqDiff, reduceIte, Option.some.injEq, dec_t, dec_f, Bool.not_true, Bool.not_false, v0, v1, v3, v4, v5, v18, conv40, conv3, conv2, uu_eql, uu_neq, uu_gtr, uu_lss, uu_add, uu_sub, wrap_u32k, rws_len] <;> rfl)); (· (kernel_rfl)); (· (rfl)); (· (exact H.ld1 (by (with_reducible repeat' first | exact mem_h _ _ | apply mem_t); done) rfl))) | ((with_reducible apply rs_celln); (· (simp (disch := (first | assumption | omega)) only [ev, T.get_put, Nat.reduceEqDiff, reduceIte, Option.some.injEq, dec_t, dec_f, Bool.not_true, Bool.not_false, v0, v1, v3, v4, v5, v18, conv40, conv3, conv2, uu_eql, uu_neq, uu_gtr, uu_lss, uu_add, uu_sub, wrap_u32k, rws_len] <;> rfl)); (· (kernel_rfl)); (· (rfl)); (· (exact H.ldn (by (with_reducible repeat' first | exact mem_h _ _ | apply mem_t); done) rfl rfl))))); done)))
      | simp (disch := (first | assumption | omega)) only [Bo])

    all_goals first | exact ⟨rfl, H.toExt⟩ | (exfalso; omega)


end Go.Proofs.Ytolpndlnabodgaa
