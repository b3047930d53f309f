import Derived.Test.YtjfmimlmnllnjaaW11
import Derived.Test.YtjfmimlmnllnjaaCtx
import Derived.KernelRfl
namespace Go.Proofs.Ytjfmimlmnllnjaa
open Go Go.Proofs Go.RowKit
set_option linter.unusedSimpArgs false
set_option linter.unusedVariables false
open Go.Proofs.Abs
theorem fn3 : ctx.funs.get 3 = some Try.f3 := by kernel_rfl
theorem fn4 : ctx.funs.get 4 = some Try.f4 := by kernel_rfl
theorem fn6 : ctx.funs.get 6 = some Try.f6 := by kernel_rfl
theorem fn8 : ctx.funs.get 8 = some Try.f8 := by kernel_rfl
theorem fn9 : ctx.funs.get 9 = some Try.f9 := by kernel_rfl
theorem fn10 : ctx.funs.get 10 = some Try.f10 := by kernel_rfl
theorem fn11 : ctx.funs.get 11 = some Try.f11 := by kernel_rfl
theorem fn12 : ctx.funs.get 12 = some Try.f12 := by kernel_rfl
theorem fn13 : ctx.funs.get 13 = some Try.f13 := by kernel_rfl
theorem fn14 : ctx.funs.get 14 = some Try.f14 := by kernel_rfl
theorem fn24 : ctx.funs.get 24 = some Try.f24 := by kernel_rfl
theorem fn25 : ctx.funs.get 25 = some Try.f25 := by kernel_rfl
theorem fn26 : ctx.funs.get 26 = some Try.f26 := by kernel_rfl
theorem fn27 : ctx.funs.get 27 = some Try.f27 := by kernel_rfl
theorem fn28 : ctx.funs.get 28 = some Try.f28 := by kernel_rfl
theorem ty3 : ctx.tys.get 3 = some ti3 := by kernel_rfl
theorem ty5 : ctx.tys.get 5 = some ti5 := by kernel_rfl
theorem ty22 : ctx.tys.get 22 = some ti22 := by kernel_rfl
theorem ty23 : ctx.tys.get 23 = some ti23 := by kernel_rfl
theorem ty25 : ctx.tys.get 25 = some ti25 := by kernel_rfl
theorem ty26 : ctx.tys.get 26 = some ti26 := by kernel_rfl
theorem ty39 : ctx.tys.get 39 = some ti39 := by kernel_rfl
def In (a : Int) : Prop := -9223372036854775808 ≤ a ∧ a ≤ 9223372036854775807
theorem inc {k : Nat} (hk : k < 9223372036854775807) : IntKind.wrap .i64 (Int.ofNat k + 1) = Int.ofNat (k + 1) := by rw [IntKind.wrap_i64]; simp; omega
theorem onesI (x : Int) : oneA (I x) = true := rfl
theorem nat_of {a : Int} (h : 0 ≤ a) : ∃ k : Nat, a = Int.ofNat k := ⟨a.toNat, by simp; omega⟩
theorem IsL_fr {h h' : Hp} {v : AV} {xs : List AV} (r : IsL h v xs) {P : Nat → Prop} (f : Fr P h h') (hp : ∀ n, nmO v = some n → ¬ P n) : IsL h' v xs := by
  rcases r with h1 | ⟨nm, off, rest, cap, z, rfl, h2, h3⟩
  · exact .inl h1
  · exact .inr ⟨nm, off, rest, cap, z, rfl, Nat.lt_of_lt_of_le h2 f.c, fun k x hx => by
      have := h3 k x hx
      unfold Abs.load at this ⊢
      rw [f.ro, f.m nm h2 (hp nm rfl)]
      exact this⟩
theorem IsL_lt {h : Hp} {v : AV} {xs : List AV} (r : IsL h v xs) {n : Nat} (hn : nmO v = some n) : n < h.c := by
  rcases r with ⟨rfl, _⟩ | ⟨nm, off, rest, cap, z, rfl, h2, _⟩
  · cases hn
  · cases hn; exact h2
theorem lenL {h : Hp} {v : AV} {xs : List Int} (r : IsL h v (xs.map I)) (h' : Hp) : builtinA ctx h' .len [22] [v] = some (I (Int.ofNat xs.length), h') := by
  have := r.len (h' := h') ty22 rfl
  rwa [List.length_map] at this
theorem atL {h : Hp} {v : AV} {xs : List Int} (r : IsL h v (xs.map I)) {k : Nat} {x : Int} (hx : xs[k]? = some x) :
    ∃ p, indexAddrA ctx 22 v (I (Int.ofNat k)) = some p ∧ ∀ h', Ext h h' → oLoad h' (some ti3) (some p) = some (I x, h') :=
  r.at ty22 rfl ty3 rfl rfl (by rw [List.getElem?_map, hx]; rfl)
theorem len22 {nm off n cap z : Nat} {r : Bool} (h : Hp) : builtinA ctx h .len [22] [.slice nm off n r cap z] = some (I (Int.ofNat n), h) := by
  simp only [builtinA, ty22, ti22]
  rfl
theorem maxI (a b : Int) : pureV (Builtin.max_ #[] 0 #[.int .i64 a, .int .i64 b]) = some (I (max a b)) := by
  show some (I (if a < b then b else a)) = _
  by_cases h : a < b
  · rw [if_pos h, Int.max_eq_right (by omega)]
  · rw [if_neg h, Int.max_eq_left (by omega)]
theorem minI (a b : Int) : pureV (Builtin.min_ #[] 0 #[.int .i64 a, .int .i64 b]) = some (I (min a b)) := by
  show some (I (if b < a then b else a)) = _
  by_cases h : b < a
  · rw [if_pos h, Int.min_eq_right (by omega)]
  · rw [if_neg h, Int.min_eq_left (by omega)]
theorem min22 (h : Hp) (a b : Nat) : builtinA ctx h .min [3, 3] [I (Int.ofNat a), I (Int.ofNat b)] = some (I (Int.ofNat (min a b)), h) := by
  simp only [builtinA, minI]
  rw [show min (Int.ofNat a) (Int.ofNat b) = Int.ofNat (min a b) by simp; omega]
theorem max22 (h : Hp) (a b : Nat) : builtinA ctx h .max [3, 3] [I (Int.ofNat a), I (Int.ofNat b)] = some (I (Int.ofNat (max a b)), h) := by
  simp only [builtinA, maxI]
  rw [show max (Int.ofNat a) (Int.ofNat b) = Int.ofNat (max a b) by simp; omega]
theorem ia22 {nm off n cap z k : Nat} {r : Bool} (hk : k < n) : indexAddrA ctx 22 (.slice nm off n r cap z) (I (Int.ofNat k)) = some (.ptr nm (off + k)) := ia_own ty22 rfl ty3 rfl hk
abbrev BI (h : Hp) (nm : Nat) (M : List Int) : Prop := Blks I h nm M
theorem copyB {h : Hp} {nm a n k : Nat} {M xs : List Int} {d x : AV} (b : BI h nm M) (s : Sl nm a n d) (ha : a + n ≤ M.length) (hk : lenA x = some k) (hx : elemsA h 1 (min k n) x = some (xs.map I)) (hl : xs.length = min k n) :
    ∃ h', builtinA ctx h .copy [22, 22] [d, x] = some (I (Int.ofNat (min k n)), h') ∧ Only nm h h' ∧ BI h' nm (patch M a xs) :=
  copy_blk (C := ctx) onesI ty22 rfl ty3 rfl b s ha hk hx hl
theorem clearB {h : Hp} {nm a n : Nat} {M : List Int} {d : AV} (b : BI h nm M) (s : Sl nm a n d) (ha : a + n ≤ M.length) :
    ∃ h', builtinA ctx h .clear [22] [d] = some (uv, h') ∧ Only nm h h' ∧ BI h' nm (patch M a (List.replicate n 0)) :=
  clear_blk (C := ctx) onesI ty22 rfl ty3 rfl rfl b s ha
theorem slB {nm n a b : Nat} (hab : a ≤ b) (hb : b ≤ n) : ∃ w, (∀ h, sliceA ctx h 22 (.slice nm 0 n false n 0) (some (I (Int.ofNat a))) (some (I (Int.ofNat b))) none = some (w, h)) ∧ Sl nm a (b - a) w := sl_both (C := ctx) ty22 rfl ty3 rfl hab hb
theorem slF {nm n a : Nat} (ha : a ≤ n) : ∃ w, (∀ h, sliceA ctx h 22 (.slice nm 0 n false n 0) (some (I (Int.ofNat a))) none none = some (w, h)) ∧ Sl nm a (n - a) w := sl_from (C := ctx) ty22 rfl ty3 rfl ha
theorem slT {nm n b : Nat} (hb : b ≤ n) : ∃ w, (∀ h, sliceA ctx h 22 (.slice nm 0 n false n 0) none (some (I (Int.ofNat b))) none = some (w, h)) ∧ Sl nm 0 b w := sl_to (C := ctx) ty22 rfl ty3 rfl hb
theorem mkB {h : Hp} {n : Nat} (hn : n ≤ 1048576) : ∃ h', makeSliceA ctx h 22 (I (Int.ofNat n)) (I (Int.ofNat n)) = some (.slice h.c 0 n false n 0, h') ∧ Ext h h' ∧ h'.c = h.c + 1 ∧ BI h' h.c (List.replicate n 0) :=
  make_blk (C := ctx) (f := I) (z := 0) ty22 rfl ty3 rfl rfl rfl rfl rfl hn
/-- the list of a buffer -/
def con (M : List Int) (f t : Nat) : List Int := M.take f ++ M.drop t
structure Buf (h : Hp) (p nm : Nat) (M : List Int) (f t : Nat) : Prop where
  lt : p < h.c
  ne : nm ≠ p
  c0 : Cell h p 0 (.slice nm 0 M.length false M.length 0)
  c1 : Cell h p 1 (I (Int.ofNat f))
  c2 : Cell h p 2 (I (Int.ofNat t))
  blk : BI h nm M
  le1 : f ≤ t
  le2 : t ≤ M.length
  sm : M.length ≤ 20000
theorem Buf.fr {h h' : Hp} {p nm : Nat} {M : List Int} {f t : Nat} (b : Buf h p nm M f t) {P : Nat → Prop} (a : Fr P h h') (h1 : ¬ P p) (h2 : ¬ P nm) : Buf h' p nm M f t :=
  ⟨Nat.lt_of_lt_of_le b.lt a.c, b.ne, a.cell b.lt h1 b.c0, a.cell b.lt h1 b.c1, a.cell b.lt h1 b.c2, b.blk.fr a h2, b.le1, b.le2, b.sm⟩
theorem Buf.ext {h h' : Hp} {p nm : Nat} {M : List Int} {f t : Nat} (b : Buf h p nm M f t) (a : Ext h h') : Buf h' p nm M f t := b.fr (a.fr (fun _ => False)) id id
theorem con_len {M : List Int} {f t : Nat} (h1 : f ≤ t) (h2 : t ≤ M.length) : (con M f t).length = M.length - (t - f) := by
  unfold con; rw [List.length_append, List.length_take, List.length_drop]; omega
theorem con_at {M : List Int} {f t : Nat} (h1 : f ≤ t) (h2 : t ≤ M.length) (k : Nat) : (con M f t)[k]? = if k < f then M[k]? else M[k + (t - f)]? := by
  unfold con
  rw [List.getElem?_append, List.length_take, List.getElem?_take, List.getElem?_drop, show min f M.length = f by omega]
  by_cases h : k < f
  · simp [h]
  · simp only [if_neg h]
    congr 1
    omega
theorem Buf.len {h : Hp} {p nm : Nat} {M : List Int} {f t : Nat} (b : Buf h p nm M f t) : (con M f t).length = M.length - (t - f) := con_len b.le1 b.le2
/-- from and to are written -/
theorem Buf.put {h : Hp} {p nm : Nat} {M : List Int} {f t : Nat} (b : Buf h p nm M f t) {f' t' : Nat} (h1 : f' ≤ t') (h2 : t' ≤ M.length) :
    ∃ h1 h2, Abs.store h p 1 [I (Int.ofNat f')] = some h1 ∧ Abs.store h1 p 2 [I (Int.ofNat t')] = some h2 ∧ Only p h h2 ∧ Buf h2 p nm M f' t' := by
  obtain ⟨g1, e1, s1⟩ := b.c1.store (w := I (Int.ofNat f')) rfl
  obtain ⟨g2, e2, s2⟩ := (s1.others _ _ _ (.inr (by omega)) b.c2).store (w := I (Int.ofNat t')) rfl
  have k1 := s1.c
  have k2 := s2.c
  have o := s1.only.trans s2.only
  exact ⟨g1, g2, e1, e2, o, ⟨by have := b.lt; omega, b.ne, s2.others _ _ _ (.inr (by omega)) (s1.others _ _ _ (.inr (by omega)) b.c0), s2.others _ _ _ (.inr (by omega)) s1.own, s2.own, b.blk.only o b.ne, h1, h2, b.sm⟩⟩
theorem Buf.put2 {h : Hp} {p nm : Nat} {M : List Int} {f t : Nat} (b : Buf h p nm M f t) {t' : Nat} (h1 : f ≤ t') (h2 : t' ≤ M.length) :
    ∃ h2, Abs.store h p 2 [I (Int.ofNat t')] = some h2 ∧ Only p h h2 ∧ Buf h2 p nm M f t' := by
  obtain ⟨g2, e2, s2⟩ := b.c2.store (w := I (Int.ofNat t')) rfl
  have k2 := s2.c
  exact ⟨g2, e2, s2.only, ⟨by have := b.lt; omega, b.ne, s2.others _ _ _ (.inr (by omega)) b.c0, s2.others _ _ _ (.inr (by omega)) b.c1, s2.own, b.blk.only s2.only b.ne, h1, h2, b.sm⟩⟩
theorem Buf.put1 {h : Hp} {p nm : Nat} {M : List Int} {f t : Nat} (b : Buf h p nm M f t) {f' : Nat} (h1 : f' ≤ t) :
    ∃ h2, Abs.store h p 1 [I (Int.ofNat f')] = some h2 ∧ Only p h h2 ∧ Buf h2 p nm M f' t := by
  obtain ⟨g2, e2, s2⟩ := b.c1.store (w := I (Int.ofNat f')) rfl
  have k2 := s2.c
  exact ⟨g2, e2, s2.only, ⟨by have := b.lt; omega, b.ne, s2.others _ _ _ (.inr (by omega)) b.c0, s2.own, s2.others _ _ _ (.inr (by omega)) b.c2, b.blk.only s2.only b.ne, h1, b.le2, b.sm⟩⟩
/-- the memory of a buffer is written -/
theorem Buf.mem {h h' : Hp} {p nm : Nat} {M M' : List Int} {f t : Nat} (b : Buf h p nm M f t) (o : Only nm h h') (m : BI h' nm M') (hl : M'.length = M.length) : Buf h' p nm M' f t := by
  have k := o.c
  have ne : p ≠ nm := fun e => b.ne e.symm
  exact ⟨by have := b.lt; omega, b.ne, by rw [hl]; exact o.cell ne b.c0, o.cell ne b.c1, o.cell ne b.c2, m, b.le1, by rw [hl]; exact b.le2, by rw [hl]; exact b.sm⟩
set_option maxHeartbeats 4000000 in
theorem c11 (d : Nat) (h : Hp) (p nm : Nat) (M : List Int) (f t : Nat) (b : Buf h p nm M f t) : runA ctx 5000 (d + 1) 11 [.ptr p 0] h = some (I (Int.ofNat (con M f t).length), h) := by
  have q1 := b.le1
  have q2 := b.le2
  have q3 := b.sm
  rw [b.len]
  have l0 := b.c0.load
  have l1 := b.c1.load
  have l2 := b.c2.load
  have ll : ∀ h', builtinA ctx h' .len [22] [(.slice nm 0 M.length false M.length 0)] = some (I (Int.ofNat M.length), h') := fun h' => len22 h'
  have w1 : IntKind.wrap .i64 (Int.ofNat t - Int.ofNat f) = Int.ofNat (t - f) := by rw [IntKind.wrap_i64]; simp only [Int.ofNat_eq_natCast]; omega
  have w2 : IntKind.wrap .i64 (Int.ofNat M.length - Int.ofNat (t - f)) = Int.ofNat (M.length - (t - f)) := by rw [IntKind.wrap_i64]; simp only [Int.ofNat_eq_natCast]; omega
  refine wv_eq ?_
  refine wv_run fn11 rfl ?_
  have a0 : (enterEnv [.ptr p 0] Try.f11.ntmps).get 0 = some (.ptr p 0) := enter_get1 _ _ _
  generalize enterEnv [.ptr p 0] Try.f11.ntmps = e at a0 ⊢
  unfold Try.f11
  dsimp only
  repeat' (first
    | refine wc_seq ?_
    | (refine wc_region rfl ?_; simp only [oUn_not, beq_self_eq_true, eq_self, pv_mul, List.toList_toArray, opsA_cons, opsA_nil, wantedA, guardA, yieldA, stepA_t, stepA_f, callA, calleeA, targetA, runOp_c, runOp_n, opA, ev, evs, evo, consO, consOO, withH, pickA, afterA_s, putA, T.get_put, Nat.reduceEqDiff, reduceIte, List.getElem?_toArray, List.getElem?_cons_zero, List.getElem?_cons_succ, oBuiltin, oBin, binA, binG, binL, aggO, litA, intA, ltF_eq, eqF_eq, oIndexAddr, cond_true, cond_false, Bool.not_true, Bool.not_false, decide_true, decide_false, blt_eq, tt_beq, tf_beq, ft_beq, ff_beq, Bool.and_true, Bool.true_and, Option.some.injEq, I, Bo, addI, subI, oExtract, Bool.not_eq_true', fieldAddrA, oFieldAddr, oLoad, oStore, isAggD, aggH, oneH, skipH, Nat.add_eq_left, Nat.left_eq_add, Nat.succ_ne_self, fieldA, partA, cellsOf, List.length_cons, List.length_nil, Nat.reduceAdd, Nat.zero_add, Nat.add_zero, Nat.mul_one, Nat.reduceMul, nbeq_self, onesA_cons', onesA_nil, oneA, Value.oneCell', Nat.reduceLT, ty3, ti3, ty22, ti22, ty25, ti25, ty39, ti39, a0, l0, l1, l2, ll, w1, w2, eqA, eqD, eqOp, nilCheckA]; refine ⟨_, _, rfl, ?_⟩)
    | (refine wc_cond (by simp only [oUn_not, beq_self_eq_true, eq_self, pv_mul, List.toList_toArray, opsA_cons, opsA_nil, wantedA, guardA, yieldA, stepA_t, stepA_f, callA, calleeA, targetA, runOp_c, runOp_n, opA, ev, evs, evo, consO, consOO, withH, pickA, afterA_s, putA, T.get_put, Nat.reduceEqDiff, reduceIte, List.getElem?_toArray, List.getElem?_cons_zero, List.getElem?_cons_succ, oBuiltin, oBin, binA, binG, binL, aggO, litA, intA, ltF_eq, eqF_eq, oIndexAddr, cond_true, cond_false, Bool.not_true, Bool.not_false, decide_true, decide_false, blt_eq, tt_beq, tf_beq, ft_beq, ff_beq, Bool.and_true, Bool.true_and, Option.some.injEq, I, Bo, addI, subI, oExtract, Bool.not_eq_true', fieldAddrA, oFieldAddr, oLoad, oStore, isAggD, aggH, oneH, skipH, Nat.add_eq_left, Nat.left_eq_add, Nat.succ_ne_self, fieldA, partA, cellsOf, List.length_cons, List.length_nil, Nat.reduceAdd, Nat.zero_add, Nat.add_zero, Nat.mul_one, Nat.reduceMul, nbeq_self, onesA_cons', onesA_nil, oneA, Value.oneCell', Nat.reduceLT, ty3, ti3, ty22, ti22, ty25, ti25, ty39, ti39, a0, l0, l1, l2, ll, w1, w2, eqA, eqD, eqOp, nilCheckA]; rfl) ?_ ?_ <;> intro hb <;> first | (exfalso; exact Bool.noConfusion hb) | skip)
    | refine wc_block ?_
    | refine wc_skip ?_
    | refine wc_scope (by decide) ?_
    | refine wc_label ?_
    | refine wc_exit ?_
    | refine wc_ret ?_
    | refine wv_ret (by simp only [resA, resOne]; simp only [oUn_not, beq_self_eq_true, eq_self, pv_mul, List.toList_toArray, opsA_cons, opsA_nil, wantedA, guardA, yieldA, stepA_t, stepA_f, callA, calleeA, targetA, runOp_c, runOp_n, opA, ev, evs, evo, consO, consOO, withH, pickA, afterA_s, putA, T.get_put, Nat.reduceEqDiff, reduceIte, List.getElem?_toArray, List.getElem?_cons_zero, List.getElem?_cons_succ, oBuiltin, oBin, binA, binG, binL, aggO, litA, intA, ltF_eq, eqF_eq, oIndexAddr, cond_true, cond_false, Bool.not_true, Bool.not_false, decide_true, decide_false, blt_eq, tt_beq, tf_beq, ft_beq, ff_beq, Bool.and_true, Bool.true_and, Option.some.injEq, I, Bo, addI, subI, oExtract, Bool.not_eq_true', fieldAddrA, oFieldAddr, oLoad, oStore, isAggD, aggH, oneH, skipH, Nat.add_eq_left, Nat.left_eq_add, Nat.succ_ne_self, fieldA, partA, cellsOf, List.length_cons, List.length_nil, Nat.reduceAdd, Nat.zero_add, Nat.add_zero, Nat.mul_one, Nat.reduceMul, nbeq_self, onesA_cons', onesA_nil, oneA, Value.oneCell', Nat.reduceLT, ty3, ti3, ty22, ti22, ty25, ti25, ty39, ti39, a0, l0, l1, l2, ll, w1, w2, eqA, eqD, eqOp, nilCheckA]; rfl) ?_)
  all_goals exact ⟨rfl, rfl⟩
set_option maxHeartbeats 4000000 in
theorem c28 (d : Nat) (h : Hp) (p nm : Nat) (M : List Int) (f t k : Nat) (b : Buf h p nm M f t) (hk : k < f) : runA ctx 5000 (d + 1) 28 [.ptr p 0, I (Int.ofNat k)] h = some (I (Int.ofNat (k)), h) := by
  have q1 := b.le1
  have q2 := b.le2
  have q3 := b.sm
  have l0 := b.c0.load
  have l1 := b.c1.load
  have l2 := b.c2.load
  have z1 : decide (Int.ofNat k < Int.ofNat f) = true := by first | (simp; done) | (simp; omega) | (simp only [Int.ofNat_eq_natCast, decide_eq_true_eq, decide_eq_false_iff_not]; omega)
  refine wv_eq ?_
  refine wv_run fn28 rfl ?_
  have a0 : (enterEnv [.ptr p 0, I (Int.ofNat k)] Try.f28.ntmps).get 0 = some (.ptr p 0) := enter_get1 _ _ _
  have a1 : (enterEnv [.ptr p 0, I (Int.ofNat k)] Try.f28.ntmps).get 1 = some (I (Int.ofNat k)) := enter_get2 _ _ _ _
  generalize enterEnv [.ptr p 0, I (Int.ofNat k)] Try.f28.ntmps = e at a0 a1 ⊢
  unfold Try.f28
  dsimp only
  repeat' (first
    | refine wc_seq ?_
    | (refine wc_region rfl ?_; simp only [oUn_not, beq_self_eq_true, eq_self, pv_mul, List.toList_toArray, opsA_cons, opsA_nil, wantedA, guardA, yieldA, stepA_t, stepA_f, callA, calleeA, targetA, runOp_c, runOp_n, opA, ev, evs, evo, consO, consOO, withH, pickA, afterA_s, putA, T.get_put, Nat.reduceEqDiff, reduceIte, List.getElem?_toArray, List.getElem?_cons_zero, List.getElem?_cons_succ, oBuiltin, oBin, binA, binG, binL, aggO, litA, intA, ltF_eq, eqF_eq, oIndexAddr, cond_true, cond_false, Bool.not_true, Bool.not_false, decide_true, decide_false, blt_eq, tt_beq, tf_beq, ft_beq, ff_beq, Bool.and_true, Bool.true_and, Option.some.injEq, I, Bo, addI, subI, oExtract, Bool.not_eq_true', fieldAddrA, oFieldAddr, oLoad, oStore, isAggD, aggH, oneH, skipH, Nat.add_eq_left, Nat.left_eq_add, Nat.succ_ne_self, fieldA, partA, cellsOf, List.length_cons, List.length_nil, Nat.reduceAdd, Nat.zero_add, Nat.add_zero, Nat.mul_one, Nat.reduceMul, nbeq_self, onesA_cons', onesA_nil, oneA, Value.oneCell', Nat.reduceLT, ty3, ti3, ty39, ti39, a0, a1, l1, l2, z1, eqA, eqD, eqOp, nilCheckA]; refine ⟨_, _, rfl, ?_⟩)
    | (refine wc_cond (by simp only [oUn_not, beq_self_eq_true, eq_self, pv_mul, List.toList_toArray, opsA_cons, opsA_nil, wantedA, guardA, yieldA, stepA_t, stepA_f, callA, calleeA, targetA, runOp_c, runOp_n, opA, ev, evs, evo, consO, consOO, withH, pickA, afterA_s, putA, T.get_put, Nat.reduceEqDiff, reduceIte, List.getElem?_toArray, List.getElem?_cons_zero, List.getElem?_cons_succ, oBuiltin, oBin, binA, binG, binL, aggO, litA, intA, ltF_eq, eqF_eq, oIndexAddr, cond_true, cond_false, Bool.not_true, Bool.not_false, decide_true, decide_false, blt_eq, tt_beq, tf_beq, ft_beq, ff_beq, Bool.and_true, Bool.true_and, Option.some.injEq, I, Bo, addI, subI, oExtract, Bool.not_eq_true', fieldAddrA, oFieldAddr, oLoad, oStore, isAggD, aggH, oneH, skipH, Nat.add_eq_left, Nat.left_eq_add, Nat.succ_ne_self, fieldA, partA, cellsOf, List.length_cons, List.length_nil, Nat.reduceAdd, Nat.zero_add, Nat.add_zero, Nat.mul_one, Nat.reduceMul, nbeq_self, onesA_cons', onesA_nil, oneA, Value.oneCell', Nat.reduceLT, ty3, ti3, ty39, ti39, a0, a1, l1, l2, z1, eqA, eqD, eqOp, nilCheckA]; rfl) ?_ ?_ <;> intro hb <;> first | (exfalso; exact Bool.noConfusion hb) | skip)
    | refine wc_block ?_
    | refine wc_skip ?_
    | refine wc_scope (by decide) ?_
    | refine wc_label ?_
    | refine wc_exit ?_
    | refine wc_ret ?_
    | refine wv_ret (by simp only [resA, resOne]; simp only [oUn_not, beq_self_eq_true, eq_self, pv_mul, List.toList_toArray, opsA_cons, opsA_nil, wantedA, guardA, yieldA, stepA_t, stepA_f, callA, calleeA, targetA, runOp_c, runOp_n, opA, ev, evs, evo, consO, consOO, withH, pickA, afterA_s, putA, T.get_put, Nat.reduceEqDiff, reduceIte, List.getElem?_toArray, List.getElem?_cons_zero, List.getElem?_cons_succ, oBuiltin, oBin, binA, binG, binL, aggO, litA, intA, ltF_eq, eqF_eq, oIndexAddr, cond_true, cond_false, Bool.not_true, Bool.not_false, decide_true, decide_false, blt_eq, tt_beq, tf_beq, ft_beq, ff_beq, Bool.and_true, Bool.true_and, Option.some.injEq, I, Bo, addI, subI, oExtract, Bool.not_eq_true', fieldAddrA, oFieldAddr, oLoad, oStore, isAggD, aggH, oneH, skipH, Nat.add_eq_left, Nat.left_eq_add, Nat.succ_ne_self, fieldA, partA, cellsOf, List.length_cons, List.length_nil, Nat.reduceAdd, Nat.zero_add, Nat.add_zero, Nat.mul_one, Nat.reduceMul, nbeq_self, onesA_cons', onesA_nil, oneA, Value.oneCell', Nat.reduceLT, ty3, ti3, ty39, ti39, a0, a1, l1, l2, z1, eqA, eqD, eqOp, nilCheckA]; rfl) ?_)
  all_goals exact ⟨rfl, rfl⟩
set_option maxHeartbeats 4000000 in
theorem c28b (d : Nat) (h : Hp) (p nm : Nat) (M : List Int) (f t k : Nat) (b : Buf h p nm M f t) (hk : f ≤ k) (hk2 : k ≤ 20000) : runA ctx 5000 (d + 1) 28 [.ptr p 0, I (Int.ofNat k)] h = some (I (Int.ofNat (k + (t - f))), h) := by
  have q1 := b.le1
  have q2 := b.le2
  have q3 := b.sm
  have l0 := b.c0.load
  have l1 := b.c1.load
  have l2 := b.c2.load
  have z1 : decide (Int.ofNat k < Int.ofNat f) = false := by first | (simp; done) | (simp; omega) | (simp only [Int.ofNat_eq_natCast, decide_eq_true_eq, decide_eq_false_iff_not]; omega)
  have w1 : IntKind.wrap .i64 (Int.ofNat k + Int.ofNat t) = Int.ofNat (k + t) := by rw [IntKind.wrap_i64]; simp only [Int.ofNat_eq_natCast]; omega
  have w2 : IntKind.wrap .i64 (Int.ofNat (k + t) - Int.ofNat f) = Int.ofNat (k + (t - f)) := by rw [IntKind.wrap_i64]; simp only [Int.ofNat_eq_natCast]; omega
  refine wv_eq ?_
  refine wv_run fn28 rfl ?_
  have a0 : (enterEnv [.ptr p 0, I (Int.ofNat k)] Try.f28.ntmps).get 0 = some (.ptr p 0) := enter_get1 _ _ _
  have a1 : (enterEnv [.ptr p 0, I (Int.ofNat k)] Try.f28.ntmps).get 1 = some (I (Int.ofNat k)) := enter_get2 _ _ _ _
  generalize enterEnv [.ptr p 0, I (Int.ofNat k)] Try.f28.ntmps = e at a0 a1 ⊢
  unfold Try.f28
  dsimp only
  repeat' (first
    | refine wc_seq ?_
    | (refine wc_region rfl ?_; simp only [oUn_not, beq_self_eq_true, eq_self, pv_mul, List.toList_toArray, opsA_cons, opsA_nil, wantedA, guardA, yieldA, stepA_t, stepA_f, callA, calleeA, targetA, runOp_c, runOp_n, opA, ev, evs, evo, consO, consOO, withH, pickA, afterA_s, putA, T.get_put, Nat.reduceEqDiff, reduceIte, List.getElem?_toArray, List.getElem?_cons_zero, List.getElem?_cons_succ, oBuiltin, oBin, binA, binG, binL, aggO, litA, intA, ltF_eq, eqF_eq, oIndexAddr, cond_true, cond_false, Bool.not_true, Bool.not_false, decide_true, decide_false, blt_eq, tt_beq, tf_beq, ft_beq, ff_beq, Bool.and_true, Bool.true_and, Option.some.injEq, I, Bo, addI, subI, oExtract, Bool.not_eq_true', fieldAddrA, oFieldAddr, oLoad, oStore, isAggD, aggH, oneH, skipH, Nat.add_eq_left, Nat.left_eq_add, Nat.succ_ne_self, fieldA, partA, cellsOf, List.length_cons, List.length_nil, Nat.reduceAdd, Nat.zero_add, Nat.add_zero, Nat.mul_one, Nat.reduceMul, nbeq_self, onesA_cons', onesA_nil, oneA, Value.oneCell', Nat.reduceLT, ty3, ti3, ty39, ti39, a0, a1, l1, l2, z1, w1, w2, eqA, eqD, eqOp, nilCheckA]; refine ⟨_, _, rfl, ?_⟩)
    | (refine wc_cond (by simp only [oUn_not, beq_self_eq_true, eq_self, pv_mul, List.toList_toArray, opsA_cons, opsA_nil, wantedA, guardA, yieldA, stepA_t, stepA_f, callA, calleeA, targetA, runOp_c, runOp_n, opA, ev, evs, evo, consO, consOO, withH, pickA, afterA_s, putA, T.get_put, Nat.reduceEqDiff, reduceIte, List.getElem?_toArray, List.getElem?_cons_zero, List.getElem?_cons_succ, oBuiltin, oBin, binA, binG, binL, aggO, litA, intA, ltF_eq, eqF_eq, oIndexAddr, cond_true, cond_false, Bool.not_true, Bool.not_false, decide_true, decide_false, blt_eq, tt_beq, tf_beq, ft_beq, ff_beq, Bool.and_true, Bool.true_and, Option.some.injEq, I, Bo, addI, subI, oExtract, Bool.not_eq_true', fieldAddrA, oFieldAddr, oLoad, oStore, isAggD, aggH, oneH, skipH, Nat.add_eq_left, Nat.left_eq_add, Nat.succ_ne_self, fieldA, partA, cellsOf, List.length_cons, List.length_nil, Nat.reduceAdd, Nat.zero_add, Nat.add_zero, Nat.mul_one, Nat.reduceMul, nbeq_self, onesA_cons', onesA_nil, oneA, Value.oneCell', Nat.reduceLT, ty3, ti3, ty39, ti39, a0, a1, l1, l2, z1, w1, w2, eqA, eqD, eqOp, nilCheckA]; rfl) ?_ ?_ <;> intro hb <;> first | (exfalso; exact Bool.noConfusion hb) | skip)
    | refine wc_block ?_
    | refine wc_skip ?_
    | refine wc_scope (by decide) ?_
    | refine wc_label ?_
    | refine wc_exit ?_
    | refine wc_ret ?_
    | refine wv_ret (by simp only [resA, resOne]; simp only [oUn_not, beq_self_eq_true, eq_self, pv_mul, List.toList_toArray, opsA_cons, opsA_nil, wantedA, guardA, yieldA, stepA_t, stepA_f, callA, calleeA, targetA, runOp_c, runOp_n, opA, ev, evs, evo, consO, consOO, withH, pickA, afterA_s, putA, T.get_put, Nat.reduceEqDiff, reduceIte, List.getElem?_toArray, List.getElem?_cons_zero, List.getElem?_cons_succ, oBuiltin, oBin, binA, binG, binL, aggO, litA, intA, ltF_eq, eqF_eq, oIndexAddr, cond_true, cond_false, Bool.not_true, Bool.not_false, decide_true, decide_false, blt_eq, tt_beq, tf_beq, ft_beq, ff_beq, Bool.and_true, Bool.true_and, Option.some.injEq, I, Bo, addI, subI, oExtract, Bool.not_eq_true', fieldAddrA, oFieldAddr, oLoad, oStore, isAggD, aggH, oneH, skipH, Nat.add_eq_left, Nat.left_eq_add, Nat.succ_ne_self, fieldA, partA, cellsOf, List.length_cons, List.length_nil, Nat.reduceAdd, Nat.zero_add, Nat.add_zero, Nat.mul_one, Nat.reduceMul, nbeq_self, onesA_cons', onesA_nil, oneA, Value.oneCell', Nat.reduceLT, ty3, ti3, ty39, ti39, a0, a1, l1, l2, z1, w1, w2, eqA, eqD, eqOp, nilCheckA]; rfl) ?_)
  all_goals exact ⟨rfl, rfl⟩
set_option maxHeartbeats 4000000 in
theorem c24 (d : Nat) (h : Hp) (p nm : Nat) (M : List Int) (f t : Nat) (a k : Int) (b : Buf h p nm M f t) (hv : 0 ≤ a ∧ 0 ≤ k ∧ a ≤ Int.ofNat (con M f t).length ∧ k ≤ Int.ofNat (con M f t).length - a) : runA ctx 5000 (d + 2) 24 [.ptr p 0, I a, I k] h = some (I 0, h) := by
  have q1 := b.le1
  have q2 := b.le2
  have q3 := b.sm
  have q4 := b.len
  have q11 : runA ctx 5000 (d + 1) 11 [.ptr p 0] h = some (I (Int.ofNat (con M f t).length), h) := c11 d h p nm M f t b
  have z1 : decide (a < 0) = false := by simp only [Int.ofNat_eq_natCast, decide_eq_true_eq, decide_eq_false_iff_not] at *; omega
  have z2 : decide (k < 0) = false := by simp only [Int.ofNat_eq_natCast, decide_eq_true_eq, decide_eq_false_iff_not] at *; omega
  have z3 : decide (Int.ofNat (con M f t).length < a) = false := by simp only [Int.ofNat_eq_natCast, decide_eq_true_eq, decide_eq_false_iff_not] at *; omega
  have w1 : IntKind.wrap .i64 (Int.ofNat (con M f t).length - a) = Int.ofNat (con M f t).length - a := by rw [IntKind.wrap_i64]; simp only [Int.ofNat_eq_natCast] at *; omega
  have z4 : decide (Int.ofNat (con M f t).length - a < k) = false := by simp only [Int.ofNat_eq_natCast, decide_eq_true_eq, decide_eq_false_iff_not] at *; omega
  refine wv_eq ?_
  refine wv_run fn24 rfl ?_
  have a0 : (enterEnv [.ptr p 0, I a, I k] Try.f24.ntmps).get 0 = some (.ptr p 0) := enter_get1 _ _ _
  have a1 : (enterEnv [.ptr p 0, I a, I k] Try.f24.ntmps).get 1 = some (I a) := enter_get2 _ _ _ _
  have a2 : (enterEnv [.ptr p 0, I a, I k] Try.f24.ntmps).get 2 = some (I k) := enter_get3 _ _ _ _ _
  generalize enterEnv [.ptr p 0, I a, I k] Try.f24.ntmps = e at a0 a1 a2 ⊢
  unfold Try.f24
  dsimp only
  repeat' (first
    | refine wc_seq ?_
    | (refine wc_region rfl ?_; simp only [oUn_not, beq_self_eq_true, eq_self, pv_mul, List.toList_toArray, opsA_cons, opsA_nil, wantedA, guardA, yieldA, stepA_t, stepA_f, callA, calleeA, targetA, runOp_c, runOp_n, opA, ev, evs, evo, consO, consOO, withH, pickA, afterA_s, putA, T.get_put, Nat.reduceEqDiff, reduceIte, List.getElem?_toArray, List.getElem?_cons_zero, List.getElem?_cons_succ, oBuiltin, oBin, binA, binG, binL, aggO, litA, intA, ltF_eq, eqF_eq, oIndexAddr, cond_true, cond_false, Bool.not_true, Bool.not_false, decide_true, decide_false, blt_eq, tt_beq, tf_beq, ft_beq, ff_beq, Bool.and_true, Bool.true_and, Option.some.injEq, I, Bo, addI, subI, oExtract, Bool.not_eq_true', fieldAddrA, oFieldAddr, oLoad, oStore, isAggD, aggH, oneH, skipH, Nat.add_eq_left, Nat.left_eq_add, Nat.succ_ne_self, fieldA, partA, cellsOf, List.length_cons, List.length_nil, Nat.reduceAdd, Nat.zero_add, Nat.add_zero, Nat.mul_one, Nat.reduceMul, nbeq_self, onesA_cons', onesA_nil, oneA, Value.oneCell', Nat.reduceLT, ty3, ti3, ty25, ti25, a0, a1, a2, q11, uv, z1, z2, z3, w1, z4, eqA, eqD, eqOp, nilCheckA]; refine ⟨_, _, rfl, ?_⟩)
    | (refine wc_cond (by simp only [oUn_not, beq_self_eq_true, eq_self, pv_mul, List.toList_toArray, opsA_cons, opsA_nil, wantedA, guardA, yieldA, stepA_t, stepA_f, callA, calleeA, targetA, runOp_c, runOp_n, opA, ev, evs, evo, consO, consOO, withH, pickA, afterA_s, putA, T.get_put, Nat.reduceEqDiff, reduceIte, List.getElem?_toArray, List.getElem?_cons_zero, List.getElem?_cons_succ, oBuiltin, oBin, binA, binG, binL, aggO, litA, intA, ltF_eq, eqF_eq, oIndexAddr, cond_true, cond_false, Bool.not_true, Bool.not_false, decide_true, decide_false, blt_eq, tt_beq, tf_beq, ft_beq, ff_beq, Bool.and_true, Bool.true_and, Option.some.injEq, I, Bo, addI, subI, oExtract, Bool.not_eq_true', fieldAddrA, oFieldAddr, oLoad, oStore, isAggD, aggH, oneH, skipH, Nat.add_eq_left, Nat.left_eq_add, Nat.succ_ne_self, fieldA, partA, cellsOf, List.length_cons, List.length_nil, Nat.reduceAdd, Nat.zero_add, Nat.add_zero, Nat.mul_one, Nat.reduceMul, nbeq_self, onesA_cons', onesA_nil, oneA, Value.oneCell', Nat.reduceLT, ty3, ti3, ty25, ti25, a0, a1, a2, q11, uv, z1, z2, z3, w1, z4, eqA, eqD, eqOp, nilCheckA]; rfl) ?_ ?_ <;> intro hb <;> first | (exfalso; exact Bool.noConfusion hb) | skip)
    | refine wc_block ?_
    | refine wc_skip ?_
    | refine wc_scope (by decide) ?_
    | refine wc_label ?_
    | refine wc_exit ?_
    | refine wc_ret ?_
    | refine wv_ret (by simp only [resA, resOne]; simp only [oUn_not, beq_self_eq_true, eq_self, pv_mul, List.toList_toArray, opsA_cons, opsA_nil, wantedA, guardA, yieldA, stepA_t, stepA_f, callA, calleeA, targetA, runOp_c, runOp_n, opA, ev, evs, evo, consO, consOO, withH, pickA, afterA_s, putA, T.get_put, Nat.reduceEqDiff, reduceIte, List.getElem?_toArray, List.getElem?_cons_zero, List.getElem?_cons_succ, oBuiltin, oBin, binA, binG, binL, aggO, litA, intA, ltF_eq, eqF_eq, oIndexAddr, cond_true, cond_false, Bool.not_true, Bool.not_false, decide_true, decide_false, blt_eq, tt_beq, tf_beq, ft_beq, ff_beq, Bool.and_true, Bool.true_and, Option.some.injEq, I, Bo, addI, subI, oExtract, Bool.not_eq_true', fieldAddrA, oFieldAddr, oLoad, oStore, isAggD, aggH, oneH, skipH, Nat.add_eq_left, Nat.left_eq_add, Nat.succ_ne_self, fieldA, partA, cellsOf, List.length_cons, List.length_nil, Nat.reduceAdd, Nat.zero_add, Nat.add_zero, Nat.mul_one, Nat.reduceMul, nbeq_self, onesA_cons', onesA_nil, oneA, Value.oneCell', Nat.reduceLT, ty3, ti3, ty25, ti25, a0, a1, a2, q11, uv, z1, z2, z3, w1, z4, eqA, eqD, eqOp, nilCheckA]; rfl) ?_)
  all_goals exact ⟨rfl, rfl⟩
set_option maxHeartbeats 4000000 in
theorem c24x0 (d : Nat) (h : Hp) (p nm : Nat) (M : List Int) (f t : Nat) (a k : Int) (b : Buf h p nm M f t) (h0 : a < 0) : runA ctx 5000 (d + 2) 24 [.ptr p 0, I a, I k] h = some (I 4, h) := by
  have q1 := b.le1
  have q2 := b.le2
  have q3 := b.sm
  have q4 := b.len
  have q11 : runA ctx 5000 (d + 1) 11 [.ptr p 0] h = some (I (Int.ofNat (con M f t).length), h) := c11 d h p nm M f t b
  have z1 : decide (a < 0) = true := by simp only [Int.ofNat_eq_natCast, decide_eq_true_eq, decide_eq_false_iff_not] at *; omega
  refine wv_eq ?_
  refine wv_run fn24 rfl ?_
  have a0 : (enterEnv [.ptr p 0, I a, I k] Try.f24.ntmps).get 0 = some (.ptr p 0) := enter_get1 _ _ _
  have a1 : (enterEnv [.ptr p 0, I a, I k] Try.f24.ntmps).get 1 = some (I a) := enter_get2 _ _ _ _
  have a2 : (enterEnv [.ptr p 0, I a, I k] Try.f24.ntmps).get 2 = some (I k) := enter_get3 _ _ _ _ _
  generalize enterEnv [.ptr p 0, I a, I k] Try.f24.ntmps = e at a0 a1 a2 ⊢
  unfold Try.f24
  dsimp only
  repeat' (first
    | refine wc_seq ?_
    | (refine wc_region rfl ?_; simp only [oUn_not, beq_self_eq_true, eq_self, pv_mul, List.toList_toArray, opsA_cons, opsA_nil, wantedA, guardA, yieldA, stepA_t, stepA_f, callA, calleeA, targetA, runOp_c, runOp_n, opA, ev, evs, evo, consO, consOO, withH, pickA, afterA_s, putA, T.get_put, Nat.reduceEqDiff, reduceIte, List.getElem?_toArray, List.getElem?_cons_zero, List.getElem?_cons_succ, oBuiltin, oBin, binA, binG, binL, aggO, litA, intA, ltF_eq, eqF_eq, oIndexAddr, cond_true, cond_false, Bool.not_true, Bool.not_false, decide_true, decide_false, blt_eq, tt_beq, tf_beq, ft_beq, ff_beq, Bool.and_true, Bool.true_and, Option.some.injEq, I, Bo, addI, subI, oExtract, Bool.not_eq_true', fieldAddrA, oFieldAddr, oLoad, oStore, isAggD, aggH, oneH, skipH, Nat.add_eq_left, Nat.left_eq_add, Nat.succ_ne_self, fieldA, partA, cellsOf, List.length_cons, List.length_nil, Nat.reduceAdd, Nat.zero_add, Nat.add_zero, Nat.mul_one, Nat.reduceMul, nbeq_self, onesA_cons', onesA_nil, oneA, Value.oneCell', Nat.reduceLT, ty3, ti3, ty25, ti25, a0, a1, a2, q11, uv, z1, eqA, eqD, eqOp, nilCheckA]; refine ⟨_, _, rfl, ?_⟩)
    | (refine wc_cond (by simp only [oUn_not, beq_self_eq_true, eq_self, pv_mul, List.toList_toArray, opsA_cons, opsA_nil, wantedA, guardA, yieldA, stepA_t, stepA_f, callA, calleeA, targetA, runOp_c, runOp_n, opA, ev, evs, evo, consO, consOO, withH, pickA, afterA_s, putA, T.get_put, Nat.reduceEqDiff, reduceIte, List.getElem?_toArray, List.getElem?_cons_zero, List.getElem?_cons_succ, oBuiltin, oBin, binA, binG, binL, aggO, litA, intA, ltF_eq, eqF_eq, oIndexAddr, cond_true, cond_false, Bool.not_true, Bool.not_false, decide_true, decide_false, blt_eq, tt_beq, tf_beq, ft_beq, ff_beq, Bool.and_true, Bool.true_and, Option.some.injEq, I, Bo, addI, subI, oExtract, Bool.not_eq_true', fieldAddrA, oFieldAddr, oLoad, oStore, isAggD, aggH, oneH, skipH, Nat.add_eq_left, Nat.left_eq_add, Nat.succ_ne_self, fieldA, partA, cellsOf, List.length_cons, List.length_nil, Nat.reduceAdd, Nat.zero_add, Nat.add_zero, Nat.mul_one, Nat.reduceMul, nbeq_self, onesA_cons', onesA_nil, oneA, Value.oneCell', Nat.reduceLT, ty3, ti3, ty25, ti25, a0, a1, a2, q11, uv, z1, eqA, eqD, eqOp, nilCheckA]; rfl) ?_ ?_ <;> intro hb <;> first | (exfalso; exact Bool.noConfusion hb) | skip)
    | refine wc_block ?_
    | refine wc_skip ?_
    | refine wc_scope (by decide) ?_
    | refine wc_label ?_
    | refine wc_exit ?_
    | refine wc_ret ?_
    | refine wv_ret (by simp only [resA, resOne]; simp only [oUn_not, beq_self_eq_true, eq_self, pv_mul, List.toList_toArray, opsA_cons, opsA_nil, wantedA, guardA, yieldA, stepA_t, stepA_f, callA, calleeA, targetA, runOp_c, runOp_n, opA, ev, evs, evo, consO, consOO, withH, pickA, afterA_s, putA, T.get_put, Nat.reduceEqDiff, reduceIte, List.getElem?_toArray, List.getElem?_cons_zero, List.getElem?_cons_succ, oBuiltin, oBin, binA, binG, binL, aggO, litA, intA, ltF_eq, eqF_eq, oIndexAddr, cond_true, cond_false, Bool.not_true, Bool.not_false, decide_true, decide_false, blt_eq, tt_beq, tf_beq, ft_beq, ff_beq, Bool.and_true, Bool.true_and, Option.some.injEq, I, Bo, addI, subI, oExtract, Bool.not_eq_true', fieldAddrA, oFieldAddr, oLoad, oStore, isAggD, aggH, oneH, skipH, Nat.add_eq_left, Nat.left_eq_add, Nat.succ_ne_self, fieldA, partA, cellsOf, List.length_cons, List.length_nil, Nat.reduceAdd, Nat.zero_add, Nat.add_zero, Nat.mul_one, Nat.reduceMul, nbeq_self, onesA_cons', onesA_nil, oneA, Value.oneCell', Nat.reduceLT, ty3, ti3, ty25, ti25, a0, a1, a2, q11, uv, z1, eqA, eqD, eqOp, nilCheckA]; rfl) ?_)
  all_goals exact ⟨rfl, rfl⟩
set_option maxHeartbeats 4000000 in
theorem c24x1 (d : Nat) (h : Hp) (p nm : Nat) (M : List Int) (f t : Nat) (a k : Int) (b : Buf h p nm M f t) (h0 : ¬ a < 0) (h1 : k < 0) : runA ctx 5000 (d + 2) 24 [.ptr p 0, I a, I k] h = some (I 4, h) := by
  have q1 := b.le1
  have q2 := b.le2
  have q3 := b.sm
  have q4 := b.len
  have q11 : runA ctx 5000 (d + 1) 11 [.ptr p 0] h = some (I (Int.ofNat (con M f t).length), h) := c11 d h p nm M f t b
  have z1 : decide (a < 0) = false := by simp only [Int.ofNat_eq_natCast, decide_eq_true_eq, decide_eq_false_iff_not] at *; omega
  have z2 : decide (k < 0) = true := by simp only [Int.ofNat_eq_natCast, decide_eq_true_eq, decide_eq_false_iff_not] at *; omega
  refine wv_eq ?_
  refine wv_run fn24 rfl ?_
  have a0 : (enterEnv [.ptr p 0, I a, I k] Try.f24.ntmps).get 0 = some (.ptr p 0) := enter_get1 _ _ _
  have a1 : (enterEnv [.ptr p 0, I a, I k] Try.f24.ntmps).get 1 = some (I a) := enter_get2 _ _ _ _
  have a2 : (enterEnv [.ptr p 0, I a, I k] Try.f24.ntmps).get 2 = some (I k) := enter_get3 _ _ _ _ _
  generalize enterEnv [.ptr p 0, I a, I k] Try.f24.ntmps = e at a0 a1 a2 ⊢
  unfold Try.f24
  dsimp only
  repeat' (first
    | refine wc_seq ?_
    | (refine wc_region rfl ?_; simp only [oUn_not, beq_self_eq_true, eq_self, pv_mul, List.toList_toArray, opsA_cons, opsA_nil, wantedA, guardA, yieldA, stepA_t, stepA_f, callA, calleeA, targetA, runOp_c, runOp_n, opA, ev, evs, evo, consO, consOO, withH, pickA, afterA_s, putA, T.get_put, Nat.reduceEqDiff, reduceIte, List.getElem?_toArray, List.getElem?_cons_zero, List.getElem?_cons_succ, oBuiltin, oBin, binA, binG, binL, aggO, litA, intA, ltF_eq, eqF_eq, oIndexAddr, cond_true, cond_false, Bool.not_true, Bool.not_false, decide_true, decide_false, blt_eq, tt_beq, tf_beq, ft_beq, ff_beq, Bool.and_true, Bool.true_and, Option.some.injEq, I, Bo, addI, subI, oExtract, Bool.not_eq_true', fieldAddrA, oFieldAddr, oLoad, oStore, isAggD, aggH, oneH, skipH, Nat.add_eq_left, Nat.left_eq_add, Nat.succ_ne_self, fieldA, partA, cellsOf, List.length_cons, List.length_nil, Nat.reduceAdd, Nat.zero_add, Nat.add_zero, Nat.mul_one, Nat.reduceMul, nbeq_self, onesA_cons', onesA_nil, oneA, Value.oneCell', Nat.reduceLT, ty3, ti3, ty25, ti25, a0, a1, a2, q11, uv, z1, z2, eqA, eqD, eqOp, nilCheckA]; refine ⟨_, _, rfl, ?_⟩)
    | (refine wc_cond (by simp only [oUn_not, beq_self_eq_true, eq_self, pv_mul, List.toList_toArray, opsA_cons, opsA_nil, wantedA, guardA, yieldA, stepA_t, stepA_f, callA, calleeA, targetA, runOp_c, runOp_n, opA, ev, evs, evo, consO, consOO, withH, pickA, afterA_s, putA, T.get_put, Nat.reduceEqDiff, reduceIte, List.getElem?_toArray, List.getElem?_cons_zero, List.getElem?_cons_succ, oBuiltin, oBin, binA, binG, binL, aggO, litA, intA, ltF_eq, eqF_eq, oIndexAddr, cond_true, cond_false, Bool.not_true, Bool.not_false, decide_true, decide_false, blt_eq, tt_beq, tf_beq, ft_beq, ff_beq, Bool.and_true, Bool.true_and, Option.some.injEq, I, Bo, addI, subI, oExtract, Bool.not_eq_true', fieldAddrA, oFieldAddr, oLoad, oStore, isAggD, aggH, oneH, skipH, Nat.add_eq_left, Nat.left_eq_add, Nat.succ_ne_self, fieldA, partA, cellsOf, List.length_cons, List.length_nil, Nat.reduceAdd, Nat.zero_add, Nat.add_zero, Nat.mul_one, Nat.reduceMul, nbeq_self, onesA_cons', onesA_nil, oneA, Value.oneCell', Nat.reduceLT, ty3, ti3, ty25, ti25, a0, a1, a2, q11, uv, z1, z2, eqA, eqD, eqOp, nilCheckA]; rfl) ?_ ?_ <;> intro hb <;> first | (exfalso; exact Bool.noConfusion hb) | skip)
    | refine wc_block ?_
    | refine wc_skip ?_
    | refine wc_scope (by decide) ?_
    | refine wc_label ?_
    | refine wc_exit ?_
    | refine wc_ret ?_
    | refine wv_ret (by simp only [resA, resOne]; simp only [oUn_not, beq_self_eq_true, eq_self, pv_mul, List.toList_toArray, opsA_cons, opsA_nil, wantedA, guardA, yieldA, stepA_t, stepA_f, callA, calleeA, targetA, runOp_c, runOp_n, opA, ev, evs, evo, consO, consOO, withH, pickA, afterA_s, putA, T.get_put, Nat.reduceEqDiff, reduceIte, List.getElem?_toArray, List.getElem?_cons_zero, List.getElem?_cons_succ, oBuiltin, oBin, binA, binG, binL, aggO, litA, intA, ltF_eq, eqF_eq, oIndexAddr, cond_true, cond_false, Bool.not_true, Bool.not_false, decide_true, decide_false, blt_eq, tt_beq, tf_beq, ft_beq, ff_beq, Bool.and_true, Bool.true_and, Option.some.injEq, I, Bo, addI, subI, oExtract, Bool.not_eq_true', fieldAddrA, oFieldAddr, oLoad, oStore, isAggD, aggH, oneH, skipH, Nat.add_eq_left, Nat.left_eq_add, Nat.succ_ne_self, fieldA, partA, cellsOf, List.length_cons, List.length_nil, Nat.reduceAdd, Nat.zero_add, Nat.add_zero, Nat.mul_one, Nat.reduceMul, nbeq_self, onesA_cons', onesA_nil, oneA, Value.oneCell', Nat.reduceLT, ty3, ti3, ty25, ti25, a0, a1, a2, q11, uv, z1, z2, eqA, eqD, eqOp, nilCheckA]; rfl) ?_)
  all_goals exact ⟨rfl, rfl⟩
set_option maxHeartbeats 4000000 in
theorem c24x2 (d : Nat) (h : Hp) (p nm : Nat) (M : List Int) (f t : Nat) (a k : Int) (b : Buf h p nm M f t) (h0 : ¬ a < 0) (h1 : ¬ k < 0) (h2 : Int.ofNat (con M f t).length < a) : runA ctx 5000 (d + 2) 24 [.ptr p 0, I a, I k] h = some (I 4, h) := by
  have q1 := b.le1
  have q2 := b.le2
  have q3 := b.sm
  have q4 := b.len
  have q11 : runA ctx 5000 (d + 1) 11 [.ptr p 0] h = some (I (Int.ofNat (con M f t).length), h) := c11 d h p nm M f t b
  have z1 : decide (a < 0) = false := by simp only [Int.ofNat_eq_natCast, decide_eq_true_eq, decide_eq_false_iff_not] at *; omega
  have z2 : decide (k < 0) = false := by simp only [Int.ofNat_eq_natCast, decide_eq_true_eq, decide_eq_false_iff_not] at *; omega
  have z3 : decide (Int.ofNat (con M f t).length < a) = true := by simp only [Int.ofNat_eq_natCast, decide_eq_true_eq, decide_eq_false_iff_not] at *; omega
  refine wv_eq ?_
  refine wv_run fn24 rfl ?_
  have a0 : (enterEnv [.ptr p 0, I a, I k] Try.f24.ntmps).get 0 = some (.ptr p 0) := enter_get1 _ _ _
  have a1 : (enterEnv [.ptr p 0, I a, I k] Try.f24.ntmps).get 1 = some (I a) := enter_get2 _ _ _ _
  have a2 : (enterEnv [.ptr p 0, I a, I k] Try.f24.ntmps).get 2 = some (I k) := enter_get3 _ _ _ _ _
  generalize enterEnv [.ptr p 0, I a, I k] Try.f24.ntmps = e at a0 a1 a2 ⊢
  unfold Try.f24
  dsimp only
  repeat' (first
    | refine wc_seq ?_
    | (refine wc_region rfl ?_; simp only [oUn_not, beq_self_eq_true, eq_self, pv_mul, List.toList_toArray, opsA_cons, opsA_nil, wantedA, guardA, yieldA, stepA_t, stepA_f, callA, calleeA, targetA, runOp_c, runOp_n, opA, ev, evs, evo, consO, consOO, withH, pickA, afterA_s, putA, T.get_put, Nat.reduceEqDiff, reduceIte, List.getElem?_toArray, List.getElem?_cons_zero, List.getElem?_cons_succ, oBuiltin, oBin, binA, binG, binL, aggO, litA, intA, ltF_eq, eqF_eq, oIndexAddr, cond_true, cond_false, Bool.not_true, Bool.not_false, decide_true, decide_false, blt_eq, tt_beq, tf_beq, ft_beq, ff_beq, Bool.and_true, Bool.true_and, Option.some.injEq, I, Bo, addI, subI, oExtract, Bool.not_eq_true', fieldAddrA, oFieldAddr, oLoad, oStore, isAggD, aggH, oneH, skipH, Nat.add_eq_left, Nat.left_eq_add, Nat.succ_ne_self, fieldA, partA, cellsOf, List.length_cons, List.length_nil, Nat.reduceAdd, Nat.zero_add, Nat.add_zero, Nat.mul_one, Nat.reduceMul, nbeq_self, onesA_cons', onesA_nil, oneA, Value.oneCell', Nat.reduceLT, ty3, ti3, ty25, ti25, a0, a1, a2, q11, uv, z1, z2, z3, eqA, eqD, eqOp, nilCheckA]; refine ⟨_, _, rfl, ?_⟩)
    | (refine wc_cond (by simp only [oUn_not, beq_self_eq_true, eq_self, pv_mul, List.toList_toArray, opsA_cons, opsA_nil, wantedA, guardA, yieldA, stepA_t, stepA_f, callA, calleeA, targetA, runOp_c, runOp_n, opA, ev, evs, evo, consO, consOO, withH, pickA, afterA_s, putA, T.get_put, Nat.reduceEqDiff, reduceIte, List.getElem?_toArray, List.getElem?_cons_zero, List.getElem?_cons_succ, oBuiltin, oBin, binA, binG, binL, aggO, litA, intA, ltF_eq, eqF_eq, oIndexAddr, cond_true, cond_false, Bool.not_true, Bool.not_false, decide_true, decide_false, blt_eq, tt_beq, tf_beq, ft_beq, ff_beq, Bool.and_true, Bool.true_and, Option.some.injEq, I, Bo, addI, subI, oExtract, Bool.not_eq_true', fieldAddrA, oFieldAddr, oLoad, oStore, isAggD, aggH, oneH, skipH, Nat.add_eq_left, Nat.left_eq_add, Nat.succ_ne_self, fieldA, partA, cellsOf, List.length_cons, List.length_nil, Nat.reduceAdd, Nat.zero_add, Nat.add_zero, Nat.mul_one, Nat.reduceMul, nbeq_self, onesA_cons', onesA_nil, oneA, Value.oneCell', Nat.reduceLT, ty3, ti3, ty25, ti25, a0, a1, a2, q11, uv, z1, z2, z3, eqA, eqD, eqOp, nilCheckA]; rfl) ?_ ?_ <;> intro hb <;> first | (exfalso; exact Bool.noConfusion hb) | skip)
    | refine wc_block ?_
    | refine wc_skip ?_
    | refine wc_scope (by decide) ?_
    | refine wc_label ?_
    | refine wc_exit ?_
    | refine wc_ret ?_
    | refine wv_ret (by simp only [resA, resOne]; simp only [oUn_not, beq_self_eq_true, eq_self, pv_mul, List.toList_toArray, opsA_cons, opsA_nil, wantedA, guardA, yieldA, stepA_t, stepA_f, callA, calleeA, targetA, runOp_c, runOp_n, opA, ev, evs, evo, consO, consOO, withH, pickA, afterA_s, putA, T.get_put, Nat.reduceEqDiff, reduceIte, List.getElem?_toArray, List.getElem?_cons_zero, List.getElem?_cons_succ, oBuiltin, oBin, binA, binG, binL, aggO, litA, intA, ltF_eq, eqF_eq, oIndexAddr, cond_true, cond_false, Bool.not_true, Bool.not_false, decide_true, decide_false, blt_eq, tt_beq, tf_beq, ft_beq, ff_beq, Bool.and_true, Bool.true_and, Option.some.injEq, I, Bo, addI, subI, oExtract, Bool.not_eq_true', fieldAddrA, oFieldAddr, oLoad, oStore, isAggD, aggH, oneH, skipH, Nat.add_eq_left, Nat.left_eq_add, Nat.succ_ne_self, fieldA, partA, cellsOf, List.length_cons, List.length_nil, Nat.reduceAdd, Nat.zero_add, Nat.add_zero, Nat.mul_one, Nat.reduceMul, nbeq_self, onesA_cons', onesA_nil, oneA, Value.oneCell', Nat.reduceLT, ty3, ti3, ty25, ti25, a0, a1, a2, q11, uv, z1, z2, z3, eqA, eqD, eqOp, nilCheckA]; rfl) ?_)
  all_goals exact ⟨rfl, rfl⟩
set_option maxHeartbeats 4000000 in
theorem c24x3 (d : Nat) (h : Hp) (p nm : Nat) (M : List Int) (f t : Nat) (a k : Int) (b : Buf h p nm M f t) (h0 : ¬ a < 0) (h1 : ¬ k < 0) (h2 : ¬ Int.ofNat (con M f t).length < a) (h3 : Int.ofNat (con M f t).length - a < k) : runA ctx 5000 (d + 2) 24 [.ptr p 0, I a, I k] h = some (I 4, h) := by
  have q1 := b.le1
  have q2 := b.le2
  have q3 := b.sm
  have q4 := b.len
  have q11 : runA ctx 5000 (d + 1) 11 [.ptr p 0] h = some (I (Int.ofNat (con M f t).length), h) := c11 d h p nm M f t b
  have z1 : decide (a < 0) = false := by simp only [Int.ofNat_eq_natCast, decide_eq_true_eq, decide_eq_false_iff_not] at *; omega
  have z2 : decide (k < 0) = false := by simp only [Int.ofNat_eq_natCast, decide_eq_true_eq, decide_eq_false_iff_not] at *; omega
  have z3 : decide (Int.ofNat (con M f t).length < a) = false := by simp only [Int.ofNat_eq_natCast, decide_eq_true_eq, decide_eq_false_iff_not] at *; omega
  have w1 : IntKind.wrap .i64 (Int.ofNat (con M f t).length - a) = Int.ofNat (con M f t).length - a := by rw [IntKind.wrap_i64]; simp only [Int.ofNat_eq_natCast] at *; omega
  have z4 : decide (Int.ofNat (con M f t).length - a < k) = true := by simp only [Int.ofNat_eq_natCast, decide_eq_true_eq, decide_eq_false_iff_not] at *; omega
  refine wv_eq ?_
  refine wv_run fn24 rfl ?_
  have a0 : (enterEnv [.ptr p 0, I a, I k] Try.f24.ntmps).get 0 = some (.ptr p 0) := enter_get1 _ _ _
  have a1 : (enterEnv [.ptr p 0, I a, I k] Try.f24.ntmps).get 1 = some (I a) := enter_get2 _ _ _ _
  have a2 : (enterEnv [.ptr p 0, I a, I k] Try.f24.ntmps).get 2 = some (I k) := enter_get3 _ _ _ _ _
  generalize enterEnv [.ptr p 0, I a, I k] Try.f24.ntmps = e at a0 a1 a2 ⊢
  unfold Try.f24
  dsimp only
  repeat' (first
    | refine wc_seq ?_
    | (refine wc_region rfl ?_; simp only [oUn_not, beq_self_eq_true, eq_self, pv_mul, List.toList_toArray, opsA_cons, opsA_nil, wantedA, guardA, yieldA, stepA_t, stepA_f, callA, calleeA, targetA, runOp_c, runOp_n, opA, ev, evs, evo, consO, consOO, withH, pickA, afterA_s, putA, T.get_put, Nat.reduceEqDiff, reduceIte, List.getElem?_toArray, List.getElem?_cons_zero, List.getElem?_cons_succ, oBuiltin, oBin, binA, binG, binL, aggO, litA, intA, ltF_eq, eqF_eq, oIndexAddr, cond_true, cond_false, Bool.not_true, Bool.not_false, decide_true, decide_false, blt_eq, tt_beq, tf_beq, ft_beq, ff_beq, Bool.and_true, Bool.true_and, Option.some.injEq, I, Bo, addI, subI, oExtract, Bool.not_eq_true', fieldAddrA, oFieldAddr, oLoad, oStore, isAggD, aggH, oneH, skipH, Nat.add_eq_left, Nat.left_eq_add, Nat.succ_ne_self, fieldA, partA, cellsOf, List.length_cons, List.length_nil, Nat.reduceAdd, Nat.zero_add, Nat.add_zero, Nat.mul_one, Nat.reduceMul, nbeq_self, onesA_cons', onesA_nil, oneA, Value.oneCell', Nat.reduceLT, ty3, ti3, ty25, ti25, a0, a1, a2, q11, uv, z1, z2, z3, w1, z4, eqA, eqD, eqOp, nilCheckA]; refine ⟨_, _, rfl, ?_⟩)
    | (refine wc_cond (by simp only [oUn_not, beq_self_eq_true, eq_self, pv_mul, List.toList_toArray, opsA_cons, opsA_nil, wantedA, guardA, yieldA, stepA_t, stepA_f, callA, calleeA, targetA, runOp_c, runOp_n, opA, ev, evs, evo, consO, consOO, withH, pickA, afterA_s, putA, T.get_put, Nat.reduceEqDiff, reduceIte, List.getElem?_toArray, List.getElem?_cons_zero, List.getElem?_cons_succ, oBuiltin, oBin, binA, binG, binL, aggO, litA, intA, ltF_eq, eqF_eq, oIndexAddr, cond_true, cond_false, Bool.not_true, Bool.not_false, decide_true, decide_false, blt_eq, tt_beq, tf_beq, ft_beq, ff_beq, Bool.and_true, Bool.true_and, Option.some.injEq, I, Bo, addI, subI, oExtract, Bool.not_eq_true', fieldAddrA, oFieldAddr, oLoad, oStore, isAggD, aggH, oneH, skipH, Nat.add_eq_left, Nat.left_eq_add, Nat.succ_ne_self, fieldA, partA, cellsOf, List.length_cons, List.length_nil, Nat.reduceAdd, Nat.zero_add, Nat.add_zero, Nat.mul_one, Nat.reduceMul, nbeq_self, onesA_cons', onesA_nil, oneA, Value.oneCell', Nat.reduceLT, ty3, ti3, ty25, ti25, a0, a1, a2, q11, uv, z1, z2, z3, w1, z4, eqA, eqD, eqOp, nilCheckA]; rfl) ?_ ?_ <;> intro hb <;> first | (exfalso; exact Bool.noConfusion hb) | skip)
    | refine wc_block ?_
    | refine wc_skip ?_
    | refine wc_scope (by decide) ?_
    | refine wc_label ?_
    | refine wc_exit ?_
    | refine wc_ret ?_
    | refine wv_ret (by simp only [resA, resOne]; simp only [oUn_not, beq_self_eq_true, eq_self, pv_mul, List.toList_toArray, opsA_cons, opsA_nil, wantedA, guardA, yieldA, stepA_t, stepA_f, callA, calleeA, targetA, runOp_c, runOp_n, opA, ev, evs, evo, consO, consOO, withH, pickA, afterA_s, putA, T.get_put, Nat.reduceEqDiff, reduceIte, List.getElem?_toArray, List.getElem?_cons_zero, List.getElem?_cons_succ, oBuiltin, oBin, binA, binG, binL, aggO, litA, intA, ltF_eq, eqF_eq, oIndexAddr, cond_true, cond_false, Bool.not_true, Bool.not_false, decide_true, decide_false, blt_eq, tt_beq, tf_beq, ft_beq, ff_beq, Bool.and_true, Bool.true_and, Option.some.injEq, I, Bo, addI, subI, oExtract, Bool.not_eq_true', fieldAddrA, oFieldAddr, oLoad, oStore, isAggD, aggH, oneH, skipH, Nat.add_eq_left, Nat.left_eq_add, Nat.succ_ne_self, fieldA, partA, cellsOf, List.length_cons, List.length_nil, Nat.reduceAdd, Nat.zero_add, Nat.add_zero, Nat.mul_one, Nat.reduceMul, nbeq_self, onesA_cons', onesA_nil, oneA, Value.oneCell', Nat.reduceLT, ty3, ti3, ty25, ti25, a0, a1, a2, q11, uv, z1, z2, z3, w1, z4, eqA, eqD, eqOp, nilCheckA]; rfl) ?_)
  all_goals exact ⟨rfl, rfl⟩
theorem c24b (d : Nat) (h : Hp) (p nm : Nat) (M : List Int) (f t : Nat) (a k : Int) (b : Buf h p nm M f t) (hv : ¬ (0 ≤ a ∧ 0 ≤ k ∧ a ≤ Int.ofNat (con M f t).length ∧ k ≤ Int.ofNat (con M f t).length - a)) : runA ctx 5000 (d + 2) 24 [.ptr p 0, I a, I k] h = some (I 4, h) := by
  by_cases h0 : a < 0
  · exact c24x0 d h p nm M f t a k b h0
  by_cases h1 : k < 0
  · exact c24x1 d h p nm M f t a k b h0 h1
  by_cases h2 : Int.ofNat (con M f t).length < a
  · exact c24x2 d h p nm M f t a k b h0 h1 h2
  exact c24x3 d h p nm M f t a k b h0 h1 h2 (by omega)
end Go.Proofs.Ytjfmimlmnllnjaa
