import Derived.Test.YtpioenfglmimgaaW2
namespace Go.Proofs.Abs
open Go Go.RowKit
set_option linter.unusedSimpArgs false
set_option linter.unusedVariables false
/-! Plain numbers, and lists of them. -/
section
abbrev I (a : Int) : AV := .lit (.int .i64 a)
abbrev Bo (b : Bool) : AV := .lit (.bool b)
abbrev nilS : AV := .lit (.slice none 0 0)
theorem addI (a b : Int) : wrapF .i64 (addF a b) = IntKind.wrap .i64 (a + b) := by rw [addF_eq, wrapF_eq]
theorem subI (a b : Int) : wrapF .i64 (subF a b) = IntKind.wrap .i64 (a - b) := by rw [subF_eq, wrapF_eq]
theorem pv_mul (t : TypeId) (a b : Int) : pureV (binOp .mul t (.int .i64 a) (.int .i64 b)) = some (I (IntKind.wrap .i64 (a * b))) := rfl
theorem pv_quo (t : TypeId) {a b : Int} (hb : b ≠ 0) : pureV (binOp .quo t (.int .i64 a) (.int .i64 b)) = some (I (IntKind.wrap .i64 (a.tdiv b))) := by
  simp [binOp, Op.intDiv, hb]
  rfl
theorem pv_rem (t : TypeId) {a b : Int} (hb : b ≠ 0) : pureV (binOp .rem t (.int .i64 a) (.int .i64 b)) = some (I (a.tmod b)) := by
  simp [binOp, Op.intDiv, hb]
  rfl
theorem pv_min (a b : Int) : pureV (Builtin.min_ #[] 0 #[.int .i64 a, .int .i64 b]) = some (I (if b < a then b else a)) := rfl
theorem pv_max (a b : Int) : pureV (Builtin.max_ #[] 0 #[.int .i64 a, .int .i64 b]) = some (I (if a < b then b else a)) := rfl
theorem oUn_not (h : Hp) (b : Bool) : oUn h .not (some (.lit (.bool b))) = some (Bo (!b), h) := rfl
theorem wrap_id {a : Int} (h1 : -9223372036854775808 ≤ a) (h2 : a ≤ 9223372036854775807) : IntKind.wrap .i64 a = a := by
  rw [IntKind.wrap_i64]
  omega
theorem enter_get3 (a b c : AV) (l : List AV) (n : Nat) : (enterEnv (a :: b :: c :: l) n).get 2 = some c := by rw [enter_get _ _ _ (by simp)]; rfl
theorem enter_get4 (a b c d : AV) (l : List AV) (n : Nat) : (enterEnv (a :: b :: c :: d :: l) n).get 3 = some d := by rw [enter_get _ _ _ (by simp)]; rfl
theorem enter_get5 (a b c d e : AV) (l : List AV) (n : Nat) : (enterEnv (a :: b :: c :: d :: e :: l) n).get 4 = some e := by rw [enter_get _ _ _ (by simp)]; rfl
theorem drop_at {α : Type} {xs : List α} {k : Nat} {x : α} (h : xs[k]? = some x) : xs.drop k = x :: xs.drop (k + 1) := by
  obtain ⟨hk, he⟩ := List.getElem?_eq_some_iff.1 h
  rw [List.drop_eq_getElem_cons hk, he]
theorem at_some {α : Type} {xs : List α} {k : Nat} (h : k < xs.length) : ∃ x, xs[k]? = some x := ⟨_, List.getElem?_eq_getElem h⟩
theorem take_at {α : Type} {xs : List α} {k : Nat} {x : α} (h : xs[k]? = some x) : xs.take (k + 1) = xs.take k ++ [x] := by
  rw [List.take_add_one, h]; rfl
theorem snoc_of {α : Type} {xs : List α} (h : 0 < xs.length) : ∃ ys y, xs = ys ++ [y] := by
  have hne : xs ≠ [] := by intro e; rw [e] at h; cases h
  exact ⟨xs.dropLast, xs.getLast hne, (List.dropLast_concat_getLast hne).symm⟩
theorem wo_cut {r : Option (Env × Hp)} {Q : Env → Hp → Prop} (P : Env → Hp → Prop) (h1 : Wo r P) (h2 : ∀ e h, P e h → Q e h) : Wo r Q := by
  obtain ⟨e, h, hr, hp⟩ := h1
  exact ⟨e, h, hr, h2 e h hp⟩
/-- a guard that is open -/
theorem wo_step {C : Ctx} {call : CallF} {k : OpsK} {o : Oper} {e : Env} {h : Hp} {b : Bool} {Q : Env → Hp → Prop} (h1 : b = true → Wo (stepA C call k o e h (some true)) Q) (h2 : b = false → Wo (stepA C call k o e h (some false)) Q) :
    Wo (stepA C call k o e h (some b)) Q := by
  cases b
  · exact h2 rfl
  · exact h1 rfl
/-- a contract that changes nothing, as an equation -/
theorem wv_eq {r : Option (AV × Hp)} {v : AV} {h : Hp} (hr : Wv r fun v' h' => v' = v ∧ h' = h) : r = some (v, h) := by
  obtain ⟨v', h', hr, rfl, rfl⟩ := hr
  exact hr
theorem wv_of {r : Option (AV × Hp)} {v : AV} {h : Hp} (hr : r = some (v, h)) : Wv r fun v' h' => v' = v ∧ h' = h := ⟨v, h, hr, rfl, rfl⟩
/-- what is read of a block -/
noncomputable def ldO (f : Nat → Option AV) (off size : Nat) : Option Blk → Option (List AV)
  | some b => getCells b.cells off size
  | none => roCells f off size
noncomputable def stO (m : T Blk) (c : Nat) (ro : Nat → Nat → Option AV) (n off : Nat) (cs : List AV) : Option Blk → Option Hp
  | some b => cond (known b.cells off cs.length && onesA cs) (some ⟨m.put n (some ⟨setCells b.cells off cs, b.n, b.elem, b.grow⟩), c, ro⟩) none
  | none => none
theorem load_mk (m : T Blk) (c : Nat) (ro : Nat → Nat → Option AV) (n off size : Nat) : load ⟨m, c, ro⟩ n off size = ldO (ro n) off size (m.get n) := by
  unfold load
  dsimp only
  cases m.get n <;> rfl
theorem store_mk (m : T Blk) (c : Nat) (ro : Nat → Nat → Option AV) (n off : Nat) (cs : List AV) : store ⟨m, c, ro⟩ n off cs = stO m c ro n off cs (m.get n) := by
  unfold store
  dsimp only
  cases m.get n <;> rfl
theorem store_h (h : Hp) (n off : Nat) (cs : List AV) : store h n off cs = stO h.m h.c h.ro n off cs (h.m.get n) := by
  obtain ⟨m, c, ro⟩ := h
  exact store_mk m c ro n off cs
/-- a block of one's own behind a call -/
theorem Ext.own {h' : Hp} {m : T Blk} {c : Nat} {ro : Nat → Nat → Option AV} (a : Ext ⟨m, c, ro⟩ h') {n : Nat} (hn : n < c) : h'.m.get n = m.get n ∧ (h'.c = n) = False ∧ (n = h'.c) = False := by
  have h1 := a.m n hn
  have h2 : c ≤ h'.c := a.c
  exact ⟨h1, eq_false (by omega), eq_false (by omega)⟩
theorem ldO_s (f : Nat → Option AV) (off size : Nat) (b : Blk) : ldO f off size (some b) = getCells b.cells off size := rfl
theorem ldO_h (h : Hp) (n off size : Nat) : ldO (h.ro n) off size (h.m.get n) = load h n off size := by
  unfold load
  cases h.m.get n <;> rfl
theorem stO_s (m : T Blk) (c : Nat) (ro : Nat → Nat → Option AV) (n off : Nat) (cs : List AV) (b : Blk) : stO m c ro n off cs (some b) =
    cond (known b.cells off cs.length && onesA cs) (some ⟨m.put n (some ⟨setCells b.cells off cs, b.n, b.elem, b.grow⟩), c, ro⟩) none := rfl
theorem tup1 (v : AV) : tupA [v] = v := rfl
theorem tup2 (v u : AV) : tupA [v, u] = .tup [v, u] := rfl
theorem tup3 (v u w : AV) : tupA [v, u, w] = .tup [v, u, w] := rfl
theorem Ext.new {h h' : Hp} (a : Ext h h') (b : Option Blk) : Ext h ⟨h'.m.put h'.c b, h'.c + 1, h'.ro⟩ := a.put a.c b (Nat.le_succ _)
theorem Ext.mk' {h : Hp} {m : T Blk} {c : Nat} {ro : Nat → Nat → Option AV} (a : Ext h ⟨m, c, ro⟩) {n : Nat} (hn : h.c ≤ n) (b : Option Blk) {c' : Nat} (hc : c ≤ c') : Ext h ⟨m.put n b, c', ro⟩ := Ext.put a hn b hc
theorem Ext.up {h h' : Hp} (a : Ext h h') {c : Nat} (hc : h'.c ≤ c) : Ext h ⟨h'.m, c, h'.ro⟩ := ⟨Nat.le_trans a.c hc, a.ro, a.m⟩
/-- a row of plain values, one cell each -/
def Row1 (h : Hp) (nm off : Nat) (xs : List AV) : Prop := ∀ k x, xs[k]? = some x → load h nm (off + k) 1 = some [x]
theorem Row1.ext {h h' : Hp} {nm off : Nat} {xs : List AV} (r : Row1 h nm off xs) (a : Ext h h') (hn : nm < h.c) : Row1 h' nm off xs :=
  fun k x hx => (load_ext a hn _ _).trans (r k x hx)
/-- a slice of values of one cell each, which is nil if it has no memory -/
def IsL (h : Hp) (v : AV) (xs : List AV) : Prop :=
  (v = nilS ∧ xs = []) ∨ ∃ nm off rest cap z, v = .slice nm off xs.length rest cap z ∧ nm < h.c ∧ Row1 h nm off xs
theorem IsL.ext {h h' : Hp} {v : AV} {xs : List AV} (r : IsL h v xs) (a : Ext h h') : IsL h' v xs := by
  rcases r with h1 | ⟨nm, off, rest, cap, z, h1, h2, h3⟩
  · exact .inl h1
  · exact .inr ⟨nm, off, rest, cap, z, h1, Nat.lt_of_lt_of_le h2 a.c, h3.ext a h2⟩
theorem IsL.len {C : Ctx} {h h' : Hp} {v : AV} {xs : List AV} {t e : TypeId} {ti : TI} (r : IsL h v xs) (ht : C.tys.get t = some ti) (hd : ti.desc = .slice e) : builtinA C h' .len [t] [v] = some (I xs.length, h') := by
  rcases r with ⟨rfl, rfl⟩ | ⟨nm, off, rest, cap, z, rfl, h2, h3⟩
  · simp [builtinA, ht, hd]
  · simp [builtinA, ht, hd]
/-- the place of an element, and what is there -/
theorem IsL.at {C : Ctx} {h : Hp} {v : AV} {xs : List AV} {t e : TypeId} {ti te : TI} (r : IsL h v xs) (ht : C.tys.get t = some ti) (hd : ti.desc = .slice e) (he : C.tys.get e = some te) (hs : te.size = 1) (hg : isAggD te.desc = false)
    {k : Nat} {x : AV} (hx : xs[k]? = some x) : ∃ p, indexAddrA C t v (I (Int.ofNat k)) = some p ∧ ∀ h', Ext h h' → oLoad h' (some te) (some p) = some (x, h') := by
  rcases r with ⟨rfl, rfl⟩ | ⟨nm, off, rest, cap, z, rfl, h2, h3⟩
  · cases hx
  · have hk := (List.getElem?_eq_some_iff.1 hx).1
    refine ⟨.ptr nm (off + k), ?_, fun h' a => ?_⟩
    · simp only [indexAddrA, ht, hd, he, hs, Nat.mul_one]
      rw [show Nat.blt k xs.length = true from by simpa using hk]
      rfl
    · simp only [oLoad, hg, cond_false, (load_ext a h2 _ _).trans (h3 k x hx), oneH]
end
end Go.Proofs.Abs
