import Derived.Test.YtpioenfglmimgaaW4
namespace Go.Proofs.Abs
open Go Go.RowKit
set_option linter.unusedSimpArgs false
set_option linter.unusedVariables false
/-! Slices of one's own: made with their capacity, filled by append in place. -/
section
variable {C : Ctx} {t e : TypeId} {ti te : TI}
theorem natOf_I {n m : Nat} (h : n ≤ m) : natOf? (I (n : Int)) m = some n := by
  show natOf? (.lit (.int .i64 (.ofNat n))) m = some n
  simp only [natOf?]
  rw [show Nat.ble n m = true from Nat.ble_eq_true_of_le h]
  rfl
theorem setCells_at (l : List AV) : ∀ (t : T AV) (off k : Nat), (setCells t off l).get k = if off ≤ k ∧ k < off + l.length then l[k - off]? else t.get k := fun t off k => setCells_get l t off k
theorem repl_one (v : AV) : ∀ n, repl [v] n = List.replicate n v := by
  intro n
  induction n with
  | zero => rfl
  | succ n ih => show [v] ++ repl [v] n = _; rw [ih]; rfl
/-- a slice of cells with its memory: xs, and room up to cap -/
structure OwnC (h : Hp) (nm : Nat) (xs : List AV) (cap : Nat) (b : Blk) : Prop where
  lt : nm < h.c
  get : h.m.get nm = some b
  le : xs.length ≤ cap
  at_ : ∀ k x, xs[k]? = some x → b.cells.get k = some x
  room : ∀ k, xs.length ≤ k → k < cap → ∃ u, b.cells.get k = some u
theorem make_own {zv : Value} {k : IntKind} (ht : C.tys.get t = some ti) (hd : ti.desc = .slice e) (he : C.tys.get e = some te) (hz : te.zero = zv) (hzc : cellsOf (.lit zv) = [.lit zv]) (hs : te.size = 1) (hb : Nat.ble te.bytes 1024 = true)
    {h : Hp} {len cap : Nat} (h1 : len ≤ cap) (h2 : cap ≤ 1048576) :
    ∃ b, makeSliceA C h t (I (len : Int)) (I (cap : Int)) = some (.slice h.c 0 len false cap 0, ⟨h.m.put h.c (some b), h.c + 1, h.ro⟩) ∧ OwnC ⟨h.m.put h.c (some b), h.c + 1, h.ro⟩ h.c (List.replicate len (.lit zv)) cap b := by
  refine ⟨⟨setCells .leaf 0 (repl [.lit zv] cap), (repl [.lit zv] cap).length, e, 0⟩, ?_, ⟨Nat.lt_succ_self _, by rw [T.get_put, if_pos rfl], by simpa using h1, ?_, ?_⟩⟩
  · unfold makeSliceA
    rw [ht]
    simp only [hd, he]
    rw [natOf_I h2]
    dsimp only
    rw [natOf_I h1]
    simp only [hs, hb, hz, hzc, newBlk]
    rfl
  · intro k x hx
    rw [List.getElem?_replicate] at hx
    split at hx
    · rename_i hk
      cases hx
      rw [setCells_at, repl_one, if_pos ⟨Nat.zero_le _, by simp; omega⟩, List.getElem?_replicate, if_pos (by omega)]
    · cases hx
  · intro k _ hk
    refine ⟨.lit zv, ?_⟩
    rw [setCells_at, repl_one, if_pos ⟨Nat.zero_le _, by simp; omega⟩, List.getElem?_replicate, if_pos (by omega)]
theorem OwnC.row {h : Hp} {nm : Nat} {xs : List AV} {cap : Nat} {b : Blk} (o : OwnC h nm xs cap b) : Row1 h nm 0 xs := by
  intro k x hx
  rw [Nat.zero_add]
  unfold load
  rw [o.get]
  show getCells b.cells k 1 = _
  rw [getCells1, o.at_ k x hx]
  rfl
/-- all memory but block nm is as it was -/
structure Ext1 (nm : Nat) (h h' : Hp) : Prop where
  c : h.c ≤ h'.c
  ro : h'.ro = h.ro
  m : ∀ n, n < h.c → n ≠ nm → h'.m.get n = h.m.get n
theorem Ext1.refl (nm : Nat) (h : Hp) : Ext1 nm h h := ⟨Nat.le_refl _, rfl, fun _ _ _ => rfl⟩
theorem Ext1.trans {nm : Nat} {h h' h'' : Hp} (a : Ext1 nm h h') (b : Ext1 nm h' h'') : Ext1 nm h h'' :=
  ⟨Nat.le_trans a.c b.c, b.ro.trans a.ro, fun n hn hne => (b.m n (Nat.lt_of_lt_of_le hn a.c) hne).trans (a.m n hn hne)⟩
theorem Ext.one {h h' : Hp} (a : Ext h h') (nm : Nat) : Ext1 nm h h' := ⟨a.c, a.ro, fun n hn _ => a.m n hn⟩
theorem Ext1.ext {nm : Nat} {h h' : Hp} (a : Ext1 nm h h') (hn : h.c ≤ nm) : Ext h h' := ⟨a.c, a.ro, fun n hl => a.m n hl (by omega)⟩
/-- behind a base: what was there when all began is as it was -/
theorem Ext1.from {nm : Nat} {h0 h h' : Hp} (a : Ext h0 h) (b : Ext1 nm h h') (hn : h0.c ≤ nm) : Ext h0 h' :=
  ⟨Nat.le_trans a.c b.c, b.ro.trans a.ro, fun n hl => (b.m n (Nat.lt_of_lt_of_le hl a.c) (by omega)).trans (a.m n hl)⟩
theorem OwnC.keep {h h' : Hp} {nm : Nat} {xs : List AV} {cap : Nat} {b : Blk} (o : OwnC h nm xs cap b) (a : Ext h h') : OwnC h' nm xs cap b :=
  ⟨Nat.lt_of_lt_of_le o.lt a.c, (a.m nm o.lt).trans o.get, o.le, o.at_, o.room⟩
/-- append of one value in place -/
theorem app_own {x : AV} (ht : C.tys.get t = some ti) (hd : ti.desc = .slice e) (he : C.tys.get e = some te) (hs : te.size = 1) (hb : Nat.ble te.bytes 65536 = true) (hx : oneA x = true)
    {h : Hp} {nm : Nat} {xs : List AV} {cap : Nat} {b : Blk} (o : OwnC h nm xs cap b) (hl : xs.length < cap) {n2 off c2 z2 : Nat} {r2 : Bool} (hld : load h n2 off 1 = some [x]) :
    ∃ b' h', builtinA C h .append [t, t] [.slice nm 0 xs.length false cap 0, .slice n2 off 1 r2 c2 z2] = some (.slice nm 0 (xs.length + 1) false cap 0, h') ∧ OwnC h' nm (xs ++ [x]) cap b' ∧ Ext1 nm h h' ∧ h'.c = h.c := by
  obtain ⟨u, hu⟩ := o.room xs.length (Nat.le_refl _) hl
  refine ⟨⟨setCells b.cells xs.length [x], b.n, b.elem, b.grow⟩, ⟨h.m.put nm (some ⟨setCells b.cells xs.length [x], b.n, b.elem, b.grow⟩), h.c, h.ro⟩, ?_, ⟨o.lt, by rw [T.get_put, if_pos rfl], by simp; omega, ?_, ?_⟩, ⟨Nat.le_refl _, rfl, fun n _ hne => by show (h.m.put nm _).get n = _; rw [T.get_put, if_neg hne]⟩, rfl⟩
  · unfold builtinA
    dsimp only
    unfold appendA
    rw [ht]
    simp only [hd, he, lenA, hs, hb, elemsA, Nat.mul_one]
    rw [show Nat.beq 1 0 = false from rfl, cond_false, hld]
    dsimp only
    rw [show Nat.ble (xs.length + 1) cap = true from Nat.ble_eq_true_of_le hl]
    have hst : store h nm (0 + xs.length) [x] = some ⟨h.m.put nm (some ⟨setCells b.cells xs.length [x], b.n, b.elem, b.grow⟩), h.c, h.ro⟩ := by
      rw [store_h, o.get, Nat.zero_add, stO_s]
      rw [show known b.cells xs.length [x].length = true from known1 hu]
      simp only [onesA_cons', hx, onesA_nil, Bool.and_true, cond_true]
    rw [hst]
    rfl
  · intro k y hy
    rw [setCells_at]
    by_cases hk : k < xs.length
    · rw [List.getElem?_append_left hk] at hy
      rw [if_neg (by omega)]
      exact o.at_ k y hy
    · have hk2 : k = xs.length := by
        have := (List.getElem?_eq_some_iff.1 hy).1
        simp at this
        omega
      subst hk2
      rw [List.getElem?_append_right (Nat.le_refl _), Nat.sub_self] at hy
      rw [if_pos ⟨Nat.le_refl _, by simp⟩, Nat.sub_self]
      exact hy
  · intro k h1 h2
    simp at h1
    obtain ⟨u, hu⟩ := o.room k (by omega) h2
    exact ⟨u, by rw [setCells_at, if_neg (by simp; omega)]; exact hu⟩
end
end Go.Proofs.Abs
