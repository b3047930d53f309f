import Derived.Test.YtolpndlnabodgaaW4
namespace Go.Proofs.Abs
open Go Go.RowKit
set_option linter.unusedSimpArgs false
set_option linter.unusedVariables false
/-! Slices of one's own: made with their capacity, filled by append in place. -/
section
variable {C : Ctx} {t e : TypeId} {ti te : TI}
theorem natOf_I {n m : Nat} (h : n ≤ m) : natOf? (I (n : Int)) m = some n := by
  show natOf? (.lit (.int .i64 (.ofNat n))) m = some n
  simp only [natOf?]
  rw [show Nat.ble n m = true from Nat.ble_eq_true_of_le h]
  rfl
/-- a slice of cells with its memory: xs, and room up to cap -/
structure OwnC (h : Hp) (nm : Nat) (xs : List AV) (cap : Nat) (b : Blk) : Prop where
  lt : nm < h.c
  get : h.m.get nm = some b
  le : xs.length ≤ cap
  at_ : ∀ k x, xs[k]? = some x → b.cells.get k = some x
  room : ∀ k, xs.length ≤ k → k < cap → ∃ u, b.cells.get k = some u
theorem OwnC.row {h : Hp} {nm : Nat} {xs : List AV} {cap : Nat} {b : Blk} (o : OwnC h nm xs cap b) : Row1 h nm 0 xs := by
  intro k x hx
  rw [Nat.zero_add]
  unfold load
  rw [o.get]
  show getCells b.cells k 1 = _
  rw [getCells1, o.at_ k x hx]
  rfl
/-- all memory but block nm is as it was -/
structure Ext1 (nm : Nat) (h h' : Hp) : Prop where
  c : h.c ≤ h'.c
  ro : h'.ro = h.ro
  m : ∀ n, n < h.c → n ≠ nm → h'.m.get n = h.m.get n
theorem Ext1.refl (nm : Nat) (h : Hp) : Ext1 nm h h := ⟨Nat.le_refl _, rfl, fun _ _ _ => rfl⟩
theorem Ext1.trans {nm : Nat} {h h' h'' : Hp} (a : Ext1 nm h h') (b : Ext1 nm h' h'') : Ext1 nm h h'' :=
  ⟨Nat.le_trans a.c b.c, b.ro.trans a.ro, fun n hn hne => (b.m n (Nat.lt_of_lt_of_le hn a.c) hne).trans (a.m n hn hne)⟩
theorem Ext.one {h h' : Hp} (a : Ext h h') (nm : Nat) : Ext1 nm h h' := ⟨a.c, a.ro, fun n hn _ => a.m n hn⟩
theorem Ext1.ext {nm : Nat} {h h' : Hp} (a : Ext1 nm h h') (hn : h.c ≤ nm) : Ext h h' := ⟨a.c, a.ro, fun n hl => a.m n hl (by omega)⟩
/-- behind a base: what was there when all began is as it was -/
theorem Ext1.from {nm : Nat} {h0 h h' : Hp} (a : Ext h0 h) (b : Ext1 nm h h') (hn : h0.c ≤ nm) : Ext h0 h' :=
  ⟨Nat.le_trans a.c b.c, b.ro.trans a.ro, fun n hl => (b.m n (Nat.lt_of_lt_of_le hl a.c) (by omega)).trans (a.m n hl)⟩
theorem OwnC.keep {h h' : Hp} {nm : Nat} {xs : List AV} {cap : Nat} {b : Blk} (o : OwnC h nm xs cap b) (a : Ext h h') : OwnC h' nm xs cap b :=
  ⟨Nat.lt_of_lt_of_le o.lt a.c, (a.m nm o.lt).trans o.get, o.le, o.at_, o.room⟩
end
end Go.Proofs.Abs
