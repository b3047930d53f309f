import Derived.Test.YtpioenfglmimgaaW6
namespace Go.Proofs.Abs
open Go Go.RowKit
set_option linter.unusedSimpArgs false
set_option linter.unusedVariables false
/-! Cells: memory read and written one cell at a time. -/
section
def Cell (h : Hp) (n o : Nat) (v : AV) : Prop := ∃ b, h.m.get n = some b ∧ b.cells.get o = some v
theorem Cell.load {h : Hp} {n o : Nat} {v : AV} (c : Cell h n o v) : Abs.load h n o 1 = some [v] := by
  obtain ⟨b, hb, hv⟩ := c
  unfold Abs.load
  rw [hb]
  show getCells b.cells o 1 = _
  rw [getCells1, hv]
  rfl
/-- memory of which one cell was written -/
structure St (h h' : Hp) (n o : Nat) (w : AV) : Prop where
  c : h'.c = h.c
  ro : h'.ro = h.ro
  m : ∀ k, k ≠ n → h'.m.get k = h.m.get k
  own : Cell h' n o w
  others : ∀ k p v, (k ≠ n ∨ p ≠ o) → Cell h k p v → Cell h' k p v
theorem Cell.store {h : Hp} {n o : Nat} {v w : AV} (c : Cell h n o v) (hw : oneA w = true) : ∃ h', Abs.store h n o [w] = some h' ∧ St h h' n o w := by
  obtain ⟨b, hb, hv⟩ := c
  refine ⟨⟨h.m.put n (some ⟨setCells b.cells o [w], b.n, b.elem, b.grow⟩), h.c, h.ro⟩, ?_, rfl, rfl, ?_, ?_, ?_⟩
  · rw [store_h, hb, stO_s, show known b.cells o [w].length = true from known1 hv]
    simp only [onesA_cons', hw, onesA_nil, Bool.and_true, cond_true]
  · intro k hk
    show (h.m.put n _).get k = _
    rw [T.get_put, if_neg hk]
  · refine ⟨_, by show (h.m.put n _).get n = _; rw [T.get_put, if_pos rfl], ?_⟩
    show (setCells b.cells o [w]).get o = _
    rw [setCells_get, if_pos ⟨Nat.le_refl _, by simp⟩, Nat.sub_self]
    rfl
  · intro k p v' hne hc
    obtain ⟨b', hb', hv'⟩ := hc
    by_cases hk : k = n
    · subst hk
      rw [hb] at hb'
      cases hb'
      refine ⟨_, by show (h.m.put k _).get k = _; rw [T.get_put, if_pos rfl], ?_⟩
      show (setCells b.cells o [w]).get p = _
      rw [setCells_get, if_neg (by simp; omega)]
      exact hv'
    · exact ⟨b', by show (h.m.put n _).get k = _; rw [T.get_put, if_neg hk]; exact hb', hv'⟩
/-- memory that is as it was, but for some blocks and new ones -/
structure Fr (P : Nat → Prop) (h h' : Hp) : Prop where
  c : h.c ≤ h'.c
  ro : h'.ro = h.ro
  m : ∀ n, n < h.c → ¬ P n → h'.m.get n = h.m.get n
theorem Fr.refl (P : Nat → Prop) (h : Hp) : Fr P h h := ⟨Nat.le_refl _, rfl, fun _ _ _ => rfl⟩
theorem Fr.trans {P : Nat → Prop} {h h' h'' : Hp} (a : Fr P h h') (b : Fr P h' h'') : Fr P h h'' :=
  ⟨Nat.le_trans a.c b.c, b.ro.trans a.ro, fun n hn hp => (b.m n (Nat.lt_of_lt_of_le hn a.c) hp).trans (a.m n hn hp)⟩
theorem Ext.fr {h h' : Hp} (a : Ext h h') (P : Nat → Prop) : Fr P h h' := ⟨a.c, a.ro, fun n hn _ => a.m n hn⟩
theorem St.fr {h h' : Hp} {n o : Nat} {w : AV} (s : St h h' n o w) {P : Nat → Prop} (hp : P n) : Fr P h h' :=
  ⟨Nat.le_of_eq s.c.symm, s.ro, fun k _ hk => s.m k (fun e => hk (e ▸ hp))⟩
/-- behind a base: blocks that are new since then may change -/
theorem Fr.from {P : Nat → Prop} {h0 h h' : Hp} (a : Ext h0 h) (b : Fr P h h') (hp : ∀ n, P n → h0.c ≤ n) : Ext h0 h' :=
  ⟨Nat.le_trans a.c b.c, b.ro.trans a.ro, fun n hn => (b.m n (Nat.lt_of_lt_of_le hn a.c) (fun hh => by have := hp n hh; omega)).trans (a.m n hn)⟩
theorem Fr.cell {P : Nat → Prop} {h h' : Hp} (a : Fr P h h') {n o : Nat} {v : AV} (hn : n < h.c) (hp : ¬ P n) (c : Cell h n o v) : Cell h' n o v := by
  obtain ⟨b, hb, hv⟩ := c
  exact ⟨b, (a.m n hn hp).trans hb, hv⟩
theorem Ext.cell {h h' : Hp} (a : Ext h h') {n o : Nat} {v : AV} (hn : n < h.c) (c : Cell h n o v) : Cell h' n o v := by
  obtain ⟨b, hb, hv⟩ := c
  exact ⟨b, (a.m n hn).trans hb, hv⟩
/-- but for one block all is as it was, and there is no new one -/
structure Only (n : Nat) (h h' : Hp) : Prop where
  c : h'.c = h.c
  ro : h'.ro = h.ro
  m : ∀ k, k ≠ n → h'.m.get k = h.m.get k
theorem Only.refl (n : Nat) (h : Hp) : Only n h h := ⟨rfl, rfl, fun _ _ => rfl⟩
theorem Only.trans {n : Nat} {h h' h'' : Hp} (a : Only n h h') (b : Only n h' h'') : Only n h h'' :=
  ⟨b.c.trans a.c, b.ro.trans a.ro, fun k hk => (b.m k hk).trans (a.m k hk)⟩
theorem St.only {h h' : Hp} {n o : Nat} {w : AV} (s : St h h' n o w) : Only n h h' := ⟨s.c, s.ro, s.m⟩
theorem Only.cell {n : Nat} {h h' : Hp} (a : Only n h h') {k o : Nat} {v : AV} (hk : k ≠ n) (c : Cell h k o v) : Cell h' k o v := by
  obtain ⟨b, hb, hv⟩ := c
  exact ⟨b, (a.m k hk).trans hb, hv⟩
theorem Only.fr {n : Nat} {h h' : Hp} (a : Only n h h') {P : Nat → Prop} (hp : P n) : Fr P h h' :=
  ⟨Nat.le_of_eq a.c.symm, a.ro, fun k _ hk => a.m k (fun e => hk (e ▸ hp))⟩
theorem new_cells (h : Hp) (cs : List AV) (t : TypeId) (g : Nat) : Ext h (newBlk h cs t g) ∧ (newBlk h cs t g).c = h.c + 1 ∧ ∀ k x, cs[k]? = some x → Cell (newBlk h cs t g) h.c k x := by
  refine ⟨(Ext.refl h).new _, rfl, fun k x hx => ⟨_, by unfold newBlk; show (h.m.put h.c _).get h.c = _; rw [T.get_put, if_pos rfl], ?_⟩⟩
  show (setCells .leaf 0 cs).get k = _
  have hk := (List.getElem?_eq_some_iff.1 hx).1
  rw [setCells_get, if_pos ⟨Nat.zero_le _, by omega⟩]
  exact hx
theorem box_new (h : Hp) (t : TypeId) (v : AV) : ∃ h1, boxA h t (some v) = some (.ptr h.c 0, h1) ∧ Ext h h1 ∧ h1.c = h.c + 1 ∧ ∀ k x, (cellsOf v)[k]? = some x → Cell h1 h.c k x :=
  ⟨_, rfl, new_cells h (cellsOf v) t 0⟩
theorem alloc_new (h : Hp) (t : TypeId) {ti : TI} (hs : Nat.blt 0 ti.size = true) : ∃ h1, allocA h t (some ti) = some (.ptr h.c 0, h1) ∧ Ext h h1 ∧ h1.c = h.c + 1 ∧ ∀ k x, (cellsOf (.lit ti.zero))[k]? = some x → Cell h1 h.c k x :=
  ⟨_, by show cond (Nat.blt 0 ti.size) _ _ = _; rw [hs]; rfl, new_cells h _ t 0⟩
theorem make_cells {C : Ctx} {t e : TypeId} {ti te : TI} {zv : Value} (ht : C.tys.get t = some ti) (hd : ti.desc = .slice e) (he : C.tys.get e = some te) (hz : te.zero = zv) (hzc : cellsOf (.lit zv) = [.lit zv]) (hs : te.size = 1) (hb : Nat.ble te.bytes 1024 = true)
    {h : Hp} {len cap : Nat} (h1 : len ≤ cap) (h2 : cap ≤ 1048576) :
    ∃ h1, makeSliceA C h t (I (len : Int)) (I (cap : Int)) = some (.slice h.c 0 len false cap 0, h1) ∧ Ext h h1 ∧ h1.c = h.c + 1 ∧ ∀ k, k < cap → Cell h1 h.c k (.lit zv) := by
  refine ⟨newBlk h (repl [.lit zv] cap) e 0, ?_, (new_cells _ _ _ _).1, (new_cells _ _ _ _).2.1, fun k hk => (new_cells _ _ _ _).2.2 k _ ?_⟩
  · unfold makeSliceA
    rw [ht]
    simp only [hd, he]
    rw [natOf_I h2]
    dsimp only
    rw [natOf_I h1]
    simp only [hs, hb, hz, hzc]
    rfl
  · rw [repl_one, List.getElem?_replicate, if_pos hk]
theorem ia_own {C : Ctx} {t e : TypeId} {ti te : TI} (ht : C.tys.get t = some ti) (hd : ti.desc = .slice e) (he : C.tys.get e = some te) (hs : te.size = 1) {nm off n cap z k : Nat} {r : Bool} (hk : k < n) :
    indexAddrA C t (.slice nm off n r cap z) (I (Int.ofNat k)) = some (.ptr nm (off + k)) := by
  simp only [indexAddrA, ht, hd, he, hs, Nat.mul_one]
  rw [show Nat.blt k n = true from by simpa using hk]
  rfl
/-- a list in memory of one's own -/
theorem cells_isL {h : Hp} {nm cap z : Nat} {r : Bool} {xs : List AV} (hn : nm < h.c) (hc : ∀ k x, xs[k]? = some x → Cell h nm k x) : IsL h (.slice nm 0 xs.length r cap z) xs :=
  .inr ⟨nm, 0, r, cap, z, rfl, hn, fun k x hx => by rw [Nat.zero_add]; exact (hc k x hx).load⟩
end
end Go.Proofs.Abs
