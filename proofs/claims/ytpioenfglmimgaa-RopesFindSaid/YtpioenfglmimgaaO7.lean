import Derived.Test.YtpioenfglmimgaaO6
namespace Go.Proofs.Abs
open Go Go.RowKit
set_option linter.unusedSimpArgs false
set_option linter.unusedVariables false
/-! Rows that stand are copied; what a call does with some of the parts. -/
section
variable {C : Ctx} {t e s : Nat} {ti te : TI} {M : List Nat} {h0 h h' : Hp} {L L' Z : List As} {k : OpsK} {dst : Option Tmp} {env : Env} {Q : Env → Hp → Prop} {α : Type} {f : α → List AV}
theorem load_sub {n o sz j : Nat} {r : List AV} {x : AV} (hl : Abs.load h n o sz = some r) (hx : r[j]? = some x) : Abs.load h n (o + j) 1 = some [x] := by
  unfold Abs.load at hl ⊢
  cases hb : h.m.get n with
  | none =>
    rw [hb] at hl
    obtain ⟨hlen, hi⟩ := roCells_spec _ _ _ _ hl
    show roCells (h.ro n) (o + j) 1 = _
    rw [roCells_succ, roCells_zero, hi j x hx]
    rfl
  | some c =>
    rw [hb] at hl
    obtain ⟨hlen, hi⟩ := getCells_spec _ _ _ _ hl
    show getCells c.cells (o + j) 1 = _
    rw [getCells1, hi j x hx]
    rfl
theorem flat_at {s : Nat} : ∀ {R : List (List AV)} {k : Nat} {x : AV}, RowL s R → R.flatten[k]? = some x → ∃ i j r, k = i * s + j ∧ R[i]? = some r ∧ r[j]? = some x := by
  intro R
  induction R with
  | nil => intro k x _ h; cases h
  | cons r R ih =>
    intro k x hR hx
    have hr : r.length = s := hR r (.head _)
    rw [List.flatten_cons] at hx
    by_cases hk : k < r.length
    · rw [List.getElem?_append_left hk] at hx
      exact ⟨0, k, r, by omega, rfl, hx⟩
    · rw [List.getElem?_append_right (by omega)] at hx
      obtain ⟨i, j, r', h1, h2, h3⟩ := ih hR.tail hx
      exact ⟨i + 1, j, r', by rw [Nat.succ_mul]; omega, h2, h3⟩
theorem IsR.elems {v : AV} {xs : List α} (hf : ∀ x ∈ xs, (f x).length = s) (hs0 : 0 < s) (r : IsR f s h v xs) : elemsA h s xs.length v = some (xs.map f).flatten ∧ lenA v = some xs.length := by
  rcases r with ⟨rfl, rfl⟩ | ⟨nm, off, rest, cap, z, rfl, h2, h3⟩
  · exact ⟨rfl, rfl⟩
  · refine ⟨?_, rfl⟩
    show cond (Nat.beq xs.length 0) (some []) (Abs.load h nm off (xs.length * s)) = _
    have hrl : RowL s (xs.map f) := fun q hq => by
      obtain ⟨y, hy, rfl⟩ := List.mem_map.1 hq
      exact hf y hy
    by_cases h9 : xs.length = 0
    · rw [h9]
      rw [List.eq_nil_of_length_eq_zero h9]
      rfl
    · rw [beq_zero h9]
      have hlen := hrl.len
      rw [List.length_map] at hlen
      have := row_load (h := h) (nm := nm) (off := off) (xs := (xs.map f).flatten) (fun k x hx => by
        obtain ⟨i, j, q, rfl, h5, h6⟩ := flat_at hrl hx
        rw [List.getElem?_map, Option.map_eq_some_iff] at h5
        obtain ⟨y, hy, rfl⟩ := h5
        have := load_sub (h3 i y hy) h6
        rwa [Nat.add_assoc] at this)
      rw [hlen] at this
      exact this
/-- append of rows that stand to nothing -/
theorem wo_rapp0 {x : AV} {xs : List α} (H : Hs M h0 h L Z) (hm : isr f s x xs ∈ Z) (ht : C.tys.get t = some ti) (hd : ti.desc = .slice e) (he : C.tys.get e = some te) (hs : te.size = s) (hs0 : 0 < s) (hb : Nat.ble te.bytes 65536 = true)
    (hf : ∀ y ∈ xs, (f y).length = s) (ho : onesA (xs.map f).flatten = true) (hl : xs.length ≤ 90000)
    (h1 : ∀ u' h', Hs M h0 h' (owr e s u' (xs.map f) :: L) Z → Wo (k (putA env u' dst) h') Q) : Wo (afterA k env dst (builtinA C h .append [t, t] [nilS, x])) Q := by
  obtain ⟨hel, hla⟩ := IsR.elems hf hs0 (H.pz hm : IsR f s h x xs)
  have hrl : RowL s (xs.map f) := fun q hq => by
    obtain ⟨y, hy, rfl⟩ := List.mem_map.1 hq
    exact hf y hy
  have hfl := hrl.len
  rw [List.length_map] at hfl
  obtain ⟨v', h', e1, g1, f1, n1⟩ := app_gr ht hd he hs hs0 hb (Gr.nil e s h) hla hel hfl ho (by omega)
  rw [e1]
  rw [List.nil_append, Nat.zero_add] at g1
  refine h1 v' h' (H.fresh ⟨f1.c, f1.ro, fun m h2 => f1.m m h2 (fun h4 => by cases h4)⟩ (x := owr e s v' (xs.map f)) ⟨hrl, .inl (by rw [List.length_map]; exact g1)⟩ (fun m hm => ?_))
  have hm := nmO_mem.1 hm
  rcases n1 with h2 | h2
  · rw [h2] at hm; cases hm
  · rw [h2] at hm
    cases hm
    exact Nat.le_refl _
/-- append of what stands to a block that is full, which stands from now on -/
theorem wo_fappz {n len : Nat} {x : AV} {cs ds : List AV} {L1 : List As} (H : Hs [] h0 h (blk id n cs :: L1) Z) (hcl : cs.length = len) (h0l : 0 < len) (ht : C.tys.get t = some ti) (hd : ti.desc = .slice e) (he : C.tys.get e = some te) (hs : te.size = 1) (hb : Nat.ble te.bytes 65536 = true)
    (hm : isl x ds ∈ Z) (ho : onesA (cs ++ ds) = true) (hl : len + ds.length ≤ 90000)
    (h1 : ∀ u' h', (∀ m, nmO u' = some m → h0.c ≤ m) → Lc false h' u' (cs ++ ds) → Hs [] h0 h' L1 (isl u' (cs ++ ds) :: lc false u' (cs ++ ds) :: Z) → Wo (k (putA env u' dst) h') Q) : Wo (afterA k env dst (builtinA C h .append [t, t] [.slice n 0 len false len 0, x])) Q := by
  have hx := H.pz hm
  have b9 : Blks id h n cs := H.p (.head _)
  have hn0 : h0.c ≤ n := ((H.own (blk id n cs) (.head _)).2 n (List.mem_singleton.2 rfl)).elim (fun h => h) (fun h => by cases h)
  have key : ∀ (u' : AV) (h' : Hp), Ext h h' → Lc false h' u' (cs ++ ds) → (∀ m, nmO u' = some m → m = n ∨ h.c ≤ m) → Hs [] h0 h' L1 (isl u' (cs ++ ds) :: lc false u' (cs ++ ds) :: Z) := fun u' h' hx r hn => by
    have H2 := H.ext hx
    have H3 : Hs [] h0 h' L1 Z := H2.sub (List.Sublist.cons _ (List.Sublist.refl _)) (fun _ hz => hz)
    have hd : ∀ m, m ∈ (nmO u').toList → ∀ a, a ∈ L1 → m ∉ a.foot := fun m h5 a ha h6 => by
      rcases hn m (nmO_mem.1 h5) with rfl | h7
      · exact (List.pairwise_cons.1 H.sep).1 a ha m (List.mem_singleton.2 rfl) h6
      · have := H.lt (.tail _ ha) h6
        omega
    exact (H3.z1 (z := lc false u' (cs ++ ds)) r hd).z1 (z := isl u' (cs ++ ds)) r.isL hd
  have hel : elemsA h 1 ds.length x = some ds := by
    have := hx.elems (Nat.le_refl ds.length)
    rwa [List.take_length] at this
  have hlt : n < h.c := b9.lt
  by_cases h9 : ds.length = 0
  · have hd0 : ds = [] := List.eq_nil_of_length_eq_zero h9
    subst hd0
    have r : Lc false h (.slice n 0 len false len 0) (cs ++ []) := by
      rw [List.append_nil]
      exact (Lc.blk b9 hcl).weak
    obtain ⟨h', e1, o1, b1⟩ := store_blk' (f := id) (xs := []) b9 (a := len) rfl (by simp [hcl])
    have e2 : builtinA C h .append [t, t] [.slice n 0 len false len 0, x] = some (.slice n 0 len false len 0, h') := by
      show appendA C h t t (.slice n 0 len false len 0) x = _
      unfold appendA
      rw [ht]
      simp only [hd, he, hx.lenA, hs, hb, List.length_nil, Nat.add_zero, Nat.zero_add, Nat.mul_one]
      rw [show elemsA h 1 0 x = some [] from hel, Nat.ble_eq_true_of_le (Nat.le_refl len)]
      show cond (Nat.blt 0 1 && true && Nat.ble 0 1048576 && true) _ none = _
      rw [show (Nat.blt 0 1 && true && Nat.ble 0 1048576 && true) = true from rfl]
      dsimp only [cond_true]
      rw [show Abs.store h n len [] = some h' from e1]
    rw [e2]
    have hm' : h'.m.get = h.m.get ∨ True := .inr trivial
    have a : Ext h h' := ⟨Nat.le_of_eq o1.c.symm, o1.ro, fun m hm2 => by
      by_cases e9 : m = n
      · subst e9
        obtain ⟨c, h1, h2⟩ := b9.blk
        have e3 : Abs.store h m len ([] : List AV) = some ⟨h.m.put m (some ⟨setCells c.cells len [], c.n, c.elem, c.grow⟩), h.c, h.ro⟩ := by
          rw [store_h, h1, stO_s]
          rfl
        have e4 := e3.symm.trans e1
        cases e4
        show (h.m.put m _).get m = _
        rw [T.get_put, if_pos rfl, h1]
        rfl
      · exact o1.m m e9⟩
    have r2 : Lc false h' (.slice n 0 len false len 0) (cs ++ []) := r.fr (a.fr (fun _ => False)) (fun _ _ h => h)
    exact h1 _ h' (fun m hm => by cases hm; exact hn0) r2 (key _ h' a r2 (fun m hm => by cases hm; exact .inl rfl))
  · have hol : Abs.load h n 0 (len * 1) = some cs := by
      rw [Nat.mul_one]
      exact ldn b9 (by rw [List.drop_zero, ← hcl, List.take_length]) hcl
    have e1 : builtinA C h .append [t, t] [.slice n 0 len false len 0, x] = some (.slice h.c 0 (len + ds.length) true 0 0, newBlk h (cs ++ ds) e 1) := by
      show appendA C h t t (.slice n 0 len false len 0) x = _
      unfold appendA
      rw [ht]
      simp only [hd, he, hx.lenA, hs, hb, hel, hol, Nat.zero_add]
      rw [Nat.ble_eq_true_of_le (show ds.length ≤ 1048576 by omega), ble_f (show len < len + ds.length by omega), Nat.ble_eq_true_of_le (show len + ds.length ≤ 1048576 by omega)]
      rfl
    rw [e1]
    have b10 := new_blk h (cs ++ ds) e 1
    have hlen : (cs ++ ds).length = len + ds.length := by rw [List.length_append, hcl]
    have r : Lc false (newBlk h (cs ++ ds) e 1) (.slice h.c 0 (len + ds.length) true 0 0) (cs ++ ds) := by
      refine ⟨.inr ⟨h.c, 0, true, 0, 0, by rw [hlen], Nat.lt_succ_self _, fun j y hy => ?_⟩, trivial, fun h => by cases h⟩
      rw [Nat.zero_add]
      exact (b10.cell hy).load
    exact h1 _ _ (fun m hm => by cases hm; exact H.fr.c) r (key _ _ (new_cells h (cs ++ ds) e 1).1 r (fun m hm => by cases hm; exact .inr (Nat.le_refl _)))
/-- something new of one's own, and something new that stands -/
theorem Hs.cpy (H : Hs M h0 h L Z) (a : Ext h h') {x z : As} (p : x.P h') (q : z.P h') (hx : ∀ n, n ∈ x.foot → h.c ≤ n) (hz : ∀ n, n ∈ z.foot → h.c ≤ n) (hd : ∀ n, n ∈ z.foot → n ∉ x.foot) : Hs M h0 h' (x :: L) (z :: Z) := by
  refine (H.fresh a p hx).z1 q (fun n hn b hb h9 => ?_)
  rcases List.mem_cons.1 hb with rfl | hb
  · exact hd n hn h9
  · have := H.lt hb h9
    have := hz n hn
    omega
/-- the first rows, which stand from now on -/
theorem wo_rslb {v : AV} {xs : List α} {F : As → List As} {i : Int} {j : Nat} (H : Hs M h0 h L Z) (hp : PickF L (owr e s v (xs.map f)) F) (ht : C.tys.get t = some ti) (hd : ti.desc = .slice e) (he : C.tys.get e = some te) (hf : ∀ y ∈ xs, (f y).length = s) (hi : i = (j : Int)) (hj : j < xs.length)
    (h1 : ∀ u, oneA u = true → cellsOf u = [u] → Hs M h0 h (F (isr f s u (xs.take j))) Z → Wo (k (putA env u dst) h) Q) : Wo (afterA k env dst (sliceA C h t v none (some (I i)) none)) Q := by
  subst hi
  have p : OwR e s h v (xs.map f) := H.p (hp.pick (blk id 0 [])).mem
  have hjl : j < (xs.map f).length := by rw [List.length_map]; exact hj
  obtain ⟨nm, r, c, rfl, hb⟩ := p.blk hjl
  have hn : ∀ m, j ≤ m → natOf? (I (j : Int)) m = some j := fun m hm => natOf_I (n := j) hm
  have e1 : ∃ r2 c2, sliceA C h t (.slice nm 0 (xs.map f).length r c 0) none (some (I (j : Int))) none = some (.slice nm 0 j r2 c2 0, h) := by
    obtain ⟨_, q2 | ⟨nm', q3, _⟩⟩ := p
    · rcases q2.is with ⟨h2, _⟩ | ⟨nm', r', h2, _, h3⟩
      · cases h2
      · cases h2
        have hr : r = true := by rcases h3 with ⟨h3, _⟩ | ⟨_, h3⟩; omega; exact h3
        subst hr
        refine ⟨true, 0, ?_⟩
        unfold sliceA
        rw [ht]
        simp only [hd, he]
        unfold boundsA
        simp only [hn (xs.map f).length (by omega)]
        simp
    · cases q3
      refine ⟨false, (xs.map f).length, ?_⟩
      unfold sliceA
      rw [ht]
      simp only [hd, he]
      unfold boundsA
      simp only [hn (xs.map f).length (by omega)]
      simp
  obtain ⟨r2, c2, e1⟩ := e1
  rw [e1]
  have ht2 : (xs.take j).length = j := by rw [List.length_take]; omega
  have q : IsR f s h (.slice nm 0 j r2 c2 0) (xs.take j) := by
    have := blk_isR (c := c2) (z := 0) (r := r2) (xs := xs.take j) (fun y hy => hf y (List.mem_of_mem_take hy)) hb (fun m x hx => by
      rw [List.map_take, flat_take p.1 (by omega), List.getElem?_take] at hx
      split at hx
      · exact hx
      · cases hx)
    rwa [ht2] at this
  exact h1 _ rfl rfl (H.upd (hp.pick _) (a' := isr f s (.slice nm 0 j r2 c2 0) (xs.take j)) (Fr.refl _ _) q (fun m hm => .inl hm))
theorem owr_ld {v : AV} {R : List (List AV)} {nm i j off : Nat} {r : List AV} {x : AV} (p : OwR e s h v R) (hn : nmO v = some nm) (hg : isAggD ti.desc = false) (hr : R[i]? = some r) (ho : off = i * s + j) (hx : r[j]? = some x) : oLoad h (some ti) (some (.ptr nm off)) = some (x, h) := by
  subst ho
  obtain ⟨nm', r', c, rfl, hb⟩ := p.blk (List.getElem?_eq_some_iff.1 hr).1
  cases hn
  exact oload1 hg (ld1 hb (p.1.at hr hx))
/-- rows of one's own stand from now on -/
theorem Hs.frz {v : AV} {xs : List α} (hf : ∀ x ∈ xs, (f x).length = s) (H : Hs M h0 h (owr e s v (xs.map f) :: L) Z) : Hs M h0 h L (isr f s v xs :: Z) := by
  have p : OwR e s h v (xs.map f) := H.p (.head _)
  have H2 := H.freeze (a := owr e s v (xs.map f)) (b := owr e s v (xs.map f)) (L' := L) (.here _ _ _) rfl
  exact (H2.zsub (z := owr e s v (xs.map f)) (z' := isr f s v xs) (.head _) (p.isR hf) (fun n hn => hn)).sub (List.Sublist.refl _) (fun z hz => by
    rcases List.mem_cons.1 hz with rfl | hz
    · exact .head _
    · exact .tail _ (.tail _ hz))
/-- the feet of some parts -/
abbrev feet (L : List As) : List Nat := L.flatMap As.foot
theorem Hs.begin {L1 L2 Z1 : List As} (H : Hs M h0 h (L1 ++ L2) Z) (hz : ∀ z, z ∈ Z1 → z ∈ Z) : Hs (feet L1) h h L1 Z1 :=
  ⟨Fr.refl _ _, fun a ha => ⟨H.p (List.mem_append_left _ ha), fun n hn => .inr (List.mem_flatMap.2 ⟨a, ha, hn⟩)⟩, H.sep.sublist (List.sublist_append_left _ _), fun z h1 => ⟨H.pz (hz z h1), fun n hn a ha => (H.std z (hz z h1)).2 n hn a (List.mem_append_left _ ha)⟩⟩
theorem Hs.call {L1 L2 L1' Z1 : List As} (H : Hs M h0 h (L1 ++ L2) Z) (G : Hs (feet L1) h h' L1' Z1) (hz : ∀ z, z ∈ Z1 → ∀ n, n ∈ z.foot → h.c ≤ n ∨ ∃ y, y ∈ Z ∧ n ∈ y.foot) : Hs M h0 h' (L1' ++ L2) (Z1 ++ Z) := by
  have hs := List.pairwise_append.1 H.sep
  have f2 : ∀ b, b ∈ L2 → ∀ n, n ∈ b.foot → ¬ n ∈ feet L1 := fun b hb n hn h9 => by
    obtain ⟨a, ha, h8⟩ := List.mem_flatMap.1 h9
    exact hs.2.2 a ha b hb n h8 hn
  have fz : ∀ z, z ∈ Z → ∀ n, n ∈ z.foot → ¬ n ∈ feet L1 := fun z h1 n hn h9 => by
    obtain ⟨a, ha, h8⟩ := List.mem_flatMap.1 h9
    exact (H.std z h1).2 n hn a (List.mem_append_left _ ha) h8
  refine ⟨⟨Nat.le_trans H.fr.c G.fr.c, G.fr.ro.trans H.fr.ro, fun n h1 h2 => (G.fr.m n (Nat.lt_of_lt_of_le h1 H.fr.c) (fun h3 => ?_)).trans (H.fr.m n h1 h2)⟩, fun x hx => ?_, List.pairwise_append.2 ⟨G.sep, hs.2.1, fun a ha b hb n h1 h2 => ?_⟩, fun z h1 => ?_⟩
  · obtain ⟨a, ha, h8⟩ := List.mem_flatMap.1 h3
    rcases (H.own a (List.mem_append_left _ ha)).2 n h8 with h4 | h4
    · omega
    · exact h2 h4
  · rcases List.mem_append.1 hx with hx | hx
    · refine ⟨G.p hx, fun n hn => ?_⟩
      rcases (G.own x hx).2 n hn with h2 | h2
      · exact .inl (Nat.le_trans H.fr.c h2)
      · obtain ⟨a, ha, h8⟩ := List.mem_flatMap.1 h2
        exact (H.own a (List.mem_append_left _ ha)).2 n h8
    · exact ⟨x.st _ _ _ (H.p (List.mem_append_right _ hx)) G.fr (f2 x hx), (H.own x (List.mem_append_right _ hx)).2⟩
  · rcases (G.own a ha).2 n h1 with h3 | h3
    · have := H.lt (List.mem_append_right _ hb) h2
      omega
    · exact f2 b hb n h2 h3
  · rcases List.mem_append.1 h1 with h1 | h1
    · refine ⟨G.pz h1, fun n hn x hx => ?_⟩
      rcases List.mem_append.1 hx with hx | hx
      · exact (G.std z h1).2 n hn x hx
      · intro h9
        rcases hz z h1 n hn with h2 | ⟨y, hy, h2⟩
        · have := H.lt (List.mem_append_right _ hx) h9
          omega
        · exact (H.std y hy).2 n h2 x (List.mem_append_right _ hx) h9
    · refine ⟨z.st _ _ _ (H.pz h1) G.fr (fz z h1), fun n hn x hx => ?_⟩
      rcases List.mem_append.1 hx with hx | hx
      · intro h9
        rcases (G.own x hx).2 n h9 with h2 | h2
        · have := z.lt h (H.pz h1) n hn
          omega
        · exact fz z h1 n hn h2
      · exact (H.std z h1).2 n hn x (List.mem_append_right _ hx)
/-- the parts in another order -/
theorem Hs.perm {L2 : List As} (H : Hs M h0 h L Z) (p : L2.Perm L) : Hs M h0 h L2 Z :=
  ⟨H.fr, fun a ha => H.own a (p.mem_iff.1 ha), (List.Perm.pairwise_iff (R := fun a b : As => ∀ n, n ∈ a.foot → n ∉ b.foot) (fun {a b} h n h1 h2 => h n h2 h1) p).2 H.sep, fun z hz => ⟨H.pz hz, fun n hn a ha => (H.std z hz).2 n hn a (p.mem_iff.1 ha)⟩⟩
end
end Go.Proofs.Abs
