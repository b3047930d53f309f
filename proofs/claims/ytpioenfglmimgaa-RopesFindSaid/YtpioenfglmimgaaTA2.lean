import Derived.Test.YtpioenfglmimgaaO7
namespace Go.Proofs.Abs
open Go Go.RowKit
set_option linter.unusedSimpArgs false
set_option linter.unusedVariables false
/-! Append within the capacity; an empty list that is put together; what a callee owns. -/
section
variable {C : Ctx} {t e : TypeId} {ti te : TI} {M : List Nat} {h0 h h' : Hp} {L L' Z : List As} {k : OpsK} {dst : Option Tmp} {env : Env} {Q : Env → Hp → Prop}
theorem wo_appc {n n2 len c c2 z2 : Nat} {r2 : Bool} {A : List AV} {x : AV} (H : Hs M h0 h L Z) (hp : Pick L (blk id n A) (blk id n (A.set len x)) L') (hlc : len < c) (hcl : A.length = c) (ht : C.tys.get t = some ti) (hd : ti.desc = .slice e) (he : C.tys.get e = some te) (hs : te.size = 1) (hb : Nat.ble te.bytes 65536 = true)
    (hm : blk id n2 [x] ∈ L) (ho : oneA x = true)
    (h1 : ∀ h', Hs M h0 h' L' Z → Wo (k (putA env (.slice n 0 (len + 1) false c 0) dst) h') Q) : Wo (afterA k env dst (builtinA C h .append [t, t] [.slice n 0 len false c 0, .slice n2 0 1 r2 c2 z2])) Q := by
  have hds : elemsA h 1 1 (.slice n2 0 1 r2 c2 z2) = some [x] := by
    show load h n2 0 (1 * 1) = _
    exact ldn (H.p hm) rfl rfl
  obtain ⟨h', e1, o1, b1⟩ := store_blk' (H.p hp.mem) (a := len) (xs := [x]) (by rw [List.map_id, onesA_cons', ho]; rfl) (by simp; omega)
  rw [List.map_id] at e1
  have e2 : builtinA C h .append [t, t] [.slice n 0 len false c 0, .slice n2 0 1 r2 c2 z2] = some (.slice n 0 (len + 1) false c 0, h') := by
    show appendA C h t t (.slice n 0 len false c 0) (.slice n2 0 1 r2 c2 z2) = _
    unfold appendA
    rw [ht]
    simp only [hd, he, lenA, hs, hb, hds, Nat.zero_add, Nat.mul_one]
    rw [show Nat.ble 1 1048576 = true from rfl, Nat.ble_eq_true_of_le (show len + 1 ≤ c by omega), e1]
    rfl
  rw [e2]
  refine h1 h' (H.upd hp (o1.fr (P := fun m => m ∈ (blk id n A).foot) (List.mem_singleton.2 rfl)) ?_ (fun m hm => .inl hm))
  rw [patch_one (by omega)] at b1
  exact b1
theorem patch_app {α : Type} {A xs ys : List α} {i : Nat} (h : i + xs.length + ys.length ≤ A.length) : patch (patch A i xs) (i + xs.length) ys = patch A i (xs ++ ys) := by
  have hl := patch_len (M := A) (a := i) (xs := xs) (by omega)
  apply List.ext_getElem?
  intro j
  rw [patch_at (M := patch A i xs) (by rw [hl]; omega), patch_at (M := A) (xs := xs) (by omega), patch_at (M := A) (xs := xs ++ ys) (by rw [List.length_append]; omega), List.length_append]
  by_cases h1 : i + xs.length ≤ j ∧ j < i + xs.length + ys.length
  · rw [if_pos h1, if_pos (by omega), List.getElem?_append_right (by omega)]
    congr 1
    omega
  · rw [if_neg h1]
    by_cases h2 : i ≤ j ∧ j < i + xs.length
    · rw [if_pos h2, if_pos (by omega), List.getElem?_append_left (by omega)]
    · rw [if_neg h2, if_neg (by omega)]
/-- a list without elements -/
theorem Hs.empg {n : Nat} {cs : List AV} (H : Hs M h0 h (blk id n cs :: L) Z) (e s : Nat) : Hs M h0 h (gr e s (.slice n 0 0 false 0 0) [] 0 :: L) Z := by
  have b : Blks id h n cs := H.p (.head _)
  obtain ⟨c, h1, _⟩ := b.blk
  exact H.upd (a := blk id n cs) (a' := gr e s (.slice n 0 0 false 0 0) [] 0) (.here _ _ _) (Fr.refl _ _) ⟨by simp, .inl ⟨rfl, .inr ⟨n, c, rfl, b.lt, h1⟩⟩⟩ (fun m hm => .inl hm)
theorem wo_appe {n : Nat} {x : AV} {cs ds : List AV} (H : Hs M h0 h (blk id n cs :: L) Z) (ht : C.tys.get t = some ti) (hd : ti.desc = .slice e) (he : C.tys.get e = some te) (hs : te.size = 1) (hb : Nat.ble te.bytes 65536 = true)
    (hm : isl x ds ∈ Z) (ho : onesA ds = true) (hl : ds.length ≤ 100000) (h1 : ∀ u' h', Hs M h0 h' (gr e 1 u' ds ds.length :: L) Z → Wo (k (putA env u' dst) h') Q) : Wo (afterA k env dst (builtinA C h .append [t, t] [.slice n 0 0 false 0 0, x])) Q :=
  wo_appz (H.empg e 1) (.here _ _) ht hd he hs hb hm ho (by omega) (fun u' h' H' => h1 u' h' (by rw [List.nil_append, Nat.zero_add] at H'; exact H'))
/-- a part that is one's own stands from now on -/
theorem Hs.frzm {a : As} {X Y : List As} (H : Hs M h0 h (X ++ a :: Y) Z) : Hs M h0 h (X ++ Y) (a :: Z) :=
  (H.perm (L2 := a :: (X ++ Y)) List.perm_middle.symm).freeze (b := a) (.here _ _ _) rfl
/-- what a callee did with two blocks -/
theorem Hs.two {L1 L2 L1' Z1 : List As} (H : Hs M h0 h (L1 ++ L2) Z) (G : Hs (feet L1) h h' L1' Z1) : Hs M h0 h' (L1' ++ L2) Z :=
  (H.call (G.sub (Z' := []) (List.Sublist.refl _) znil) (fun z hz => by cases hz)).sub (List.Sublist.refl _) (fun z hz => hz)
/-- patch, under a name that the walks leave alone -/
def pat (A : List AV) (k : Nat) (xs : List AV) : List AV := patch A k xs
theorem pat_nil (A : List AV) (k : Nat) : pat A k [] = A := patch_nil A k
theorem pat_len {A xs : List AV} {i : Nat} (h : i + xs.length ≤ A.length) : (pat A i xs).length = A.length := patch_len h
theorem pat_one {A : List AV} {i : Nat} {x : AV} (h : i < A.length) : A.set i x = pat A i [x] := (patch_one h).symm
theorem pat_app {A xs ys : List AV} {i : Nat} (h : i + xs.length + ys.length ≤ A.length) : pat (pat A i xs) (i + xs.length) ys = pat A i (xs ++ ys) := patch_app h
theorem pat_all {A xs : List AV} (h : xs.length = A.length) : pat A 0 xs = xs := by
  unfold pat patch
  rw [List.take_zero, List.nil_append, Nat.zero_add, h, List.drop_length, List.append_nil]
theorem Hs.lok (H : Hs M h0 h L Z) {c : Bool} {w : AV} {ys : List AV} (hm : lc c w ys ∈ Z) : Lc c h w ys := H.pz hm
theorem Hs.iok (H : Hs M h0 h L Z) {w : AV} {ys : List AV} (hm : isl w ys ∈ Z) : IsL h w ys := H.pz hm
/-- an element of what was put together is written -/
theorem wo_iast {len j : Nat} {u : AV} {cs : List AV} {F : As → List As} {i : Int} (H : Hs M h0 h L Z) (hp : PickF L (gr e 1 u cs len) F) (ht : C.tys.get t = some ti) (hd : ti.desc = .slice e) (he : C.tys.get e = some te) (hs : te.size = 1) (hi : i = (j : Int)) (hj : j < len)
    (h1 : ∀ nm, nmO u = some nm → u = .slice nm 0 len true 0 0 → Wo (k (putA env (.ptr nm j) dst) h) Q) : Wo (afterA k env dst (withH h (indexAddrA C t u (I i)))) Q := by
  subst hi
  have g : Gr e 1 h u cs len := H.p (hp.pick (blk id 0 [])).mem
  have g2 := g
  obtain ⟨_, ⟨h0, _⟩ | ⟨nm, b, _, rfl, _⟩⟩ := g
  · omega
  · have := ia_own (C := C) (nm := nm) (off := 0) (cap := 0) (z := 0) (r := true) (n := len) ht hd he hs hj
    rw [Nat.zero_add] at this
    rw [show indexAddrA C t (.slice nm 0 len true 0 0) (I (j : Int)) = some (.ptr nm j) from this]
    exact h1 nm rfl rfl
theorem wo_stg {len j nm : Nat} {u x : AV} {cs : List AV} {F : As → List As} (H : Hs M h0 h L Z) (hp : PickF L (gr e 1 u cs len) F) (hu : u = .slice nm 0 len true 0 0) (hj : j < len) (hs : ti.size = 1) (hc : cellsOf x = [x]) (ho : oneA x = true)
    (h1 : ∀ h', Hs M h0 h' (F (gr e 1 u (cs.set j x) len)) Z → Wo (k (putA env uv dst) h') Q) : Wo (afterA k env dst (oStore h (some ti) (some (.ptr nm j)) (some x))) Q := by
  subst hu
  have g : Gr e 1 h (.slice nm 0 len true 0 0) cs len := H.p (hp.pick (blk id 0 [])).mem
  have hcl : cs.length = len := by rw [g.1, Nat.mul_one]
  obtain ⟨y, hy⟩ := List.getElem?_eq_some_iff.2 ⟨(by omega : j < cs.length), rfl⟩ |> fun h => (⟨_, h⟩ : ∃ y, cs[j]? = some y)
  obtain ⟨b, hb, hbc⟩ := g.cell hy
  have e1 : Abs.store h nm j [x] = some ⟨h.m.put nm (some ⟨setCells b.cells j [x], b.n, b.elem, b.grow⟩), h.c, h.ro⟩ := by
    rw [store_h, hb, stO_s, show known b.cells j [x].length = true from known1 hbc]
    simp only [onesA_cons', ho, onesA_nil, Bool.and_true, cond_true]
  have e2 : oStore h (some ti) (some (.ptr nm j)) (some x) = some (uv, ⟨h.m.put nm (some ⟨setCells b.cells j [x], b.n, b.elem, b.grow⟩), h.c, h.ro⟩) := by
    show cond (Nat.beq (cellsOf x).length ti.size) (skipH (store h nm j (cellsOf x))) none = _
    rw [hc, hs, e1]
    rfl
  rw [e2]
  refine h1 _ (H.upd (hp.pick _) (a' := gr e 1 (.slice nm 0 len true 0 0) (cs.set j x) len) ⟨Nat.le_refl _, rfl, fun k hk hn => ?_⟩ ?_ (fun m hm => .inl hm))
  · show (h.m.put nm _).get k = _
    rw [T.get_put, if_neg (fun e9 => hn (by rw [e9]; show nm ∈ (nmO (.slice nm 0 len true 0 0)).toList; exact nmO_mem.2 rfl))]
  · obtain ⟨g0, ⟨h0, _⟩ | ⟨nm', b', hl0, hv, hlt, hb', hg, hn, he, hcells⟩⟩ := g
    · omega
    · cases hv
      rw [hb] at hb'
      cases hb'
      refine ⟨by rw [List.length_set]; exact g0, .inr ⟨nm, ⟨setCells b.cells j [x], b.n, b.elem, b.grow⟩, hl0, rfl, hlt, by show (h.m.put nm _).get nm = _; rw [T.get_put, if_pos rfl], hg, hn, he, fun k z hz => ?_⟩⟩
      show (setCells b.cells j [x]).get k = _
      rw [setCells_get]
      rw [List.getElem?_set] at hz
      by_cases h9 : j = k
      · subst h9
        rw [if_pos rfl, if_pos (by omega)] at hz
        rw [if_pos ⟨Nat.le_refl _, by simp⟩, Nat.sub_self]
        exact hz
      · rw [if_neg h9] at hz
        rw [if_neg (by simp; omega)]
        exact hcells k z hz
theorem wo_leng1 {len : Nat} {u : AV} {cs : List AV} {F : As → List As} (H : Hs M h0 h L Z) (hp : PickF L (gr e 1 u cs len) F) (ht : C.tys.get t = some ti) (hd : ti.desc = .slice e)
    (h1 : Wo (k (putA env (I len) dst) h) Q) : Wo (afterA k env dst (builtinA C h .len [t] [u])) Q := by
  have g : Gr e 1 h u cs len := H.p (hp.pick (blk id 0 [])).mem
  have e1 : builtinA C h .len [t] [u] = some (I len, h) := by
    rcases g.is with ⟨rfl, rfl⟩ | ⟨nm, r, rfl, _⟩
    · simp [builtinA, ht, hd]
    · simp [builtinA, ht, hd]
  rw [e1]
  exact h1
end
end Go.Proofs.Abs
