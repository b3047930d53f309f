import Derived.Test.YtpioenfglmimgaaO5
namespace Go.Proofs.Abs
open Go Go.RowKit
set_option linter.unusedSimpArgs false
set_option linter.unusedVariables false
/-! Slices of structs: room that was made ahead, parts, what stands. -/
section
variable {C : Ctx} {t e s : Nat} {ti te : TI} {M : List Nat} {h0 h h' : Hp} {L L' Z : List As} {k : OpsK} {dst : Option Tmp} {env : Env} {Q : Env → Hp → Prop} {α : Type} {f : α → List AV}
/-- a slice of structs that stands, without spare capacity -/
structure LcR (f : α → List AV) (s : Nat) (h : Hp) (w : AV) (xs : List α) : Prop where
  r : IsR f s h w xs
  cap : capOf w = some xs.length
theorem LcR.fr {w : AV} {xs : List α} {P : Nat → Prop} (p : LcR f s h w xs) (a : Fr P h h') (hn : ∀ n, nmO w = some n → ¬ P n) : LcR f s h' w xs := ⟨p.r.fr a hn, p.cap⟩
theorem LcR.ext {w : AV} {xs : List α} (p : LcR f s h w xs) (a : Ext h h') : LcR f s h' w xs := p.fr (a.fr (fun _ => False)) (fun _ _ => id)
def lcr (f : α → List AV) (s : Nat) (w : AV) (xs : List α) : As :=
  ⟨(nmO w).toList, fun h => LcR f s h w xs, fun h h' P p a hn => p.fr a (fun n hv => hn n (nmO_mem.2 hv)), fun h p n hn => p.r.lt (nmO_mem.1 hn)⟩
theorem LcR.nil (f : α → List AV) (s : Nat) (h : Hp) : LcR f s h nilS [] := ⟨.inl ⟨rfl, rfl⟩, rfl⟩
/-- rows in a block are a slice that stands -/
theorem blk_isR {n c z : Nat} {r : Bool} {xs : List α} {cs : List AV} (hf : ∀ x ∈ xs, (f x).length = s) (b : Blks id h n cs) (hc : ∀ (j : Nat) (x : AV), (xs.map f).flatten[j]? = some x → cs[j]? = some x) : IsR f s h (.slice n 0 xs.length r c z) xs := by
  refine .inr ⟨n, 0, r, c, z, rfl, b.lt, fun i x hx => ?_⟩
  have hrl : RowL s (xs.map f) := fun q hq => by
    obtain ⟨y, hy, rfl⟩ := List.mem_map.1 hq
    exact hf y hy
  have hxl := hf x (List.mem_of_getElem? hx)
  obtain ⟨c', h1, h2⟩ := b.blk
  unfold load
  rw [h1]
  show getCells c'.cells (0 + i * s) s = _
  rw [Nat.zero_add]
  have := gets_of (b := c'.cells) (cs := f x) (off := i * s) (fun j y hy => h2 _ _ (hc _ _ (hrl.at (i := i) (j := j) (r := f x) (by rw [List.getElem?_map, hx]; rfl) hy)))
  rwa [hxl] at this
theorem OwR.isR {v : AV} {xs : List α} (hf : ∀ x ∈ xs, (f x).length = s) (p : OwR e s h v (xs.map f)) : IsR f s h v xs := by
  rcases Nat.eq_zero_or_pos xs.length with h0 | h0
  · have hx : xs = [] := List.eq_nil_of_length_eq_zero h0
    subst hx
    rcases p.is with ⟨rfl, _⟩ | ⟨nm, r, c, rfl⟩
    · exact .inl ⟨rfl, rfl⟩
    · exact .inr ⟨nm, 0, r, c, 0, rfl, p.lt rfl, fun i x hx => by cases hx⟩
  · obtain ⟨nm, r, c, rfl, hb⟩ := p.blk (i := 0) (by rw [List.length_map]; exact h0)
    rw [List.length_map]
    exact blk_isR hf hb (fun j x hx => hx)
/-- append into room that was made ahead -/
theorem wo_happ {n n2 len c c2 z2 : Nat} {r2 : Bool} {R : List (List AV)} {ds : List AV} (H : Hs M h0 h L Z) (hp : Pick L (blk id n R.flatten) (blk id n (R.set len ds).flatten) L') (hR : RowL s R) (hlc : len < c) (hcl : R.length = c) (ht : C.tys.get t = some ti) (hd : ti.desc = .slice e) (he : C.tys.get e = some te) (hs : te.size = s) (hs0 : 0 < s) (hb : Nat.ble te.bytes 65536 = true)
    (hm : blk id n2 ds ∈ L) (hdl : ds.length = s) (ho : onesA ds = true)
    (h1 : ∀ h', Hs M h0 h' L' Z → Wo (k (putA env (.slice n 0 (len + 1) false c 0) dst) h') Q) : Wo (afterA k env dst (builtinA C h .append [t, t] [.slice n 0 len false c 0, .slice n2 0 1 r2 c2 z2])) Q := by
  have hds : elemsA h s 1 (.slice n2 0 1 r2 c2 z2) = some ds := by
    show load h n2 0 (1 * s) = _
    rw [Nat.one_mul]
    exact ldn (H.p hm) (by rw [List.drop_zero, ← hdl, List.take_length]) hdl
  have hin : len * s + s ≤ R.length * s := by rw [← Nat.succ_mul]; exact Nat.mul_le_mul_right _ (by omega)
  obtain ⟨h', e1, o1, b1⟩ := store_blk' (H.p hp.mem) (a := len * s) (xs := ds) (by rw [List.map_id]; exact ho) (by rw [hR.len, hdl]; exact hin)
  rw [List.map_id] at e1
  have e2 : builtinA C h .append [t, t] [.slice n 0 len false c 0, .slice n2 0 1 r2 c2 z2] = some (.slice n 0 (len + 1) false c 0, h') := by
    show appendA C h t t (.slice n 0 len false c 0) (.slice n2 0 1 r2 c2 z2) = _
    unfold appendA
    rw [ht]
    simp only [hd, he, lenA, hs, hb, hds, Nat.zero_add]
    rw [show Nat.ble 1 1048576 = true from rfl, show Nat.blt 0 s = true from by simpa using hs0, Nat.ble_eq_true_of_le (show len + 1 ≤ c by omega), e1]
    rfl
  rw [e2]
  refine h1 h' (H.upd hp (o1.fr (P := fun m => m ∈ (blk id n R.flatten).foot) (List.mem_singleton.2 rfl)) ?_ (fun m hm => .inl hm))
  rw [← flat_set hR hdl (by omega)] at b1
  exact b1
/-- append of a whole slice of rows -/
theorem wo_rappz {u x : AV} {R R2 : List (List AV)} {F : As → List As} (H : Hs M h0 h L Z) (hp : PickF L (owr e s u R) F) (hg : R = []) (ht : C.tys.get t = some ti) (hd : ti.desc = .slice e) (he : C.tys.get e = some te) (hs : te.size = s) (hs0 : 0 < s) (hb : Nat.ble te.bytes 65536 = true)
    (p2 : OwR e s h x R2) (ho : onesA R2.flatten = true) (hl : R2.length ≤ 90000)
    (h1 : ∀ u' h', Hs M h0 h' (F (owr e s u' R2)) Z → Wo (k (putA env u' dst) h') Q) : Wo (afterA k env dst (builtinA C h .append [t, t] [u, x])) Q := by
  subst hg
  have p : OwR e s h u [] := H.p (hp.pick (blk id 0 [])).mem
  have hlen : lenA x = some R2.length := by rcases p2.is with ⟨rfl, rfl⟩ | ⟨nm, r, c, rfl⟩ <;> rfl
  have hds : elemsA h s R2.length x = some R2.flatten := by
    rcases Nat.eq_zero_or_pos R2.length with h0 | h0
    · have hx : R2 = [] := List.eq_nil_of_length_eq_zero h0
      subst hx
      rcases p2.is with ⟨rfl, _⟩ | ⟨nm, r, c, rfl⟩ <;> rfl
    · obtain ⟨nm, r, c, rfl, hb2⟩ := p2.blk h0
      show cond (Nat.beq R2.length 0) (some []) (load h nm 0 (R2.length * s)) = _
      rw [show Nat.beq R2.length 0 = false from by cases hq : R2.length with | zero => omega | succ n => rfl]
      exact ldn hb2 (by rw [List.drop_zero, ← p2.1.len, List.take_length]) p2.1.len
  have g : Gr e s h u [] 0 := by
    obtain ⟨_, q2 | ⟨nm, rfl, q3⟩⟩ := p
    · exact q2
    · obtain ⟨b, hb1, _⟩ := q3.blk
      exact ⟨by simp, .inl ⟨rfl, .inr ⟨nm, b, rfl, q3.lt, hb1⟩⟩⟩
  obtain ⟨v', h', e1, g1, f1, n1⟩ := app_gr ht hd he hs hs0 hb g hlen hds p2.1.len ho (by omega)
  rw [e1]
  rw [List.nil_append, Nat.zero_add] at g1
  refine h1 v' h' (H.upd (hp.pick _) (a' := owr e s v' R2) ⟨f1.c, f1.ro, fun m h2 h3 => f1.m m h2 (fun h4 => h3 (nmO_mem.2 h4))⟩ ⟨p2.1, .inl g1⟩ (fun m hm => ?_))
  have hm := nmO_mem.1 hm
  rcases n1 with h2 | h2
  · exact .inl (nmO_mem.2 (h2 ▸ hm))
  · rw [h2] at hm
    cases hm
    exact .inr (Nat.le_refl _)
theorem natI5 {a m : Nat} (h : a ≤ m) : natOf? (I (a : Int)) m = some a := natOf_I (n := a) h
/-- the whole slice, without spare capacity -/
theorem rclip {v : AV} {R : List (List AV)} (p : OwR e s h v R) (ht : C.tys.get t = some ti) (hd : ti.desc = .slice e) (he : C.tys.get e = some te) (hl : R.length ≤ 90000) :
    ∃ v', sliceA C h t v none (some (I (R.length : Int))) (some (I (R.length : Int))) = some (v', h) ∧ OwR e s h v' R ∧ nmO v' = nmO v ∧ capOf v' = some R.length := by
  obtain ⟨q1, q2 | ⟨nm, rfl, q3⟩⟩ := p
  · obtain ⟨hl1, ⟨h5, h6⟩ | ⟨nm, b, h5, h6, h7, h8, h8a, h8b, h8c, h9⟩⟩ := q2
    · have hx : R = [] := List.eq_nil_of_length_eq_zero h5
      subst hx
      rcases h6 with rfl | ⟨nm, b, rfl, h7, h8⟩
      · exact ⟨nilS, by unfold sliceA; rw [ht]; simp only [hd, he]; rfl, OwR.nil e s h, rfl, rfl⟩
      · refine ⟨.slice nm 0 0 false 0 0, ?_, ⟨q1, .inl ⟨by simp, .inl ⟨rfl, .inr ⟨nm, b, rfl, h7, h8⟩⟩⟩⟩, rfl, rfl⟩
        unfold sliceA
        rw [ht]
        simp only [hd, he]
        rfl
    · subst h6
      refine ⟨.slice nm 0 R.length false R.length 0, ?_, ⟨q1, .inr ⟨nm, rfl, h7, b, h8, h9⟩⟩, rfl, rfl⟩
      unfold sliceA
      rw [ht]
      simp only [hd, he]
      unfold boundsA
      simp only [natI5 (Nat.le_refl R.length)]
      simp
  · refine ⟨.slice nm 0 R.length false R.length 0, ?_, ⟨q1, .inr ⟨nm, rfl, q3⟩⟩, rfl, rfl⟩
    unfold sliceA
    rw [ht]
    simp only [hd, he]
    unfold boundsA
    simp only [natI5 (Nat.le_refl R.length)]
    simp
theorem Hs.emp {n : Nat} {cs : List AV} (H : Hs M h0 h (blk id n cs :: L) Z) (e s : Nat) : Hs M h0 h (owr e s (.slice n 0 0 false 0 0) [] :: L) Z := by
  have b : Blks id h n cs := H.p (.head _)
  refine H.upd (a := blk id n cs) (a' := owr e s (.slice n 0 0 false 0 0) []) (.here _ _ _) (Fr.refl _ _) ⟨fun r hr => (by cases hr), .inr ⟨n, rfl, b.lt, ?_⟩⟩ (fun m hm => .inl hm)
  obtain ⟨c, h1, _⟩ := b.blk
  exact ⟨c, h1, fun k x hx => by cases hx⟩
end
end Go.Proofs.Abs
