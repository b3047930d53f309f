import Derived.Test.YtpioenfglmimgaaH1
namespace Go.Proofs.Abs
open Go Go.RowKit
set_option linter.unusedSimpArgs false
set_option linter.unusedVariables false
/-! Lists that stand, with what is known of their capacity. -/
section
variable {C : Ctx} {t e : TypeId} {ti te : TI} {M : List Nat} {h0 h h' : Hp} {L L' Z : List As} {k : OpsK} {dst : Option Tmp} {env : Env} {Q : Env → Hp → Prop}
def capOf : AV → Option Nat
  | .lit (.slice none 0 0) => some 0
  | .slice _ _ _ false c _ => some c
  | _ => none
def wfS : AV → Prop
  | .slice _ _ len false c _ => len ≤ c
  | _ => True
structure Lc (c : Bool) (h : Hp) (w : AV) (ys : List AV) : Prop where
  isL : IsL h w ys
  wf : wfS w
  cap : c = true → capOf w = some ys.length
theorem Lc.fr {c : Bool} {w : AV} {ys : List AV} {R : Nat → Prop} (r : Lc c h w ys) (a : Fr R h h') (hn : ∀ n, nmO w = some n → ¬ R n) : Lc c h' w ys := ⟨r.isL.fr a hn, r.wf, r.cap⟩
theorem Lc.ext {c : Bool} {w : AV} {ys : List AV} (r : Lc c h w ys) (a : Ext h h') : Lc c h' w ys := r.fr (a.fr (fun _ => False)) (fun _ _ => id)
theorem Lc.weak {c : Bool} {w : AV} {ys : List AV} (r : Lc c h w ys) : Lc false h w ys := ⟨r.isL, r.wf, fun h => by cases h⟩
theorem Lc.nil (c : Bool) (h : Hp) : Lc c h nilS [] := ⟨.inl ⟨rfl, rfl⟩, trivial, fun _ => rfl⟩
theorem Lc.one {c : Bool} {w : AV} {ys : List AV} (r : Lc c h w ys) : oneA w = true := r.isL.one
theorem Lc.cells {c : Bool} {w : AV} {ys : List AV} (r : Lc c h w ys) : cellsOf w = [w] := r.isL.cells
theorem Lc.blk {n m : Nat} {cs : List AV} (b : Blks id h n cs) (hl : cs.length = m) : Lc true h (.slice n 0 m false m 0) cs := by
  subst hl
  exact ⟨b.isl, Nat.le_refl _, fun _ => rfl⟩
def lc (c : Bool) (w : AV) (ys : List AV) : As :=
  ⟨(nmO w).toList, fun h => Lc c h w ys, fun h h' R p a hn => p.fr a (fun n hv => hn n (nmO_mem.2 hv)), fun h p n hn => p.isL.lt (nmO_mem.1 hn)⟩
theorem wo_cap {w : AV} {ys : List AV} (H : Hs M h0 h L Z) (hm : lc true w ys ∈ Z) (ht : C.tys.get t = some ti) (hd : ti.desc = .slice e) (h1 : Wo (k (putA env (I ys.length) dst) h) Q) : Wo (afterA k env dst (builtinA C h .cap [t] [w])) Q := by
  have r := H.pz hm
  have hc := r.cap rfl
  have e1 : builtinA C h .cap [t] [w] = some (I ys.length, h) := by
    rcases r.isL with ⟨rfl, rfl⟩ | ⟨nm, off, rest, cap, z, rfl, _, _⟩
    · simp [builtinA, ht, hd]
    · cases rest with
      | true => cases hc
      | false =>
        cases hc
        simp [builtinA, ht, hd]
  rw [e1]
  exact h1
theorem natI {a m : Nat} (h : a ≤ m) : natOf? (I (a : Int)) m = some a := natOf_I (n := a) h
/-- a part of a list -/
theorem sl_any {c : Bool} {w : AV} {ys : List AV} (ht : C.tys.get t = some ti) (hd : ti.desc = .slice e) (he : C.tys.get e = some te) (hs : te.size = 1) (r : Lc c h w ys) (lo hi : Option Nat) {a b : Nat} (ha : lo.getD 0 = a) (hb : hi.getD ys.length = b) (hab : a ≤ b) (hl : b ≤ ys.length) :
    ∃ w', (∀ h', sliceA C h' t w (lo.map fun (x : Nat) => I (x : Int)) (hi.map fun (x : Nat) => I (x : Int)) none = some (w', h')) ∧ Lc false h w' ((ys.drop a).take (b - a)) ∧ (nmO w' = nmO w) := by
  obtain ⟨hL, hwf, _⟩ := r
  rcases hL with ⟨rfl, rfl⟩ | ⟨nm, off, rest, cap, z, rfl, h2, h3⟩
  · have hb0 : b = 0 := by simpa using hl
    subst hb0
    have ha0 : a = 0 := by omega
    subst ha0
    refine ⟨nilS, fun h' => ?_, by simpa using Lc.nil false h, rfl⟩
    unfold sliceA
    rw [ht]
    simp only [hd, he]
    cases lo with
    | none => cases hi with
      | none => rfl
      | some y => cases hb; rfl
    | some x =>
      cases ha
      cases hi with
      | none => rfl
      | some y => cases hb; rfl
  · have hle : ((ys.drop a).take (b - a)).length = b - a := by rw [List.length_take, List.length_drop]; omega
    have hrd : ∀ o, (b - a = 0 ∨ o = off + a) → ∀ j x, ((ys.drop a).take (b - a))[j]? = some x → load h nm (o + j) 1 = some [x] := by
      intro o ho j x hj
      rw [List.getElem?_take] at hj
      split at hj
      · rename_i hj2
        rw [List.getElem?_drop] at hj
        rcases ho with ho | ho
        · omega
        · have := h3 (a + j) x hj
          rw [ho, Nat.add_assoc]
          exact this
      · cases hj
    cases rest with
    | false =>
      have hlc : ys.length ≤ cap := hwf
      have hbd : boundsA ys.length cap (lo.map fun (x : Nat) => I (x : Int)) (hi.map fun (x : Nat) => I (x : Int)) none = some (a, b, cap) := by
        cases hi with
        | none =>
          cases hb
          cases lo with
          | none => cases ha; rfl
          | some x => cases ha; simp only [boundsA, Option.map_some, Option.map_none, natI (show x ≤ ys.length from hab)]; rfl
        | some y =>
          cases hb
          cases lo with
          | none => cases ha; simp only [boundsA, Option.map_some, Option.map_none, natI (show y ≤ cap from Nat.le_trans hl hlc)]; rfl
          | some x => cases ha; simp only [boundsA, Option.map_some, natI (show y ≤ cap from Nat.le_trans hl hlc), natI (show x ≤ y from hab)]; rfl
      refine ⟨.slice nm (cond (Nat.beq cap a) off (off + a * te.size)) (b - a) false (cap - a) 0, fun h' => ?_, ⟨.inr ⟨nm, cond (Nat.beq cap a) off (off + a * te.size), false, cap - a, 0, by rw [hle], h2, hrd _ ?_⟩, ?_, fun h => by cases h⟩, rfl⟩
      · unfold sliceA
        rw [ht]
        simp only [hd, he, hbd]
      · rw [hs, Nat.mul_one]
        by_cases e1 : cap = a
        · left; omega
        · right; rw [beq_cond, if_neg e1]
      · show b - a ≤ cap - a
        omega
    | true =>
      have hbd : boundsA ys.length ys.length (lo.map fun (x : Nat) => I (x : Int)) (hi.map fun (x : Nat) => I (x : Int)) none = some (a, b, ys.length) := by
        cases hi with
        | none =>
          cases hb
          cases lo with
          | none => cases ha; rfl
          | some x => cases ha; simp only [boundsA, Option.map_some, Option.map_none, natI (show x ≤ ys.length from hab)]; rfl
        | some y =>
          cases hb
          cases lo with
          | none => cases ha; simp only [boundsA, Option.map_some, Option.map_none, natI (show y ≤ ys.length from hl)]; rfl
          | some x => cases ha; simp only [boundsA, Option.map_some, natI (show y ≤ ys.length from hl), natI (show x ≤ y from hab)]; rfl
      refine ⟨.slice nm (off + a * te.size) (b - a) true (cap + a) (cond (Nat.beq a 0) z off), fun h' => ?_, ⟨.inr ⟨nm, off + a * te.size, true, cap + a, cond (Nat.beq a 0) z off, by rw [hle], h2, hrd _ ?_⟩, trivial, fun h => by cases h⟩, rfl⟩
      · unfold sliceA
        rw [ht]
        simp only [hd, he, hbd]
      · rw [hs, Nat.mul_one]
        right
        rfl
theorem Hs.zlc (H : Hs M h0 h L Z) {c c' : Bool} {w w' : AV} {ys ys' : List AV} (hm : lc c w ys ∈ Z) (r : Lc c' h w' ys') (hn : nmO w' = nmO w) : Hs M h0 h L (isl w' ys' :: lc c' w' ys' :: Z) := by
  have hf : ∀ n, n ∈ (nmO w').toList → n ∈ (lc c w ys).foot := fun n h1 => by rw [hn] at h1; exact h1
  have H1 := H.zsub (z' := lc c' w' ys') hm r hf
  exact H1.zsub (z' := isl w' ys') (.tail _ hm) r.isL hf
theorem wo_sl {c : Bool} {w : AV} {ys : List AV} (H : Hs M h0 h L Z) (hm : lc c w ys ∈ Z) (ht : C.tys.get t = some ti) (hd : ti.desc = .slice e) (he : C.tys.get e = some te) (hs : te.size = 1) {i j : Int} {a b : Nat} (hi : i = (a : Int)) (hj : j = (b : Int)) (hab : a ≤ b) (hl : b ≤ ys.length)
    (h1 : ∀ w', Lc false h w' ((ys.drop a).take (b - a)) → nmO w' = nmO w → Hs M h0 h L (isl w' ((ys.drop a).take (b - a)) :: lc false w' ((ys.drop a).take (b - a)) :: Z) → Wo (k (putA env w' dst) h) Q) :
    Wo (afterA k env dst (sliceA C h t w (some (I i)) (some (I j)) none)) Q := by
  subst hi hj
  obtain ⟨w', e1, r, hn⟩ := sl_any ht hd he hs (H.pz hm) (some a) (some b) rfl rfl hab hl
  have e2 := e1 h
  simp only [Option.map_some] at e2
  rw [e2]
  exact h1 w' r hn (H.zlc hm r hn)
theorem wo_slb {c : Bool} {w : AV} {ys : List AV} (H : Hs M h0 h L Z) (hm : lc c w ys ∈ Z) (ht : C.tys.get t = some ti) (hd : ti.desc = .slice e) (he : C.tys.get e = some te) (hs : te.size = 1) {j : Int} {b : Nat} (hj : j = (b : Int)) (hl : b ≤ ys.length)
    (h1 : ∀ w', Lc false h w' (ys.take b) → nmO w' = nmO w → Hs M h0 h L (isl w' (ys.take b) :: lc false w' (ys.take b) :: Z) → Wo (k (putA env w' dst) h) Q) :
    Wo (afterA k env dst (sliceA C h t w none (some (I j)) none)) Q := by
  subst hj
  obtain ⟨w', e1, r, hn⟩ := sl_any ht hd he hs (H.pz hm) none (some b) rfl rfl (Nat.zero_le _) hl
  have e2 := e1 h
  simp only [Option.map_some, Option.map_none] at e2
  rw [e2]
  have r' : Lc false h w' (ys.take b) := r
  exact h1 w' r' hn (H.zlc hm r' hn)
theorem wo_sla {c : Bool} {w : AV} {ys : List AV} (H : Hs M h0 h L Z) (hm : lc c w ys ∈ Z) (ht : C.tys.get t = some ti) (hd : ti.desc = .slice e) (he : C.tys.get e = some te) (hs : te.size = 1) {i : Int} {a : Nat} (hi : i = (a : Int)) (hl : a ≤ ys.length)
    (h1 : ∀ w', Lc false h w' (ys.drop a) → nmO w' = nmO w → Hs M h0 h L (isl w' (ys.drop a) :: lc false w' (ys.drop a) :: Z) → Wo (k (putA env w' dst) h) Q) :
    Wo (afterA k env dst (sliceA C h t w (some (I i)) none none)) Q := by
  subst hi
  obtain ⟨w', e1, r, hn⟩ := sl_any ht hd he hs (H.pz hm) (some a) none rfl rfl hl (Nat.le_refl _)
  have e2 := e1 h
  simp only [Option.map_some, Option.map_none] at e2
  rw [e2]
  have r' : Lc false h w' (ys.drop a) := by
    have e9 : (ys.drop a).take (ys.length - a) = ys.drop a := by rw [List.take_of_length_le]; rw [List.length_drop]; exact Nat.le_refl _
    have r2 : Lc false h w' ((ys.drop a).take (ys.length - a)) := r
    rwa [e9] at r2
  exact h1 w' r' hn (H.zlc hm r' hn)
/-- copy into a block of one's own -/
theorem wo_copy {n len cap : Nat} {t2 : TypeId} {x : AV} {ys N : List AV} (H : Hs M h0 h L Z) (hp : Pick L (blk id n N) (blk id n (ys ++ N.drop ys.length)) L') (hz : isl x ys ∈ Z) (ht : C.tys.get t = some ti) (hd : ti.desc = .slice e) (he : C.tys.get e = some te) (hs : te.size = 1)
    (hN : N.length = len) (hl : ys.length ≤ len) (ho : onesA ys = true) (h1 : ∀ h', Hs M h0 h' L' Z → Wo (k (putA env (I ys.length) dst) h') Q) : Wo (afterA k env dst (builtinA C h .copy [t, t2] [.slice n 0 len false cap 0, x])) Q := by
  have hx := H.pz hz
  have hk := hx.lenA
  have hm : Nat.min ys.length len = ys.length := Nat.min_eq_left hl
  have hel : elemsA h 1 ys.length x = some ys := by
    have := hx.elems (Nat.le_refl ys.length)
    rwa [List.take_length] at this
  obtain ⟨h', e1, o1, b1⟩ := store_blk' (H.p hp.mem) (a := 0) (xs := ys) (by rw [List.map_id]; exact ho) (by omega)
  rw [List.map_id] at e1
  have hpa : patch N 0 ys = ys ++ N.drop ys.length := by unfold patch; rw [List.take_zero, List.nil_append, Nat.zero_add]
  rw [hpa] at b1
  by_cases h9 : ys.length = 0
  · have e2 : builtinA C h .copy [t, t2] [.slice n 0 len false cap 0, x] = some (I ys.length, h) := by
      show copyA C h t (.slice n 0 len false cap 0) x = _
      unfold copyA
      rw [ht]
      simp only [hd, he, hk, hs, hm, hel]
      rw [h9]
      rfl
    rw [e2]
    refine h1 h ?_
    have hy : ys = [] := List.length_eq_zero_iff.1 h9
    subst hy
    exact H.upd hp (Fr.refl _ _) (H.p hp.mem) (fun m hm => .inl hm)
  · have e2 : builtinA C h .copy [t, t2] [.slice n 0 len false cap 0, x] = some (I ys.length, h') := by
      show copyA C h t (.slice n 0 len false cap 0) x = _
      unfold copyA
      rw [ht]
      simp only [hd, he, hk, hs, hm, hel, e1, beq_zero h9]
      rfl
    rw [e2]
    exact h1 h' (H.upd hp (o1.fr (P := fun m => m ∈ (blk id n N).foot) (List.mem_singleton.2 rfl)) b1 (fun m hm => .inl hm))
/-- append of what stands to what was put together -/
theorem wo_appz {len : Nat} {u x : AV} {cs ds : List AV} {F : As → List As} (H : Hs M h0 h L Z) (hp : PickF L (gr e 1 u cs len) F) (ht : C.tys.get t = some ti) (hd : ti.desc = .slice e) (he : C.tys.get e = some te) (hs : te.size = 1) (hb : Nat.ble te.bytes 65536 = true)
    (hm : isl x ds ∈ Z) (ho : onesA ds = true) (hl : len + ds.length ≤ 100000)
    (h1 : ∀ u' h', Hs M h0 h' (F (gr e 1 u' (cs ++ ds) (len + ds.length))) Z → Wo (k (putA env u' dst) h') Q) : Wo (afterA k env dst (builtinA C h .append [t, t] [u, x])) Q := by
  have hx := H.pz hm
  have hel : elemsA h 1 ds.length x = some ds := by
    have := hx.elems (Nat.le_refl ds.length)
    rwa [List.take_length] at this
  obtain ⟨v', h', e1, g1, f1, n1⟩ := app_gr ht hd he hs (by omega) hb (H.p (hp.pick (blk id 0 [])).mem) hx.lenA hel (by omega) ho hl
  rw [e1]
  refine h1 v' h' (H.upd (hp.pick _) (a' := gr e 1 v' (cs ++ ds) (len + ds.length)) ⟨f1.c, f1.ro, fun m h2 h3 => f1.m m h2 (fun h4 => h3 (nmO_mem.2 h4))⟩ g1 (fun m hm => ?_))
  have hm := nmO_mem.1 hm
  rcases n1 with h2 | h2
  · exact .inl (nmO_mem.2 (h2 ▸ hm))
  · rw [h2] at hm
    cases hm
    exact .inr (Nat.le_refl _)
theorem ones_I : ∀ l : List Int, onesA (l.map I) = true := ones_map I (fun _ => rfl)
/-- lists that stand -/
def LLs (c : Bool) (h : Hp) (ws : List AV) (xss : List (List Int)) : Prop := ws.length = xss.length ∧ ∀ (i : Nat) (w : AV) (xs : List Int), ws[i]? = some w → xss[i]? = some xs → Lc c h w (xs.map I)
theorem LLs.fr {c : Bool} {ws : List AV} {xss : List (List Int)} {R : Nat → Prop} (p : LLs c h ws xss) (a : Fr R h h') (hn : ∀ n, n ∈ (ws.flatMap fun w => (nmO w).toList) → ¬ R n) : LLs c h' ws xss :=
  ⟨p.1, fun i w xs h1 h2 => (p.2 i w xs h1 h2).fr a (fun n hv => hn n (List.mem_flatMap.2 ⟨w, List.mem_of_getElem? h1, nmO_mem.2 hv⟩))⟩
theorem LLs.lt {c : Bool} {ws : List AV} {xss : List (List Int)} (p : LLs c h ws xss) {n : Nat} (hn : n ∈ (ws.flatMap fun w => (nmO w).toList)) : n < h.c := by
  obtain ⟨w, h1, h2⟩ := List.mem_flatMap.1 hn
  obtain ⟨i, hi⟩ := List.getElem?_of_mem h1
  have hlt : i < xss.length := by rw [← p.1]; exact (List.getElem?_eq_some_iff.1 hi).1
  exact (p.2 i w _ hi (List.getElem?_eq_getElem hlt)).isL.lt (nmO_mem.1 h2)
def lls (c : Bool) (ws : List AV) (xss : List (List Int)) : As :=
  ⟨ws.flatMap fun w => (nmO w).toList, fun h => LLs c h ws xss, fun h h' R p a hn => p.fr a hn, fun h p n hn => p.lt hn⟩
theorem LLs.ext {c : Bool} {ws : List AV} {xss : List (List Int)} (p : LLs c h ws xss) (a : Ext h h') : LLs c h' ws xss := p.fr (a.fr (fun _ => False)) (fun _ _ => id)
theorem LLs.weak {c : Bool} {ws : List AV} {xss : List (List Int)} (p : LLs c h ws xss) : LLs false h ws xss := ⟨p.1, fun i w xs h1 h2 => (p.2 i w xs h1 h2).weak⟩
theorem Hs.row (H : Hs M h0 h L Z) {c : Bool} {ws : List AV} {xss : List (List Int)} (hm : lls c ws xss ∈ Z) {i : Nat} {w : AV} {xs : List Int} (hw : ws[i]? = some w) (hx : xss[i]? = some xs) : Hs M h0 h L (isl w (xs.map I) :: lc c w (xs.map I) :: Z) := by
  have r := (H.pz hm).2 i w xs hw hx
  have hf : ∀ n, n ∈ (nmO w).toList → n ∈ (lls c ws xss).foot := fun n h1 => List.mem_flatMap.2 ⟨w, List.mem_of_getElem? hw, h1⟩
  have H1 := H.zsub (z' := lc c w (xs.map I)) hm r hf
  exact H1.zsub (z' := isl w (xs.map I)) (.tail _ hm) r.isL hf
/-- one more list that stands -/
theorem Hs.snoc (H : Hs M h0 h L Z) {c : Bool} {ws : List AV} {xss : List (List Int)} {w : AV} {xs : List Int} (h1 : lls c ws xss ∈ Z) (h2 : lc c w (xs.map I) ∈ Z) : Hs M h0 h L (lls c (ws ++ [w]) (xss ++ [xs]) :: Z) := by
  have p := H.pz h1
  have q := H.pz h2
  refine H.z1 (z := lls c (ws ++ [w]) (xss ++ [xs])) ⟨by simp [p.1], fun i w' xs' hw hx => ?_⟩ (fun n hn a ha => ?_)
  · rw [List.getElem?_append] at hw hx
    rw [← p.1] at hx
    split at hw
    · rename_i hlt
      rw [if_pos hlt] at hx
      exact p.2 i w' xs' hw hx
    · rename_i hlt
      rw [if_neg hlt] at hx
      have h0 : i - ws.length = 0 := by
        have := (List.getElem?_eq_some_iff.1 hw).1
        simp only [List.length_singleton] at this
        omega
      rw [h0] at hw hx
      cases hw
      cases hx
      exact q
  · have hn' : n ∈ (ws ++ [w]).flatMap fun w => (nmO w).toList := hn
    rw [List.flatMap_append, List.mem_append] at hn'
    rcases hn' with h3 | h3
    · exact (H.std _ h1).2 n h3 a ha
    · refine (H.std _ h2).2 n ?_ a ha
      rw [List.flatMap_singleton] at h3
      exact h3
/-- a list that stands takes the place of another one -/
theorem Hs.setz (H : Hs M h0 h L Z) {c : Bool} {ws : List AV} {xss : List (List Int)} {w : AV} {xs : List Int} (k : Nat) (h1 : lls c ws xss ∈ Z) (h2 : lc c w (xs.map I) ∈ Z) : Hs M h0 h L (lls c (ws.set k w) (xss.set k xs) :: Z) := by
  have p := H.pz h1
  have q := H.pz h2
  refine H.z1 (z := lls c (ws.set k w) (xss.set k xs)) ⟨by simp [p.1], fun i w' xs' hw hx => ?_⟩ (fun n hn a ha => ?_)
  · rw [List.getElem?_set] at hw hx
    by_cases e1 : k = i
    · subst e1
      rw [if_pos rfl] at hw hx
      split at hw
      · cases hw
        split at hx
        · cases hx; exact q
        · cases hx
      · cases hw
    · rw [if_neg e1] at hw hx
      exact p.2 i w' xs' hw hx
  · obtain ⟨w', hw, h3⟩ := List.mem_flatMap.1 hn
    rcases List.mem_or_eq_of_mem_set hw with h4 | h4
    · exact (H.std _ h1).2 n (List.mem_flatMap.2 ⟨w', h4, h3⟩) a ha
    · subst h4
      exact (H.std _ h2).2 n h3 a ha
theorem lls_nil (c : Bool) (h : Hp) : (lls c [] []).P h := ⟨rfl, fun i w xs h1 => by simp at h1⟩
end
section
variable {C : Ctx} {M : List Nat} {h0 h h' : Hp} {L L' Z : List As}
theorem isl_av {h : Hp} {w : AV} {ys : List AV} (r : IsL h w ys) : avB 4 w w = true := by
  rcases r with ⟨rfl, _⟩ | ⟨nm, off, rest, cap, z, rfl, _, _⟩
  · rfl
  · show ((nm == nm) && (off == off) && (ys.length == ys.length) && (rest == rest) && (cap == cap) && (z == z)) = true
    simp
/-- two lists of numbers in a struct: one of numbers, one of lists of them -/
structure PLs (c : Bool) (h : Hp) (vB vR : AV) (ws : List AV) (bs : List Int) (xss : List (List Int)) : Prop where
  b : Lc c h vB (bs.map I)
  r : Lc c h vR ws
  w : LLs c h ws xss
def pls (c : Bool) (vB vR : AV) (ws : List AV) (bs : List Int) (xss : List (List Int)) : As :=
  ⟨(nmO vB).toList ++ ((nmO vR).toList ++ ws.flatMap fun w => (nmO w).toList), fun h => PLs c h vB vR ws bs xss,
    fun h h' R p a hn => ⟨p.b.fr a (fun n hv => hn n (List.mem_append_left _ (nmO_mem.2 hv))), p.r.fr a (fun n hv => hn n (List.mem_append_right _ (List.mem_append_left _ (nmO_mem.2 hv)))), p.w.fr a (fun n hv => hn n (List.mem_append_right _ (List.mem_append_right _ hv)))⟩,
    fun h p n hn => by
      rcases List.mem_append.1 hn with h1 | h1
      · exact p.b.isL.lt (nmO_mem.1 h1)
      · rcases List.mem_append.1 h1 with h1 | h1
        · exact p.r.isL.lt (nmO_mem.1 h1)
        · exact p.w.lt h1⟩
theorem PLs.fr {c : Bool} {vB vR : AV} {ws : List AV} {bs : List Int} {xss : List (List Int)} {R : Nat → Prop} (p : PLs c h vB vR ws bs xss) (a : Fr R h h') (hn : ∀ n, n ∈ (pls c vB vR ws bs xss).foot → ¬ R n) : PLs c h' vB vR ws bs xss := (pls c vB vR ws bs xss).st _ _ _ p a hn
theorem PLs.ext {c : Bool} {vB vR : AV} {ws : List AV} {bs : List Int} {xss : List (List Int)} (p : PLs c h vB vR ws bs xss) (a : Ext h h') : PLs c h' vB vR ws bs xss := p.fr (a.fr (fun _ => False)) (fun _ _ => id)
theorem PLs.weak {c : Bool} {vB vR : AV} {ws : List AV} {bs : List Int} {xss : List (List Int)} (p : PLs c h vB vR ws bs xss) : PLs false h vB vR ws bs xss := ⟨p.b.weak, p.r.weak, p.w.weak⟩
theorem Hs.opn (H : Hs M h0 h L Z) {c : Bool} {vB vR : AV} {ws : List AV} {bs : List Int} {xss : List (List Int)} (hm : pls c vB vR ws bs xss ∈ Z) :
    Hs M h0 h L (isl vB (bs.map I) :: lc c vB (bs.map I) :: isl vR ws :: lc c vR ws :: lls c ws xss :: Z) := by
  have p : PLs c h vB vR ws bs xss := H.pz hm
  have H1 := H.zsub (z' := lls c ws xss) hm p.w (fun n h1 => List.mem_append_right _ (List.mem_append_right _ h1))
  have H2 := H1.zsub (z' := lc c vR ws) (.tail _ hm) p.r (fun n h1 => List.mem_append_right _ (List.mem_append_left _ h1))
  have H3 := H2.zsub (z' := isl vR ws) (.tail _ (.tail _ hm)) p.r.isL (fun n h1 => List.mem_append_right _ (List.mem_append_left _ h1))
  have H4 := H3.zsub (z' := lc c vB (bs.map I)) (.tail _ (.tail _ (.tail _ hm))) p.b (fun n h1 => List.mem_append_left _ h1)
  exact H4.zsub (z' := isl vB (bs.map I)) (.tail _ (.tail _ (.tail _ (.tail _ hm)))) p.b.isL (fun n h1 => List.mem_append_left _ h1)
/-- put together again -/
theorem Hs.pck (H : Hs M h0 h L Z) {c : Bool} {vB vR : AV} {ws : List AV} {bs : List Int} {xss : List (List Int)} (h1 : lc c vB (bs.map I) ∈ Z) (h2 : lc c vR ws ∈ Z) (h3 : lls c ws xss ∈ Z) : Hs M h0 h L (pls c vB vR ws bs xss :: Z) := by
  refine H.z1 (z := pls c vB vR ws bs xss) ⟨H.pz h1, H.pz h2, H.pz h3⟩ (fun n hn a ha => ?_)
  rcases List.mem_append.1 hn with h4 | h4
  · exact (H.std _ h1).2 n h4 a ha
  · rcases List.mem_append.1 h4 with h4 | h4
    · exact (H.std _ h2).2 n h4 a ha
    · exact (H.std _ h3).2 n h4 a ha
/-- a contract's answer: a struct of lists of its own -/
def RP (b h' : Hp) (r : AV) (bs : List Int) (xss : List (List Int)) : Prop :=
  ∃ vB vR ws, r = .agg [vB, vR] ∧ PLs true h' vB vR ws bs xss ∧ ∀ n, n ∈ (pls true vB vR ws bs xss).foot → b.c ≤ n
theorem copyz {v : AV} {ys : List AV} {k : Nat} (h : ys.length = k) : ys ++ (List.replicate k v).drop ys.length = ys := by
  rw [h, List.drop_of_length_le (by rw [List.length_replicate]; exact Nat.le_refl _), List.append_nil]
end
/-! Regions in which a read and a change are not ordered, walked by rules. -/
def WT (C : Ctx) (call : CallF) (all l : List Oper) (e : Env) (h : Hp) (P : List (Env × Hp) → Prop) : Prop := ∃ tr, trA C call all l e h = some tr ∧ P tr
theorem wt_nil {C : Ctx} {call : CallF} {all : List Oper} {e : Env} {h : Hp} {P : List (Env × Hp) → Prop} (h1 : P [(e, h)]) : WT C call all [] e h P := ⟨_, rfl, h1⟩
theorem wt_cons {C : Ctx} {call : CallF} {all l : List Oper} {o : Oper} {e : Env} {h : Hp} {P : List (Env × Hp) → Prop} (h1 : Wo (opsA C call all [o] e h) (fun e' h' => WT C call all l e' h' (fun tr => P ((e, h) :: tr)))) : WT C call all (o :: l) e h P := by
  obtain ⟨e', h', r, tr, r2, p⟩ := h1
  refine ⟨(e, h) :: tr, ?_, p⟩
  rw [trA_cons, r]
  show preA e h (trA C call all l e' h') = _
  rw [r2]
  rfl
theorem wc_dynW {C : Ctx} {call : CallF} {N n : Nat} {e : Env} {h : Hp} {id : Nat} {ops : Array Oper} {dr : Bool} {Q : AEx → Env → Hp → Prop} {p : Nat × Nat} {ps : List (Nat × Nat)} (hd : dynOf ops dr = p :: ps)
    (h1 : WT C call ops.toList ops.toList e h (fun tr => checksD C ops.toList tr (p :: ps) = true ∧ ∃ e' h', tr[ops.toList.length]? = some (e', h') ∧ Q .normal e' h')) : Wc (codeA C call N (n + 1) (.region id ops dr) e h) Q := by
  obtain ⟨tr, r, c, e', h', l, q⟩ := h1
  exact wc_dyn hd r c l q
end Go.Proofs.Abs
