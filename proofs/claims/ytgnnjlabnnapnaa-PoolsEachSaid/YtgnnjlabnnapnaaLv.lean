import Derived.Test.YtgnnjlabnnapnaaLp
import Derived.KernelRfl
namespace Go.Proofs.Ytgnnjlabnnapnaa
open Go Go.Proofs Go.RowKit Go.Proofs.Abs
set_option linter.unusedSimpArgs false
set_option linter.unusedVariables false
def isLives (f : FuncId) : Bool := Nat.beq f 20
noncomputable def all8 : CallF := plus isLives (runA ctx 5000 8)
theorem w20 (h : Hp) : Wv (all8 20 [] h) (fun r h' => r = Bo true ∧ h' = h) := ⟨_, _, plus_lit rfl, rfl, rfl⟩
theorem all8_of {f : Nat} {args : List AV} {h : Hp} {Q : AV → Hp → Prop} (hf : isLives f = false) (h1 : Wv (runA ctx 5000 8 f args h) Q) : Wv (all8 f args h) Q := by
  unfold all8; rw [plus_not hf]; exact h1
theorem rp1_rp {b h' : Hp} {r : AV} {bs : List Int} {xss : List (List Int)} (p : RP1 b h' r bs xss) : RP b h' r bs xss := by
  obtain ⟨vB, p, ws, rfl, h1, h2, h3, h4, h5⟩ := p
  refine ⟨vB, _, ws, rfl, ⟨h3, Lc.blk h1 rfl, h4⟩, fun n hn => ?_⟩
  rcases List.mem_append.1 hn with h6 | h6
  · exact (h5 n (List.mem_append_left _ h6)).1
  · rcases List.mem_append.1 h6 with h6 | h6
    · cases nmO_mem.1 h6; exact h2
    · exact (h5 n (List.mem_append_right _ h6)).1
theorem rpg_rp0 {e : TypeId} {b h' : Hp} {r : AV} {bs : List Int} {xss : List (List Int)} (p : RPg e b h' r bs xss) : RP0 b h' r bs xss := by
  obtain ⟨vB, p, ws, rfl, h1, h2, h3, h4, h5, h6⟩ := p
  refine ⟨vB, _, ws, rfl, ⟨h3, (Lc.blk h1 rfl).weak, h4.lls⟩, fun n hn => ?_⟩
  rcases List.mem_append.1 hn with h7 | h7
  · exact (h5 n (nmO_mem.1 h7)).1
  · rcases List.mem_append.1 h7 with h7 | h7
    · cases nmO_mem.1 h7; exact h2
    · exact (h6 n h7).1
theorem okV_set {bs : List Int} {xss : List (List Int)} {i : Nat} {ys : List Int} {bd : Int} (h : okV bs xss) (hb : bs[i]? = some bd) (hl : (ys.length : Int) ≤ bd) : okV bs (xss.set i ys) := by
  refine ⟨h.1, h.2.1, by rw [List.length_set]; exact h.2.2.1, fun j b xs h1 h2 => ?_⟩
  rw [List.getElem?_set] at h2
  by_cases e : i = j
  · subst e
    rw [if_pos rfl] at h2
    split at h2
    · cases h2
      rw [hb] at h1
      cases h1
      rename_i hlt
      obtain ⟨zs, hz⟩ := at_some hlt
      have := h.2.2.2 i _ zs hb hz
      unfold okp at this ⊢
      omega
    · cases h2
  · rw [if_neg e] at h2
    exact h.2.2.2 j b xs h1 h2
theorem okV_map {bs : List Int} {xss : List (List Int)} (q : Nat) (h : okV bs xss) : okV bs (xss.map (trF q)) := by
  refine ⟨h.1, h.2.1, by rw [List.length_map]; exact h.2.2.1, fun j b xs h1 h2 => ?_⟩
  rw [List.getElem?_map, Option.map_eq_some_iff] at h2
  obtain ⟨zs, hz, rfl⟩ := h2
  have := h.2.2.2 j b zs h1 hz
  unfold okp trF at *
  rw [List.length_drop]
  omega
theorem len3 {bs : List Int} {xss : List (List Int)} (h : okV bs xss) (h3 : ∀ x ∈ bs, x ≤ 3) : ∀ xs ∈ xss, xs.length ≤ 3 := by
  intro xs hx
  obtain ⟨i, hi⟩ := List.getElem?_of_mem hx
  have hlt := (List.getElem?_eq_some_iff.1 hi).1
  obtain ⟨b, hb⟩ := at_some (show i < bs.length by have := h.2.2.1; omega)
  have h1 := h.2.2.2 i b xs hb hi
  have h2 := h3 b (List.mem_of_getElem? hb)
  unfold okp at h1
  omega
theorem flat3 {bs : List Int} {xss : List (List Int)} (h : okV bs xss) (h3 : ∀ x ∈ bs, x ≤ 3) : xss.flatten.length ≤ 90000 := by
  have h1 := flat_len (len3 h h3) xss.length (Nat.le_refl _)
  rw [List.take_length] at h1
  have := h.2.1
  have := h.2.2.1
  have h4 : xss.length * 3 ≤ 24 := by omega
  omega
theorem flat24 {bs : List Int} {xss : List (List Int)} (h : okV bs xss) (h3 : ∀ x ∈ bs, x ≤ 3) : xss.flatten.length ≤ 24 := by
  have h1 := flat_len (len3 h h3) xss.length (Nat.le_refl _)
  rw [List.take_length] at h1
  have := h.2.1
  have := h.2.2.1
  omega
theorem bnd3 {l : List Int} (hl : ∀ x ∈ l, Inb x) : ∀ x ∈ bnd l, 0 ≤ x ∧ x ≤ 3 := by
  intro x hx
  unfold bnd at hx
  rcases List.mem_cons.1 hx with rfl | hx
  · omega
  · obtain ⟨y, hy, rfl⟩ := List.mem_map.1 hx
    have := tm_lt (hl y (List.mem_of_mem_take hy)).1 (show (0 : Int) < 4 by omega)
    omega
theorem okV_new {l : List Int} (hl : ∀ x ∈ l, Inb x) : okV (bnd l) (List.replicate (bnd l).length []) := by
  have hb := bnd_len l
  refine ⟨by omega, by omega, by rw [List.length_replicate], fun i b xs h1 h2 => ?_⟩
  have e2 := List.eq_of_mem_replicate (List.mem_of_getElem? h2)
  have h3 := bnd3 hl b (List.mem_of_getElem? h1)
  subst e2
  unfold okp
  simp
  omega
theorem j7 (b : Hp) (v : AV) (bs : List Int) (c : Bool) (hB : Lc c b v (bs.map I)) (hn : bs.length ≤ 4000) (hV : okV bs (List.replicate bs.length []))  : Wv (all8 7 [v] b) (fun r h' => ∃ uB uR us2, r = .tup [.agg [uB, uR], I 0] ∧ PLs true h' uB uR us2 bs (List.replicate bs.length []) ∧ (∀ n, n ∈ (pls true uB uR us2 bs (List.replicate bs.length [])).foot → b.c ≤ n) ∧ Ext b h') :=
  (all8_of rfl (k7 5 b v bs c hB hn hV)).mono (fun r h' ⟨r', e, p, x⟩ => by obtain ⟨uB, uR, us2, rfl, q1, q2⟩ := rp1_rp p; exact ⟨uB, uR, us2, e, q1, q2, x⟩)
theorem j12a (b : Hp) (vB vR : AV) (ws : List AV) (bs : List Int) (xss : List (List Int)) (c : Bool) (i : Nat) (xs : List Int) (bd x : Int) (hP : PLs c b vB vR ws bs xss) (hV : okV bs xss) (hi : xss[i]? = some xs) (hb : bs[i]? = some bd) (he : (xs.length : Int) = bd) : Wv (all8 12 [.agg [vB, vR], I (i : Int), I x] b) (fun r h' => ∃ uB uR us2, r = .tup [.agg [uB, uR], Bo true, I 0] ∧ PLs true h' uB uR us2 bs xss ∧ (∀ n, n ∈ (pls true uB uR us2 bs xss).foot → b.c ≤ n) ∧ Ext b h') :=
  (all8_of rfl (k12a 5 b vB vR ws bs xss c i xs bd x hP hV hi hb he)).mono (fun r h' ⟨r', e, p, x⟩ => by obtain ⟨uB, uR, us2, rfl, q1, q2⟩ := rp1_rp p; exact ⟨uB, uR, us2, e, q1, q2, x⟩)
theorem j12b (b : Hp) (vB vR : AV) (ws : List AV) (bs : List Int) (xss : List (List Int)) (c : Bool) (i : Nat) (xs : List Int) (bd x : Int) (hP : PLs c b vB vR ws bs xss) (hV : okV bs xss) (hi : xss[i]? = some xs) (hb : bs[i]? = some bd) (he : (xs.length : Int) ≠ bd) : Wv (all8 12 [.agg [vB, vR], I (i : Int), I x] b) (fun r h' => ∃ uB uR us2, r = .tup [.agg [uB, uR], Bo false, I 0] ∧ PLs true h' uB uR us2 bs (xss.set i (xs ++ [x])) ∧ (∀ n, n ∈ (pls true uB uR us2 bs (xss.set i (xs ++ [x]))).foot → b.c ≤ n) ∧ Ext b h') :=
  (all8_of rfl (k12b 5 b vB vR ws bs xss c i xs bd x hP hV hi hb he)).mono (fun r h' ⟨r', e, p, x⟩ => by obtain ⟨uB, uR, us2, rfl, q1, q2⟩ := rp1_rp p; exact ⟨uB, uR, us2, e, q1, q2, x⟩)
theorem j13a (b : Hp) (vB vR : AV) (ws : List AV) (bs : List Int) (xss : List (List Int)) (c : Bool) (i : Nat) (xs : List Int) (hP : PLs c b vB vR ws bs xss) (hV : okV bs xss) (hi : xss[i]? = some xs) (he : xs = []) : Wv (all8 13 [.agg [vB, vR], I (i : Int)] b) (fun r h' => ∃ uB uR us2, r = .tup [.agg [uB, uR], I 0, Bo false, I 0] ∧ PLs true h' uB uR us2 bs xss ∧ (∀ n, n ∈ (pls true uB uR us2 bs xss).foot → b.c ≤ n) ∧ Ext b h') :=
  (all8_of rfl (k13a 5 b vB vR ws bs xss c i xs hP hV hi he)).mono (fun r h' ⟨r', e, p, x⟩ => by obtain ⟨uB, uR, us2, rfl, q1, q2⟩ := rp1_rp p; exact ⟨uB, uR, us2, e, q1, q2, x⟩)
theorem j13b (b : Hp) (vB vR : AV) (ws : List AV) (bs : List Int) (xss : List (List Int)) (c : Bool) (i : Nat) (xs ys : List Int) (x : Int) (hP : PLs c b vB vR ws bs xss) (hV : okV bs xss) (hi : xss[i]? = some xs) (he : xs = ys ++ [x]) : Wv (all8 13 [.agg [vB, vR], I (i : Int)] b) (fun r h' => ∃ uB uR us2, r = .tup [.agg [uB, uR], I x, Bo true, I 0] ∧ PLs true h' uB uR us2 bs (xss.set i ys) ∧ (∀ n, n ∈ (pls true uB uR us2 bs (xss.set i ys)).foot → b.c ≤ n) ∧ Ext b h') :=
  (all8_of rfl (k13b 5 b vB vR ws bs xss c i xs hP hV hi ys x he)).mono (fun r h' ⟨r', e, p, x⟩ => by obtain ⟨uB, uR, us2, rfl, q1, q2⟩ := rp1_rp p; exact ⟨uB, uR, us2, e, q1, q2, x⟩)
theorem j14 (b : Hp) (vB vR : AV) (ws : List AV) (bs : List Int) (xss : List (List Int)) (c : Bool) (q0 : Nat) (hP : PLs c b vB vR ws bs xss) (hV : okV bs xss) (hn : (q0 : Int) ≤ 9223372036854775807) (hT : xss.flatten.length ≤ 90000) : Wv (all8 14 [.agg [vB, vR], I (q0 : Int)] b) (fun r h' => ∃ uB uR us2 w9, r = .tup [.agg [uB, uR], w9, I 0] ∧ PLs true h' uB uR us2 bs (xss.map (trF q0)) ∧ (∀ n, n ∈ (pls true uB uR us2 bs (xss.map (trF q0))).foot → b.c ≤ n) ∧ Lc true h' w9 ((trA q0 xss xss.length).map I) ∧ Ext b h' ∧ ∀ m, nmO w9 = some m → b.c ≤ m) :=
  (all8_of rfl (k14 5 b vB vR ws bs xss c q0 hP hV hn hT)).mono (fun r h' ⟨r', w9, e, p, q, x, y⟩ => by obtain ⟨uB, uR, us2, rfl, q1, q2⟩ := rp1_rp p; exact ⟨uB, uR, us2, w9, e, q1, q2, q, x, y⟩)
theorem j17 (b : Hp) (vB vR : AV) (ws : List AV) (bs : List Int) (xss : List (List Int)) (c : Bool) (i : Nat) (xs : List Int) (hP : PLs c b vB vR ws bs xss) (hV : okV bs xss) (hi : xss[i]? = some xs) : Wv (all8 17 [.agg [vB, vR], I (i : Int)] b) (fun r h' => r = .tup [I (xs.length : Int), I 0] ∧ Ext b h') :=
  (all8_of rfl (k17 6 b vB vR ws bs xss c i xs hP hV hi)).mono (fun r h' p => p)
theorem j18 (b : Hp) (vB vR : AV) (ws : List AV) (bs : List Int) (xss : List (List Int)) (c : Bool) (hP : PLs c b vB vR ws bs xss) (hV : okV bs xss) (hT : xss.flatten.length ≤ 90000) : Wv (all8 18 [.agg [vB, vR]] b) (fun r h' => ∃ w, r = .tup [w, I 0] ∧ Lc true h' w (xss.flatten.map I) ∧ Ext b h' ∧ ∀ m, nmO w = some m → b.c ≤ m) :=
  (all8_of rfl (k18 6 b vB vR ws bs xss c hP hV hT)).mono (fun r h' p => p)
theorem j8 (b : Hp) (vb vc : AV) (l : List Int) (hb : IsL b vb (l.map U8)) (hc : oneA vc = true) (hl : ∀ x ∈ l, Inb x) : Wv (all8 8 [.agg [vb, vc]] b) (fun r h' => ∃ w, w = r ∧ Lc false h' w ((bnd l).map I) ∧ Ext b h' ∧ ∀ m, nmO w = some m → b.c ≤ m) :=
  (all8_of rfl (k8 7 b vb vc l hb hc hl)).mono (fun r h' p => p)

end Go.Proofs.Ytgnnjlabnnapnaa
