import Derived.Test.YtgnnjlabnnapnaaLx
import Derived.KernelRfl
namespace Go.Proofs.Ytgnnjlabnnapnaa
open Go Go.Proofs Go.RowKit Go.Proofs.Abs
set_option linter.unusedSimpArgs false
set_option linter.unusedVariables false
def isLives (f : FuncId) : Bool := Nat.beq f 20
noncomputable def all8 : CallF := plus isLives (runA ctx 5000 8)
theorem w20 (h : Hp) : Wv (all8 20 [] h) (fun r h' => r = Bo true ∧ h' = h) := ⟨_, _, plus_lit rfl, rfl, rfl⟩
theorem all8_of {f : Nat} {args : List AV} {h : Hp} {Q : AV → Hp → Prop} (hf : isLives f = false) (h1 : Wv (runA ctx 5000 8 f args h) Q) : Wv (all8 f args h) Q := by
  unfold all8; rw [plus_not hf]; exact h1
theorem rp1_one {b h' : Hp} {r : AV} {bs : List Int} {xss : List (List Int)} (p : RP1 b h' r bs xss) : ∃ uB uR, r = .agg [uB, uR] ∧ oneA uB = true ∧ oneA uR = true := by
  obtain ⟨vB, p, ws, rfl, h1, h2, h3, h4, h5⟩ := p
  exact ⟨_, _, rfl, h3.one, rfl⟩
def TwoO (r : AV) (f : AV → AV) : Prop := ∃ uB uR, r = f (.agg [uB, uR]) ∧ oneA uB = true ∧ oneA uR = true
theorem okV_rep {bs : List Int} {xss : List (List Int)} (h : okV bs xss) : okV bs (List.replicate bs.length []) := by
  refine ⟨h.1, h.2.1, by rw [List.length_replicate], fun i b xs h1 h2 => ?_⟩
  have h3 := (List.getElem?_eq_some_iff.1 h1).1
  obtain ⟨ys, hy⟩ := at_some (show i < xss.length by have := h.2.2.1; omega)
  have := h.2.2.2 i b ys h1 hy
  have e := List.eq_of_mem_replicate (List.mem_of_getElem? h2)
  subst e
  unfold okp at this ⊢
  simp only [List.length_nil]
  omega
theorem len26z (h : Hp) : builtinA ctx h .len [26] [nilS] = some (I 0, h) := by
  simp only [builtinA, ty26, ti26]
theorem len27z (h : Hp) : builtinA ctx h .len [27] [nilS] = some (I 0, h) := by
  simp only [builtinA, ty27, ti27]
theorem len26z' (h : Hp) : builtinA ctx h .len [26] [AV.lit (.slice none 0 0)] = some (I 0, h) := len26z h
theorem len27z' (h : Hp) : builtinA ctx h .len [27] [AV.lit (.slice none 0 0)] = some (I 0, h) := len27z h
theorem flat20 {xss : List (List Int)} (h1 : xss.length ≤ 10) (h : ∀ xs ∈ xss, xs.length ≤ 20) : xss.flatten.length ≤ 90000 := by
  have := flat_len h xss.length (Nat.le_refl _)
  rw [List.take_length] at this
  have : xss.length * 20 ≤ 10 * 20 := Nat.mul_le_mul_right _ h1
  omega
theorem x21 (b : Hp) (vB vR : AV) (ws : List AV) (bs : List Int) (xss : List (List Int)) (c : Bool) (hP : PLs c b vB vR ws bs xss) (hb4 : bs.length ≤ 4000) (hxl : ∀ xs ∈ xss, xs.length ≤ 90000) : Wv (all8 21 [.agg [vB, vR]] b) (fun r h' => r = I (chk bs xss) ∧ Ext b h') := by
  exact all8_of rfl (k21 7 b vB vR ws bs xss c hP hb4 hxl)
theorem x22 (b : Hp) (vB vR : AV) (ws : List AV) (bs : List Int) (xss : List (List Int)) (c : Bool) (hP : PLs c b vB vR ws bs xss)  : Wv (all8 22 [.agg [vB, vR]] b) (fun r h' => r = I (chk bs xss) ∧ Ext b h') := by
  exact all8_of rfl (k22 7 b vB vR ws bs xss c hP)
theorem x18e (b : Hp) (vB vR : AV) (ws : List AV) (bs : List Int) (xss : List (List Int)) (c : Bool) (hP : PLs c b vB vR ws bs xss) (hV : ¬ okV bs xss) : Wv (all8 18 [.agg [vB, vR]] b) (fun r h' => r = .tup [nilS, I 1] ∧ Ext b h') := by
  exact all8_of rfl (k18e 6 b vB vR ws bs xss c hP hV)
theorem x18 (b : Hp) (vB vR : AV) (ws : List AV) (bs : List Int) (xss : List (List Int)) (c : Bool) (hP : PLs c b vB vR ws bs xss) (hV : okV bs xss) (hT : xss.flatten.length ≤ 90000) : Wv (all8 18 [.agg [vB, vR]] b) (fun r h' => ∃ w, r = .tup [w, I 0] ∧ Ext b h') := by
  exact (all8_of rfl (k18 6 b vB vR ws bs xss c hP hV hT)).mono (fun r h' ⟨w, e, _, x, _⟩ => ⟨w, e, x⟩)
theorem x14e (b : Hp) (vB vR : AV) (ws : List AV) (bs : List Int) (xss : List (List Int)) (c : Bool) (hP : PLs c b vB vR ws bs xss) (i : Int) (hV : ¬ okV bs xss) : Wv (all8 14 [.agg [vB, vR], I i] b) (fun r h' => r = .tup [.agg [nilS, nilS], nilS, I 1] ∧ Ext b h') := by
  exact all8_of rfl (k14e 5 b vB vR ws bs xss c i hP hV)
theorem x14r (b : Hp) (vB vR : AV) (ws : List AV) (bs : List Int) (xss : List (List Int)) (c : Bool) (hP : PLs c b vB vR ws bs xss) (i : Int) (hV : okV bs xss) (hi : i < 0) : Wv (all8 14 [.agg [vB, vR], I i] b) (fun r h' => r = .tup [.agg [nilS, nilS], nilS, I 4] ∧ Ext b h') := by
  exact all8_of rfl (k14r 5 b vB vR ws bs xss c i hP hV hi)
theorem x14 (b : Hp) (vB vR : AV) (ws : List AV) (bs : List Int) (xss : List (List Int)) (c : Bool) (hP : PLs c b vB vR ws bs xss) (i : Int) (hV : okV bs xss) (hi : ¬ i < 0) (hn : i ≤ 9223372036854775807) (hT : xss.flatten.length ≤ 90000) : Wv (all8 14 [.agg [vB, vR], I i] b) (fun r h' => ∃ uB uR w, r = .tup [.agg [uB, uR], w, I 0] ∧ oneA uB = true ∧ oneA uR = true ∧ Ext b h') := by
  obtain ⟨q0, rfl⟩ := nat_of (show 0 ≤ i by omega)
  simp only [Int.ofNat_eq_natCast] at hn ⊢
  exact (all8_of rfl (k14 5 b vB vR ws bs xss c q0 hP hV hn hT)).mono (fun r h' ⟨r', w, e, p, _, x, _⟩ => by obtain ⟨uB, uR, rfl, o1, o2⟩ := rp1_one p; exact ⟨uB, uR, w, e, o1, o2, x⟩)
theorem x12e (b : Hp) (vB vR : AV) (ws : List AV) (bs : List Int) (xss : List (List Int)) (c : Bool) (hP : PLs c b vB vR ws bs xss) (i x : Int) (hV : ¬ okV bs xss) : Wv (all8 12 [.agg [vB, vR], I i, I x] b) (fun r h' => r = .tup [.agg [nilS, nilS], Bo false, I 1] ∧ Ext b h') := by
  exact all8_of rfl (k12e 5 b vB vR ws bs xss c i x hP hV)
theorem x12r (b : Hp) (vB vR : AV) (ws : List AV) (bs : List Int) (xss : List (List Int)) (c : Bool) (hP : PLs c b vB vR ws bs xss) (i x : Int) (hV : okV bs xss) (hi : i < 0 ∨ (xss.length : Int) ≤ i) : Wv (all8 12 [.agg [vB, vR], I i, I x] b) (fun r h' => r = .tup [.agg [nilS, nilS], Bo false, I 4] ∧ Ext b h') := by
  exact all8_of rfl (k12r 5 b vB vR ws bs xss c i x hP hV hi)
theorem x12 (b : Hp) (vB vR : AV) (ws : List AV) (bs : List Int) (xss : List (List Int)) (c : Bool) (hP : PLs c b vB vR ws bs xss) (i x : Int) (hV : okV bs xss) (hi : 0 ≤ i ∧ i < (xss.length : Int)) : Wv (all8 12 [.agg [vB, vR], I i, I x] b) (fun r h' => ∃ uB uR bo, r = .tup [.agg [uB, uR], Bo bo, I 0] ∧ oneA uB = true ∧ oneA uR = true ∧ Ext b h') := by
  obtain ⟨k, rfl⟩ := nat_of (show 0 ≤ i by omega)
  simp only [Int.ofNat_eq_natCast] at hi ⊢
  obtain ⟨ys, hy⟩ := at_some (show k < xss.length by omega)
  obtain ⟨bd, hbd⟩ := at_some (show k < bs.length by have := hV.2.2.1; omega)
  by_cases he : (ys.length : Int) = bd
  · exact (all8_of rfl (k12a 5 b vB vR ws bs xss c k ys bd x hP hV hy hbd he)).mono (fun r h' ⟨r', e, p, x⟩ => by obtain ⟨uB, uR, rfl, o1, o2⟩ := rp1_one p; exact ⟨uB, uR, _, e, o1, o2, x⟩)
  · exact (all8_of rfl (k12b 5 b vB vR ws bs xss c k ys bd x hP hV hy hbd he)).mono (fun r h' ⟨r', e, p, x⟩ => by obtain ⟨uB, uR, rfl, o1, o2⟩ := rp1_one p; exact ⟨uB, uR, _, e, o1, o2, x⟩)
theorem x13e (b : Hp) (vB vR : AV) (ws : List AV) (bs : List Int) (xss : List (List Int)) (c : Bool) (hP : PLs c b vB vR ws bs xss) (i : Int) (hV : ¬ okV bs xss) : Wv (all8 13 [.agg [vB, vR], I i] b) (fun r h' => r = .tup [.agg [nilS, nilS], I 0, Bo false, I 1] ∧ Ext b h') := by
  exact all8_of rfl (k13e 5 b vB vR ws bs xss c i hP hV)
theorem x13r (b : Hp) (vB vR : AV) (ws : List AV) (bs : List Int) (xss : List (List Int)) (c : Bool) (hP : PLs c b vB vR ws bs xss) (i : Int) (hV : okV bs xss) (hi : i < 0 ∨ (xss.length : Int) ≤ i) : Wv (all8 13 [.agg [vB, vR], I i] b) (fun r h' => r = .tup [.agg [nilS, nilS], I 0, Bo false, I 4] ∧ Ext b h') := by
  exact all8_of rfl (k13r 5 b vB vR ws bs xss c i hP hV hi)
theorem x13 (b : Hp) (vB vR : AV) (ws : List AV) (bs : List Int) (xss : List (List Int)) (c : Bool) (hP : PLs c b vB vR ws bs xss) (i : Int) (hV : okV bs xss) (hi : 0 ≤ i ∧ i < (xss.length : Int)) : Wv (all8 13 [.agg [vB, vR], I i] b) (fun r h' => ∃ uB uR bo z, r = .tup [.agg [uB, uR], I z, Bo bo, I 0] ∧ oneA uB = true ∧ oneA uR = true ∧ Ext b h') := by
  obtain ⟨k, rfl⟩ := nat_of (show 0 ≤ i by omega)
  simp only [Int.ofNat_eq_natCast] at hi ⊢
  obtain ⟨ys, hy⟩ := at_some (show k < xss.length by omega)
  obtain ⟨bd, hbd⟩ := at_some (show k < bs.length by have := hV.2.2.1; omega)
  rcases List.eq_nil_or_concat ys with he | ⟨zs, x, he⟩
  · exact (all8_of rfl (k13a 5 b vB vR ws bs xss c k ys hP hV hy he)).mono (fun r h' ⟨r', e, p, x⟩ => by obtain ⟨uB, uR, rfl, o1, o2⟩ := rp1_one p; exact ⟨uB, uR, _, _, e, o1, o2, x⟩)
  · exact (all8_of rfl (k13b 5 b vB vR ws bs xss c k ys hP hV hy zs x (by simpa using he))).mono (fun r h' ⟨r', e, p, x⟩ => by obtain ⟨uB, uR, rfl, o1, o2⟩ := rp1_one p; exact ⟨uB, uR, _, _, e, o1, o2, x⟩)
theorem x17e (b : Hp) (vB vR : AV) (ws : List AV) (bs : List Int) (xss : List (List Int)) (c : Bool) (hP : PLs c b vB vR ws bs xss) (i : Int) (hV : ¬ okV bs xss) : Wv (all8 17 [.agg [vB, vR], I i] b) (fun r h' => r = .tup [I 0, I 1] ∧ Ext b h') := by
  exact all8_of rfl (k17e 6 b vB vR ws bs xss c i hP hV)
theorem x17r (b : Hp) (vB vR : AV) (ws : List AV) (bs : List Int) (xss : List (List Int)) (c : Bool) (hP : PLs c b vB vR ws bs xss) (i : Int) (hV : okV bs xss) (hi : i < 0 ∨ (xss.length : Int) ≤ i) : Wv (all8 17 [.agg [vB, vR], I i] b) (fun r h' => r = .tup [I 0, I 4] ∧ Ext b h') := by
  exact all8_of rfl (k17r 6 b vB vR ws bs xss c i hP hV hi)
theorem x17 (b : Hp) (vB vR : AV) (ws : List AV) (bs : List Int) (xss : List (List Int)) (c : Bool) (hP : PLs c b vB vR ws bs xss) (i : Int) (hV : okV bs xss) (hi : 0 ≤ i ∧ i < (xss.length : Int)) : Wv (all8 17 [.agg [vB, vR], I i] b) (fun r h' => ∃ z, r = .tup [I z, I 0] ∧ Ext b h') := by
  obtain ⟨k, rfl⟩ := nat_of (show 0 ≤ i by omega)
  simp only [Int.ofNat_eq_natCast] at hi ⊢
  obtain ⟨ys, hy⟩ := at_some (show k < xss.length by omega)
  obtain ⟨bd, hbd⟩ := at_some (show k < bs.length by have := hV.2.2.1; omega)
  exact (all8_of rfl (k17 6 b vB vR ws bs xss c k ys hP hV hy)).mono (fun r h' ⟨e, x⟩ => ⟨_, e, x⟩)
theorem x7 (b : Hp) (v : AV) (bs : List Int) (c : Bool) (hB : Lc c b v (bs.map I)) (hn : bs.length ≤ 4000) (hV : okV bs (List.replicate bs.length [])) : Wv (all8 7 [v] b) (fun r h' => ∃ uB uR, r = .tup [.agg [uB, uR], I 0] ∧ oneA uB = true ∧ oneA uR = true ∧ Ext b h') :=
  (all8_of rfl (k7 5 b v bs c hB hn hV)).mono (fun r h' ⟨r', e, p, x⟩ => by obtain ⟨uB, uR, rfl, o1, o2⟩ := rp1_one p; exact ⟨uB, uR, e, o1, o2, x⟩)
theorem x7e (b : Hp) (v : AV) (bs : List Int) (c : Bool) (hB : Lc c b v (bs.map I)) (hn : bs.length ≤ 4000) (hV : ¬ okV bs (List.replicate bs.length [])) : Wv (all8 7 [v] b) (fun r h' => r = .tup [.agg [nilS, nilS], I 1] ∧ Ext b h') := all8_of rfl (k7e 5 b v bs c hB hn hV)

end Go.Proofs.Ytgnnjlabnnapnaa
