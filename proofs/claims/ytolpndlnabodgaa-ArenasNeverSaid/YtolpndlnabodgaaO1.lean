import Derived.Test.YtolpndlnabodgaaH1
namespace Go.Proofs.Abs
open Go Go.RowKit
set_option linter.unusedSimpArgs false
set_option linter.unusedVariables false
/-! Lists that stand, with what is known of their capacity. -/
section
variable {C : Ctx} {t e : TypeId} {ti te : TI} {M : List Nat} {h0 h h' : Hp} {L L' Z : List As} {k : OpsK} {dst : Option Tmp} {env : Env} {Q : Env → Hp → Prop}
def capOf : AV → Option Nat
  | .lit (.slice none 0 0) => some 0
  | .slice _ _ _ false c _ => some c
  | _ => none
def wfS : AV → Prop
  | .slice _ _ len false c _ => len ≤ c
  | _ => True
structure Lc (c : Bool) (h : Hp) (w : AV) (ys : List AV) : Prop where
  isL : IsL h w ys
  wf : wfS w
  cap : c = true → capOf w = some ys.length
theorem Lc.fr {c : Bool} {w : AV} {ys : List AV} {R : Nat → Prop} (r : Lc c h w ys) (a : Fr R h h') (hn : ∀ n, nmO w = some n → ¬ R n) : Lc c h' w ys := ⟨r.isL.fr a hn, r.wf, r.cap⟩
theorem Lc.ext {c : Bool} {w : AV} {ys : List AV} (r : Lc c h w ys) (a : Ext h h') : Lc c h' w ys := r.fr (a.fr (fun _ => False)) (fun _ _ => id)
theorem Lc.nil (c : Bool) (h : Hp) : Lc c h nilS [] := ⟨.inl ⟨rfl, rfl⟩, trivial, fun _ => rfl⟩
theorem Lc.one {c : Bool} {w : AV} {ys : List AV} (r : Lc c h w ys) : oneA w = true := r.isL.one
theorem Lc.cells {c : Bool} {w : AV} {ys : List AV} (r : Lc c h w ys) : cellsOf w = [w] := r.isL.cells
theorem Lc.blk {n m : Nat} {cs : List AV} (b : Blks id h n cs) (hl : cs.length = m) : Lc true h (.slice n 0 m false m 0) cs := by
  subst hl
  exact ⟨b.isl, Nat.le_refl _, fun _ => rfl⟩
def lc (c : Bool) (w : AV) (ys : List AV) : As :=
  ⟨(nmO w).toList, fun h => Lc c h w ys, fun h h' R p a hn => p.fr a (fun n hv => hn n (nmO_mem.2 hv)), fun h p n hn => p.isL.lt (nmO_mem.1 hn)⟩
/-- lists that stand -/
def LLs (c : Bool) (h : Hp) (ws : List AV) (xss : List (List Int)) : Prop := ws.length = xss.length ∧ ∀ (i : Nat) (w : AV) (xs : List Int), ws[i]? = some w → xss[i]? = some xs → Lc c h w (xs.map I)
theorem LLs.fr {c : Bool} {ws : List AV} {xss : List (List Int)} {R : Nat → Prop} (p : LLs c h ws xss) (a : Fr R h h') (hn : ∀ n, n ∈ (ws.flatMap fun w => (nmO w).toList) → ¬ R n) : LLs c h' ws xss :=
  ⟨p.1, fun i w xs h1 h2 => (p.2 i w xs h1 h2).fr a (fun n hv => hn n (List.mem_flatMap.2 ⟨w, List.mem_of_getElem? h1, nmO_mem.2 hv⟩))⟩
theorem LLs.lt {c : Bool} {ws : List AV} {xss : List (List Int)} (p : LLs c h ws xss) {n : Nat} (hn : n ∈ (ws.flatMap fun w => (nmO w).toList)) : n < h.c := by
  obtain ⟨w, h1, h2⟩ := List.mem_flatMap.1 hn
  obtain ⟨i, hi⟩ := List.getElem?_of_mem h1
  have hlt : i < xss.length := by rw [← p.1]; exact (List.getElem?_eq_some_iff.1 hi).1
  exact (p.2 i w _ hi (List.getElem?_eq_getElem hlt)).isL.lt (nmO_mem.1 h2)
def lls (c : Bool) (ws : List AV) (xss : List (List Int)) : As :=
  ⟨ws.flatMap fun w => (nmO w).toList, fun h => LLs c h ws xss, fun h h' R p a hn => p.fr a hn, fun h p n hn => p.lt hn⟩
theorem LLs.ext {c : Bool} {ws : List AV} {xss : List (List Int)} (p : LLs c h ws xss) (a : Ext h h') : LLs c h' ws xss := p.fr (a.fr (fun _ => False)) (fun _ _ => id)
theorem Hs.row (H : Hs M h0 h L Z) {c : Bool} {ws : List AV} {xss : List (List Int)} (hm : lls c ws xss ∈ Z) {i : Nat} {w : AV} {xs : List Int} (hw : ws[i]? = some w) (hx : xss[i]? = some xs) : Hs M h0 h L (isl w (xs.map I) :: lc c w (xs.map I) :: Z) := by
  have r := (H.pz hm).2 i w xs hw hx
  have hf : ∀ n, n ∈ (nmO w).toList → n ∈ (lls c ws xss).foot := fun n h1 => List.mem_flatMap.2 ⟨w, List.mem_of_getElem? hw, h1⟩
  have H1 := H.zsub (z' := lc c w (xs.map I)) hm r hf
  exact H1.zsub (z' := isl w (xs.map I)) (.tail _ hm) r.isL hf
/-- one more list that stands -/
theorem Hs.snoc (H : Hs M h0 h L Z) {c : Bool} {ws : List AV} {xss : List (List Int)} {w : AV} {xs : List Int} (h1 : lls c ws xss ∈ Z) (h2 : lc c w (xs.map I) ∈ Z) : Hs M h0 h L (lls c (ws ++ [w]) (xss ++ [xs]) :: Z) := by
  have p := H.pz h1
  have q := H.pz h2
  refine H.z1 (z := lls c (ws ++ [w]) (xss ++ [xs])) ⟨by simp [p.1], fun i w' xs' hw hx => ?_⟩ (fun n hn a ha => ?_)
  · rw [List.getElem?_append] at hw hx
    rw [← p.1] at hx
    split at hw
    · rename_i hlt
      rw [if_pos hlt] at hx
      exact p.2 i w' xs' hw hx
    · rename_i hlt
      rw [if_neg hlt] at hx
      have h0 : i - ws.length = 0 := by
        have := (List.getElem?_eq_some_iff.1 hw).1
        simp only [List.length_singleton] at this
        omega
      rw [h0] at hw hx
      cases hw
      cases hx
      exact q
  · have hn' : n ∈ (ws ++ [w]).flatMap fun w => (nmO w).toList := hn
    rw [List.flatMap_append, List.mem_append] at hn'
    rcases hn' with h3 | h3
    · exact (H.std _ h1).2 n h3 a ha
    · refine (H.std _ h2).2 n ?_ a ha
      rw [List.flatMap_singleton] at h3
      exact h3
end
section
variable {C : Ctx} {M : List Nat} {h0 h h' : Hp} {L L' Z : List As}
/-- two lists of numbers in a struct: one of numbers, one of lists of them -/
structure PLs (c : Bool) (h : Hp) (vB vR : AV) (ws : List AV) (bs : List Int) (xss : List (List Int)) : Prop where
  b : Lc c h vB (bs.map I)
  r : Lc c h vR ws
  w : LLs c h ws xss
def pls (c : Bool) (vB vR : AV) (ws : List AV) (bs : List Int) (xss : List (List Int)) : As :=
  ⟨(nmO vB).toList ++ ((nmO vR).toList ++ ws.flatMap fun w => (nmO w).toList), fun h => PLs c h vB vR ws bs xss,
    fun h h' R p a hn => ⟨p.b.fr a (fun n hv => hn n (List.mem_append_left _ (nmO_mem.2 hv))), p.r.fr a (fun n hv => hn n (List.mem_append_right _ (List.mem_append_left _ (nmO_mem.2 hv)))), p.w.fr a (fun n hv => hn n (List.mem_append_right _ (List.mem_append_right _ hv)))⟩,
    fun h p n hn => by
      rcases List.mem_append.1 hn with h1 | h1
      · exact p.b.isL.lt (nmO_mem.1 h1)
      · rcases List.mem_append.1 h1 with h1 | h1
        · exact p.r.isL.lt (nmO_mem.1 h1)
        · exact p.w.lt h1⟩
theorem PLs.fr {c : Bool} {vB vR : AV} {ws : List AV} {bs : List Int} {xss : List (List Int)} {R : Nat → Prop} (p : PLs c h vB vR ws bs xss) (a : Fr R h h') (hn : ∀ n, n ∈ (pls c vB vR ws bs xss).foot → ¬ R n) : PLs c h' vB vR ws bs xss := (pls c vB vR ws bs xss).st _ _ _ p a hn
theorem PLs.ext {c : Bool} {vB vR : AV} {ws : List AV} {bs : List Int} {xss : List (List Int)} (p : PLs c h vB vR ws bs xss) (a : Ext h h') : PLs c h' vB vR ws bs xss := p.fr (a.fr (fun _ => False)) (fun _ _ => id)
/-- a contract's answer: a struct of lists of its own -/
def RP (b h' : Hp) (r : AV) (bs : List Int) (xss : List (List Int)) : Prop :=
  ∃ vB vR ws, r = .agg [vB, vR] ∧ PLs true h' vB vR ws bs xss ∧ ∀ n, n ∈ (pls true vB vR ws bs xss).foot → b.c ≤ n
end
/-! Regions in which a read and a change are not ordered, walked by rules. -/
def WT (C : Ctx) (call : CallF) (all l : List Oper) (e : Env) (h : Hp) (P : List (Env × Hp) → Prop) : Prop := ∃ tr, trA C call all l e h = some tr ∧ P tr
end Go.Proofs.Abs
