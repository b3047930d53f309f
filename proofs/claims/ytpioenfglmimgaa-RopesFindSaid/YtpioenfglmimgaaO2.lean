import Derived.Test.YtpioenfglmimgaaO1
namespace Go.Proofs.Abs
open Go Go.RowKit
set_option linter.unusedSimpArgs false
set_option linter.unusedVariables false
/-! Pools of lists. -/
section
/-- the answer of a function that makes lists of its own -/
def RP1 (b h' : Hp) (r : AV) (bs : List Int) (xss : List (List Int)) : Prop :=
  ∃ vB p ws, r = .agg [vB, .slice p 0 ws.length false ws.length 0] ∧ Blks id h' p ws ∧ b.c ≤ p ∧ Lc true h' vB (bs.map I) ∧ LLs true h' ws xss ∧ ∀ n, n ∈ ((nmO vB).toList ++ ws.flatMap fun w => (nmO w).toList) → b.c ≤ n ∧ n ≠ p
theorem Hs.dup {M : List Nat} {h0 h h' : Hp} {L Z : List As} (H : Hs M h0 h L Z) (a : Ext h h') {vB : AV} {p : Nat} {ws : List AV} {bs : List Int} {xss : List (List Int)} (h1 : Blks id h' p ws) (h2 : h.c ≤ p) (h3 : Lc true h' vB (bs.map I)) (h4 : LLs true h' ws xss)
    (h5 : ∀ n, n ∈ ((nmO vB).toList ++ ws.flatMap fun w => (nmO w).toList) → h.c ≤ n ∧ n ≠ p) : Hs M h0 h' (blk id p ws :: L) (isl vB (bs.map I) :: lc true vB (bs.map I) :: lls true ws xss :: Z) := by
  have H1 := H.fresh a (x := blk id p ws) h1 (fun n hn => by rw [List.mem_singleton.1 hn]; exact h2)
  have hd : ∀ n, h.c ≤ n ∧ n ≠ p → ∀ a, a ∈ (blk id p ws :: L) → n ∉ a.foot := by
    intro n hn a ha h9
    rcases List.mem_cons.1 ha with rfl | ha
    · exact hn.2 (List.mem_singleton.1 h9)
    · have := H.lt ha h9
      omega
  have H2 := H1.z1 (z := lls true ws xss) h4 (fun n hn => hd n (h5 n (List.mem_append_right _ hn)))
  have H3 := H2.z1 (z := lc true vB (bs.map I)) h3 (fun n hn => hd n (h5 n (List.mem_append_left _ hn)))
  exact H3.z1 (z := isl vB (bs.map I)) h3.isL (fun n hn => hd n (h5 n (List.mem_append_left _ hn)))
/-- put together: a block of one's own and what stands -/
theorem Hs.pls {M : List Nat} {h0 h : Hp} {L Z : List As} (H : Hs M h0 h L Z) {vB : AV} {p : Nat} {ws : List AV} {bs : List Int} {xss : List (List Int)} (h1 : blk id p ws ∈ L) (h2 : lc true vB (bs.map I) ∈ Z) (h3 : lls true ws xss ∈ Z) : PLs true h vB (.slice p 0 ws.length false ws.length 0) ws bs xss :=
  ⟨H.pz h2, Lc.blk (H.p h1) rfl, H.pz h3⟩
theorem Hs.rp {M : List Nat} {h0 h : Hp} {L Z : List As} (H : Hs M h0 h L Z) {vB : AV} {p : Nat} {ws : List AV} {bs : List Int} {xss : List (List Int)} (h1 : blk id p ws ∈ L) (h2 : lc true vB (bs.map I) ∈ Z) (h3 : lls true ws xss ∈ Z) (f1 : h0.c ≤ p) (f2 : ∀ n, n ∈ ((nmO vB).toList ++ ws.flatMap fun w => (nmO w).toList) → h0.c ≤ n) : RP1 h0 h (.agg [vB, .slice p 0 ws.length false ws.length 0]) bs xss := by
  refine ⟨vB, p, ws, rfl, H.p h1, f1, H.pz h2, H.pz h3, fun n hn => ⟨f2 n hn, fun e => ?_⟩⟩
  subst e
  rcases List.mem_append.1 hn with h4 | h4
  · exact (H.std _ h2).2 n h4 _ h1 (List.mem_singleton.2 rfl)
  · exact (H.std _ h3).2 n h4 _ h1 (List.mem_singleton.2 rfl)
theorem lls_rep (n : Nat) (h : Hp) : LLs true h (List.replicate n nilS) (List.replicate n []) := by
  refine ⟨by simp, fun i w xs h1 h2 => ?_⟩
  have e1 := List.eq_of_mem_replicate (List.mem_of_getElem? h1)
  have e2 := List.eq_of_mem_replicate (List.mem_of_getElem? h2)
  subst e1 e2
  exact Lc.nil true h
theorem set_next {us : List AV} {w v : AV} {k m : Nat} (hu : us.length = k) (hk : k < m) : (us ++ List.replicate (m - k) v).set k w = (us ++ [w]) ++ List.replicate (m - (k + 1)) v := by
  subst hu
  rw [List.set_append_right _ _ (Nat.le_refl _), Nat.sub_self, show m - us.length = (m - (us.length + 1)) + 1 from by omega, List.replicate_succ, List.set_cons_zero, List.append_assoc]
  rfl
theorem Hs.rps {M : List Nat} {h0 h : Hp} {L Z : List As} (H : Hs M h0 h L Z) {vB : AV} {p q m i : Nat} {ws : List AV} {bs : List Int} {xss : List (List Int)} {ys : List Int} (h1 : blk id p (ws.set i (.slice q 0 m false m 0)) ∈ L) (h2 : lc true vB (bs.map I) ∈ Z) (h3 : lls true ws xss ∈ Z) (h4 : blk id q (ys.map I) ∈ L) (hm : ys.length = m) (hpq : p ≠ q) (f1 : h0.c ≤ p) (f3 : h0.c ≤ q)
    (f2 : ∀ n, n ∈ ((nmO vB).toList ++ ws.flatMap fun w => (nmO w).toList) → h0.c ≤ n) : RP1 h0 h (.agg [vB, .slice p 0 ws.length false ws.length 0]) bs (xss.set i ys) := by
  have p3 : LLs true h ws xss := H.pz h3
  have c4 : Lc true h (.slice q 0 m false m 0) (ys.map I) := Lc.blk (H.p h4) (by rw [List.length_map]; exact hm)
  refine ⟨vB, p, ws.set i (.slice q 0 m false m 0), by rw [List.length_set], H.p h1, f1, H.pz h2, ⟨by rw [List.length_set, List.length_set]; exact p3.1, fun j w xs hw hx => ?_⟩, fun n hn => ?_⟩
  · rw [List.getElem?_set] at hw hx
    by_cases e1 : i = j
    · subst e1
      rw [if_pos rfl] at hw hx
      split at hw
      · cases hw
        split at hx
        · cases hx; exact c4
        · cases hx
      · cases hw
    · rw [if_neg e1] at hw hx
      exact p3.2 j w xs hw hx
  · rcases List.mem_append.1 hn with h5 | h5
    · exact ⟨f2 n (List.mem_append_left _ h5), fun e => (H.std _ h2).2 n h5 _ h1 (by rw [e]; exact List.mem_singleton.2 rfl)⟩
    · obtain ⟨w, h6, h7⟩ := List.mem_flatMap.1 h5
      rcases List.mem_or_eq_of_mem_set h6 with h8 | h8
      · have h9 : n ∈ ws.flatMap fun w => (nmO w).toList := List.mem_flatMap.2 ⟨w, h8, h7⟩
        exact ⟨f2 n (List.mem_append_right _ h9), fun e => (H.std _ h3).2 n h9 _ h1 (by rw [e]; exact List.mem_singleton.2 rfl)⟩
      · subst h8
        have := nmO_mem.1 h7
        cases this
        exact ⟨f3, fun e => hpq e.symm⟩
end
section
variable {M : List Nat} {h0 h : Hp} {L Z : List As}
/-- what was put together and stands, as a list -/
theorem Hs.zlc2 (H : Hs M h0 h L Z) {e s len : Nat} {v : AV} {cs ys : List AV} {c : Bool} (hm : gr e s v cs len ∈ Z) (r : Lc c h v ys) : Hs M h0 h L (isl v ys :: lc c v ys :: Z) := by
  have H1 := H.zsub (z' := lc c v ys) hm r (fun n h1 => h1)
  exact H1.zsub (z' := isl v ys) (.tail _ hm) r.isL (fun n h1 => h1)
end
end Go.Proofs.Abs
