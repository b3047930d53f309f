import Derived.Test.YtolpndlnabodgaaVI
import Derived.KernelRfl
namespace Go.Proofs.Ytolpndlnabodgaa
open Go Go.Proofs Go.RowKit Go.Proofs.Abs
set_option linter.unusedSimpArgs false
set_option linter.unusedVariables false
theorem opS_ok {K : Nat} {o1 o2 o3 : Int} {ls : List Ent} {fs : List Nat} {all : List Q2} (v : Iv K ls fs) (hK : K ≤ 1000) (ho3 : Inb o3) (ha : ∀ q ∈ all, R32 q) : Iv (K + 1) (opS o1 o2 o3 ls fs all).1 (opS o1 o2 o3 ls fs all).2.1 ∧ (∀ q ∈ (opS o1 o2 o3 ls fs all).2.2, R32 q) ∧ (opS o1 o2 o3 ls fs all).2.2.length ≤ all.length + 1 := by
  unfold opS
  dsimp only
  split
  · refine ⟨v.tk ho3, fun q hq => ?_, by simp⟩
    rcases List.mem_append.1 hq with h | h
    · exact ha q h
    · rw [List.mem_singleton] at h
      subst h
      obtain ⟨j, h1, h2, h3, _⟩ := tkH_rng v hK
      exact ⟨⟨by omega, by omega⟩, h3⟩
  · split
    · exact ⟨v.fr _ _, ha, Nat.le_succ _⟩
    · split
      · exact ⟨v.st _ _ ho3, ha, Nat.le_succ _⟩
      · split
        · exact ⟨v.ut _ _, ha, Nat.le_succ _⟩
        · exact ⟨v.uf _ _ ho3, ha, Nat.le_succ _⟩
theorem BZ_names {h : Hp} {Z : List As} {vL vF wL wF : AV} {ls ls2 : List Ent} {fs fs2 : List Nat} (hz : ∀ z, z ∈ BZ vL vF ls fs → z ∈ Z) (hn : ∀ m, (nmO wL = some m ∨ nmO wF = some m) → h.c ≤ m ∨ nmO vL = some m ∨ nmO vF = some m) : ∀ z, z ∈ BZ wL wF ls2 fs2 → ∀ n, n ∈ z.foot → h.c ≤ n ∨ ∃ y, y ∈ Z ∧ n ∈ y.foot := by
  have key : ∀ n, (nmO wL = some n ∨ nmO wF = some n) → h.c ≤ n ∨ ∃ y, y ∈ Z ∧ n ∈ y.foot := fun n h1 => by
    rcases hn n h1 with h2 | h2 | h2
    · exact .inl h2
    · exact .inr ⟨isr c3e 3 vL ls, hz _ (.tail _ (.tail _ (.head _))), nmO_mem.2 h2⟩
    · exact .inr ⟨isl vF ((fi fs).map I), hz _ (.head _), nmO_mem.2 h2⟩
  intro z h1 n h2
  rcases List.mem_cons.1 h1 with rfl | h1
  · exact key n (.inr (nmO_mem.1 h2))
  · rcases List.mem_cons.1 h1 with rfl | h1
    · exact key n (.inr (nmO_mem.1 h2))
    · rw [List.mem_singleton] at h1
      subst h1
      exact key n (.inl (nmO_mem.1 h2))
theorem n10 {M : List Nat} {h0 h : Hp} {L2 Z : List As} {q0 p : Nat} {s vL vF u : AV} {ls : List Ent} {fs : List Nat} {all : List Q2} {K : Nat} (H : Hs M h0 h (BL q0 p s vL vF u ls fs all ++ L2) Z) (hz : ∀ z, z ∈ BZ vL vF ls fs → z ∈ Z) (hK1 : K + 1 ≤ 1000) (v : Iv K ls fs) {o1 o2 o3 : Int} (ho1 : Inb o1) (ho2 : Inb o2) (ho3 : Inb o3) (ha : ∀ q ∈ all, R32 q) (hal : all.length ≤ 1000) :
    Wv (all8 10 [.ptr q0 0, .agg [U8 o1, U8 o2, U8 o3]] h) (fun r h' => r = I 1 ∧ ∃ s' wL wF u' A B C, opS o1 o2 o3 ls fs all = (A, B, C) ∧ Iv (K + 1) A B ∧ (∀ q ∈ C, R32 q) ∧ C.length ≤ all.length + 1 ∧ Hs M h0 h' (BL q0 p s' wL wF u' A B C ++ L2) (BZ wL wF A B ++ Z)) := by
  refine all8_of rfl ((k10 4 h q0 p s vL vF u ls fs all K hK1 v o1 o2 o3 ho1 ho2 ho3 ha hal (H.begin hz)).mono (fun r h' ⟨s', wL, wF, u', e, G, hn⟩ => ⟨e, ?_⟩))
  obtain ⟨w1, w2, w3⟩ := opS_ok (o1 := o1) (o2 := o2) v (by omega) ho3 ha
  have H2 := H.call G (BZ_names hz hn)
  exact ⟨s', wL, wF, u', _, _, _, rfl, w1, w2, w3, H2⟩
theorem n11 (h : Hp) (q0 p : Nat) (s vL vF u : AV) (ls : List Ent) (fs : List Nat) (K : Nat) (hK : K ≤ 1000) (v : Iv K ls fs) (a : Arn h p s (nxt fs) (cnt ls) (rws ls fs)) (bq : Blks id h q0 [.ptr p 0, vL, vF, u]) (pL : IsR c3e 3 h vL ls) (pF : Lc false h vF ((fi fs).map I)) : Wv (all8 11 [.ptr q0 0] h) (fun r h' => r = I 1 ∧ Ext h h') := all8_of rfl (k11 5 h q0 p s vL vF u ls fs K hK v.v a bq pL pF)


end Go.Proofs.Ytolpndlnabodgaa
