import Derived.Test.YtolpndlnabodgaaAJ
import Derived.KernelRfl
namespace Go.Proofs.Ytolpndlnabodgaa
open Go Go.Proofs Go.RowKit Go.Proofs.Abs
set_option linter.unusedSimpArgs false
set_option linter.unusedVariables false
theorem Arn.mutx {b h' : Hp} {p : Nat} {s : AV} {fr lv : Int} {R : List (List AV)} (a : Arn b p s fr lv R) (x : Ext b h') : Mut b h' p s s fr lv R :=
  ⟨⟨a.b.fr (x.fr (fun _ => False)) (fun h => h), a.o.fr (x.fr (fun _ => False)) (fun _ _ h => h), a.ne⟩, x.fr _, fun _ h => .inl h⟩
theorem NInv.fresh0 {i : Nat} {ls : List Ent} {all gone : List (Int × Int)} (v : NInv i ls [] all gone) : ∀ q ∈ all, ¬ (q.1 = (ls.length : Int) ∧ q.2 = 1) := fun q hq ⟨h1, _⟩ => by
  obtain ⟨j, p, h2, h3, _⟩ := v.al q hq
  have := (List.getElem?_eq_some_iff.1 h3).1
  omega
theorem NInv.freshF {i : Nat} {ls : List Ent} {f : Nat} {rr : List Nat} {all gone : List (Int × Int)} (v : NInv i ls (f :: rr) all gone) {g x0 : Int} (hp : ls[f]? = some (g, false, x0)) : ∀ q ∈ all, ¬ (q.1 = (f : Int) ∧ q.2 = g) := fun q hq ⟨h1, h0⟩ => by
  obtain ⟨j, p, h2, h3, h4, h5⟩ := v.al q hq
  have e : f = j := by omega
  subst e
  rw [hp] at h3
  cases h3
  rcases h5 with h5 | ⟨_, h5⟩
  · simp only at h5; omega
  · cases h5
theorem n20 (b : Hp) (p : Nat) (s : AV) (ls : List Ent) (fs : List Nat) (all gone : List (Int × Int)) (K : Nat) (hK : K ≤ 1000) (nv : NInv K ls fs all gone) (a : Arn b p s (nxt fs) (cnt ls) (rws ls fs)) (x : Int) : Wv (all8 20 [.ptr p 0, I x] b) (fun r h' => ∃ s' ls' fs' h1 h2, r = .tup [.agg [U32 h1, U32 h2], I 0] ∧ Mut b h' p s s' (nxt fs') (cnt ls') (rws ls' fs') ∧ NInv (K + 1) ls' fs' (all ++ [(h1, h2)]) gone ∧ ∀ q ∈ all, ¬ (q.1 = h1 ∧ q.2 = h2)) := by
  cases fs with
  | nil =>
    refine (j20a b p s ls [] K hK nv.v a x rfl).mono (fun r h' ⟨s', e, m⟩ => ⟨s', ls ++ [(1, true, x)], [], _, _, e, ?_, nv.take0 x, nv.fresh0⟩)
    rw [cnt_app]
    exact m
  | cons f rr =>
    obtain ⟨g, x0, hp⟩ := (nv.v.fsI f).1 (.head _)
    refine (j20b b p s ls (f :: rr) K hK nv.v a x g x0 f rr rfl hp).mono (fun r h' ⟨e, m⟩ => ⟨s, ls.set f (g, true, x), rr, _, _, e, ?_, nv.takeF hp x, nv.freshF hp⟩)
    rw [cnt_set hp]
    simpa using m
theorem n21 (b : Hp) (p : Nat) (s : AV) (ls : List Ent) (fs : List Nat) (all gone : List (Int × Int)) (K : Nat) (hK : K ≤ 1000) (nv : NInv K ls fs all gone) (a : Arn b p s (nxt fs) (cnt ls) (rws ls fs)) (h1 h2 : Int) (j : Nat) (hj : all[j]? = some (h1, h2)) : Wv (all8 21 [.ptr p 0, .agg [U32 h1, U32 h2]] b) (fun r h' => ∃ x eo ls' fs' gone', r = .tup [I x, I eo] ∧ Mut b h' p s s (nxt fs') (cnt ls') (rws ls' fs') ∧ NInv (K + 1) ls' fs' all gone' ∧ ((eo = 0 ∧ gone' = gone ++ [(h1, h2)]) ∨ (eo = 11 ∧ gone' = gone))) := by
  obtain ⟨i, q, e1, hq, g1, g2⟩ := nv.al _ (List.mem_of_getElem? hj)
  have hgq := nv.v.gen i q hq
  have hil := (List.getElem?_eq_some_iff.1 hq).1
  have hvn := nv.v.n
  simp only at e1 g1 g2
  subst e1
  cases hv : vld ls i h2 with
  | true =>
    obtain ⟨x0, hp⟩ := vld_t hv
    refine (j21a b p s ls fs K hK nv.v a i h2 (by omega) (by omega) x0 hp (by omega)).mono (fun r h' ⟨e, m⟩ => ⟨x0, 0, ls.set i (h2 + 1, false, 0), i :: fs, _, e, ?_, nv.free hp, .inl ⟨rfl, rfl⟩⟩)
    show Mut b h' p s s ((i : Int) + 1) _ _
    rw [cnt_set hp]
    simpa using m
  | false =>
    exact (j21b b p s ls fs K hK nv.v a i h2 (by omega) (by omega) hv).mono (fun r h' ⟨e, hx⟩ => ⟨0, 11, ls, fs, gone, e, a.mutx hx, nv.stay, .inr ⟨rfl, rfl⟩⟩)
end Go.Proofs.Ytolpndlnabodgaa
