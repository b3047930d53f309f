import Derived.Test.YtdbajhklnaekjaaY3
import Derived.KernelRfl
namespace Go.Proofs.Ytdbajhklnaekjaa
open Go Go.Proofs Go.RowKit
set_option linter.unusedSimpArgs false
set_option linter.unusedVariables false
open Go.Proofs.Abs
theorem IsL_fr {h h' : Hp} {v : AV} {xs : List AV} (r : IsL h v xs) {P : Nat → Prop} (f : Fr P h h') (hp : ∀ n, nmO v = some n → ¬ P n) : IsL h' v xs := by
  rcases r with h1 | ⟨nm, off, rest, cap, z, rfl, h2, h3⟩
  · exact .inl h1
  · exact .inr ⟨nm, off, rest, cap, z, rfl, Nat.lt_of_lt_of_le h2 f.c, fun k x hx => by
      have := h3 k x hx
      unfold Abs.load at this ⊢
      rw [f.ro, f.m nm h2 (hp nm rfl)]
      exact this⟩
theorem OwnS.only {h h' : Hp} {g : AV} {xs : List Int} (o : OwnS h g xs) {n : Nat} (f : Only n h h') (hn : ∀ k, nmO g = some k → n < k) : OwnS h' g xs :=
  ⟨IsL_fr o.isL (f.fr (P := fun k => k = n) rfl) (fun k hk e => by have := hn k hk; omega), o.cap⟩
structure ResM (h h' : Hp) (r : AV) (o : Int) (xs : List Int) (code : Int) : Prop where
  x : Ext h h'
  s : ∃ s, r = .tup [.agg [I o, s], I code] ∧ oneA s = true ∧ OwnS h' s xs
end Go.Proofs.Ytdbajhklnaekjaa
