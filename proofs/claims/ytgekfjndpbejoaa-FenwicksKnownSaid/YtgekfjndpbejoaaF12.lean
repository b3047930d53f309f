import Derived.Test.YtgekfjndpbejoaaF11
import Derived.Test.YtgekfjndpbejoaaF10
import Derived.KernelRfl
namespace Go.Proofs.Ytgekfjndpbejoaa
open Go Go.Proofs Go.RowKit
set_option linter.unusedSimpArgs false
set_option linter.unusedVariables false
open Go.Proofs.Abs
/-- the first k parts of a text, then the rest -/
theorem wc_cutw {C : Ctx} {call : CallF} {N : Nat} {Q : AEx → Env → Hp → Prop} (P : Env → Hp → Prop) : ∀ (k n : Nat) (c : Code) (e : Env) (h : Hp), Wc (codeA C call N (n + k) (cutC k c) e h) (fun x e' h' => x = .normal ∧ P e' h') →
    (∀ e' h', P e' h' → Wc (codeA C call N n (restC k c) e' h') Q) → Wc (codeA C call N (n + k) c e h) Q := by
  intro k
  induction k with
  | zero =>
    intro n c e h h1 h2
    cases n with
    | zero => obtain ⟨x, e', h', hr, _⟩ := h1; cases hr
    | succ n =>
      obtain ⟨x, e', h', hr, _, hp⟩ := h1
      cases hr
      exact h2 _ _ hp
  | succ k ih =>
    intro n c e h h1 h2
    obtain ⟨x, e', h', hr, rfl, hp⟩ := h1
    cases c with
    | seq a b =>
      change thenA (codeA C call N (n + k) (cutC k b)) (codeA C call N (n + k) a e h) = some (.normal, e', h') at hr
      show Wc (thenA (codeA C call N (n + k) b) (codeA C call N (n + k) a e h)) Q
      cases hx : codeA C call N (n + k) a e h with
      | none => rw [hx] at hr; cases hr
      | some q =>
        obtain ⟨x, e1, h1⟩ := q
        rw [hx] at hr
        cases x with
        | normal => exact ih n b e1 h1 ⟨_, _, _, hr, rfl, hp⟩ h2
        | exit j => cases hr
        | goto l => cases hr
        | ret => cases hr
    | _ => exact absurd hr (by intro hr; change some (AEx.ret, e, h) = some (.normal, e', h') at hr; cases hr)
theorem p20b (h : Hp) (nm na nb : Nat) (xs : List Int) (x : Int) (t : Tr h nm na nb xs) (hz : x < 0 ∨ sm xs ≤ x) : all8 20 [.ptr nm 0, I x] h = some (.tup [I 0, I 0, I 4], h) := by
  unfold all8
  rw [plus_not rfl]
  exact c20b 7 h nm na nb xs x t hz
theorem p20 (h : Hp) (nm na nb : Nat) (xs : List Int) (x : Int) (i : Nat) (t : Tr h nm na nb xs) (hi : i < xs.length) (hx1 : pre xs i ≤ x) (hx2 : x < pre xs (i + 1)) (hV : V xs) (hn : xs.length = 3 ∨ xs.length = 4096) : all8 20 [.ptr nm 0, I x] h = some (.tup [I (Int.ofNat i), I (x - pre xs i), I 0], h) := by
  unfold all8
  rw [plus_not rfl]
  exact c20 5 h nm na nb xs x t i hi hx1 hx2 hV hn
theorem p21 (h : Hp) (v : AV) (xs : List Int) (x : Int) (i : Nat) (hv : IsL h v (xs.map I)) (hi : i < xs.length) (hx1 : pre xs i ≤ x) (hx2 : x < pre xs (i + 1)) (hV : V xs) (hn : xs.length ≤ 4096) : all8 21 [v, I x] h = some (.tup [I (Int.ofNat i), I (x - pre xs i)], h) := by
  unfold all8
  rw [plus_not rfl]
  exact c21 7 h v xs x i hv hi hx1 hx2 hV hn
end Go.Proofs.Ytgekfjndpbejoaa
