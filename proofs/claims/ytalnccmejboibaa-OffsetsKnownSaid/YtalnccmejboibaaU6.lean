import Derived.Test.YtalnccmejboibaaU5
import Derived.KernelRfl
namespace Go.Proofs.Ytalnccmejboibaa
open Go Go.Proofs Go.RowKit
set_option linter.unusedSimpArgs false
set_option linter.unusedVariables false
open Go.Proofs.Abs
noncomputable def all8 : CallF := plus isLives (runA ctx 5000 8)
theorem r12 (h : Hp) : all8 12 [] h = some (Bo true, h) := plus_lit rfl
theorem r20 (h : Hp) (v : AV) (xs : List Int) (hv : IsL h v (xs.map I)) : all8 20 [v] h = some (I (chkL xs), h) := by
  unfold all8
  rw [plus_not rfl]
  exact c20 7 h v xs hv
theorem r22 (h : Hp) (v : AV) (xs : List Int) (i : Nat) (hv : IsL h v (xs.map I)) (hi : i ≤ xs.length) (hc : chkL xs = 0) : all8 22 [v, I (i : Int)] h = some (I (sm (xs.take i)), h) := by
  unfold all8
  rw [plus_not rfl]
  exact c22 7 h v xs i hv hi (chk_ok hc).1 (chk_ok hc).2
theorem r24 (h : Hp) (g v : AV) (e0 : Int) (ps : List (Int × Int)) (hg : OwnX h g ps) (hv : IsL h v (ps.map CX)) (hE : ExL ps) (hn : ps.length ≤ 4096) : all8 24 [g, I e0, v, I e0] h = some (Bo true, h) := by
  unfold all8
  rw [plus_not rfl]
  exact c24 7 h g v e0 ps hg hv hE hn
theorem r24n (h : Hp) : all8 24 [nilS, I 13, nilS, I 13] h = some (Bo true, h) := r24 h nilS nilS 13 [] (ownX_nil h) (.inl ⟨rfl, rfl⟩) (fun k p hp => by simp at hp) (by simp)
theorem r11 (h : Hp) (a b : Int) (ha : In a) (hb' : In b) : Wv (all8 11 [I a, I b] h) (fun r h' => r = I (sat (a + b)) ∧ Ext h h') := by
  unfold all8
  rw [plus_not rfl]
  exact c11 5 h a b ha hb'
theorem r23b (h : Hp) (v : AV) (xs : List Int) (hv : IsL h v (xs.map I)) (h0 : chkL xs = 0) (hb : 9007199254740992 ≤ sm xs) : Wv (all8 23 [v] h) (fun r h' => r = .tup [nilS, I 13] ∧ Ext h h') := by
  unfold all8
  rw [plus_not rfl]
  exact (c23 6 h v xs hv h0).mono fun r h' hq => by
    obtain ⟨hx, ⟨_, hr⟩ | ⟨hl, _⟩⟩ := hq
    · exact ⟨hr, hx⟩
    · omega
theorem r23 (h : Hp) (v : AV) (xs : List Int) (hv : IsL h v (xs.map I)) (h0 : chkL xs = 0) (hb : sm xs < 9007199254740992) : Wv (all8 23 [v] h) (fun r h' => ∃ ng, r = .tup [.slice ng 0 xs.length false xs.length 0, I 0] ∧ Ext h h' ∧ OwnX h' (.slice ng 0 xs.length false xs.length 0) (rwl xs)) := by
  unfold all8
  rw [plus_not rfl]
  exact (c23 6 h v xs hv h0).mono fun r h' hq => by
    obtain ⟨hx, ⟨hl, _⟩ | ⟨_, ng, hr, _, h1, h2⟩⟩ := hq
    · omega
    · have := ownX_of h1 h2
      rw [rwl_len] at this
      exact ⟨ng, hr, hx, this⟩
theorem r25b (h : Hp) (v : AV) (y : Int) (ps : List (Int × Int)) (hv : IsL h v (ps.map CX)) (hE : ExL ps) (hn : ps.length ≤ 4096) (hy : In y) (hf : farB y ps = true) : Wv (all8 25 [v, I y] h) (fun r h' => r = .tup [nilS, I 13] ∧ Ext h h') := by
  unfold all8
  rw [plus_not rfl]
  exact (c25 3 h v y ps hv hE hn hy).mono fun r h' hq => by
    obtain ⟨hx, ⟨_, hr⟩ | ⟨hl, _⟩⟩ := hq
    · exact ⟨hr, hx⟩
    · rw [hf] at hl; cases hl
theorem r25 (h : Hp) (v : AV) (y : Int) (ps : List (Int × Int)) (hv : IsL h v (ps.map CX)) (hE : ExL ps) (hn : ps.length ≤ 4096) (hy : In y) (hf : farB y ps = false) : Wv (all8 25 [v, I y] h) (fun r h' => ∃ ng, r = .tup [.slice ng 0 ps.length false ps.length 0, I 0] ∧ Ext h h' ∧ OwnX h' (.slice ng 0 ps.length false ps.length 0) (sld y ps)) := by
  unfold all8
  rw [plus_not rfl]
  exact (c25 3 h v y ps hv hE hn hy).mono fun r h' hq => by
    obtain ⟨hx, ⟨hl, _⟩ | ⟨_, ng, hr, _, h1, h2⟩⟩ := hq
    · rw [hf] at hl; cases hl
    · have := ownX_of h1 h2
      rw [sld_len] at this
      exact ⟨ng, hr, hx, this⟩
/-- a part of a text -/
def subC : List Bool → Code → Code
  | [], c => c
  | b :: l, .seq x y => subC l (cond b y x)
  | b :: l, .cond _ x y => subC l (cond b y x)
  | _ :: l, .block _ x => subC l x
  | _ :: l, .loop x => subC l x
  | _ :: l, .scope x => subC l x
  | _, c => c
def bodyC (fn : Func) : Code := fn.body.getD .skip
/-- the state of the law's loop -/
def Inv7 (v : AV) (y : Int) (xs : List Int) (ng : Nat) (h1 : Hp) (m : Nat) (e : Env) (h' : Hp) : Prop := ∃ k w s, m = xs.length - k ∧ k ≤ xs.length ∧ e.get 0 = some v ∧ e.get 1 = some (I y) ∧ e.get 5 = some (.slice ng 0 xs.length false xs.length 0) ∧ e.get 6 = some (I 0) ∧ e.get 11 = some (I (Int.ofNat k)) ∧ e.get 8 = some w ∧ e.get 9 = some s ∧ e.get 10 = some (Bo (farB y ((rwl xs).take k))) ∧
  Ext h1 h' ∧ GrL h' w ((rwl xs).take k) ∧ GrL h' s (sld y ((rwl xs).take k)) ∧ (∀ n, nmO w = some n → h1.c ≤ n) ∧ (∀ n, nmO s = some n → h1.c ≤ n) ∧ ∀ n, nmO w = some n → nmO s ≠ some n
end Go.Proofs.Ytalnccmejboibaa
