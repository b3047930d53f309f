import Derived.Test.YtdbajhklnaekjaaRI
import Derived.KernelRfl
namespace Go.Proofs.Ytdbajhklnaekjaa
open Go Go.Proofs Go.RowKit Go.Proofs.Abs
set_option linter.unusedSimpArgs false
set_option linter.unusedVariables false
/-! Carrying a list. -/
theorem carry2 {A B l : List Int} (o : Ok A.length B) : B.map (fL (A.map (fL l))) = (cmpL A B).map (fL l) := by
  rw [cmpL_map, List.map_map]
  refine List.map_congr_left (fun y hy => ?_)
  obtain ⟨h1, h2⟩ := o.rng y hy
  show fL (A.map (fL l)) y = fL l (fA A y)
  by_cases h : y = -1
  · subst h
    rfl
  · obtain ⟨k, hk⟩ := nat_of (show 0 ≤ y by omega)
    subst hk
    simp only [Int.ofNat_eq_natCast] at h2 ⊢
    obtain ⟨v, hv⟩ := at_some (show k < A.length by omega)
    rw [fL_at (v := fL l v) (by rw [List.getElem?_map, hv]; rfl)]
    unfold fA
    rw [if_neg (by omega), Int.toNat_natCast, List.getD_eq_getElem?_getD, hv]
    rfl
def lk (z : Int) (k : Nat) : List Int := (List.range k).map fun (i : Nat) => IntKind.wrap .i64 (z + 7 * (i : Int))
theorem lk_len (z : Int) (k : Nat) : (lk z k).length = k := by simp [lk]
theorem lk_succ (z : Int) (k : Nat) : lk z (k + 1) = lk z k ++ [IntKind.wrap .i64 (z + 7 * (k : Int))] := by
  unfold lk
  rw [List.range_succ, List.map_append]
  rfl
theorem _root_.Go.Proofs.Abs.Hs.freshz2 {M : List Nat} {h0 h h' : Hp} {L Z : List As} (H : Hs M h0 h L Z) (a : Ext h h') {x : As} (p : x.P h') (hn : ∀ n, n ∈ x.foot → h.c ≤ n ∨ ∃ z ∈ Z, n ∈ z.foot) : Hs M h0 h' L (x :: Z) := by
  have G := H.ext a
  refine ⟨G.fr, G.own, G.sep, fun z hz => ?_⟩
  rcases List.mem_cons.1 hz with rfl | hz
  · refine ⟨p, fun n h1 y hy h2 => ?_⟩
    rcases hn n h1 with h3 | ⟨z, hz, h3⟩
    · have := H.lt hy h2
      omega
    · exact (G.std z hz).2 n h3 y hy h2
  · exact G.std z hz
theorem _root_.Go.Proofs.Abs.Hs.two {M : List Nat} {h0 h h' : Hp} {L Z : List As} (H : Hs M h0 h L Z) (a : Ext h h') {w : AV} {xs : List Int} (p : OwnS h' w xs) (hn : ∀ n, nmO w = some n → h.c ≤ n) : Hs M h0 h' L (ows w xs :: isl w (xs.map I) :: Z) :=
  (H.freshz a (x := isl w (xs.map I)) p.isL (fun n h => hn n (nmO_mem.1 h))).zsub (z' := ows w xs) (z := isl w (xs.map I)) (.head _) p (fun _ h => h)
theorem _root_.Go.Proofs.Abs.Hs.grz {M : List Nat} {h0 h h' : Hp} {L Z : List As} (H : Hs M h0 h L Z) (a : Ext h h') {w : AV} {xs : List Int} (p : GL h' w xs) (hn : ∀ n, nmO w = some n → h.c ≤ n ∨ ∃ v ys k, gr 3 1 v ys k ∈ Z ∧ nmO v = some n) : Hs M h0 h' L (gr 3 1 w (xs.map I) xs.length :: isl w (xs.map I) :: Z) :=
  (H.freshz2 a (x := isl w (xs.map I)) (gr_isL p) (fun n h => by
    rcases hn n (nmO_mem.1 h) with h1 | ⟨v, ys, k, h1, h2⟩
    · exact .inl h1
    · exact .inr ⟨_, h1, nmO_mem.2 h2⟩)).zsub (z' := gr 3 1 w (xs.map I) xs.length) (z := isl w (xs.map I)) (.head _) p (fun _ h => h)
theorem j17 (h : Hp) (N : Nat) (s u : AV) (xs ys zs : List Int) (hs : IsL h s (xs.map I)) (hu : IsL h u (ys.map I)) (ok : Ok N xs) (hl : ys.length = N) (hz : xs.map (fL ys) = zs) : Wv (all8 17 [.agg [I (N : Int), s], u] h) (fun r h' => ∃ w, r = .tup [w, I 0] ∧ OwnS h' w zs ∧ Ext h h' ∧ ∀ m, nmO w = some m → h.c ≤ m) := by
  rw [all_run rfl, ← hz]; exact k17 6 h N s u xs ys hs hu ok.chk ok hl
theorem j17o (h : Hp) (N : Nat) (s u : AV) (xs ys : List Int) (hs : IsL h s (xs.map I)) (hu : IsL h u (ys.map I)) (ok : Ok N xs) (hl : ys.length ≠ N) : Wv (all8 17 [.agg [I (N : Int), s], u] h) (fun r h' => r = .tup [nilS, I 16] ∧ Ext h h') := by
  rw [all_run rfl]; exact c17o 6 h N s u xs ys hs hu ok.chk ok hl
theorem j25f (h : Hp) (n : Nat) (hn : n ≤ 4096) : Wv (all8 25 [I (n : Int)] h) (fun r h' => ∃ w, w = r ∧ GL h' w (upto n) ∧ Ext h h' ∧ ∀ m, nmO w = some m → h.c ≤ m) := by
  rw [all_run rfl]
  obtain ⟨r, h', e, x, g, f⟩ := c25 7 h n hn
  exact ⟨r, h', e, r, rfl, g, x, f⟩
theorem j31f (h : Hp) (nn : Int) (s v : AV) (st : List Q4) (l zs : List Int) (hs : IsR c4 4 h s st) (hok : ∀ x ∈ st, x.ok) (hv : GL h v l) (hl : l.length ≤ 1000) (hz : aft (st.take 12) l = zs) : Wv (all8 31 [.agg [U8 nn, s], v] h) (fun r h' => ∃ w, w = r ∧ GL h' w zs ∧ Ext h h' ∧ ∀ m, nmO w = some m → nmO v = some m ∨ h.c ≤ m) := by
  rw [all_run rfl]
  obtain ⟨r, h', e, x, g, f⟩ := k31 5 h nn s v st l hs hok hv hl
  exact ⟨r, h', e, r, rfl, by rw [← hz]; exact g, x, f⟩
theorem j12f (h : Hp) (N : Nat) (o2 : Int) (sa sb : AV) (xa xb zs : List Int) (ia : IsL h sa (xa.map I)) (ib : IsL h sb (xb.map I)) (oa : Ok N xa) (ob : Ok xa.length xb) (ho : o2 = (xa.length : Int)) (hz : cmpL xa xb = zs) : Wv (all8 12 [.agg [I (N : Int), sa], .agg [I o2, sb]] h) (fun r h' => ∃ w, r = .tup [.agg [I (N : Int), w], I 0] ∧ oneA w = true ∧ OwnS h' w zs ∧ Ext h h' ∧ ∀ m, nmO w = some m → h.c ≤ m) := by
  rw [all_run rfl, ← hz]
  have hb := ob.chk
  rw [ho]
  obtain ⟨r, h', e, ⟨x, s, rfl, o1, o2⟩, f⟩ := c12f 5 h N xa.length sa sb xa xb ia ib oa.chk hb rfl ob
  exact ⟨_, h', e, s, rfl, o1, o2, x, f s rfl⟩
theorem b54z : buildA ctx 54 [(1, nilS)] = some (.agg [U8 0, nilS]) := by kernel_rfl
theorem b54s (nm off l : Nat) (rr : Bool) (cap z : Nat) : buildA ctx 54 [(1, .slice nm off l rr cap z)] = some (.agg [U8 0, .slice nm off l rr cap z]) := by kernel_rfl
theorem b54 {α : Type} {f : α → List AV} {s : Nat} {h : Hp} {v : AV} {xs : List α} (r : IsR f s h v xs) : buildA ctx 54 [(1, v)] = some (.agg [U8 0, v]) := by
  rcases r with ⟨rfl, _⟩ | ⟨nm, off, rr, cap, z, rfl, _⟩
  · exact b54z
  · exact b54s _ _ _ _ _ _
theorem b24 {h : Hp} (o : Int) {v : AV} {xs : List AV} (r : IsL h v xs) : buildA ctx 24 [(0, I o), (1, v)] = some (.agg [I o, v]) := by
  rcases r with ⟨rfl, _⟩ | ⟨nm, off, rr, cap, z, rfl, _⟩
  · exact bld24z2 _
  · exact bld24 _ _ rfl
theorem wo_b54 {k : OpsK} {env : Env} {dst : Option Tmp} {h g : Hp} {Q : Env → Hp → Prop} {v : AV} {st : List Q4} (r : IsR c4 4 g v st) (h1 : Wo (k (putA env (.agg [U8 0, v]) dst) h) Q) : Wo (afterA k env dst (withH h (buildA ctx 54 [(1, v)]))) Q := by
  rw [b54 r]; exact h1
theorem wo_b24 {k : OpsK} {env : Env} {dst : Option Tmp} {h g : Hp} {Q : Env → Hp → Prop} {o : Int} {v : AV} {xs : List AV} (r : IsL g v xs) (h1 : Wo (k (putA env (.agg [I o, v]) dst) h) Q) : Wo (afterA k env dst (withH h (buildA ctx 24 [(0, I o), (1, v)]))) Q := by
  rw [b24 o r]; exact h1
end Go.Proofs.Ytdbajhklnaekjaa
