import Derived.Test.YtolpndlnabodgaaVG
import Derived.KernelRfl
namespace Go.Proofs.Ytolpndlnabodgaa
open Go Go.Proofs Go.RowKit Go.Proofs.Abs
set_option linter.unusedSimpArgs false
set_option linter.unusedVariables false
theorem Arn.mutx {b h' : Hp} {p : Nat} {s : AV} {fr lv : Int} {R : List (List AV)} (a : Arn b p s fr lv R) (x : Ext b h') : Mut b h' p s s fr lv R :=
  ⟨⟨a.b.fr (x.fr (fun _ => False)) (fun h => h), a.o.fr (x.fr (fun _ => False)) (fun _ _ h => h), a.ne⟩, x.fr _, fun _ h => .inl h⟩
def tkS (ls : List Ent) (fs : List Nat) (x : Int) : List Ent × List Nat :=
  match fs with
  | [] => (ls ++ [(1, true, x)], [])
  | f :: rr => (ls.set f (genOf ls f, true, x), rr)
def tkH (ls : List Ent) (fs : List Nat) : Q2 :=
  match fs with
  | [] => ((ls.length : Int), 1)
  | f :: _ => ((f : Int), genOf ls f)
def valAt (ls : List Ent) (i : Nat) : Int := match ls[i]? with | some p => p.2.2 | none => 0
def frS (ls : List Ent) (fs : List Nat) (i : Nat) (g : Int) : List Ent × List Nat := if vld ls i g = true then (ls.set i (g + 1, false, 0), i :: fs) else (ls, fs)
def frX (ls : List Ent) (i : Nat) (g : Int) : Int := if vld ls i g = true then valAt ls i else 0
def frE (ls : List Ent) (i : Nat) (g : Int) : Int := if vld ls i g = true then 0 else 11
def stS (ls : List Ent) (i : Nat) (g x : Int) : List Ent := if vld ls i g = true then ls.set i (g, true, x) else ls
def utS (ls : List Ent) (fs : List Nat) (i : Nat) (g : Int) : List Ent × List Nat := if vld ls i g = true then (if 1 < g then (ls.set i (g, false, 0), i :: fs) else if i + 1 < ls.length then (ls, fs) else (ls.take i, fs)) else (ls, fs)
def utE (ls : List Ent) (i : Nat) (g : Int) : Int := if vld ls i g = true then (if 1 < g then 0 else if i + 1 < ls.length then 10 else 0) else 11
def ufO (ls : List Ent) (fs : List Nat) (i : Nat) (g : Int) : Bool :=
  match fs with
  | [] => false
  | f :: _ => decide (f = i ∧ genOf ls f = g + 1 ∧ g ≠ 0)
def ufS (ls : List Ent) (fs : List Nat) (i : Nat) (g x : Int) : List Ent × List Nat := if ufO ls fs i g = true then (ls.set i (g, true, x), fs.tail) else (ls, fs)
def ufE (ls : List Ent) (fs : List Nat) (i : Nat) (g : Int) : Int := if ufO ls fs i g = true then 0 else 10
theorem valAt_at {ls : List Ent} {i : Nat} {p : Ent} (h : ls[i]? = some p) : valAt ls i = p.2.2 := by unfold valAt; rw [h]
/-- what is always so, in all that the laws do -/
structure Iv (K : Nat) (ls : List Ent) (fs : List Nat) : Prop where
  v : Inv K ls fs
  val : ∀ (i : Nat) (p : Ent), ls[i]? = some p → 0 ≤ p.2.2 ∧ p.2.2 < 256
  g2 : ∀ (i : Nat) (g x : Int), ls[i]? = some (g, false, x) → 2 ≤ g
theorem Iv.nil : Iv 0 [] [] := ⟨Inv.nil, fun i p h => (by cases h), fun i g x h => (by cases h)⟩
theorem Iv.mono {K K' : Nat} {ls : List Ent} {fs : List Nat} (v : Iv K ls fs) (h : K ≤ K') : Iv K' ls fs := ⟨v.v.mono h, v.val, v.g2⟩
theorem Iv.upd {K K' : Nat} {ls : List Ent} {fs fs' : List Nat} (v : Iv K ls fs) {i : Nat} {q : Ent} (hi : i < ls.length) (w : Inv K' (ls.set i q) fs') (hq : 0 ≤ q.2.2 ∧ q.2.2 < 256) (h2 : q.2.1 = false → 2 ≤ q.1) : Iv K' (ls.set i q) fs' := by
  refine ⟨w, fun j p h => ?_, fun j g x h => ?_⟩
  · rw [get_set hi] at h
    split at h
    · cases h; exact hq
    · exact v.val j p h
  · rw [get_set hi] at h
    split at h
    · cases h; exact h2 rfl
    · exact v.g2 j g x h
theorem Iv.tk {K : Nat} {ls : List Ent} {fs : List Nat} (v : Iv K ls fs) {x : Int} (hx : Inb x) : Iv (K + 1) (tkS ls fs x).1 (tkS ls fs x).2 := by
  cases fs with
  | nil =>
    have at_ : ∀ (i : Nat) (p : Ent), (ls ++ [((1, true, x) : Ent)])[i]? = some p → ls[i]? = some p ∨ p = (1, true, x) := fun i p h => by
      rcases Nat.lt_trichotomy i ls.length with h1 | h1 | h1
      · rw [List.getElem?_append_left h1] at h; exact .inl h
      · subst h1; rw [List.getElem?_append_right (Nat.le_refl _), Nat.sub_self] at h; exact .inr (Option.some.inj h).symm
      · rw [List.getElem?_eq_none (by simp; omega)] at h; cases h
    refine ⟨v.v.take0 x, fun i p h => ?_, fun i g y h => ?_⟩
    · rcases at_ i p h with h1 | rfl
      · exact v.val i p h1
      · exact hx
    · rcases at_ i _ h with h1 | h1
      · exact v.g2 i g y h1
      · cases h1
  | cons f rr =>
    obtain ⟨g, x0, hp⟩ := (v.v.fsI f).1 (.head _)
    have e : genOf ls f = g := genOf_at hp
    show Iv (K + 1) (ls.set f (genOf ls f, true, x)) rr
    rw [e]
    exact v.upd (List.getElem?_eq_some_iff.1 hp).1 (v.v.takeF hp x) hx (fun h => by cases h)
theorem Iv.fr {K : Nat} {ls : List Ent} {fs : List Nat} (v : Iv K ls fs) (i : Nat) (g : Int) : Iv (K + 1) (frS ls fs i g).1 (frS ls fs i g).2 := by
  unfold frS
  split
  · rename_i h
    obtain ⟨x, hp⟩ := vld_t h
    have := v.v.gen i _ hp
    simp only at this
    exact v.upd (List.getElem?_eq_some_iff.1 hp).1 (v.v.free hp (g + 1) (by omega) (Int.le_refl _)) ⟨by simp, by simp⟩ (fun _ => by simp; omega)
  · exact v.mono (Nat.le_succ _)
theorem Iv.st {K : Nat} {ls : List Ent} {fs : List Nat} (v : Iv K ls fs) (i : Nat) (g : Int) {x : Int} (hx : Inb x) : Iv (K + 1) (stS ls i g x) fs := by
  unfold stS
  split
  · rename_i h
    obtain ⟨x0, hp⟩ := vld_t h
    have hg := v.v.gen i _ hp
    simp only at hg
    have hil := (List.getElem?_eq_some_iff.1 hp).1
    refine v.upd hil (v.v.upd (Nat.le_succ _) hil (by simp; omega) v.v.nd (fun j => ?_) (fun h => by cases h)) hx (fun h => by cases h)
    by_cases e : i = j
    · subst e
      rw [if_pos rfl]
      exact ⟨fun h => (by obtain ⟨g2, x2, h2⟩ := (v.v.fsI i).1 h; rw [hp] at h2; cases h2), fun h => (by cases h)⟩
    · rw [if_neg e]
  · exact v.mono (Nat.le_succ _)
theorem take_at {α : Type} {ls : List α} {i j : Nat} {p : α} (h : (ls.take i)[j]? = some p) : j < i ∧ ls[j]? = some p := by
  rw [List.getElem?_take] at h
  split at h
  · rename_i h2; exact ⟨h2, h⟩
  · cases h
theorem Iv.ut {K : Nat} {ls : List Ent} {fs : List Nat} (v : Iv K ls fs) (i : Nat) (g : Int) : Iv (K + 1) (utS ls fs i g).1 (utS ls fs i g).2 := by
  unfold utS
  split
  · rename_i h
    obtain ⟨x, hp⟩ := vld_t h
    have hil := (List.getElem?_eq_some_iff.1 hp).1
    have hg := v.v.gen i _ hp
    simp only at hg
    split
    · exact v.upd hil (v.v.free hp g (Int.le_refl _) (by omega)) ⟨by simp, by simp⟩ (fun _ => by simp; omega)
    · split
      · exact v.mono (Nat.le_succ _)
      · refine ⟨⟨?_, fun j p h1 => ?_, v.v.nd, fun j => ⟨fun h1 => ?_, fun ⟨g2, x2, h1⟩ => (v.v.fsI j).2 ⟨g2, x2, (take_at h1).2⟩⟩, fun j g2 x2 h1 => v.v.zero j g2 x2 (take_at h1).2⟩, fun j p h1 => v.val j p (take_at h1).2, fun j g2 x2 h1 => v.g2 j g2 x2 (take_at h1).2⟩
        · rw [List.length_take]
          have := v.v.n
          omega
        · have := v.v.gen j p (take_at h1).2
          omega
        · obtain ⟨g2, x2, h2⟩ := (v.v.fsI j).1 h1
          have h3 := (List.getElem?_eq_some_iff.1 h2).1
          have h4 : j ≠ i := fun e => by subst e; rw [hp] at h2; cases h2
          refine ⟨g2, x2, ?_⟩
          rw [List.getElem?_take, if_pos (by omega)]
          exact h2
  · exact v.mono (Nat.le_succ _)
theorem ufO_t {ls : List Ent} {fs : List Nat} {i : Nat} {g : Int} (h : ufO ls fs i g = true) : ∃ rr, fs = i :: rr ∧ genOf ls i = g + 1 ∧ g ≠ 0 := by
  cases fs with
  | nil => cases h
  | cons f rr =>
    obtain ⟨h1, h2, h3⟩ := of_decide_eq_true h
    subst h1
    exact ⟨rr, rfl, h2, h3⟩
theorem Iv.uf {K : Nat} {ls : List Ent} {fs : List Nat} (v : Iv K ls fs) (i : Nat) (g : Int) {x : Int} (hx : Inb x) : Iv (K + 1) (ufS ls fs i g x).1 (ufS ls fs i g x).2 := by
  unfold ufS
  split
  · rename_i h
    obtain ⟨rr, rfl, h2, h3⟩ := ufO_t h
    obtain ⟨g1, x0, hp⟩ := (v.v.fsI i).1 (.head _)
    have e : genOf ls i = g1 := genOf_at hp
    have hil := (List.getElem?_eq_some_iff.1 hp).1
    have hg := v.v.gen i _ hp
    simp only at hg
    obtain ⟨n1, n2⟩ := List.nodup_cons.1 v.v.nd
    refine v.upd hil (v.v.upd (Nat.le_succ _) hil (by simp; omega) n2 (fun j => ?_) (fun h => by cases h)) hx (fun h => by cases h)
    by_cases e2 : i = j
    · subst e2; rw [if_pos rfl]; exact ⟨fun h => absurd h n1, fun h => by cases h⟩
    · rw [if_neg e2]; exact ⟨fun h => .tail _ h, fun h => (List.mem_cons.1 h).elim (fun h => absurd h.symm e2) id⟩
  · exact v.mono (Nat.le_succ _)


theorem m20 (d : Nat) (b : Hp) (p : Nat) (s : AV) (ls : List Ent) (fs : List Nat) (K : Nat) (hK : K ≤ 1000) (v : Iv K ls fs) (a : Arn b p s (nxt fs) (cnt ls) (rws ls fs)) (x : Int) : Wv (runA ctx 5000 (d + 3) 20 [.ptr p 0, I x] b) (fun r h' => ∃ s', r = .tup [.agg [U32 (tkH ls fs).1, U32 (tkH ls fs).2], I 0] ∧ Mut b h' p s s' (nxt (tkS ls fs x).2) (cnt (tkS ls fs x).1) (rws (tkS ls fs x).1 (tkS ls fs x).2)) := by
  cases fs with
  | nil =>
    refine (k20a (d + 1) b p s ls [] K hK v.v a x rfl).mono (fun r h' ⟨s', e, m⟩ => ⟨s', e, ?_⟩)
    show Mut b h' p s s' 0 (cnt (ls ++ [(1, true, x)])) _
    rw [cnt_app]
    exact m
  | cons f rr =>
    obtain ⟨g, x0, hp⟩ := (v.v.fsI f).1 (.head _)
    have e : genOf ls f = g := genOf_at hp
    show Wv _ (fun r h' => ∃ s', r = .tup [.agg [U32 (f : Int), U32 (genOf ls f)], I 0] ∧ Mut b h' p s s' (nxt rr) (cnt (ls.set f (genOf ls f, true, x))) (rws (ls.set f (genOf ls f, true, x)) rr))
    rw [e]
    refine (k20b (d + 1) b p s ls (f :: rr) K hK v.v a x g x0 f rr rfl hp).mono (fun r h' ⟨e, m⟩ => ⟨s, e, ?_⟩)
    rw [cnt_set hp]
    simpa using m
theorem m21 (d : Nat) (b : Hp) (p : Nat) (s : AV) (ls : List Ent) (fs : List Nat) (K : Nat) (hK : K ≤ 1000) (v : Iv K ls fs) (a : Arn b p s (nxt fs) (cnt ls) (rws ls fs)) (i : Nat) (g : Int) (hi : i < 4294967296) (hg : 0 ≤ g ∧ g < 4294967296) : Wv (runA ctx 5000 (d + 3) 21 [.ptr p 0, .agg [U32 (i : Int), U32 g]] b) (fun r h' => r = .tup [I (frX ls i g), I (frE ls i g)] ∧ Mut b h' p s s (nxt (frS ls fs i g).2) (cnt (frS ls fs i g).1) (rws (frS ls fs i g).1 (frS ls fs i g).2)) := by
  unfold frX frE frS
  cases hv : vld ls i g with
  | true =>
    obtain ⟨x0, hp⟩ := vld_t hv
    have hgn := v.v.gen i _ hp
    simp only at hgn
    rw [valAt_at hp]
    refine (k21a d b p s ls fs K hK v.v a i g hi hg x0 hp (by omega)).mono (fun r h' ⟨e, m⟩ => ⟨e, ?_⟩)
    show Mut b h' p s s ((i : Int) + 1) (cnt (ls.set i (g + 1, false, 0))) (rws (ls.set i (g + 1, false, 0)) (i :: fs))
    rw [cnt_set hp]
    simpa using m
  | false => exact (k21b d b p s ls fs K hK v.v a i g hi hg hv).mono (fun r h' ⟨e, hx⟩ => ⟨e, a.mutx hx⟩)
theorem m26 (d : Nat) (b : Hp) (p : Nat) (s : AV) (ls : List Ent) (fs : List Nat) (K : Nat) (hK : K ≤ 1000) (v : Iv K ls fs) (a : Arn b p s (nxt fs) (cnt ls) (rws ls fs)) (i : Nat) (g : Int) (hi : i < 4294967296) (hg : 0 ≤ g ∧ g < 4294967296) : Wv (runA ctx 5000 (d + 3) 26 [.ptr p 0, .agg [U32 (i : Int), U32 g]] b) (fun r h' => r = .tup [I (frX ls i g), I (frE ls i g)] ∧ Ext b h') := by
  unfold frX frE
  cases hv : vld ls i g with
  | true =>
    obtain ⟨x0, hp⟩ := vld_t hv
    rw [valAt_at hp]
    exact k26a (d + 1) b p s ls fs K hK v.v a i g hi hg x0 hp
  | false => exact k26b (d + 1) b p s ls fs K hK v.v a i g hi hg hv
theorem m18 (d : Nat) (b : Hp) (p : Nat) (s : AV) (ls : List Ent) (fs : List Nat) (K : Nat) (hK : K ≤ 1000) (v : Iv K ls fs) (a : Arn b p s (nxt fs) (cnt ls) (rws ls fs)) (i : Nat) (g : Int) (hi : i < 4294967296) (hg : 0 ≤ g ∧ g < 4294967296) (x : Int) : Wv (runA ctx 5000 (d + 3) 18 [.ptr p 0, .agg [U32 (i : Int), U32 g], I x] b) (fun r h' => r = I (frE ls i g) ∧ Mut b h' p s s (nxt fs) (cnt (stS ls i g x)) (rws (stS ls i g x) fs)) := by
  unfold frE stS
  cases hv : vld ls i g with
  | true =>
    obtain ⟨x0, hp⟩ := vld_t hv
    refine (k18a (d + 1) b p s ls fs K hK v.v a i g hi hg x0 hp x).mono (fun r h' ⟨e, m⟩ => ⟨e, ?_⟩)
    show Mut b h' p s s (nxt fs) (cnt (ls.set i (g, true, x))) (rws (ls.set i (g, true, x)) fs)
    rw [cnt_set hp]
    simpa using m
  | false => exact (k18b (d + 1) b p s ls fs K hK v.v a i g hi hg x hv).mono (fun r h' ⟨e, hx⟩ => ⟨e, a.mutx hx⟩)
theorem m16 (d : Nat) (b : Hp) (p : Nat) (s : AV) (ls : List Ent) (fs : List Nat) (K : Nat) (hK : K ≤ 1000) (v : Iv K ls fs) (a : Arn b p s (nxt fs) (cnt ls) (rws ls fs)) (i : Nat) (g : Int) (hi : i < 4294967296) (hg : 0 ≤ g ∧ g < 4294967296) : Wv (runA ctx 5000 (d + 3) 16 [.ptr p 0, .agg [U32 (i : Int), U32 g]] b) (fun r h' => ∃ s', r = I (utE ls i g) ∧ Mut b h' p s s' (nxt (utS ls fs i g).2) (cnt (utS ls fs i g).1) (rws (utS ls fs i g).1 (utS ls fs i g).2)) := by
  unfold utE utS
  cases hv : vld ls i g with
  | true =>
    obtain ⟨x0, hp⟩ := vld_t hv
    have hgn := v.v.gen i _ hp
    simp only at hgn
    have hil := (List.getElem?_eq_some_iff.1 hp).1
    rw [if_pos rfl, if_pos rfl]
    by_cases h1 : 1 < g
    · rw [if_pos h1, if_pos h1]
      refine (k16a (d + 1) b p s ls fs K hK v.v a i g hi hg x0 hp h1).mono (fun r h' ⟨e, m⟩ => ⟨s, e, ?_⟩)
      show Mut b h' p s s ((i : Int) + 1) (cnt (ls.set i (g, false, 0))) (rws (ls.set i (g, false, 0)) (i :: fs))
      rw [cnt_set hp]
      simpa using m
    · rw [if_neg h1, if_neg h1]
      have hg1 : g = 1 := by omega
      by_cases h2 : i + 1 < ls.length
      · rw [if_pos h2, if_pos h2]
        exact (k16b (d + 1) b p s ls fs K hK v.v a i g hi hg x0 hp hg1 h2).mono (fun r h' ⟨e, hx⟩ => ⟨s, e, a.mutx hx⟩)
      · rw [if_neg h2, if_neg h2]
        refine (k16c (d + 1) b p s ls fs K hK v.v a i g hi hg x0 hp hg1 (by omega)).mono (fun r h' ⟨s', e, m⟩ => ⟨s', e, ?_⟩)
        show Mut b h' p s s' (nxt fs) (cnt (ls.take i)) (rws (ls.take i) fs)
        rw [cnt_take_last hp (by omega)]
        simpa using m
  | false =>
    rw [if_neg (by simp), if_neg (by simp)]
    exact (k16d (d + 1) b p s ls fs K hK v.v a i g hi hg hv).mono (fun r h' ⟨e, hx⟩ => ⟨s, e, a.mutx hx⟩)
theorem ufO_f {ls : List Ent} {fs : List Nat} {i : Nat} {g : Int} (h : ufO ls fs i g = false) : ∀ x0 rr, fs = i :: rr → ls[i]? = some (g + 1, false, x0) → g = 0 := by
  rintro x0 rr rfl hp
  have h2 : ¬ (i = i ∧ genOf ls i = g + 1 ∧ g ≠ 0) := of_decide_eq_false h
  by_cases h3 : g = 0
  · exact h3
  · exact absurd ⟨rfl, genOf_at hp, h3⟩ h2
theorem m17 (d : Nat) (b : Hp) (p : Nat) (s : AV) (ls : List Ent) (fs : List Nat) (K : Nat) (hK : K ≤ 1000) (v : Iv K ls fs) (a : Arn b p s (nxt fs) (cnt ls) (rws ls fs)) (i : Nat) (g : Int) (hi : i < 4294967296) (hg : 0 ≤ g ∧ g < 4294967296) (x : Int) : Wv (runA ctx 5000 (d + 3) 17 [.ptr p 0, .agg [U32 (i : Int), U32 g], I x] b) (fun r h' => r = I (ufE ls fs i g) ∧ Mut b h' p s s (nxt (ufS ls fs i g x).2) (cnt (ufS ls fs i g x).1) (rws (ufS ls fs i g x).1 (ufS ls fs i g x).2)) := by
  unfold ufE ufS
  cases hv : ufO ls fs i g with
  | true =>
    obtain ⟨rr, rfl, h2, h3⟩ := ufO_t hv
    obtain ⟨g1, x0, hp⟩ := (v.v.fsI i).1 (.head _)
    have e : genOf ls i = g1 := genOf_at hp
    have e2 : g1 = g + 1 := by omega
    subst e2
    refine (k17a (d + 1) b p s ls (i :: rr) K hK v.v a i g hi hg x x0 rr rfl hp h3).mono (fun r h' ⟨e, m⟩ => ⟨e, ?_⟩)
    show Mut b h' p s s (nxt rr) (cnt (ls.set i (g, true, x))) (rws (ls.set i (g, true, x)) rr)
    rw [cnt_set hp]
    simpa using m
  | false => exact (k17b (d + 1) b p s ls fs K hK v.v a i g hi hg x (ufO_f hv)).mono (fun r h' ⟨e, hx⟩ => ⟨e, a.mutx hx⟩)
/-- what a function of the definition returns, if it may return what it was given -/
structure RX (b h' : Hp) (vL vF wL wF : AV) (ls : List Ent) (fs : List Nat) : Prop where
  l : IsR c3e 3 h' wL ls
  f : Lc false h' wF ((fi fs).map I)
  x : Ext b h'
  nm : ∀ m, (nmO wL = some m ∨ nmO wF = some m) → b.c ≤ m ∨ nmO vL = some m ∨ nmO vF = some m
theorem RA.rx {b h' : Hp} {vL vF wL wF : AV} {ls : List Ent} {fs : List Nat} (r : RA b h' wL wF ls fs) : RX b h' vL vF wL wF ls fs := ⟨r.l, r.f, r.x, fun m h => h.elim (fun h => .inl (r.nl m h)) (fun h => .inl (r.nf m h))⟩
theorem RX.same {b h' : Hp} {vL vF : AV} {ls : List Ent} {fs : List Nat} (pL : IsR c3e 3 b vL ls) (pF : Lc false b vF ((fi fs).map I)) (x : Ext b h') : RX b h' vL vF vL vF ls fs := ⟨pL.fr (x.fr (fun _ => False)) (fun _ _ h => h), pF.ext x, x, fun m h => .inr h⟩
theorem Iv.len {K : Nat} {ls : List Ent} {fs : List Nat} (v : Iv K ls fs) (hK : K ≤ 1000) : ls.length ≤ 1000 ∧ fs.length ≤ 1000 := by
  have h1 := v.v.n
  have h2 := nodup_bound _ _ v.v.nd (fun f hf => by obtain ⟨g, x, h⟩ := (v.v.fsI f).1 hf; exact (List.getElem?_eq_some_iff.1 h).1)
  omega
theorem r28 (d : Nat) (b : Hp) (vL vF : AV) (ls : List Ent) (fs : List Nat) (K : Nat) (hK : K ≤ 1000) (v : Iv K ls fs) (pL : IsR c3e 3 b vL ls) (pF : Lc false b vF ((fi fs).map I)) (x : Int) : Wv (runA ctx 5000 (d + 3) 28 [.agg [vL, vF], I x] b) (fun r h' => ∃ wL wF, r = .tup [.agg [wL, wF], .agg [U32 (tkH ls fs).1, U32 (tkH ls fs).2]] ∧ RX b h' vL vF wL wF (tkS ls fs x).1 (tkS ls fs x).2) := by
  obtain ⟨hl, hf⟩ := v.len hK
  cases fs with
  | nil => exact (k28a (d + 1) b vL vF ls [] pL pF hl hf x rfl).mono (fun r h' ⟨wL, wF, e, m⟩ => ⟨wL, wF, e, m.rx⟩)
  | cons f rr =>
    obtain ⟨g, x0, hp⟩ := (v.v.fsI f).1 (.head _)
    have e : genOf ls f = g := genOf_at hp
    show Wv _ (fun r h' => ∃ wL wF, r = .tup [.agg [wL, wF], .agg [U32 (f : Int), U32 (genOf ls f)]] ∧ RX b h' vL vF wL wF (ls.set f (genOf ls f, true, x)) rr)
    rw [e]
    exact (k28b (d + 1) b vL vF ls (f :: rr) pL pF hl hf x g x0 f rr rfl hp).mono (fun r h' ⟨wL, wF, e, m⟩ => ⟨wL, wF, e, m.rx⟩)
theorem r15 (d : Nat) (b : Hp) (vL vF : AV) (ls : List Ent) (fs : List Nat) (K : Nat) (hK : K ≤ 1000) (v : Iv K ls fs) (pL : IsR c3e 3 b vL ls) (pF : Lc false b vF ((fi fs).map I)) (i : Nat) (g : Int) (hi : i < 4294967296) (hg : 0 ≤ g ∧ g < 4294967296) : Wv (runA ctx 5000 (d + 3) 15 [.agg [vL, vF], .agg [U32 (i : Int), U32 g]] b) (fun r h' => r = Bo (vld ls i g) ∧ Ext b h') := k15 (d + 2) b vL vF ls fs pL pF (v.len hK).1 (v.len hK).2 i g hi hg
theorem r29 (d : Nat) (b : Hp) (vL vF : AV) (ls : List Ent) (fs : List Nat) (K : Nat) (hK : K ≤ 1000) (v : Iv K ls fs) (pL : IsR c3e 3 b vL ls) (pF : Lc false b vF ((fi fs).map I)) (i : Nat) (g : Int) (hi : i < 4294967296) (hg : 0 ≤ g ∧ g < 4294967296) : Wv (runA ctx 5000 (d + 3) 29 [.agg [vL, vF], .agg [U32 (i : Int), U32 g]] b) (fun r h' => ∃ wL wF, r = .tup [.agg [wL, wF], I (frX ls i g), I (frE ls i g)] ∧ RX b h' vL vF wL wF (frS ls fs i g).1 (frS ls fs i g).2) := by
  obtain ⟨hl, hf⟩ := v.len hK
  unfold frX frE frS
  cases hv : vld ls i g with
  | true =>
    obtain ⟨x0, hp⟩ := vld_t hv
    have hgn := v.v.gen i _ hp
    simp only at hgn
    rw [valAt_at hp]
    exact (k29a (d + 1) b vL vF ls fs pL pF hl hf i g hi hg x0 hp (by omega)).mono (fun r h' ⟨wL, wF, e, m⟩ => ⟨wL, wF, e, m.rx⟩)
  | false => exact (k29b (d + 1) b vL vF ls fs pL pF hl hf i g hi hg hv).mono (fun r h' ⟨e, hx⟩ => ⟨vL, vF, e, RX.same pL pF hx⟩)
theorem r30 (d : Nat) (b : Hp) (vL vF : AV) (ls : List Ent) (fs : List Nat) (K : Nat) (hK : K ≤ 1000) (v : Iv K ls fs) (pL : IsR c3e 3 b vL ls) (pF : Lc false b vF ((fi fs).map I)) (i : Nat) (g : Int) (hi : i < 4294967296) (hg : 0 ≤ g ∧ g < 4294967296) : Wv (runA ctx 5000 (d + 3) 30 [.agg [vL, vF], .agg [U32 (i : Int), U32 g]] b) (fun r h' => ∃ wL wF, r = .tup [.agg [wL, wF], I (utE ls i g)] ∧ RX b h' vL vF wL wF (utS ls fs i g).1 (utS ls fs i g).2) := by
  obtain ⟨hl, hf⟩ := v.len hK
  unfold utE utS
  cases hv : vld ls i g with
  | true =>
    obtain ⟨x0, hp⟩ := vld_t hv
    have hgn := v.v.gen i _ hp
    simp only at hgn
    have hil := (List.getElem?_eq_some_iff.1 hp).1
    rw [if_pos rfl, if_pos rfl]
    by_cases h1 : 1 < g
    · rw [if_pos h1, if_pos h1]
      exact (k30a (d + 1) b vL vF ls fs pL pF hl hf i g hi hg x0 hp h1).mono (fun r h' ⟨wL, wF, e, m⟩ => ⟨wL, wF, e, m.rx⟩)
    · rw [if_neg h1, if_neg h1]
      have hg1 : g = 1 := by omega
      by_cases h2 : i + 1 < ls.length
      · rw [if_pos h2, if_pos h2]
        exact (k30b (d + 1) b vL vF ls fs pL pF hl hf i g hi hg x0 hp hg1 h2).mono (fun r h' ⟨e, hx⟩ => ⟨vL, vF, e, RX.same pL pF hx⟩)
      · rw [if_neg h2, if_neg h2]
        exact (k30c (d + 1) b vL vF ls fs pL pF hl hf i g hi hg x0 hp hg1 (by omega)).mono (fun r h' ⟨wL, wF, e, m⟩ => ⟨wL, wF, e, m.rx⟩)
  | false =>
    rw [if_neg (by simp), if_neg (by simp)]
    exact (k30d (d + 1) b vL vF ls fs pL pF hl hf i g hi hg hv).mono (fun r h' ⟨e, hx⟩ => ⟨vL, vF, e, RX.same pL pF hx⟩)
theorem r31 (d : Nat) (b : Hp) (vL vF : AV) (ls : List Ent) (fs : List Nat) (K : Nat) (hK : K ≤ 1000) (v : Iv K ls fs) (pL : IsR c3e 3 b vL ls) (pF : Lc false b vF ((fi fs).map I)) (i : Nat) (g : Int) (hi : i < 4294967296) (hg : 0 ≤ g ∧ g < 4294967296) (x : Int) : Wv (runA ctx 5000 (d + 3) 31 [.agg [vL, vF], .agg [U32 (i : Int), U32 g], I x] b) (fun r h' => ∃ wL wF, r = .tup [.agg [wL, wF], I (ufE ls fs i g)] ∧ RX b h' vL vF wL wF (ufS ls fs i g x).1 (ufS ls fs i g x).2) := by
  obtain ⟨hl, hf⟩ := v.len hK
  unfold ufE ufS
  cases hv : ufO ls fs i g with
  | true =>
    obtain ⟨rr, rfl, h2, h3⟩ := ufO_t hv
    obtain ⟨g1, x0, hp⟩ := (v.v.fsI i).1 (.head _)
    have e : genOf ls i = g1 := genOf_at hp
    have e2 : g1 = g + 1 := by omega
    have hgn := v.v.gen i _ hp
    simp only at hgn
    subst e2
    exact (k31a (d + 1) b vL vF ls (i :: rr) pL pF hl hf i g hi hg x x0 rr rfl hp h3 (by omega)).mono (fun r h' ⟨wL, wF, e, m⟩ => ⟨wL, wF, e, m.rx⟩)
  | false => exact (k31b (d + 1) b vL vF ls fs pL pF hl hf i g hi hg x K hK v.v (ufO_f hv)).mono (fun r h' ⟨e, hx⟩ => ⟨vL, vF, e, RX.same pL pF hx⟩)


theorem _root_.Go.Proofs.Abs.Hs.rx {M : List Nat} {h0 h h' : Hp} {L Z : List As} {vL vF wL wF : AV} {ls ls0 : List Ent} {fs : List Nat} {ys : List AV} (H : Hs M h0 h L Z) (r : RX h h' vL vF wL wF ls fs) (h1 : isr c3e 3 vL ls0 ∈ Z) (h2 : lc false vF ys ∈ Z) : Hs M h0 h' L (isl wF ((fi fs).map I) :: lc false wF ((fi fs).map I) :: isr c3e 3 wL ls :: Z) := by
  have G := H.ext r.x
  have key : ∀ n, (nmO wL = some n ∨ nmO wF = some n) → ∀ a, a ∈ L → n ∉ a.foot := fun n hn a ha h9 => by
    rcases r.nm n hn with h3 | h3 | h3
    · have := H.lt ha h9
      omega
    · exact (H.std _ h1).2 n (nmO_mem.2 h3) a ha h9
    · exact (H.std _ h2).2 n (nmO_mem.2 h3) a ha h9
  have G1 := G.z1 (z := isr c3e 3 wL ls) r.l (fun n hn => key n (.inl (nmO_mem.1 hn)))
  have G2 := G1.z1 (z := lc false wF ((fi fs).map I)) r.f (fun n hn => key n (.inr (nmO_mem.1 hn)))
  exact G2.z1 (z := isl wF ((fi fs).map I)) r.f.isL (fun n hn => key n (.inr (nmO_mem.1 hn)))
inductive Out : List As → As → List As → Prop where
  | here (a : As) (l : List As) : Out (a :: l) a l
  | there (b : As) {a : As} {l l' : List As} (p : Out l a l') : Out (b :: l) a (b :: l')
theorem Out.perm {L L' : List As} {a : As} (p : Out L a L') : (a :: L').Perm L := by
  induction p with
  | here a l => exact List.Perm.refl _
  | there b p ih => exact (List.Perm.swap _ _ _).trans (ih.cons b)
theorem _root_.Go.Proofs.Abs.Hs.frzO {M : List Nat} {h0 h : Hp} {L L' Z : List As} {v : AV} {ls : List Ent} (H : Hs M h0 h L Z) (p : Out L (owr 46 3 v (ls.map c3e)) L') : Hs M h0 h L' (isr c3e 3 v ls :: Z) := (H.perm p.perm).frz (fun _ _ => rfl)
/-- what a call makes of the slots, the free ones, and the handles -/
def opS (o1 o2 o3 : Int) (ls : List Ent) (fs : List Nat) (all : List Q2) : List Ent × List Nat × List Q2 :=
  let k := o1.tmod 8
  let i := (pickF o2 all).1.toNat
  let g := (pickF o2 all).2
  if k ≤ 2 then ((tkS ls fs o3).1, (tkS ls fs o3).2, all ++ [tkH ls fs])
  else if k ≤ 4 then ((frS ls fs i g).1, (frS ls fs i g).2, all)
  else if k = 5 then (stS ls i g o3, fs, all)
  else if k = 6 then ((utS ls fs i g).1, (utS ls fs i g).2, all)
  else ((ufS ls fs i g o3).1, (ufS ls fs i g o3).2, all)
theorem frE_t {ls : List Ent} {i : Nat} {g : Int} (h : vld ls i g = true) : frE ls i g = 0 := by unfold frE; rw [if_pos h]
theorem frE_f {ls : List Ent} {i : Nat} {g : Int} (h : vld ls i g = false) : frE ls i g = 11 := by unfold frE; rw [if_neg (by rw [h]; simp)]
theorem tkH_rng {K : Nat} {ls : List Ent} {fs : List Nat} (v : Iv K ls fs) (hK : K ≤ 1000) : ∃ j : Nat, (tkH ls fs).1 = (j : Int) ∧ j < 4294967296 ∧ (0 ≤ (tkH ls fs).2 ∧ (tkH ls fs).2 < 4294967296) ∧ ∀ x, vld (tkS ls fs x).1 j (tkH ls fs).2 = true := by
  have hn := v.v.n
  cases fs with
  | nil =>
    refine ⟨ls.length, rfl, by omega, (by show (0 : Int) ≤ 1 ∧ (1 : Int) < 4294967296; omega), fun x => ?_⟩
    exact vld_used (g' := 1) (x := x) (by rw [show (tkS ls [] x).1 = ls ++ [((1, true, x) : Ent)] from rfl, List.getElem?_append_right (Nat.le_refl _), Nat.sub_self]; rfl)
  | cons f rr =>
    obtain ⟨g, x0, hp⟩ := (v.v.fsI f).1 (.head _)
    have hil := (List.getElem?_eq_some_iff.1 hp).1
    have e : genOf ls f = g := genOf_at hp
    have hg := v.v.gen f _ hp
    simp only at hg
    refine ⟨f, rfl, by omega, ?_, fun x => ?_⟩
    · show 0 ≤ genOf ls f ∧ genOf ls f < 4294967296
      omega
    · show vld (ls.set f (genOf ls f, true, x)) f (genOf ls f) = true
      rw [vld_used (by rw [get_set hil, if_pos rfl])]
      simp
def BL (q0 p : Nat) (s vL vF u : AV) (ls : List Ent) (fs : List Nat) (all : List Q2) : List As := [blk id q0 [.ptr p 0, vL, vF, u], blk id p [s, I (nxt fs), I (cnt ls)], owr 77 4 s (rws ls fs), owr 42 2 u (all.map c2h)]
def BZ (vL vF : AV) (ls : List Ent) (fs : List Nat) : List As := [isl vF ((fi fs).map I), lc false vF ((fi fs).map I), isr c3e 3 vL ls]
theorem av_ag {a b : AV} (h1 : avB 3 a a = true) (h2 : avB 3 b b = true) : avB 4 (.agg [a, b]) (.agg [a, b]) = true := by
  show (avB 3 a a && (avB 3 b b && true)) = true
  rw [h1, h2]
  rfl
theorem av_sl3 (n o l c z : Nat) (r : Bool) : avB 3 (.slice n o l r c z) (.slice n o l r c z) = true := by
  show ((n == n) && (o == o) && (l == l) && (r == r) && (c == c) && (z == z)) = true
  simp
theorem isr_av3 {α : Type} {f : α → List AV} {s : Nat} {h : Hp} {w : AV} {ys : List α} (r : IsR f s h w ys) : avB 3 w w = true := by
  rcases r with ⟨rfl, _⟩ | ⟨nm, off, rest, cap, z, rfl, _, _⟩
  · rfl
  · exact av_sl3 _ _ _ _ _ _
theorem isl_av3 {h : Hp} {w : AV} {ys : List AV} (r : IsL h w ys) : avB 3 w w = true := by
  rcases r with ⟨rfl, _⟩ | ⟨nm, off, rest, cap, z, rfl, _, _⟩
  · rfl
  · exact av_sl3 _ _ _ _ _ _
theorem av_h (a b : Int) : avB 4 (.agg [U32 a, U32 b]) (.agg [U32 a, U32 b]) = true := by
  refine av_ag ?_ ?_ <;> · show ((IntKind.u32 == IntKind.u32) && (_ == _)) = true
                           simp


/-- a part of a text -/
def subC : List Bool → Code → Code
  | [], c => c
  | b :: l, .seq x y => subC l (cond b y x)
  | b :: l, .cond _ x y => subC l (cond b y x)
  | _ :: l, .block _ x => subC l x
  | _ :: l, .loop x => subC l x
  | _ :: l, .scope x => subC l x
  | _, c => c
def bodyC (fn : Func) : Code := fn.body.getD .skip
theorem owr_av3 {e s : Nat} {h : Hp} {w : AV} {R : List (List AV)} (r : OwR e s h w R) : avB 3 w w = true := by
  rcases r.is with ⟨rfl, _⟩ | ⟨nm, r, c, rfl⟩
  · rfl
  · exact av_sl3 _ _ _ _ _ _
theorem kinds8 {k : Int} (h1 : 0 ≤ k) (h2 : k < 8) : k = 0 ∨ k = 1 ∨ k = 2 ∨ k = 3 ∨ k = 4 ∨ k = 5 ∨ k = 6 ∨ k = 7 := by omega
/-- behind the change, ahead of the questions -/
def Mid (M : List Nat) (b : Hp) (q0 p : Nat) (vL0 vF0 : AV) (A : List Ent) (B : List Nat) (C : List Q2) (jN : Nat) (gN : Int) (e : Env) (h : Hp) : Prop :=
  ∃ n5 s vL vF u, e.get 0 = some (.ptr q0 0) ∧ e.get 5 = some (.ptr n5 0) ∧ Hs M b h [blk id n5 [U32 (jN : Int), U32 gN], blk id q0 [.ptr p 0, vL, vF, u], blk id p [s, I (nxt B), I (cnt A)], owr 77 4 s (rws A B), owr 42 2 u (C.map c2h)] [isl vF ((fi B).map I), lc false vF ((fi B).map I), isr c3e 3 vL A] ∧ ∀ m, (nmO vL = some m ∨ nmO vF = some m) → b.c ≤ m ∨ nmO vL0 = some m ∨ nmO vF0 = some m


end Go.Proofs.Ytolpndlnabodgaa
