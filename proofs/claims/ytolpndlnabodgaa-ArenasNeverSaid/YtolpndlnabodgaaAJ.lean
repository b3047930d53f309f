import Derived.Test.YtolpndlnabodgaaAI
import Derived.KernelRfl
namespace Go.Proofs.Ytolpndlnabodgaa
open Go Go.Proofs Go.RowKit Go.Proofs.Abs
set_option linter.unusedSimpArgs false
set_option linter.unusedVariables false
def isLives (f : FuncId) : Bool := Nat.beq f 12
noncomputable def all8 : CallF := plus isLives (runA ctx 5000 8)
theorem w12 (h : Hp) : Wv (all8 12 [] h) (fun r h' => r = Bo true ∧ h' = h) := ⟨_, _, plus_lit rfl, rfl, rfl⟩
theorem all8_of {f : Nat} {args : List AV} {h : Hp} {Q : AV → Hp → Prop} (hf : isLives f = false) (h1 : Wv (runA ctx 5000 8 f args h) Q) : Wv (all8 f args h) Q := by
  unfold all8; rw [plus_not hf]; exact h1
abbrev Q3 := Int × Int × Int
def c3 (x : Q3) : List AV := [U8 x.1, U8 x.2.1, U8 x.2.2]
def Inb (a : Int) : Prop := 0 ≤ a ∧ a < 256
theorem tm_lt {a n : Int} (ha : 0 ≤ a) (hn : 0 < n) : 0 ≤ a.tmod n ∧ a.tmod n < n := by
  rw [Int.tmod_eq_emod_of_nonneg ha]
  exact ⟨Int.emod_nonneg _ (by omega), Int.emod_lt_of_pos _ hn⟩
theorem wo_cls {C : Ctx} {ti : TI} {M : List Nat} {h0 h : Hp} {L Z : List As} {k : OpsK} {dst : Option Tmp} {env : Env} {Q : Env → Hp → Prop} {n off off' j : Nat} {vs : List AV} {x : AV} (H : Hs M h0 h L Z) (hm : cln n off vs ∈ Z) (hg : isAggD ti.desc = false) (ho : off' = off + j) (hx : vs[j]? = some x) (h1 : Wo (k (putA env x dst) h) Q) : Wo (afterA k env dst (oLoad h (some ti) (some (.ptr n off')))) Q := by
  subst ho
  have hl := (H.pz hm).2
  have e1 : Abs.load h n (off + j) 1 = some [x] := by
    unfold Abs.load at hl ⊢
    cases hb : h.m.get n with
    | none =>
      rw [hb] at hl
      obtain ⟨hlen, hi⟩ := roCells_spec _ _ _ _ hl
      show roCells (h.ro n) (off + j) 1 = _
      rw [roCells_succ, roCells_zero, hi j x hx]
      rfl
    | some c =>
      rw [hb] at hl
      obtain ⟨hlen, hi⟩ := getCells_spec _ _ _ _ hl
      show getCells c.cells (off + j) 1 = _
      rw [getCells1, hi j x hx]
      rfl
  rw [oload1 hg e1]
  exact h1
theorem eqV42k (a b c d : Int) : eqV ctx 6 42 (.agg [U32 a, U32 b]) (.agg [U32 c, U32 d]) = eqNext (eqNext (some true) (some (eqF b d))) (some (eqF a c)) := by kernel_rfl
theorem eqV42 (a b c d : Int) : eqV ctx 6 42 (.agg [U32 a, U32 b]) (.agg [U32 c, U32 d]) = some (decide (a = c ∧ b = d)) := by
  rw [eqV42k, eqF_eq, eqF_eq, beq_dec, beq_dec]
  by_cases h1 : a = c <;> by_cases h2 : b = d <;> simp [h1, h2, eqNext]
/-! What the calls keep. -/
theorem Inv.take0 {K : Nat} {ls : List Ent} (v : Inv K ls []) (x : Int) : Inv (K + 1) (ls ++ [(1, true, x)]) [] := by
  have at_ : ∀ (i : Nat) (p : Ent), (ls ++ [((1, true, x) : Ent)])[i]? = some p → ls[i]? = some p ∨ (i = ls.length ∧ p = (1, true, x)) := fun i p h => by
    rcases Nat.lt_trichotomy i ls.length with h1 | h1 | h1
    · rw [List.getElem?_append_left h1] at h; exact .inl h
    · subst h1; rw [List.getElem?_append_right (Nat.le_refl _), Nat.sub_self] at h; exact .inr ⟨rfl, (Option.some.inj h).symm⟩
    · rw [List.getElem?_eq_none (by simp; omega)] at h; cases h
  refine ⟨by simp; exact v.n, fun i p h => ?_, .nil, fun i => ⟨fun h => (by cases h), fun ⟨g, y, h⟩ => ?_⟩, fun i g y h => ?_⟩
  · rcases at_ i p h with h1 | ⟨_, rfl⟩
    · have := v.gen i p h1; omega
    · simp; omega
  · rcases at_ i _ h with h1 | ⟨_, h1⟩
    · exact (v.fsI i).2 ⟨g, y, h1⟩
    · cases h1
  · rcases at_ i _ h with h1 | ⟨_, h1⟩
    · exact v.zero i g y h1
    · cases h1
theorem Inv.upd {K K' : Nat} {ls : List Ent} {fs fs' : List Nat} (v : Inv K ls fs) (hK : K ≤ K') {i : Nat} {q : Ent} (hi : i < ls.length) (hg : 1 ≤ q.1 ∧ q.1 ≤ (K' : Int) + 1) (hn : fs'.Nodup) (hf : ∀ j, j ∈ fs' ↔ (if i = j then q.2.1 = false else j ∈ fs)) (hz : q.2.1 = false → q.2.2 = 0) : Inv K' (ls.set i q) fs' := by
  refine ⟨by rw [List.length_set]; exact Nat.le_trans v.n hK, fun j p h => ?_, hn, fun j => ?_, fun j g y h => ?_⟩
  · rw [get_set hi] at h
    split at h
    · cases h; exact hg
    · have := v.gen j p h; omega
  · rw [hf j, get_set hi]
    split
    · obtain ⟨g, u, x⟩ := q
      exact ⟨fun h => ⟨g, x, by simp only at h; rw [h]⟩, fun ⟨g', x', h⟩ => by cases h; rfl⟩
    · exact v.fsI j
  · rw [get_set hi] at h
    split at h
    · cases h; exact hz rfl
    · exact v.zero j g y h
theorem Inv.takeF {K : Nat} {ls : List Ent} {f : Nat} {rr : List Nat} (v : Inv K ls (f :: rr)) {g x0 : Int} (hp : ls[f]? = some (g, false, x0)) (x : Int) : Inv (K + 1) (ls.set f (g, true, x)) rr := by
  have hg := v.gen f _ hp
  simp only at hg
  obtain ⟨n1, n2⟩ := List.nodup_cons.1 v.nd
  refine v.upd (Nat.le_succ _) (List.getElem?_eq_some_iff.1 hp).1 (by simp; omega) n2 (fun j => ?_) (fun h => by cases h)
  by_cases e : f = j
  · subst e; rw [if_pos rfl]; exact ⟨fun h => absurd h n1, fun h => by cases h⟩
  · rw [if_neg e, List.mem_cons]; exact ⟨.inr, fun h => h.elim (fun h => absurd h.symm e) id⟩
theorem Inv.free {K : Nat} {ls : List Ent} {fs : List Nat} (v : Inv K ls fs) {i : Nat} {g x0 : Int} (hp : ls[i]? = some (g, true, x0)) (g' : Int) (h1 : g ≤ g') (h2 : g' ≤ g + 1) : Inv (K + 1) (ls.set i (g', false, 0)) (i :: fs) := by
  have hg := v.gen i _ hp
  simp only at hg
  have hn : i ∉ fs := fun h => by
    obtain ⟨g2, x2, h2⟩ := (v.fsI i).1 h
    rw [hp] at h2; cases h2
  refine v.upd (Nat.le_succ _) (List.getElem?_eq_some_iff.1 hp).1 (by simp; omega) (List.nodup_cons.2 ⟨hn, v.nd⟩) (fun j => ?_) (fun _ => rfl)
  by_cases e : i = j
  · subst e; rw [if_pos rfl]; exact ⟨fun _ => rfl, fun _ => .head _⟩
  · rw [if_neg e, List.mem_cons]; exact ⟨fun h => h.elim (fun h => absurd h.symm e) id, .inr⟩
/-! The law Never. -/
structure NInv (i : Nat) (ls : List Ent) (fs : List Nat) (all gone : List (Int × Int)) : Prop where
  v : Inv i ls fs
  an : all.length ≤ i
  gn : gone.length ≤ i
  sum : cnt ls + (fs.length : Int) = (ls.length : Int)
  dif : cnt ls = (all.length : Int) - (gone.length : Int)
  al : ∀ q ∈ all, ∃ (j : Nat) (p : Ent), q.1 = (j : Int) ∧ ls[j]? = some p ∧ 1 ≤ q.2 ∧ (q.2 < p.1 ∨ (q.2 = p.1 ∧ p.2.1 = true))
  go : ∀ q ∈ gone, ∃ (j : Nat) (p : Ent), q.1 = (j : Int) ∧ ls[j]? = some p ∧ 1 ≤ q.2 ∧ q.2 < p.1
theorem NInv.start : NInv 0 [] [] [] [] := ⟨Inv.nil, Nat.le_refl _, Nat.le_refl _, rfl, rfl, fun q h => (by cases h), fun q h => (by cases h)⟩
theorem NInv.take0 {i : Nat} {ls : List Ent} {all gone : List (Int × Int)} (v : NInv i ls [] all gone) (x : Int) : NInv (i + 1) (ls ++ [(1, true, x)]) [] (all ++ [((ls.length : Int), 1)]) gone := by
  have lft : ∀ {j : Nat} {p : Ent}, ls[j]? = some p → (ls ++ [((1, true, x) : Ent)])[j]? = some p := fun {j p} h => by rw [List.getElem?_append_left (List.getElem?_eq_some_iff.1 h).1]; exact h
  refine ⟨v.v.take0 x, by simp; exact v.an, Nat.le_trans v.gn (Nat.le_succ _), ?_, ?_, fun q hq => ?_, fun q hq => ?_⟩
  · have := v.sum; rw [cnt_app]; simp [cnt] at *; omega
  · have := v.dif; rw [cnt_app]; simp [cnt] at *; omega
  · rcases List.mem_append.1 hq with h | h
    · obtain ⟨j, p, h1, h2, h3⟩ := v.al q h
      exact ⟨j, p, h1, lft h2, h3⟩
    · rw [List.mem_singleton] at h
      subst h
      exact ⟨ls.length, (1, true, x), rfl, by rw [List.getElem?_append_right (Nat.le_refl _), Nat.sub_self]; rfl, Int.le_refl _, .inr ⟨rfl, rfl⟩⟩
  · obtain ⟨j, p, h1, h2, h3⟩ := v.go q hq
    exact ⟨j, p, h1, lft h2, h3⟩
theorem NInv.takeF {i : Nat} {ls : List Ent} {f : Nat} {rr : List Nat} {all gone : List (Int × Int)} (v : NInv i ls (f :: rr) all gone) {g x0 : Int} (hp : ls[f]? = some (g, false, x0)) (x : Int) : NInv (i + 1) (ls.set f (g, true, x)) rr (all ++ [((f : Int), g)]) gone := by
  have hf := (List.getElem?_eq_some_iff.1 hp).1
  have hg := v.v.gen f _ hp
  simp only at hg
  refine ⟨v.v.takeF hp x, by simp; exact v.an, Nat.le_trans v.gn (Nat.le_succ _), ?_, ?_, fun q hq => ?_, fun q hq => ?_⟩
  · have := v.sum; rw [cnt_set hp, List.length_set]; simp at *; omega
  · have := v.dif; rw [cnt_set hp]; simp at *; omega
  · rcases List.mem_append.1 hq with h | h
    · obtain ⟨j, p, h1, h2, h3, h4⟩ := v.al q h
      by_cases e : f = j
      · subst e
        rw [hp] at h2
        cases h2
        exact ⟨f, (g, true, x), h1, by rw [get_set hf, if_pos rfl], h3, h4.elim .inl (fun h => by cases h.2)⟩
      · exact ⟨j, p, h1, by rw [get_set hf, if_neg e]; exact h2, h3, h4⟩
    · rw [List.mem_singleton] at h
      subst h
      exact ⟨f, (g, true, x), rfl, by rw [get_set hf, if_pos rfl], hg.1, .inr ⟨rfl, rfl⟩⟩
  · obtain ⟨j, p, h1, h2, h3, h4⟩ := v.go q hq
    by_cases e : f = j
    · subst e
      rw [hp] at h2
      cases h2
      exact ⟨f, (g, true, x), h1, by rw [get_set hf, if_pos rfl], h3, h4⟩
    · exact ⟨j, p, h1, by rw [get_set hf, if_neg e]; exact h2, h3, h4⟩
theorem NInv.free {i : Nat} {ls : List Ent} {fs : List Nat} {all gone : List (Int × Int)} (v : NInv i ls fs all gone) {f : Nat} {g x0 : Int} (hp : ls[f]? = some (g, true, x0)) : NInv (i + 1) (ls.set f (g + 1, false, 0)) (f :: fs) all (gone ++ [((f : Int), g)]) := by
  have hf := (List.getElem?_eq_some_iff.1 hp).1
  have hg := v.v.gen f _ hp
  simp only at hg
  refine ⟨v.v.free hp (g + 1) (by omega) (Int.le_refl _), Nat.le_trans v.an (Nat.le_succ _), by simp; exact v.gn, ?_, ?_, fun q hq => ?_, fun q hq => ?_⟩
  · have := v.sum; rw [cnt_set hp, List.length_set]; simp at *; omega
  · have := v.dif; rw [cnt_set hp]; simp at *; omega
  · obtain ⟨j, p, h1, h2, h3, h4⟩ := v.al q hq
    by_cases e : f = j
    · subst e
      rw [hp] at h2
      cases h2
      exact ⟨f, (g + 1, false, 0), h1, by rw [get_set hf, if_pos rfl], h3, .inl (by simp only at h4 ⊢; omega)⟩
    · exact ⟨j, p, h1, by rw [get_set hf, if_neg e]; exact h2, h3, h4⟩
  · rcases List.mem_append.1 hq with h | h
    · obtain ⟨j, p, h1, h2, h3, h4⟩ := v.go q h
      by_cases e : f = j
      · subst e
        rw [hp] at h2
        cases h2
        exact ⟨f, (g + 1, false, 0), h1, by rw [get_set hf, if_pos rfl], h3, by simp only at h4 ⊢; omega⟩
      · exact ⟨j, p, h1, by rw [get_set hf, if_neg e]; exact h2, h3, h4⟩
    · rw [List.mem_singleton] at h
      subst h
      exact ⟨f, (g + 1, false, 0), rfl, by rw [get_set hf, if_pos rfl], hg.1, by simp only; omega⟩
theorem NInv.stay {i : Nat} {ls : List Ent} {fs : List Nat} {all gone : List (Int × Int)} (v : NInv i ls fs all gone) : NInv (i + 1) ls fs all gone := ⟨v.v.mono (Nat.le_succ _), Nat.le_trans v.an (Nat.le_succ _), Nat.le_trans v.gn (Nat.le_succ _), v.sum, v.dif, v.al, v.go⟩
theorem NInv.gone_no {i : Nat} {ls : List Ent} {fs : List Nat} {all gone : List (Int × Int)} (v : NInv i ls fs all gone) {k : Nat} {q : Int × Int} (h : gone[k]? = some q) : ∃ j : Nat, q.1 = (j : Int) ∧ j < ls.length ∧ 1 ≤ q.2 ∧ q.2 ≤ (i : Int) + 1 ∧ vld ls j q.2 = false := by
  obtain ⟨j, p, h1, h2, h3, h4⟩ := v.go q (List.mem_of_getElem? h)
  have hg := v.v.gen j p h2
  refine ⟨j, h1, (List.getElem?_eq_some_iff.1 h2).1, h3, by omega, ?_⟩
  obtain ⟨g, u, x⟩ := p
  cases u with
  | true => rw [vld_used h2]; simp only at h4; simp; omega
  | false => exact vld_free h2
theorem j20a (b : Hp) (p : Nat) (s : AV) (ls : List Ent) (fs : List Nat) (K : Nat) (hK : K ≤ 1000) (v : Inv K ls fs) (a : Arn b p s (nxt fs) (cnt ls) (rws ls fs)) (x : Int) (hf : fs = []) : Wv (all8 20 [.ptr p 0, I x] b) (fun r h' => ∃ s', r = .tup [.agg [U32 (ls.length : Int), U32 1], I 0] ∧ Mut b h' p s s' 0 (cnt ls + 1) (rws (ls ++ [(1, true, x)]) [])) := all8_of rfl (k20a 6 b p s ls fs K hK v a x hf)
theorem j20b (b : Hp) (p : Nat) (s : AV) (ls : List Ent) (fs : List Nat) (K : Nat) (hK : K ≤ 1000) (v : Inv K ls fs) (a : Arn b p s (nxt fs) (cnt ls) (rws ls fs)) (x g x0 : Int) (f : Nat) (rr : List Nat) (hf : fs = f :: rr) (hp : ls[f]? = some (g, false, x0)) : Wv (all8 20 [.ptr p 0, I x] b) (fun r h' => r = .tup [.agg [U32 (f : Int), U32 g], I 0] ∧ Mut b h' p s s (nxt rr) (cnt ls + 1) (rws (ls.set f (g, true, x)) rr)) := all8_of rfl (k20b 6 b p s ls fs K hK v a x g x0 f rr hf hp)
theorem j21a (b : Hp) (p : Nat) (s : AV) (ls : List Ent) (fs : List Nat) (K : Nat) (hK : K ≤ 1000) (v : Inv K ls fs) (a : Arn b p s (nxt fs) (cnt ls) (rws ls fs)) (i : Nat) (g : Int) (hi : i < 4294967296) (hg : 0 ≤ g ∧ g < 4294967296) (x0 : Int) (hp : ls[i]? = some (g, true, x0)) (hg3 : g < 4294967295)  : Wv (all8 21 [.ptr p 0, .agg [U32 (i : Int), U32 g]] b) (fun r h' => r = .tup [I x0, I 0] ∧ Mut b h' p s s ((i : Int) + 1) (cnt ls - 1) (rws (ls.set i (g + 1, false, 0)) (i :: fs))) := all8_of rfl (k21a 5 b p s ls fs K hK v a i g hi hg x0 hp hg3)
theorem j21b (b : Hp) (p : Nat) (s : AV) (ls : List Ent) (fs : List Nat) (K : Nat) (hK : K ≤ 1000) (v : Inv K ls fs) (a : Arn b p s (nxt fs) (cnt ls) (rws ls fs)) (i : Nat) (g : Int) (hi : i < 4294967296) (hg : 0 ≤ g ∧ g < 4294967296) (hv : vld ls i g = false) : Wv (all8 21 [.ptr p 0, .agg [U32 (i : Int), U32 g]] b) (fun r h' => r = .tup [I 0, I 11] ∧ Ext b h') := all8_of rfl (k21b 5 b p s ls fs K hK v a i g hi hg hv)
theorem j24 (b : Hp) (p : Nat) (s : AV) (ls : List Ent) (fs : List Nat) (K : Nat) (hK : K ≤ 1000) (v : Inv K ls fs) (a : Arn b p s (nxt fs) (cnt ls) (rws ls fs))  : Wv (all8 24 [.ptr p 0] b) (fun r h' => ∃ w, w = r ∧ LcR c2h 2 h' w (wtg ls fs) ∧ Ext b h' ∧ ∀ m, nmO w = some m → b.c ≤ m) := all8_of rfl (k24 6 b p s ls fs K hK v a )
theorem j22 (b : Hp) (p : Nat) (s : AV) (fr lv : Int) (ls : List Ent) (fs : List Nat) (i : Nat) (g : Int) (hi : i < 4294967296) (hg : 0 ≤ g ∧ g < 4294967296) (a : Arn b p s fr lv (rws ls fs)) (hn : ls.length ≤ 100000) : Wv (all8 22 [.ptr p 0, .agg [U32 (i : Int), U32 g]] b) (fun r h' => r = Bo (vld ls i g) ∧ Ext b h') := all8_of rfl (k22 7 b p s fr lv ls fs i g hi hg a hn)
theorem j23 (b : Hp) (p : Nat) (s : AV) (fr lv : Int) (R : List (List AV)) (a : Arn b p s fr lv R) : Wv (all8 23 [.ptr p 0] b) (fun r h' => r = I lv ∧ Ext b h') := all8_of rfl (k23 7 b p s fr lv R a)
theorem j25 (b : Hp) (p : Nat) (s : AV) (fr lv : Int) (R : List (List AV)) (a : Arn b p s fr lv R) : Wv (all8 25 [.ptr p 0] b) (fun r h' => r = I (R.length : Int) ∧ Ext b h') := all8_of rfl (k25 7 b p s fr lv R a)
theorem j9 (b : Hp) : Wv (all8 9 [] b) (fun r h' => ∃ p, r = .ptr p 0 ∧ b.c ≤ p ∧ Arn h' p nilS 0 0 [] ∧ Ext b h') := all8_of rfl (k9 7 b)

end Go.Proofs.Ytolpndlnabodgaa
