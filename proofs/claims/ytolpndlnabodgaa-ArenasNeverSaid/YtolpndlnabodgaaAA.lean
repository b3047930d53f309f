import Derived.Test.YtolpndlnabodgaaCtx
import Derived.Test.YtolpndlnabodgaaO6
import Derived.KernelRfl
namespace Go.Proofs.Ytolpndlnabodgaa
open Go Go.Proofs Go.RowKit Go.Proofs.Abs
set_option linter.unusedSimpArgs false
set_option linter.unusedVariables false
open Go.Proofs.Abs
theorem fn6 : ctx.funs.get 6 = some Try.f6 := by kernel_rfl
theorem fn9 : ctx.funs.get 9 = some Try.f9 := by kernel_rfl
theorem fn20 : ctx.funs.get 20 = some Try.f20 := by kernel_rfl
theorem fn21 : ctx.funs.get 21 = some Try.f21 := by kernel_rfl
theorem fn22 : ctx.funs.get 22 = some Try.f22 := by kernel_rfl
theorem fn23 : ctx.funs.get 23 = some Try.f23 := by kernel_rfl
theorem fn24 : ctx.funs.get 24 = some Try.f24 := by kernel_rfl
theorem fn25 : ctx.funs.get 25 = some Try.f25 := by kernel_rfl
theorem fn26 : ctx.funs.get 26 = some Try.f26 := by kernel_rfl
theorem fn41 : ctx.funs.get 41 = some Try.f41 := by kernel_rfl
theorem fn42 : ctx.funs.get 42 = some Try.f42 := by kernel_rfl
theorem fn44 : ctx.funs.get 44 = some Try.f44 := by kernel_rfl
theorem fn45 : ctx.funs.get 45 = some Try.f45 := by kernel_rfl
theorem ty2 : ctx.tys.get 2 = some ti2 := by kernel_rfl
theorem ty3 : ctx.tys.get 3 = some ti3 := by kernel_rfl
theorem ty5 : ctx.tys.get 5 = some ti5 := by kernel_rfl
theorem ty22 : ctx.tys.get 22 = some ti22 := by kernel_rfl
theorem ty24 : ctx.tys.get 24 = some ti24 := by kernel_rfl
theorem ty26 : ctx.tys.get 26 = some ti26 := by kernel_rfl
theorem ty30 : ctx.tys.get 30 = some ti30 := by kernel_rfl
theorem ty35 : ctx.tys.get 35 = some ti35 := by kernel_rfl
theorem ty40 : ctx.tys.get 40 = some ti40 := by kernel_rfl
theorem ty42 : ctx.tys.get 42 = some ti42 := by kernel_rfl
theorem ty47 : ctx.tys.get 47 = some ti47 := by kernel_rfl
theorem ty58 : ctx.tys.get 58 = some ti58 := by kernel_rfl
theorem ty60 : ctx.tys.get 60 = some ti60 := by kernel_rfl
theorem ty77 : ctx.tys.get 77 = some ti77 := by kernel_rfl

def In (a : Int) : Prop := -9223372036854775808 ≤ a ∧ a ≤ 9223372036854775807
abbrev U32 (x : Int) : AV := .lit (.int .u32 x)
abbrev U8 (x : Int) : AV := .lit (.int .u8 x)
theorem conv40 {k : IntKind} {n : Int} (h1 : 0 ≤ n) (h2 : n < 4294967296) : convA ctx 40 (.lit (.int k n)) = some (U32 n) := by
  unfold convA
  rw [ty40]
  show some (AV.lit (.int .u32 (IntKind.wrap .u32 n))) = _
  rw [wrap_u32k h1 h2]
theorem conv3 {k : IntKind} {n : Int} (h1 : 0 ≤ n) (h2 : n < 4294967296) : convA ctx 3 (.lit (.int k n)) = some (I n) := by
  unfold convA
  rw [ty3]
  show some (AV.lit (.int .i64 (IntKind.wrap .i64 n))) = _
  rw [wrap_id (by omega) (by omega)]
theorem conv2 {k : IntKind} {n : Int} (h1 : 0 ≤ n) (h2 : n < 4294967296) : convA ctx 2 (.lit (.int k n)) = some (I n) := by
  unfold convA
  rw [ty2]
  show some (AV.lit (.int .i64 (IntKind.wrap .i64 n))) = _
  rw [wrap_id (by omega) (by omega)]
theorem nat_of {a : Int} (h : 0 ≤ a) : ∃ n : Nat, a = Int.ofNat n := ⟨a.toNat, by simp; omega⟩
theorem at_some {α : Type} {xs : List α} {k : Nat} (h : k < xs.length) : ∃ x, xs[k]? = some x := ⟨_, List.getElem?_eq_getElem h⟩
/-- a slot: its generation, whether it is used, its value -/
abbrev Ent := Int × Bool × Int
def nxt : List Nat → Int
  | [] => 0
  | f :: _ => (f : Int) + 1
def nx : List Nat → Nat → Int
  | [], _ => 0
  | f :: r, i => if f = i then nxt r else nx r i
/-- a slot as the program has it -/
def row (fs : List Nat) (i : Nat) (p : Ent) : List AV := if p.2.1 then [U8 1, U32 p.1, I 0, I p.2.2] else [U8 2, U32 p.1, I (nx fs i), I 0]
def rws (ls : List Ent) (fs : List Nat) : List (List AV) := ls.mapIdx (row fs)
theorem rws_len (ls : List Ent) (fs : List Nat) : (rws ls fs).length = ls.length := by simp [rws]
theorem rws_get (ls : List Ent) (fs : List Nat) (i : Nat) : (rws ls fs)[i]? = ls[i]?.map (row fs i) := by simp [rws]
theorem rws_at {ls : List Ent} {fs : List Nat} {i : Nat} {p : Ent} (h : ls[i]? = some p) : (rws ls fs)[i]? = some (row fs i p) := by rw [rws_get, h]; rfl
theorem rws_used {ls : List Ent} {fs : List Nat} {i : Nat} {g x : Int} (h : ls[i]? = some (g, true, x)) : (rws ls fs)[i]? = some [U8 1, U32 g, I 0, I x] := rws_at h
theorem rws_free {ls : List Ent} {fs : List Nat} {i : Nat} {g x : Int} (h : ls[i]? = some (g, false, x)) : (rws ls fs)[i]? = some [U8 2, U32 g, I (nx fs i), I 0] := rws_at h
theorem rws_set {ls : List Ent} {fs fs' : List Nat} {i : Nat} {r : List AV} {q : Ent} (hr : r = row fs' i q) (hj : ∀ j p, j ≠ i → ls[j]? = some p → p.2.1 = false → nx fs j = nx fs' j) : (rws ls fs).set i r = rws (ls.set i q) fs' := by
  subst hr
  apply List.ext_getElem?
  intro j
  rw [List.getElem?_set, rws_get, rws_get, rws_len, List.getElem?_set]
  by_cases h : i = j
  · subst h
    rw [if_pos rfl, if_pos rfl]
    by_cases h2 : i < ls.length
    · rw [if_pos h2, if_pos h2]; rfl
    · rw [if_neg h2, if_neg h2]; rfl
  · rw [if_neg h, if_neg h]
    cases hp : ls[j]? with
    | none => rfl
    | some p =>
      obtain ⟨g, u, x⟩ := p
      show some (row fs j (g, u, x)) = some (row fs' j (g, u, x))
      cases u with
      | true => rfl
      | false =>
        have := hj j _ (fun e => h e.symm) hp rfl
        show some [U8 2, U32 g, I (nx fs j), I 0] = some [U8 2, U32 g, I (nx fs' j), I 0]
        rw [this]
theorem rws_snoc (ls : List Ent) (fs : List Nat) (q : Ent) : rws (ls ++ [q]) fs = rws ls fs ++ [row fs ls.length q] := by
  unfold rws
  rw [List.mapIdx_append]
  simp
/-- how many are used -/
def cnt : List Ent → Int
  | [] => 0
  | p :: l => (if p.2.1 then 1 else 0) + cnt l
theorem cnt_bound : ∀ ls : List Ent, 0 ≤ cnt ls ∧ cnt ls ≤ ls.length := by
  intro ls
  induction ls with
  | nil => exact ⟨Int.le_refl _, Int.le_refl _⟩
  | cons p l ih =>
    unfold cnt
    rw [List.length_cons]
    split <;> omega
theorem cnt_app (l m : List Ent) : cnt (l ++ m) = cnt l + cnt m := by
  induction l with
  | nil => simp [cnt]
  | cons p l ih => simp only [List.cons_append, cnt, ih]; omega
theorem cnt_set : ∀ {ls : List Ent} {i : Nat} {p q : Ent}, ls[i]? = some p → cnt (ls.set i q) = cnt ls - (if p.2.1 then 1 else 0) + (if q.2.1 then 1 else 0) := by
  intro ls
  induction ls with
  | nil => intro i p q h; cases h
  | cons a l ih =>
    intro i p q h
    cases i with
    | zero => cases h; simp only [List.set_cons_zero, cnt]; omega
    | succ i => simp only [List.set_cons_succ, cnt]; rw [ih (by simpa using h)]; omega
/-- what is always so -/
structure Inv (K : Nat) (ls : List Ent) (fs : List Nat) : Prop where
  n : ls.length ≤ K
  gen : ∀ (i : Nat) (p : Ent), ls[i]? = some p → 1 ≤ p.1 ∧ p.1 ≤ (K : Int) + 1
  nd : fs.Nodup
  fsI : ∀ i, i ∈ fs ↔ ∃ g x, ls[i]? = some (g, false, x)
  zero : ∀ (i : Nat) (g x : Int), ls[i]? = some (g, false, x) → x = 0
theorem Inv.nil : Inv 0 [] [] := ⟨Nat.le_refl _, fun i p h => (by cases h), .nil, fun i => ⟨fun h => (by cases h), fun ⟨g, x, h⟩ => (by cases h)⟩, fun i g x h => (by cases h)⟩
theorem Inv.mono {K K' : Nat} {ls : List Ent} {fs : List Nat} (v : Inv K ls fs) (h : K ≤ K') : Inv K' ls fs := ⟨Nat.le_trans v.n h, fun i p hp => by have := v.gen i p hp; omega, v.nd, v.fsI, v.zero⟩
theorem nx_ne {fs : List Nat} {i j : Nat} (h : j ≠ i) : nx (i :: fs) j = nx fs j := by
  show (if i = j then nxt fs else nx fs j) = _
  rw [if_neg (fun e => h e.symm)]
theorem get_set {ls : List Ent} {i j : Nat} {q : Ent} (hi : i < ls.length) : (ls.set i q)[j]? = if i = j then some q else ls[j]? := by
  rw [List.getElem?_set]
  by_cases h : i = j
  · rw [if_pos h, if_pos h, if_pos (h ▸ hi)]
  · rw [if_neg h, if_neg h]
/-- the parts of an arena: its struct and its slots -/
structure Arn (h : Hp) (p : Nat) (s : AV) (fr lv : Int) (R : List (List AV)) : Prop where
  b : Blks id h p [s, I fr, I lv]
  o : OwR 77 4 h s R
  ne : nmO s ≠ some p
/-- what a function changes in it -/
structure Mut (b h' : Hp) (p : Nat) (s s' : AV) (fr lv : Int) (R : List (List AV)) : Prop where
  a : Arn h' p s' fr lv R
  fr : Fr (fun n => n = p ∨ nmO s = some n) b h'
  nm : ∀ n, nmO s' = some n → nmO s = some n ∨ b.c ≤ n
section
variable {M : List Nat} {h0 h h' : Hp} {L Z : List As}
theorem _root_.Go.Proofs.Abs.Hs.arn (H : Hs M h0 h L Z) {p : Nat} {s : AV} {fr lv : Int} {R : List (List AV)} {F : As → As → List As} (q : Pick2 L (blk id p [s, I fr, I lv]) (owr 77 4 s R) F) : Arn h p s fr lv R :=
  ⟨H.p q.mem1, H.p q.mem2, fun e => q.apart H.sep p (List.mem_singleton.2 rfl) (nmO_mem.2 e)⟩
theorem _root_.Go.Proofs.Abs.Hs.mut (H : Hs M h0 h L Z) {p : Nat} {s s' : AV} {fr lv fr' lv' : Int} {R R' : List (List AV)} {F : As → As → List As} (q : Pick2 L (blk id p [s, I fr, I lv]) (owr 77 4 s R) F) (m : Mut h h' p s s' fr' lv' R') : Hs M h0 h' (F (blk id p [s', I fr', I lv']) (owr 77 4 s' R')) Z := by
  refine H.upd2 q ⟨m.fr.c, m.fr.ro, fun n h1 h2 => m.fr.m n h1 (fun h3 => h2 ?_)⟩ m.a.b m.a.o (fun n hn => .inl hn) (fun n hn => ?_) (fun n hn h2 => ?_)
  · rcases h3 with h3 | h3
    · exact .inl (List.mem_singleton.2 h3)
    · exact .inr (nmO_mem.2 h3)
  · rcases m.nm n (nmO_mem.1 hn) with h3 | h3
    · exact .inr (.inl (nmO_mem.2 h3))
    · exact .inr (.inr h3)
  · have e := List.mem_singleton.1 hn
    subst e
    exact m.a.ne (nmO_mem.1 h2)
theorem Arn.start {b : Hp} {p : Nat} {s : AV} {fr lv : Int} {R : List (List AV)} (a : Arn b p s fr lv R) : Hs (p :: (nmO s).toList) b b [blk id p [s, I fr, I lv], owr 77 4 s R] [] := by
  refine ⟨Fr.refl _ _, fun x hx => ?_, ?_, fun z hz => (by cases hz)⟩
  · rcases List.mem_cons.1 hx with rfl | hx
    · exact ⟨a.b, fun n hn => .inr (by rw [List.mem_singleton.1 hn]; exact .head _)⟩
    · rw [List.mem_singleton] at hx
      subst hx
      exact ⟨a.o, fun n hn => .inr (.tail _ hn)⟩
  · refine List.pairwise_cons.2 ⟨fun x hx n hn h2 => ?_, List.pairwise_singleton _ _⟩
    rw [List.mem_singleton] at hx
    subst hx
    rw [List.mem_singleton.1 hn] at h2
    exact a.ne (nmO_mem.1 h2)
theorem _root_.Go.Proofs.Abs.Hs.toMut {b : Hp} {p : Nat} {s s' : AV} {fr lv : Int} {R : List (List AV)} {F : As → As → List As} (H : Hs (p :: (nmO s).toList) b h L Z) (q : Pick2 L (blk id p [s', I fr, I lv]) (owr 77 4 s' R) F) : Mut b h p s s' fr lv R := by
  refine ⟨H.arn q, ⟨H.fr.c, H.fr.ro, fun n h1 h2 => H.fr.m n h1 (fun h3 => h2 ?_)⟩, fun n hn => ?_⟩
  · rcases List.mem_cons.1 h3 with h3 | h3
    · exact .inl h3
    · exact .inr (nmO_mem.1 h3)
  · rcases (H.own _ q.mem2).2 n (nmO_mem.2 hn) with h3 | h3
    · exact .inr h3
    · rcases List.mem_cons.1 h3 with h3 | h3
      · subst h3
        exact absurd (nmO_mem.2 hn) (q.apart H.sep n (List.mem_singleton.2 rfl))
      · exact .inl (nmO_mem.1 h3)
theorem Arn.reads {b : Hp} {p : Nat} {s : AV} {fr lv : Int} {R : List (List AV)} (a : Arn b p s fr lv R) : Hs [] b b [] [owr 77 4 s R, blk id p [s, I fr, I lv]] := ((Hs.start b).z0 (z := blk id p [s, I fr, I lv]) a.b).z0 (z := owr 77 4 s R) a.o
end

end Go.Proofs.Ytolpndlnabodgaa
