import Derived.Test.YtpioenfglmimgaaAbs
import Derived.WalkKit
import Derived.Orders
import Derived.LoopN
import Derived.Laws.CopyRow
import Derived.Laws.Tables
import Derived.Laws.Rows
import Derived.Great.BuildSlice
import Derived.Laws.MakeOwn
import Derived.Laws.Append
import Derived.Laws.AppendOwn
import Derived.Lib.Strings
import Derived.WalkSpells
import Derived.Lib.SliceRun
namespace Go.Proofs.Abs
open Go Go.RowKit
set_option linter.unusedSimpArgs false
set_option linter.unusedVariables false
/-! The evaluator is sound, part 1: trees, values, memory. -/
theorem cond_same {α : Type} (b : Bool) (x : α) : cond b x x = x := by cases b <;> rfl
namespace T
variable {α : Type}
theorem get_leaf (k : Nat) : (T.leaf : T α).get k = none := rfl
theorem get_zero (l r : T α) (v : Option α) : (T.node l v r).get 0 = v := rfl
theorem get_succ (l r : T α) (v : Option α) (j : Nat) : (T.node l v r).get (j + 1) = if j % 2 = 1 then r.get (j / 2) else l.get (j / 2) := by
  show Bool.rec (motive := fun _ => Option α) (l.get (Nat.div j 2)) (r.get (Nat.div j 2)) (Nat.beq (Nat.mod j 2) 1) = _
  by_cases h : j % 2 = 1
  · rw [if_pos h]
    have : Nat.beq (Nat.mod j 2) 1 = true := by show Nat.beq (j % 2) 1 = true; rw [h]; rfl
    rw [this]; rfl
  · rw [if_neg h]
    have : Nat.beq (Nat.mod j 2) 1 = false := by
      show Nat.beq (j % 2) 1 = false
      have h2 : j % 2 = 0 := by omega
      rw [h2]; rfl
    rw [this]; rfl
theorem ins_zero (s : T α → Nat → Option α → T α) (l r : T α) (o v : Option α) : ins s l o r 0 v = .node l v r := rfl
theorem ins_succ (s : T α → Nat → Option α → T α) (l r : T α) (o v : Option α) (j : Nat) :
    ins s l o r (j + 1) v = if j % 2 = 1 then .node l o (s r (j / 2) v) else .node (s l (j / 2) v) o r := by
  show Bool.rec (motive := fun _ => T α) (.node (s l (Nat.div j 2) v) o r) (.node l o (s r (Nat.div j 2) v)) (Nat.beq (Nat.mod j 2) 1) = _
  by_cases h : j % 2 = 1
  · rw [if_pos h]
    have : Nat.beq (Nat.mod j 2) 1 = true := by show Nat.beq (j % 2) 1 = true; rw [h]; rfl
    rw [this]; rfl
  · rw [if_neg h]
    have : Nat.beq (Nat.mod j 2) 1 = false := by
      show Nat.beq (j % 2) 1 = false
      have h2 : j % 2 = 0 := by omega
      rw [h2]; rfl
    rw [this]; rfl
theorem sing_eq (s : T α → Nat → Option α → T α) (k : Nat) (v : Option α) : sing s k v = ins s .leaf none .leaf k v := by cases k <;> rfl
theorem set_leaf (f k : Nat) (v : Option α) : set (f + 1) .leaf k v = ins (set f) .leaf none .leaf k v := sing_eq (set f) k v
theorem set_node (f k : Nat) (v o : Option α) (l r : T α) : set (f + 1) (.node l o r) k v = ins (set f) l o r k v := rfl
theorem get_ins (s : T α → Nat → Option α → T α) (l r : T α) (o v : Option α) (k k' : Nat) (hs : ∀ t j', k ≠ 0 → (s t ((k - 1) / 2) v).get j' = if j' = (k - 1) / 2 then v else t.get j') :
    (ins s l o r k v).get k' = if k' = k then v else (T.node l o r).get k' := by
  cases k with
  | zero =>
    rw [ins_zero]
    cases k' with
    | zero => rw [if_pos rfl, get_zero]
    | succ j' => rw [if_neg (by omega), get_succ, get_succ]
  | succ j =>
    have hs' := fun t j' => hs t j' (by omega)
    simp only [Nat.add_sub_cancel] at hs'
    rw [ins_succ]
    by_cases h : j % 2 = 1
    · rw [if_pos h]
      cases k' with
      | zero => rw [if_neg (by omega), get_zero, get_zero]
      | succ j' =>
        rw [get_succ, get_succ]
        by_cases h' : j' % 2 = 1
        · rw [if_pos h', if_pos h', hs']
          by_cases e : j' / 2 = j / 2
          · rw [if_pos e, if_pos (by omega)]
          · rw [if_neg e, if_neg (by omega)]
        · rw [if_neg h', if_neg h', if_neg (by omega)]
    · rw [if_neg h]
      cases k' with
      | zero => rw [if_neg (by omega), get_zero, get_zero]
      | succ j' =>
        rw [get_succ, get_succ]
        by_cases h' : j' % 2 = 1
        · rw [if_pos h', if_pos h', if_neg (by omega)]
        · rw [if_neg h', if_neg h', hs']
          by_cases e : j' / 2 = j / 2
          · rw [if_pos e, if_pos (by omega)]
          · rw [if_neg e, if_neg (by omega)]
theorem get_set : ∀ (f : Nat) (t : T α) (k : Nat) (v : Option α) (k' : Nat), k + 1 < 2 ^ f → (set f t k v).get k' = if k' = k then v else t.get k' := by
  intro f
  induction f with
  | zero => intro t k v k' h; simp at h
  | succ f ih =>
    intro t k v k' h
    have hh : ∀ (t : T α) j', k ≠ 0 → (set f t ((k - 1) / 2) v).get j' = if j' = (k - 1) / 2 then v else t.get j' := by
      intro t j' hk
      exact ih t _ v j' (by rw [Nat.pow_succ] at h; omega)
    cases t with
    | leaf =>
      rw [set_leaf, get_ins _ _ _ _ _ _ _ hh, get_leaf]
      by_cases e : k' = k
      · rw [if_pos e, if_pos e]
      · rw [if_neg e, if_neg e]
        cases k' with
        | zero => rfl
        | succ j => rw [get_succ, get_leaf, ite_self]
    | node l o r => rw [set_node, get_ins _ _ _ _ _ _ _ hh]
theorem get_put (t : T α) (k : Nat) (v : Option α) (k' : Nat) : (t.put k v).get k' = if k' = k then v else t.get k' :=
  get_set (Nat.succ k) t k v k' (by have := @Nat.lt_two_pow_self (k + 1); omega)
end T

structure Loc where
  b : Nat
  o : Nat
  k : Nat
  s : Option Nat
/-- what an address adds to its first place -/
def spt (l : Loc) (e : Nat) : Option Nat := cond (Nat.beq e 0) l.s none
theorem spt_zero (l : Loc) : spt l 0 = l.s := rfl
theorem spt_none {l : Loc} (h : l.s = none) (e : Nat) : spt l e = none := by unfold spt; rw [h]; cases Nat.beq e 0 <;> rfl
theorem spt_lit (b o k e : Nat) : spt ⟨b, o, k, none⟩ e = none := spt_none rfl e
theorem spt_pos (l : Loc) {e : Nat} (h : e ≠ 0) : spt l e = none := by cases e with | zero => exact absurd rfl h | succ e => rfl
theorem spt_add (b o e j : Nat) (l : Loc) : (⟨b, o + e, spt l e⟩ : Addr).add j = ⟨b, o + (e + j), spt l (e + j)⟩ := by
  cases j with
  | zero => simp [Addr.add]
  | succ j => rw [spt_pos l (show e + (j + 1) ≠ 0 by omega)]; simp [Addr.add, Nat.add_assoc]

mutual
def conc (σ : Nat → Loc) : AV → Value
  | .lit v => v
  | .ptr n off => .pointer (some ⟨(σ n).b, (σ n).o + off, spt (σ n) off⟩)
  | .slice n off len rest cap z => .slice (some ⟨(σ n).b, (σ n).o + cond (rest && Nat.ble (σ n).k cap) z off, spt (σ n) (cond (rest && Nat.ble (σ n).k cap) z off)⟩) len (cond rest ((σ n).k - cap) cap)
  | .fn f cs => .func f #[] (concs σ cs).toArray
  | .iface t v => .iface t (conc σ v)
  | .agg cs => .agg (concs σ cs).toArray
  | .tup vs => .tuple (concs σ vs).toArray
def concs (σ : Nat → Loc) : List AV → List Value
  | [] => []
  | v :: vs => conc σ v :: concs σ vs
end

mutual
/-- the names in a value are below c; a slice that has grown is no longer than what it stands in -/
def AV.ok (σ : Nat → Loc) (c : Nat) : AV → Prop
  | .lit _ => True
  | .ptr n _ => n < c
  | .slice n _ len rest cap _ => n < c ∧ (rest = true → cap + len ≤ (σ n).k)
  | .fn _ cs => oks σ c cs
  | .iface _ v => v.ok σ c
  | .agg cs => oks σ c cs
  | .tup vs => oks σ c vs
def oks (σ : Nat → Loc) (c : Nat) : List AV → Prop
  | [] => True
  | v :: vs => v.ok σ c ∧ oks σ c vs
end

theorem concs_eq (σ : Nat → Loc) : ∀ l, concs σ l = l.map (conc σ)
  | [] => by simp [concs]
  | v :: vs => by simp [concs, concs_eq σ vs]
theorem oks_iff (σ : Nat → Loc) (c : Nat) : ∀ l, oks σ c l ↔ ∀ v ∈ l, v.ok σ c
  | [] => by simp [oks]
  | v :: vs => by simp [oks, oks_iff σ c vs]

mutual
theorem conc_agree {σ σ' : Nat → Loc} {c : Nat} (h : ∀ n, n < c → σ' n = σ n) : ∀ v : AV, v.ok σ c → conc σ' v = conc σ v
  | .lit _, _ => by simp [conc]
  | .ptr n off, hv => by simp only [AV.ok] at hv; simp [conc, h n hv]
  | .slice n off len rest cap z, hv => by simp only [AV.ok] at hv; simp [conc, h n hv.1]
  | .fn f cs, hv => by simp only [AV.ok] at hv; simp [conc, concs_agree h cs hv]
  | .iface t v, hv => by simp only [AV.ok] at hv; simp [conc, conc_agree h v hv]
  | .agg cs, hv => by simp only [AV.ok] at hv; simp [conc, concs_agree h cs hv]
  | .tup cs, hv => by simp only [AV.ok] at hv; simp [conc, concs_agree h cs hv]
theorem concs_agree {σ σ' : Nat → Loc} {c : Nat} (h : ∀ n, n < c → σ' n = σ n) : ∀ l : List AV, oks σ c l → concs σ' l = concs σ l
  | [], _ => by simp [concs]
  | v :: vs, hv => by simp only [oks] at hv; simp [concs, conc_agree h v hv.1, concs_agree h vs hv.2]
end

mutual
theorem ok_mono {σ σ' : Nat → Loc} {c c' : Nat} (h : c ≤ c') (ha : ∀ n, n < c → σ' n = σ n) : ∀ v : AV, v.ok σ c → v.ok σ' c'
  | .lit _, _ => by simp [AV.ok]
  | .ptr n off, hv => by simp only [AV.ok] at *; omega
  | .slice n off len rest cap z, hv => by simp only [AV.ok] at *; rw [ha n hv.1]; exact ⟨by omega, hv.2⟩
  | .fn f cs, hv => by simp only [AV.ok] at *; exact oks_mono h ha cs hv
  | .iface t v, hv => by simp only [AV.ok] at *; exact ok_mono h ha v hv
  | .agg cs, hv => by simp only [AV.ok] at *; exact oks_mono h ha cs hv
  | .tup cs, hv => by simp only [AV.ok] at *; exact oks_mono h ha cs hv
theorem oks_mono {σ σ' : Nat → Loc} {c c' : Nat} (h : c ≤ c') (ha : ∀ n, n < c → σ' n = σ n) : ∀ l : List AV, oks σ c l → oks σ' c' l
  | [], _ => by simp [oks]
  | v :: vs, hv => by simp only [oks] at *; exact ⟨ok_mono h ha v hv.1, oks_mono h ha vs hv.2⟩
end

theorem concs_length (σ : Nat → Loc) (l : List AV) : (concs σ l).length = l.length := by rw [concs_eq, List.length_map]
theorem concs_get (σ : Nat → Loc) (l : List AV) (i : Nat) : (concs σ l)[i]? = l[i]?.map (conc σ) := by rw [concs_eq, List.getElem?_map]
theorem concs_append (σ : Nat → Loc) (l m : List AV) : concs σ (l ++ m) = concs σ l ++ concs σ m := by simp [concs_eq]

theorem litCells_eq (l : List Value) : litCells l = l.map .lit := by
  induction l with
  | nil => rfl
  | cons v vs ih => show AV.lit v :: litCells vs = _; rw [ih]; rfl
theorem concs_litCells (σ : Nat → Loc) (l : List Value) : concs σ (litCells l) = l := by
  induction l with
  | nil => rfl
  | cons v vs ih => show conc σ (.lit v) :: concs σ (litCells vs) = _; rw [ih]; simp [conc]
theorem oks_litCells (σ : Nat → Loc) (c : Nat) (l : List Value) : oks σ c (litCells l) := by
  induction l with
  | nil => simp [litCells, oks]
  | cons v vs ih => exact ⟨by simp [AV.ok], ih⟩

theorem cellsOf_conc (σ : Nat → Loc) (v : AV) : concs σ (cellsOf v) = (conc σ v).cells.toList := by
  unfold cellsOf
  split
  · simp [conc, Value.cells]
  · simp [conc, Value.cells, concs_litCells]
  · rename_i h1 h2
    cases v <;> simp_all [conc, concs, Value.cells]
theorem cellsOf_ok {σ : Nat → Loc} {c : Nat} {v : AV} (h : v.ok σ c) : oks σ c (cellsOf v) := by
  unfold cellsOf
  split
  · simpa [AV.ok] using h
  · exact oks_litCells _ _ _
  · exact ⟨h, by simp [oks]⟩

theorem getCells_zero (t : T AV) (off : Nat) : getCells t off 0 = some [] := rfl
theorem getCells_succ (t : T AV) (off n : Nat) : getCells t off (n + 1) = consOO (getCells t (off + 1) n) (t.get off) := rfl
theorem consOO_some {r : Option (List AV)} {v : Option AV} {vs : List AV} (h : consOO r v = some vs) : ∃ x xs, v = some x ∧ r = some xs ∧ vs = x :: xs := by
  cases v with
  | none => simp [consOO] at h
  | some x =>
    cases r with
    | none => simp [consOO, consO] at h
    | some xs => exact ⟨x, xs, rfl, rfl, by simpa [consOO, consO] using h.symm⟩
theorem getCells_spec : ∀ (n : Nat) (t : T AV) (off : Nat) (vs : List AV), getCells t off n = some vs → vs.length = n ∧ ∀ i v, vs[i]? = some v → t.get (off + i) = some v := by
  intro n
  induction n with
  | zero => intro t off vs h; rw [getCells_zero] at h; cases h; exact ⟨rfl, fun i v h => by simp at h⟩
  | succ n ih =>
    intro t off vs h
    rw [getCells_succ] at h
    obtain ⟨x, xs, h1, h2, rfl⟩ := consOO_some h
    obtain ⟨hl, hi⟩ := ih t (off + 1) xs h2
    refine ⟨by simp [hl], fun i v hv => ?_⟩
    cases i with
    | zero => simp at hv; subst hv; simpa using h1
    | succ i =>
      have := hi i v (by simpa using hv)
      rw [show off + (i + 1) = off + 1 + i from by omega]
      exact this
theorem setCells_nil (t : T AV) (off : Nat) : setCells t off [] = t := rfl
theorem setCells_cons (t : T AV) (off : Nat) (v : AV) (vs : List AV) : setCells t off (v :: vs) = setCells (t.put off (some v)) (off + 1) vs := rfl
theorem setCells_get : ∀ (vs : List AV) (t : T AV) (off k : Nat), (setCells t off vs).get k = if off ≤ k ∧ k < off + vs.length then vs[k - off]? else t.get k := by
  intro vs
  induction vs with
  | nil => intro t off k; rw [setCells_nil, if_neg (by simp)]
  | cons v vs ih =>
    intro t off k
    rw [setCells_cons, ih, T.get_put]
    by_cases h : off + 1 ≤ k ∧ k < off + 1 + vs.length
    · rw [if_pos h, if_pos (by simp; omega)]
      rw [show k - off = (k - (off + 1)) + 1 from by omega]
      simp
    · rw [if_neg h]
      by_cases e : k = off
      · subst e; simp
      · rw [if_neg e, if_neg (by simp; omega)]
theorem known_zero (t : T AV) (off : Nat) : known t off 0 = true := rfl
theorem known_succ (t : T AV) (off n : Nat) : known t off (n + 1) = Option.rec (motive := fun _ => Bool) false (fun _ => known t (off + 1) n) (t.get off) := rfl
theorem known_spec : ∀ (n : Nat) (t : T AV) (off : Nat), known t off n = true → ∀ i, i < n → ∃ v, t.get (off + i) = some v := by
  intro n
  induction n with
  | zero => intro t off _ i hi; omega
  | succ n ih =>
    intro t off h i hi
    rw [known_succ] at h
    cases hg : t.get off with
    | none => rw [hg] at h; cases h
    | some v =>
      rw [hg] at h
      cases i with
      | zero => exact ⟨v, by simpa using hg⟩
      | succ i =>
        obtain ⟨u, hu⟩ := ih t (off + 1) h i (by omega)
        exact ⟨u, by rw [show off + (i + 1) = off + 1 + i from by omega]; exact hu⟩
theorem onesA_cons (v : AV) (vs : List AV) : onesA (v :: vs) = Bool.rec (motive := fun _ => Bool) false (onesA vs) (oneA v) := rfl
theorem oneA_spec {v : AV} (h : oneA v = true) (σ : Nat → Loc) : (conc σ v).oneCell' = true := by
  cases v <;> simp_all [oneA, conc, Value.oneCell']
theorem onesA_spec (σ : Nat → Loc) : ∀ l, onesA l = true → ∀ u ∈ concs σ l, u.oneCell' = true := by
  intro l
  induction l with
  | nil => intro _ u hu; simp [concs] at hu
  | cons v vs ih =>
    intro h u hu
    rw [onesA_cons] at h
    cases ho : oneA v with
    | false => rw [ho] at h; cases h
    | true =>
      rw [ho] at h
      simp only [concs, List.mem_cons] at hu
      rcases hu with rfl | hu
      · exact oneA_spec ho σ
      · exact ih h u hu

/-- which blocks stay as they are, and which of them may be read -/
structure Keep where
  keep : Nat → Prop
  ro : Nat → Prop
  sub : ∀ k, ro k → keep k
/-- the blocks that are kept are as they were -/
structure Bel (B : Keep) (w w' : World) : Prop where
  os : w'.os = w.os
  tape : w'.tape = w.tape
  output : w'.output = w.output
  size : w.heap.size ≤ w'.heap.size
  block : ∀ k, B.keep k → k < w.heap.size → w'.heap[k]? = w.heap[k]?
/-- all blocks ahead of a number are kept -/
def below (n : Nat) : Keep := ⟨fun k => k < n, fun k => k < n, fun _ h => h⟩
theorem Bel.to {n : Nat} {w w' : World} (h : Bel (below n) w w') (hn : n ≤ w.heap.size) : Below n w w' := ⟨h.os, h.tape, h.output, h.size, fun k hk => h.block k hk (Nat.lt_of_lt_of_le hk hn)⟩
theorem Bel.of {B : Keep} {n : Nat} {w w' : World} (h : Below n w w') (hn : ∀ k, B.keep k → k < n) : Bel B w w' := ⟨h.os, h.tape, h.output, h.size, fun k hk _ => h.block k (hn k hk)⟩
theorem Bel.refl (B : Keep) (w : World) : Bel B w w := ⟨rfl, rfl, rfl, Nat.le_refl _, fun _ _ _ => rfl⟩
theorem Bel.trans {B : Keep} {a b c : World} (h : Bel B a b) (k : Bel B b c) : Bel B a c :=
  ⟨k.os.trans h.os, k.tape.trans h.tape, k.output.trans h.output, Nat.le_trans h.size k.size, fun i hi hs => (k.block i hi (Nat.lt_of_lt_of_le hs h.size)).trans (h.block i hi hs)⟩
theorem Bel.drew {B : Keep} {a w : World} (h : Bel B a w) : Bel B a w.drew := ⟨h.os, h.tape, h.output, h.size, h.block⟩
theorem Bel.alloc {B : Keep} {a w : World} (h : Bel B a w) (_hB : ∀ k, B.keep k → k < w.heap.size) (o : Obj) : Bel B a (w.alloc o) :=
  h.trans ⟨rfl, rfl, rfl, by simp, fun k _ hs => Below.heap_alloc _ _ _ hs⟩
theorem Bel.cell {B : Keep} {w w' : World} (h : Bel B w w') {p : Addr} (hp : B.keep p.block) (hs : p.block < w.heap.size) : w'.cell? p = w.cell? p := World.cell?_of_block (w := w) (h.block p.block hp hs)
structure Gam (σ : Nat → Loc) (B : Keep) (h : Hp) (w : World) : Prop where
  base : ∀ k, B.keep k → k < w.heap.size
  blk : ∀ n b, h.m.get n = some b → n < h.c ∧ ¬ B.keep (σ n).b ∧ (σ n).s = none ∧ ∃ cs : Array Value, w.heap[(σ n).b]? = some (.cells cs b.elem (0, 0)) ∧
    (∀ i v, b.cells.get i = some v → v.ok σ h.c ∧ cs[(σ n).o + i]? = some (conc σ v) ∧ i < b.n) ∧
    (0 < b.grow → (σ n).o + (σ n).k * b.grow ≤ cs.size ∧ b.n ≤ (σ n).k * b.grow ∧ (σ n).k ≤ maxLen)
  sep : ∀ n m bn bm, h.m.get n = some bn → h.m.get m = some bm → n ≠ m → (σ n).b ≠ (σ m).b
  ro : ∀ n off v, h.ro n off = some v → n < h.c ∧ h.m.get n = none ∧ v.ok σ h.c ∧ (σ n).s = none ∧ B.ro (σ n).b ∧ w.cell? ⟨(σ n).b, (σ n).o + off, none⟩ = some (conc σ v)

section
variable {σ : Nat → Loc} {B : Keep} {h : Hp} {w : World}
theorem Gam.drew (g : Gam σ B h w) : Gam σ B h w.drew := ⟨g.base, g.blk, g.sep, g.ro⟩

theorem Gam.keep (g : Gam σ B h w) {σ' : Nat → Loc} {h' : Hp} {w' : World} (hr : h'.ro = h.ro) (hc : h.c ≤ h'.c) (ha : ∀ n, n < h.c → σ' n = σ n) (hm : ∀ n, n < h.c → h.m.get n = none → h'.m.get n = none) (hb : Bel B w w') :
    ∀ n off v, h'.ro n off = some v → n < h'.c ∧ h'.m.get n = none ∧ v.ok σ' h'.c ∧ (σ' n).s = none ∧ B.ro (σ' n).b ∧ w'.cell? ⟨(σ' n).b, (σ' n).o + off, none⟩ = some (conc σ' v) := by
  intro n off v hv
  rw [hr] at hv
  obtain ⟨h1, h2, h3, h6, h4, h5⟩ := g.ro n off v hv
  rw [ha n h1]
  exact ⟨by omega, hm n h1 h2, ok_mono hc ha v h3, h6, h4, by rw [hb.cell (p := ⟨(σ n).b, (σ n).o + off, none⟩) (B.sub _ h4) (g.base _ (B.sub _ h4)), conc_agree ha v h3]; exact h5⟩

theorem roCells_zero (f : Nat → Option AV) (off : Nat) : roCells f off 0 = some [] := rfl
theorem roCells_succ (f : Nat → Option AV) (off n : Nat) : roCells f off (n + 1) = consOO (roCells f (off + 1) n) (f off) := rfl
theorem roCells_spec : ∀ (n : Nat) (f : Nat → Option AV) (off : Nat) (vs : List AV), roCells f off n = some vs → vs.length = n ∧ ∀ i v, vs[i]? = some v → f (off + i) = some v := by
  intro n
  induction n with
  | zero => intro f off vs h; rw [roCells_zero] at h; cases h; exact ⟨rfl, fun i v h => by simp at h⟩
  | succ n ih =>
    intro f off vs h
    rw [roCells_succ] at h
    obtain ⟨x, xs, h1, h2, rfl⟩ := consOO_some h
    obtain ⟨hl, hi⟩ := ih f (off + 1) xs h2
    refine ⟨by simp [hl], fun i v hv => ?_⟩
    cases i with
    | zero => simp at hv; subst hv; simpa using h1
    | succ i =>
      have := hi i v (by simpa using hv)
      rw [show off + (i + 1) = off + 1 + i from by omega]
      exact this

theorem load_none {n off k : Nat} (hn : h.m.get n = none) : load h n off k = roCells (h.ro n) off k := by unfold load; rw [hn]
theorem load_some {n off k : Nat} {b : Blk} (hn : h.m.get n = some b) : load h n off k = getCells b.cells off k := by unfold load; rw [hn]
theorem load_sound (g : Gam σ B h w) {n off k : Nat} {vs : List AV} (hl : load h n off k = some vs) :
    vs.length = k ∧ oks σ h.c vs ∧ ∀ i u, (concs σ vs)[i]? = some u → w.cell? ⟨(σ n).b, (σ n).o + off + i, none⟩ = some u := by
  cases hn : h.m.get n with
  | none =>
    rw [load_none hn] at hl
    obtain ⟨hlen, hi⟩ := roCells_spec k _ _ _ hl
    refine ⟨hlen, (oks_iff _ _ _).2 fun v hv => ?_, fun i u hu => ?_⟩
    · obtain ⟨i, hi'⟩ := List.getElem?_of_mem hv
      exact (g.ro n _ v (hi i v hi')).2.2.1
    · rw [concs_get] at hu
      cases hv : vs[i]? with
      | none => rw [hv] at hu; cases hu
      | some v =>
        rw [hv] at hu
        simp only [Option.map_some, Option.some.injEq] at hu
        subst hu
        rw [Nat.add_assoc]
        exact (g.ro n _ v (hi i v hv)).2.2.2.2.2
  | some b =>
    rw [load_some hn] at hl
    obtain ⟨hlen, hi⟩ := getCells_spec k _ _ _ hl
    obtain ⟨_, _, _, cs, hw, hc, _⟩ := g.blk n b hn
    refine ⟨hlen, (oks_iff _ _ _).2 fun v hv => ?_, fun i u hu => ?_⟩
    · obtain ⟨i, hi'⟩ := List.getElem?_of_mem hv
      exact (hc _ v (hi i v hi')).1
    · rw [concs_get] at hu
      cases hv : vs[i]? with
      | none => rw [hv] at hu; cases hu
      | some v =>
        rw [hv] at hu
        simp only [Option.map_some, Option.some.injEq] at hu
        subst hu
        rw [cell_of_row w (σ n).b _ cs b.elem (0, 0) hw, Nat.add_assoc]
        exact (hc _ v (hi i v hv)).2.1

def upd (σ : Nat → Loc) (c : Nat) (l : Loc) : Nat → Loc := fun n => if n = c then l else σ n
theorem upd_same (σ : Nat → Loc) (c : Nat) (l : Loc) : upd σ c l c = l := by simp [upd]
theorem upd_other (σ : Nat → Loc) (c : Nat) (l : Loc) {n : Nat} (hn : n ≠ c) : upd σ c l n = σ n := by simp [upd, hn]
theorem upd_lt (σ : Nat → Loc) (c : Nat) (l : Loc) : ∀ n, n < c → upd σ c l n = σ n := fun _ hn => upd_other σ c l (by omega)

theorem Gam.name (g : Gam σ B h w) : h.m.get h.c = none := by
  cases hn : h.m.get h.c with
  | none => rfl
  | some b => have := (g.blk _ b hn).1; omega

/-- a new block -/
theorem new_any (g : Gam σ B h w) (bk : Blk) (kk : Nat) (arr : Array Value) (hcells : ∀ i v, bk.cells.get i = some v → v.ok σ h.c ∧ arr[i]? = some (conc σ v) ∧ i < bk.n)
    (hg : 0 < bk.grow → kk * bk.grow ≤ arr.size ∧ bk.n ≤ kk * bk.grow ∧ kk ≤ maxLen) (m' : T Blk) (hm : ∀ k b, m'.get k = some b → (k = h.c ∧ b = bk) ∨ (k ≠ h.c ∧ h.m.get k = some b)) :
    Gam (upd σ h.c ⟨w.heap.size, 0, kk, none⟩) B ⟨m', h.c + 1, h.ro⟩ (w.alloc (.cells arr bk.elem)) := by
  have hold : ∀ n b, h.m.get n = some b → (σ n).b < w.heap.size := fun n b hn => by
    obtain ⟨_, _, _, c, hw, _⟩ := g.blk n b hn
    exact (Array.getElem?_eq_some_iff.1 hw).1
  refine ⟨fun k hk => by have := g.base k hk; simp; omega, fun n b hn => ?_, fun n m bn bm hn hm' hne => ?_, g.keep rfl (Nat.le_succ _) (upd_lt σ h.c _) (fun n hn h0 => ?_) ((Bel.refl _ _).alloc g.base _)⟩
  rotate_left 2
  · dsimp only
    cases hq : m'.get n with
    | none => rfl
    | some b =>
      rcases hm n b hq with ⟨h1, _⟩ | ⟨_, h2⟩
      · omega
      · rw [h0] at h2; cases h2
  · dsimp only at hn ⊢
    rcases hm n b hn with ⟨rfl, rfl⟩ | ⟨e1, hn⟩
    · rw [upd_same]
      refine ⟨by omega, fun hk => Nat.lt_irrefl _ (g.base _ hk), rfl, arr, heap_alloc_new w _, fun i v hv => ?_, fun h0 => by have := hg h0; simp only [Nat.zero_add]; exact this⟩
      obtain ⟨k1, k2, k3⟩ := hcells i v hv
      exact ⟨ok_mono (Nat.le_succ _) (upd_lt σ h.c _) v k1, by rw [conc_agree (upd_lt σ h.c _) v k1, Nat.zero_add]; exact k2, k3⟩
    · obtain ⟨h1, h2, h7, c, hw, h3, h4⟩ := g.blk n b hn
      rw [upd_other _ _ _ e1]
      refine ⟨by omega, h2, h7, c, (Below.heap_alloc w _ _ (hold n b hn)).trans hw, fun i v hv => ?_, h4⟩
      obtain ⟨hv1, hv2, hv3⟩ := h3 i v hv
      exact ⟨ok_mono (Nat.le_succ _) (upd_lt σ h.c _) v hv1, by rw [conc_agree (upd_lt σ h.c _) v hv1]; exact hv2, hv3⟩
  · dsimp only at hn hm'
    rcases hm n bn hn with ⟨rfl, _⟩ | ⟨e1, hn⟩
    · rcases hm m bm hm' with ⟨rfl, _⟩ | ⟨e2, hm'⟩
      · exact absurd rfl hne
      · rw [upd_same, upd_other _ _ _ e2]
        have := hold m bm hm'
        dsimp only
        omega
    · rw [upd_other _ _ _ e1]
      rcases hm m bm hm' with ⟨rfl, _⟩ | ⟨e2, hm'⟩
      · rw [upd_same]
        have := hold n bn hn
        dsimp only
        omega
      · rw [upd_other _ _ _ e2]
        exact g.sep n m bn bm hn hm' hne

theorem new_sound (g : Gam σ B h w) (cs : List AV) (e : TypeId) (grow kk : Nat) (arr : Array Value) (hcs : oks σ h.c cs)
    (harr : ∀ (i : Nat) (u : Value), (concs σ cs)[i]? = some u → arr[i]? = some u) (hg : 0 < grow → kk * grow ≤ arr.size ∧ cs.length ≤ kk * grow ∧ kk ≤ maxLen) :
    Gam (upd σ h.c ⟨w.heap.size, 0, kk, none⟩) B (newBlk h cs e grow) (w.alloc (.cells arr e)) := by
  refine new_any g ⟨setCells .leaf 0 cs, cs.length, e, grow⟩ kk arr (fun i v hv => ?_) hg _ (fun k b hk => ?_)
  · dsimp only at hv ⊢
    rw [setCells_get] at hv
    by_cases hr : 0 ≤ i ∧ i < 0 + cs.length
    · rw [if_pos hr, Nat.sub_zero] at hv
      exact ⟨(oks_iff _ _ _).1 hcs v (List.mem_of_getElem? hv), harr i _ (by rw [concs_get, hv]; rfl), by omega⟩
    · rw [if_neg hr] at hv; cases hv
  · rw [T.get_put] at hk
    by_cases e1 : k = h.c
    · rw [if_pos e1] at hk; cases hk; exact .inl ⟨e1, rfl⟩
    · rw [if_neg e1] at hk; exact .inr ⟨e1, hk⟩

theorem store_none {n off : Nat} {cs : List AV} (hn : h.m.get n = none) : store h n off cs = none := by unfold store; rw [hn]
theorem store_some {n off : Nat} {cs : List AV} {b : Blk} (hn : h.m.get n = some b) : store h n off cs =
    cond (known b.cells off cs.length && onesA cs) (some ⟨h.m.put n (some ⟨setCells b.cells off cs, b.n, b.elem, b.grow⟩), h.c, h.ro⟩) none := by unfold store; rw [hn]

theorem below_setRow' {B : Keep} {w w0 : World} (hb : Bel B w0 w) {g : Nat} (hg : ¬ B.keep g) (cs : Array Value) : Bel B w0 (w.setRow g cs) :=
  hb.trans ⟨rfl, rfl, rfl, by simp, fun k hk _ => setRow_other w g k cs (fun e => hg (e ▸ hk))⟩

/-- the cells of a block that is known are turned -/
theorem row_sound (g : Gam σ B h w) {n : Nat} {b : Blk} (hn : h.m.get n = some b) {off : Nat} {cs : List AV} (hcs : oks σ h.c cs) {cur : Array Value}
    (hw : w.heap[(σ n).b]? = some (.cells cur b.elem (0, 0))) (hfit : (σ n).o + off + cs.length ≤ cur.size) (n' : Nat) (hn1 : b.n ≤ n') (hn2 : off + cs.length ≤ n') (hn3 : 0 < b.grow → n' ≤ (σ n).k * b.grow) :
    Gam σ B ⟨h.m.put n (some ⟨setCells b.cells off cs, n', b.elem, b.grow⟩), h.c, h.ro⟩ (w.setRow (σ n).b (cur.toList.take ((σ n).o + off) ++ concs σ cs ++ cur.toList.drop ((σ n).o + off + (concs σ cs).length)).toArray) := by
  obtain ⟨h1, h2, h7, cur', hw', h3, h4⟩ := g.blk n b hn
  rw [hw] at hw'
  cases hw'
  have hsz : (cur.toList.take ((σ n).o + off) ++ concs σ cs ++ cur.toList.drop ((σ n).o + off + (concs σ cs).length)).length = cur.size := by
    simp only [List.length_append, List.length_take, List.length_drop, Array.length_toList, concs_length]; omega
  have hget : ∀ m, (h.m.put n (some (⟨setCells b.cells off cs, n', b.elem, b.grow⟩ : Blk))).get m = if m = n then some ⟨setCells b.cells off cs, n', b.elem, b.grow⟩ else h.m.get m := fun m => T.get_put _ _ _ _
  refine ⟨fun k hk => by have := g.base k hk; simpa using this, fun m bm hm => ?_, fun m l bm bl hm hl hne => ?_, g.keep rfl (Nat.le_refl _) (fun _ _ => rfl) (fun m _ h0 => ?_) (below_setRow' (Bel.refl _ _) h2 _)⟩
  rotate_left 2
  · show (h.m.put n _).get m = none
    rw [hget, if_neg (fun e => by rw [e, hn] at h0; cases h0)]
    exact h0
  · rw [hget] at hm
    by_cases e : m = n
    · subst e
      rw [if_pos rfl] at hm
      cases hm
      refine ⟨h1, h2, h7, _, setRow_heap w _ cur _ b.elem (0, 0) hw, fun i v hv => ?_, fun h0 => ?_⟩
      · dsimp only at hv ⊢
        rw [setCells_get] at hv
        by_cases hr : off ≤ i ∧ i < off + cs.length
        · rw [if_pos hr] at hv
          refine ⟨(oks_iff _ _ _).1 hcs v (List.mem_of_getElem? hv), ?_, by omega⟩
          rw [List.getElem?_toArray, List.append_assoc, List.getElem?_append_right (by simp; omega), List.getElem?_append_left (by simp [concs_length]; omega), concs_get]
          have : (σ m).o + i - (List.take ((σ m).o + off) cur.toList).length = i - off := by simp; omega
          rw [this, hv]
          rfl
        · rw [if_neg hr] at hv
          obtain ⟨k1, k2, k3⟩ := h3 i v hv
          refine ⟨k1, ?_, by omega⟩
          rw [← k2, List.getElem?_toArray]
          by_cases hlt : i < off
          · rw [List.append_assoc, List.getElem?_append_left (by simp; omega), List.getElem?_take, if_pos (by omega)]
            simp
          · rw [List.getElem?_append_right (by simp [concs_length]; omega), List.getElem?_drop]
            have : (σ m).o + off + (concs σ cs).length + ((σ m).o + i - (List.take ((σ m).o + off) cur.toList ++ concs σ cs).length) = (σ m).o + i := by
              simp [concs_length]; omega
            rw [this]
            simp
      · have := h4 h0
        refine ⟨?_, hn3 h0, this.2.2⟩
        rw [List.size_toArray, hsz]
        exact this.1
    · rw [if_neg e] at hm
      obtain ⟨k1, k2, k7, c, kw, k3, k4⟩ := g.blk m bm hm
      exact ⟨k1, k2, k7, c, (setRow_other w _ _ _ (g.sep m n bm b hm hn e)).trans kw, k3, k4⟩
  · rw [hget] at hm hl
    have hm' : ∃ b', h.m.get m = some b' := by
      by_cases e : m = n
      · exact ⟨b, e ▸ hn⟩
      · rw [if_neg e] at hm; exact ⟨_, hm⟩
    have hl' : ∃ b', h.m.get l = some b' := by
      by_cases e : l = n
      · exact ⟨b, e ▸ hn⟩
      · rw [if_neg e] at hl; exact ⟨_, hl⟩
    obtain ⟨b1, hb1⟩ := hm'
    obtain ⟨b2, hb2⟩ := hl'
    exact g.sep m l b1 b2 hb1 hb2 hne

theorem store_spot (g : Gam σ B h w) {n off : Nat} {cs : List AV} {h' : Hp} (hs : store h n off cs = some h') : (σ n).s = none := by
  cases hn : h.m.get n with
  | none => rw [store_none hn] at hs; cases hs
  | some b => exact (g.blk n b hn).2.2.1
theorem load_spot (g : Gam σ B h w) {n off k : Nat} {vs : List AV} (hl : load h n off k = some vs) (hk : 0 < k) : (σ n).s = none := by
  cases hn : h.m.get n with
  | none =>
    rw [load_none hn] at hl
    obtain ⟨hlen, hi⟩ := roCells_spec k _ _ _ hl
    exact (g.ro n _ vs[0] (hi 0 vs[0] (List.getElem?_eq_getElem (by omega)))).2.2.2.1
  | some b => exact (g.blk n b hn).2.2.1
/-- a store into cells that are known -/
theorem store_sound {P : Program} (g : Gam σ B h w) {n off : Nat} {cs : List AV} {h' : Hp} (hs : store h n off cs = some h') (hcs : oks σ h.c cs) :
    h'.c = h.c ∧ ∃ w', (storeCells ⟨(σ n).b, (σ n).o + off, none⟩ (concs σ cs)).run P w = .ok () w' ∧ Gam σ B h' w' ∧ Bel B w w' := by
  cases hn : h.m.get n with
  | none => rw [store_none hn] at hs; cases hs
  | some b =>
    rw [store_some hn] at hs
    cases hk : known b.cells off cs.length && onesA cs with
    | false => rw [hk] at hs; cases hs
    | true =>
      rw [hk] at hs
      simp only [cond_true, Option.some.injEq] at hs
      subst hs
      rw [Bool.and_eq_true] at hk
      obtain ⟨_, hB, _, cur, hw, hc, hgr⟩ := g.blk n b hn
      by_cases h0 : cs.length = 0
      · have : cs = [] := List.eq_nil_of_length_eq_zero h0
        subst this
        refine ⟨rfl, w, by simp [concs, storeCells], ?_, Bel.refl _ _⟩
        have hget : ∀ m, (h.m.put n (some (⟨setCells b.cells off [], b.n, b.elem, b.grow⟩ : Blk))).get m = h.m.get m := fun m => by
          rw [T.get_put]
          by_cases e : m = n
          · rw [if_pos e, e, hn]; rfl
          · rw [if_neg e]
        exact ⟨g.base, fun m bm hm => g.blk m bm (by rw [← hget]; exact hm), fun m l bm bl hm hl hne => g.sep m l bm bl (by rw [← hget]; exact hm) (by rw [← hget]; exact hl) hne, g.keep rfl (Nat.le_refl _) (fun _ _ => rfl) (fun m _ h0 => (hget m).trans h0) (Bel.refl _ _)⟩
      · obtain ⟨v, hv⟩ := known_spec _ _ _ hk.1 (cs.length - 1) (by omega)
        have hlast := (hc _ v hv).2.1
        have hlt := (Array.getElem?_eq_some_iff.1 hlast).1
        have hfit : (σ n).o + off + cs.length ≤ cur.size := by omega
        have hrun := run_storeCells_at (P := P) (σ n).b ((σ n).o + off) b.elem (concs σ cs) 0 cur w hw (by rw [concs_length]; omega) (onesA_spec σ cs hk.2)
        simp only [Nat.add_zero] at hrun
        exact ⟨rfl, _, hrun, row_sound g hn hcs hw hfit b.n (Nat.le_refl _) (by have := (hc _ v hv).2.2; omega) (fun h0 => (hgr h0).2.1), below_setRow' (Bel.refl _ _) hB _⟩
end
end Go.Proofs.Abs
