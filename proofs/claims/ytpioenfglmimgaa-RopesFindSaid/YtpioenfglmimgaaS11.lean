import Derived.Test.YtpioenfglmimgaaSA
import Derived.WalkKit
import Derived.Orders
import Derived.LoopN
import Derived.Laws.CopyRow
import Derived.Laws.Tables
import Derived.Laws.Rows
import Derived.Great.BuildSlice
import Derived.Laws.MakeOwn
import Derived.Laws.Append
import Derived.Laws.AppendOwn
import Derived.Lib.Strings
import Derived.WalkSpells
import Derived.Lib.SliceRun
namespace Go.Proofs.Abs
open Go Go.RowKit
set_option linter.unusedSimpArgs false
set_option linter.unusedVariables false
/-! The evaluator is sound, part 11: a region in whatever order. -/
section
variable {P : Program} {C : Ctx} {B : Keep} {ops : Array Oper}

theorem trace_of {call : CallF} : ∀ (l : List Oper) (k : Nat), ops.toList.drop k = l → ∀ (e : Env) (h : Hp) (e' : Env) (h' : Hp), opsA C call ops.toList l e h = some (e', h') →
    ∃ (E : Nat → Env) (H : Nat → Hp) (V : Nat → AV), E k = e ∧ H k = h ∧ E (k + l.length) = e' ∧ H (k + l.length) = h' ∧
      ∀ i o, k ≤ i → ops[i]? = some o → StepTo C call ops.toList (E i) (H i) o (V i) (H (i + 1)) ∧ E (i + 1) = putA (E i) (V i) o.dst := by
  intro l
  induction l with
  | nil =>
    intro k hk e h e' h' hr
    cases hr
    refine ⟨fun _ => e, fun _ => h, fun _ => uv, rfl, rfl, rfl, rfl, fun i o hi ho => ?_⟩
    have h1 : ops.size ≤ k := by
      have := congrArg List.length hk
      simp at this
      omega
    have := (Array.getElem?_eq_some_iff.1 ho).1
    omega
  | cons x l ih =>
    intro k hk e h e' h' hr
    obtain ⟨v, h1, hs, hr⟩ := opsA_step hr
    have hk' : ops.toList.drop (k + 1) = l := by rw [← List.drop_drop, hk]; rfl
    have hx : ops[k]? = some x := by
      have : (ops.toList.drop k)[0]? = some x := by rw [hk]; rfl
      rw [List.getElem?_drop] at this
      simpa using this
    obtain ⟨E, H, V, e1, e2, e3, e4, e5⟩ := ih (k + 1) hk' _ _ _ _ hr
    refine ⟨fun i => if i = k then e else E i, fun i => if i = k then h else H i, fun i => if i = k then v else V i, by simp, by simp, ?_, ?_, fun i o hi ho => ?_⟩
    · dsimp only; rw [List.length_cons, if_neg (by omega), ← e3]; congr 1; omega
    · dsimp only; rw [List.length_cons, if_neg (by omega), ← e4]; congr 1; omega
    · by_cases hik : i = k
      · subst hik
        rw [hx] at ho
        cases ho
        simp only [if_true, if_neg (show ¬ (i + 1 = i) by omega)]
        rw [e1, e2]
        exact ⟨hs, rfl⟩
      · simp only [if_neg hik, if_neg (show ¬ (i + 1 = k) by omega)]
        exact e5 i o (by omega) ho

/-- the value of a slot behind the operations that are listed -/
noncomputable def valL (ops : Array Oper) (e : Env) (V : Nat → AV) (L : Nat → Bool) : Nat → Nat → Option AV
  | 0, t => e.get t
  | k + 1, t => if L k = true ∧ (ops[k]?).bind (·.dst) = some t then some (V k) else valL ops e V L k t

variable {e : Env} {V : Nat → AV}
theorem valL_congr {L L' : Nat → Bool} {t : Nat} : ∀ n, (∀ k, k < n → (ops[k]?).bind (·.dst) = some t → L k = L' k) → valL ops e V L n t = valL ops e V L' n t := by
  intro n
  induction n with
  | zero => intro _; rfl
  | succ n ih =>
    intro h
    simp only [valL]
    rw [ih fun k hk => h k (by omega)]
    by_cases hd : (ops[n]?).bind (·.dst) = some t
    · rw [h n (by omega) hd]
    · simp [hd]
theorem valL_last {L : Nat → Bool} {t i : Nat} (hi : L i = true) (hd : (ops[i]?).bind (·.dst) = some t) : ∀ n, i < n → (∀ k, i < k → k < n → (ops[k]?).bind (·.dst) = some t → L k = false) → valL ops e V L n t = some (V i) := by
  intro n
  induction n with
  | zero => intro h; omega
  | succ n ih =>
    intro hin h
    simp only [valL]
    by_cases hni : n = i
    · subst hni; rw [if_pos ⟨hi, hd⟩]
    · rw [if_neg (fun hc => by have := h n (by omega) (by omega) hc.2; rw [this] at hc; cases hc.1)]
      exact ih (by omega) fun k h1 h2 => h k h1 (by omega)
theorem valL_trace {E : Nat → Env} (h0 : E 0 = e) (hE : ∀ i o, ops[i]? = some o → E (i + 1) = putA (E i) (V i) o.dst) (t : Nat) : ∀ n, n ≤ ops.size → valL ops e V (fun _ => true) n t = (E n).get t := by
  intro n
  induction n with
  | zero => intro _; rw [h0]; rfl
  | succ n ih =>
    intro hn
    have ho : ops[n]? = some ops[n] := Array.getElem?_eq_getElem (by omega)
    simp only [valL]
    rw [hE n _ ho, ho]
    simp only [Option.bind_some, true_and]
    cases hd : ops[n].dst with
    | none => simp only [putA, reduceCtorEq, if_false]; exact ih (by omega)
    | some d =>
      show _ = (T.put (E n) d (some (V n))).get t
      rw [T.get_put]
      by_cases e1 : t = d
      · subst e1; simp
      · rw [if_neg (fun h => e1 (by injection h with h; exact h.symm)), if_neg e1]; exact ih (by omega)
theorem valL_upto {i : Nat} {t : Nat} : ∀ n, i ≤ n → valL ops e V (fun k => decide (k < i)) n t = valL ops e V (fun _ => true) i t := by
  intro n
  induction n with
  | zero => intro h; have : i = 0 := by omega
            subst this; rfl
  | succ n ih =>
    intro h
    by_cases hi : i = n + 1
    · subst hi
      exact valL_congr (n + 1) fun k hk _ => by simp [hk]
    · simp only [valL]
      rw [if_neg (by simp; omega)]
      exact ih (by omega)

theorem kind_le (op : Op) : kindA op = 0 ∨ kindA op = 1 ∨ kindA op = 2 ∨ kindA op = 3 := by
  cases op <;> first | exact .inl rfl | exact .inr (.inl rfl) | exact .inr (.inr (.inl rfl)) | exact .inr (.inr (.inr rfl)) | skip
  case call c =>
    obtain ⟨callee, args, ts⟩ := c
    cases callee <;> first | exact .inr (.inr (.inl rfl)) | skip
    case builtin b => cases b <;> first | exact .inl rfl | exact .inr (.inr (.inl rfl))

/-- a heap, or one with one block more -/
def Grown (h h' : Hp) : Prop := h' = h ∨ ∃ b, h' = ⟨h.m.put h.c (some b), h.c + 1, h.ro⟩
theorem phase2 {H : Nat → Hp} {k : Nat} : ∀ (d : Nat), (∀ m, k ≤ m → m < k + d → Grown (H m) (H (m + 1))) →
    (H (k + d)).ro = (H k).ro ∧ (H k).c ≤ (H (k + d)).c ∧ ((∀ n, (H k).c ≤ n → (H k).m.get n = none) → ∀ n, (H (k + d)).c ≤ n → (H (k + d)).m.get n = none) ∧ (∀ n, n < (H k).c → (H (k + d)).m.get n = (H k).m.get n) := by
  intro d
  induction d with
  | zero => intro _; exact ⟨rfl, Nat.le_refl _, fun h => h, fun _ _ => rfl⟩
  | succ d ih =>
    intro hg
    obtain ⟨i1, i2, i3, i4⟩ := ih fun m h1 h2 => hg m h1 (by omega)
    rcases hg (k + d) (by omega) (by omega) with h | ⟨b, h⟩
    · rw [show k + (d + 1) = k + d + 1 from rfl, h]
      exact ⟨i1, i2, i3, i4⟩
    · rw [show k + (d + 1) = k + d + 1 from rfl, h]
      refine ⟨i1, by show _ ≤ (H (k + d)).c + 1; omega, fun hf n hn => ?_, fun n hn => ?_⟩
      · have hn' : (H (k + d)).c + 1 ≤ n := hn
        show ((H (k + d)).m.put (H (k + d)).c (some b)).get n = none
        rw [T.get_put, if_neg (by omega)]
        exact i3 hf n (by omega)
      · show ((H (k + d)).m.put (H (k + d)).c (some b)).get n = _
        rw [T.get_put, if_neg (by omega)]
        exact i4 n hn
/-- the operation that has made a name -/
theorem name_of {H : Nat → Hp} {j : Nat} : ∀ (d : Nat), (∀ m, j ≤ m → m < j + d → Grown (H m) (H (m + 1))) → ∀ n, (H j).c ≤ n → n < (H (j + d)).c → ∃ k, j ≤ k ∧ k < j + d ∧ (H k).c = n ∧ (H (k + 1)).c = n + 1 := by
  intro d
  induction d with
  | zero => intro _ n h1 h2; exact absurd h2 (by simpa using h1)
  | succ d ih =>
    intro hg n h1 h2
    rcases hg (j + d) (by omega) (by omega) with h | ⟨b, h⟩
    · rw [show j + (d + 1) = j + d + 1 from rfl, h] at h2
      obtain ⟨k, k1, k2, k3⟩ := ih (fun m a b => hg m a (by omega)) n h1 h2
      exact ⟨k, k1, by omega, k3⟩
    · have hc : (H (j + d + 1)).c = (H (j + d)).c + 1 := by rw [h]
      rw [show j + (d + 1) = j + d + 1 from rfl, hc] at h2
      by_cases hn : n = (H (j + d)).c
      · exact ⟨j + d, by omega, by omega, hn.symm, by rw [hc, hn]⟩
      · obtain ⟨k, k1, k2, k3⟩ := ih (fun m a b => hg m a (by omega)) n h1 (by omega)
        exact ⟨k, k1, by omega, k3⟩
def Done (H : Nat → Hp) (L : Array Bool) (j q n : Nat) : Prop := ∃ k, j ≤ k ∧ k < q ∧ (H k).c = n ∧ (H (k + 1)).c = n + 1 ∧ L.getD k false = true
def Pend (H : Nat → Hp) (L : Array Bool) (j q n : Nat) : Prop := ∃ k, j ≤ k ∧ k < q ∧ (H k).c = n ∧ (H (k + 1)).c = n + 1 ∧ L.getD k false = false
/-- memory at the beginning of a phase, and what has been made in it since -/
structure Part (H : Nat → Hp) (L : Array Bool) (j q : Nat) (hx : Hp) : Prop where
  c : hx.c = (H q).c
  ro : hx.ro = (H j).ro
  old : ∀ n, n < (H j).c → hx.m.get n = (H j).m.get n
  done : ∀ n, (H j).c ≤ n → Done H L j q n → hx.m.get n = (H q).m.get n
  not : ∀ n, (H j).c ≤ n → ¬ Done H L j q n → hx.m.get n = none
theorem newBlk_gam {hx : Hp} {w w2 : World} {cs : List AV} {t : TypeId} {nm : Nat} {τ σ2 : Nat → Loc} (g : Gam τ B hx w) (hcs : oks τ hx.c cs) (hn : nm < hx.c) (hb : (σ2 hx.c).b = (τ nm).b) (ho : (σ2 hx.c).o = (τ nm).o) (hs : (σ2 hx.c).s = (τ nm).s)
    (b1 : ∀ n, n < hx.c → σ2 n = τ n) (b4 : Gam σ2 B (newBlk hx cs t 0) w2) : Gam τ B ⟨hx.m.put nm (some ⟨setCells .leaf 0 cs, cs.length, t, 0⟩), hx.c, hx.ro⟩ w2 := by
  have hnew : (newBlk hx cs t 0).m.get hx.c = some ⟨setCells .leaf 0 cs, cs.length, t, 0⟩ := by
    show (hx.m.put hx.c _).get hx.c = _
    rw [T.get_put, if_pos rfl]
  have hold : ∀ n, n < hx.c → (newBlk hx cs t 0).m.get n = hx.m.get n := fun n hl => by
    show (hx.m.put hx.c _).get n = _
    rw [T.get_put, if_neg (by omega)]
  obtain ⟨_, c2, c9, ar, c3, c4, _⟩ := b4.blk hx.c _ hnew
  refine ⟨b4.base, ?_, ?_, ?_⟩
  · intro n b hgn
    change (hx.m.put nm (some ⟨setCells .leaf 0 cs, cs.length, t, 0⟩)).get n = some b at hgn
    rw [T.get_put] at hgn
    by_cases e1 : n = nm
    · rw [if_pos e1] at hgn
      cases hgn
      subst e1
      refine ⟨hn, by rw [← hb]; exact c2, by rw [← hs]; exact c9, ar, by rw [← hb]; exact c3, fun i v hv => ?_, fun h0 => absurd h0 (by simp)⟩
      obtain ⟨k1, k2, k3⟩ := c4 i v hv
      have hmem : cs[i]? = some v := by
        have := hv
        rw [setCells_get, Nat.sub_zero] at this
        split at this
        · exact this
        · rw [T.get_leaf] at this; cases this
      have hok : v.ok τ hx.c := (oks_iff _ _ _).1 hcs v (List.mem_of_getElem? hmem)
      exact ⟨hok, by rw [← ho, k2, conc_agree b1 v hok], k3⟩
    · rw [if_neg e1] at hgn
      obtain ⟨h1, _, h9, _, _, h4, _⟩ := g.blk n b hgn
      obtain ⟨_, d2, _, ar2, d3, d4, d5⟩ := b4.blk n b (by rw [hold n h1]; exact hgn)
      rw [b1 n h1] at d2 d3 d4 d5
      refine ⟨h1, d2, h9, ar2, d3, fun i v hv => ?_, d5⟩
      obtain ⟨k1, _, k3⟩ := h4 i v hv
      obtain ⟨_, m2, _⟩ := d4 i v hv
      exact ⟨k1, by rw [m2, conc_agree b1 v k1], k3⟩
  · intro n m bn bm hgn hgm hne
    change (hx.m.put nm (some ⟨setCells .leaf 0 cs, cs.length, t, 0⟩)).get n = some bn at hgn
    change (hx.m.put nm (some ⟨setCells .leaf 0 cs, cs.length, t, 0⟩)).get m = some bm at hgm
    rw [T.get_put] at hgn hgm
    by_cases e1 : n = nm
    · rw [if_neg (by omega)] at hgm
      have h1 := (g.blk m bm hgm).1
      have := b4.sep hx.c m _ bm hnew (by rw [hold m h1]; exact hgm) (by omega)
      rw [b1 m h1, hb] at this
      rw [e1]
      exact this
    · rw [if_neg e1] at hgn
      have h1 := (g.blk n bn hgn).1
      by_cases e2 : m = nm
      · have := b4.sep n hx.c bn _ (by rw [hold n h1]; exact hgn) hnew (by omega)
        rw [b1 n h1, hb] at this
        rw [e2]
        exact this
      · rw [if_neg e2] at hgm
        have h2 := (g.blk m bm hgm).1
        have := b4.sep n m bn bm (by rw [hold n h1]; exact hgn) (by rw [hold m h2]; exact hgm) hne
        rwa [b1 n h1, b1 m h2] at this
  · intro n off v hv
    obtain ⟨h1, h2, h3, h9, h4, _⟩ := g.ro n off v hv
    obtain ⟨_, _, _, _, _, k5⟩ := b4.ro n off v hv
    refine ⟨h1, ?_, h3, h9, h4, ?_⟩
    · show (hx.m.put nm _).get n = none
      rw [T.get_put]
      by_cases e1 : n = nm
      · subst e1
        rw [hb] at c2
        exact absurd (B.sub _ h4) c2
      · rw [if_neg e1]; exact h2
    · rw [b1 n h1, conc_agree b1 v h3] at k5
      exact k5

theorem apart_symm {x y : Oper} (h1 : Oper.apart ops x y = true) : Oper.apart ops y x = true := by
  obtain ⟨p1, p2, p3⟩ := Oper.apart_spec h1
  unfold Oper.apart
  rw [Bool.and_eq_true]
  constructor
  · cases hd : y.dst with
    | none => rfl
    | some d =>
      dsimp only
      rw [Bool.and_eq_true]
      refine ⟨by simpa using p3 d hd, ?_⟩
      cases hd2 : x.dst with
      | none => rfl
      | some d2 => have := p2 d2 hd2; rw [hd] at this; simp; exact fun h => this (by rw [h])
  · cases hd : x.dst with
    | none => rfl
    | some d => dsimp only; simpa using p1 d hd
theorem kind3_call {op : Op} (h0 : kindA op = 3) (e : Env) : callA e op = none := by
  cases op <;> first | rfl | (cases h0; done) | skip
  rename_i c
  obtain ⟨callee, args, ts⟩ := c
  cases callee with
  | value f => cases h0
  | invoke r m => cases h0
  | builtin b => rfl
theorem kind1_load {op : Op} (h0 : kindA op = 1) : ∃ t x, op = .load t x := by
  cases op <;> first | exact ⟨_, _, rfl⟩ | (cases h0; done) | skip
  rename_i c
  obtain ⟨callee, args, ts⟩ := c
  cases callee with
  | value f => cases h0
  | invoke r m => cases h0
  | builtin b => cases b <;> cases h0
def isTwo (ops : Array Oper) (k : Nat) : Bool :=
  match ops[k]? with
  | some ok => Nat.beq (kindA ok.op) 2
  | none => false
/-! Memory of zeros that is made ahead of its turn. -/
def Erl (H : Nat → Hp) (L : Array Bool) (q i : Nat) : Prop := q < i ∧ L.getD i false = true ∧ (H (i + 1)).c = (H i).c + 1
def addK (B : Keep) (S : Nat → Prop) : Keep := ⟨fun k => B.keep k ∨ S k, B.ro, fun k h => .inl (B.sub k h)⟩
theorem Gam.less {B B' : Keep} {σ : Nat → Loc} {h : Hp} {w : World} (g : Gam σ B' h w) (h1 : ∀ k, B.keep k → B'.keep k) (h2 : ∀ k, B'.ro k → B.ro k) : Gam σ B h w :=
  ⟨fun k hk => g.base k (h1 k hk), fun n b hn => by
    obtain ⟨k1, k2, k3⟩ := g.blk n b hn
    exact ⟨k1, fun hk => k2 (h1 _ hk), k3⟩, g.sep, fun n off v hv => by
    obtain ⟨k1, k2, k3, k9, k4, k5⟩ := g.ro n off v hv
    exact ⟨k1, k2, k3, k9, h2 _ k4, k5⟩⟩
theorem Bel.less {B B' : Keep} {w w' : World} (g : Bel B' w w') (h1 : ∀ k, B.keep k → B'.keep k) : Bel B w w' := ⟨g.os, g.tape, g.output, g.size, fun k hk hs => g.block k (h1 k hk) hs⟩
theorem Gam.more {B : Keep} {S : Nat → Prop} {σ : Nat → Loc} {h : Hp} {w : World} (g : Gam σ B h w) (h1 : ∀ k, S k → k < w.heap.size) (h2 : ∀ n b, h.m.get n = some b → ¬ S (σ n).b) : Gam σ (addK B S) h w :=
  ⟨fun k hk => by
    rcases hk with hk | hk
    · exact g.base k hk
    · exact h1 k hk, fun n b hn => by
    obtain ⟨k1, k2, k3⟩ := g.blk n b hn
    exact ⟨k1, fun hk => by
      rcases hk with hk | hk
      · exact k2 hk
      · exact h2 n b hn hk, k3⟩, g.sep, g.ro⟩
/-- one more block, which lies in memory already -/
theorem Gam.absorb {B : Keep} {τ : Nat → Loc} {h : Hp} {w : World} (g : Gam τ B h w) {nm : Nat} {b : Blk} (hn : nm < h.c) (hb : ¬ B.keep (τ nm).b) (hsn : (τ nm).s = none) {ar : Array Value} (hw : w.heap[(τ nm).b]? = some (.cells ar b.elem (0, 0)))
    (hc : ∀ i v, b.cells.get i = some v → v.ok τ h.c ∧ ar[(τ nm).o + i]? = some (conc τ v) ∧ i < b.n) (hg : b.grow = 0) (hs : ∀ n b', h.m.get n = some b' → n ≠ nm → (τ n).b ≠ (τ nm).b) : Gam τ B ⟨h.m.put nm (some b), h.c, h.ro⟩ w := by
  refine ⟨g.base, fun n b' hn' => ?_, fun n m bn bm hn' hm' hne => ?_, fun n off v hv => ?_⟩
  · change (h.m.put nm (some b)).get n = some b' at hn'
    rw [T.get_put] at hn'
    by_cases e1 : n = nm
    · rw [if_pos e1] at hn'
      cases hn'
      subst e1
      exact ⟨hn, hb, hsn, ar, hw, hc, fun h0 => absurd h0 (by omega)⟩
    · rw [if_neg e1] at hn'
      exact g.blk n b' hn'
  · change (h.m.put nm (some b)).get n = some bn at hn'
    change (h.m.put nm (some b)).get m = some bm at hm'
    rw [T.get_put] at hn' hm'
    by_cases e1 : n = nm
    · rw [if_neg (by omega)] at hm'
      rw [e1]
      exact fun e => hs m bm hm' (by omega) e.symm
    · rw [if_neg e1] at hn'
      by_cases e2 : m = nm
      · rw [e2]
        exact hs n bn hn' e1
      · rw [if_neg e2] at hm'
        exact g.sep n m bn bm hn' hm' hne
  · obtain ⟨k1, k2, k3, k9, k4, k5⟩ := g.ro n off v hv
    refine ⟨k1, ?_, k3, k9, k4, k5⟩
    show (h.m.put nm (some b)).get n = none
    rw [T.get_put, if_neg (fun e => hb (by rw [← e]; exact B.sub _ k4))]
    exact k2
theorem lit_cells (z : Value) : ∀ v ∈ cellsOf (.lit z), ∃ u, v = AV.lit u := by
  have hl : ∀ l : List Value, ∀ v ∈ litCells l, ∃ u, v = AV.lit u := by
    intro l
    induction l with
    | nil => intro v hv; cases hv
    | cons x l ih =>
      intro v hv
      change v ∈ AV.lit x :: litCells l at hv
      rcases List.mem_cons.1 hv with h | h
      · exact ⟨x, h⟩
      · exact ih v h
  intro v hv
  revert hv
  unfold cellsOf
  split
  · rename_i heq; cases heq
  · exact fun hv => hl _ v hv
  · intro hv
    rw [List.mem_singleton.1 hv]
    exact ⟨_, rfl⟩
theorem lit_repl (z : Value) : ∀ (n : Nat), ∀ v ∈ repl (cellsOf (.lit z)) n, ∃ u, v = AV.lit u := by
  intro n
  induction n with
  | zero => intro v hv; cases hv
  | succ n ih =>
    intro v hv
    change v ∈ cellsOf (.lit z) ++ repl (cellsOf (.lit z)) n at hv
    rcases List.mem_append.1 hv with h | h
    · exact lit_cells z v h
    · exact ih v h
theorem alloc_lit {C : Ctx} {op : Op} (hk : isAlloc op = true) {e : Env} {h : Hp} {r : AV × Hp} (hr : opA C e h op = some r) : kindA op = 3 ∧ ∃ cs t F, isShape F ∧ r = (F h.c, newBlk h cs t 0) ∧ (∀ v ∈ cs, ∃ u, v = AV.lit u) ∧ ∀ h2, opA C e h2 op = some (F h2.c, newBlk h2 cs t 0) := by
  cases op <;> try (cases hk; done)
  case alloc t =>
    refine ⟨rfl, ?_⟩
    change allocA h t (C.tys.get t) = some r at hr
    cases ht : C.tys.get t with
    | none => rw [ht] at hr; cases hr
    | some ti =>
      rw [ht] at hr
      obtain ⟨h1, h2⟩ := cond_none hr
      cases h2
      refine ⟨cellsOf (.lit ti.zero), t, fun n => .ptr n 0, .inl fun _ => rfl, rfl, lit_cells _, fun h2 => ?_⟩
      show allocA h2 t (C.tys.get t) = _
      rw [ht]
      show cond (Nat.blt 0 ti.size) _ none = _
      rw [h1]
      rfl
  case makeSlice t l k =>
    refine ⟨rfl, ?_⟩
    change oMakeSlice C h t (ev e l) (ev e k) = some r at hr
    cases hl : ev e l with
    | none => rw [hl] at hr; cases hr
    | some vl =>
      cases hkk : ev e k with
      | none => rw [hl, hkk] at hr; cases hr
      | some vk =>
        rw [hl, hkk] at hr
        change makeSliceA C h t vl vk = some r at hr
        unfold makeSliceA at hr
        cases ht : C.tys.get t with
        | none => rw [ht] at hr; cases hr
        | some ti =>
          rw [ht] at hr
          dsimp only at hr
          split at hr
          · rename_i el hd
            cases he : C.tys.get el with
            | none => rw [he] at hr; cases hr
            | some te =>
              rw [he] at hr
              dsimp only at hr
              cases h1 : natOf? vk 1048576 with
              | none => rw [h1] at hr; cases hr
              | some c1 =>
                rw [h1] at hr
                dsimp only at hr
                cases h2 : natOf? vl c1 with
                | none => rw [h2] at hr; cases hr
                | some l1 =>
                  rw [h2] at hr
                  dsimp only at hr
                  obtain ⟨h3, hr⟩ := cond_none hr
                  cases hr
                  refine ⟨repl (cellsOf (.lit te.zero)) c1, el, fun m => .slice m 0 l1 false c1 0, .inr ⟨l1, c1, fun _ => rfl⟩, rfl, lit_repl _ _, fun h4 => ?_⟩
                  show oMakeSlice C h4 t (ev e l) (ev e k) = _
                  rw [hl, hkk]
                  show makeSliceA C h4 t vl vk = _
                  unfold makeSliceA
                  rw [ht]
                  dsimp only
                  rw [hd]
                  dsimp only
                  rw [he]
                  dsimp only
                  rw [h1]
                  dsimp only
                  rw [h2]
                  dsimp only
                  rw [h3]
                  rfl
          · cases hr
/-- what was made, left out -/
theorem dropBlk_gam {B : Keep} {hx : Hp} {w w2 : World} {cs : List AV} {t : TypeId} {τ σ2 : Nat → Loc} (g : Gam τ B hx w) (b1 : ∀ n, n < hx.c → σ2 n = τ n) (b4 : Gam σ2 B (newBlk hx cs t 0) w2) :
    Gam τ B hx w2 ∧ ∀ n b, hx.m.get n = some b → (τ n).b ≠ (σ2 hx.c).b := by
  have hnew : (newBlk hx cs t 0).m.get hx.c = some ⟨setCells .leaf 0 cs, cs.length, t, 0⟩ := by
    show (hx.m.put hx.c _).get hx.c = _
    rw [T.get_put, if_pos rfl]
  have hold : ∀ n, n < hx.c → (newBlk hx cs t 0).m.get n = hx.m.get n := fun n hl => by
    show (hx.m.put hx.c _).get n = _
    rw [T.get_put, if_neg (by omega)]
  refine ⟨⟨b4.base, ?_, ?_, ?_⟩, ?_⟩
  · intro n b hgn
    obtain ⟨h1, _, h9, _, _, h4, _⟩ := g.blk n b hgn
    obtain ⟨_, d2, _, ar2, d3, d4, d5⟩ := b4.blk n b (by rw [hold n h1]; exact hgn)
    rw [b1 n h1] at d2 d3 d4 d5
    refine ⟨h1, d2, h9, ar2, d3, fun i v hv => ?_, d5⟩
    obtain ⟨k1, _, k3⟩ := h4 i v hv
    obtain ⟨_, m2, _⟩ := d4 i v hv
    exact ⟨k1, by rw [m2, conc_agree b1 v k1], k3⟩
  · intro n m bn bm hgn hgm hne
    have h1 := (g.blk n bn hgn).1
    have h2 := (g.blk m bm hgm).1
    have := b4.sep n m bn bm (by rw [hold n h1]; exact hgn) (by rw [hold m h2]; exact hgm) hne
    rwa [b1 n h1, b1 m h2] at this
  · intro n off v hv
    obtain ⟨h1, h2, h3, h9, h4, _⟩ := g.ro n off v hv
    obtain ⟨_, _, _, _, _, k5⟩ := b4.ro n off v hv
    rw [b1 n h1, conc_agree b1 v h3] at k5
    exact ⟨h1, h2, h3, h9, h4, k5⟩
  · intro n b hgn
    have h1 := (g.blk n b hgn).1
    have := b4.sep n hx.c b _ (by rw [hold n h1]; exact hgn) hnew (by omega)
    rwa [b1 n h1] at this
noncomputable def clrE (e : Env) : Option Tmp → Env
  | none => e
  | some d => T.put e d none
theorem clrE_get (e : Env) (d : Option Tmp) (t : Nat) : (clrE e d).get t = if d = some t then none else e.get t := by
  cases d with
  | none => simp [clrE]
  | some d =>
    show (T.put e d none).get t = _
    rw [T.get_put]
    by_cases h : t = d
    · rw [if_pos h, if_pos (by rw [h])]
    · rw [if_neg h, if_neg (fun e => h (Option.some.inj e).symm)]
structure Ear (B : Keep) (ops : Array Oper) (V : Nat → AV) (H : Nat → Hp) (L : Array Bool) (q : Nat) (ρ : Nat → Loc) (eD : Env) (S : Nat → Prop) (a' : Act) (w' : World) : Prop where
  s1 : ∀ i, Erl H L q i → S (ρ i).b
  s2 : ∀ i, Erl H L q i → ∃ b, (H (i + 1)).m.get (H i).c = some b ∧ b.grow = 0 ∧ ∃ ar, w'.heap[(ρ i).b]? = some (.cells ar b.elem (0, 0)) ∧ ∀ (τ : Nat → Loc) c x v, b.cells.get x = some v → v.ok τ c ∧ ar[(ρ i).o + x]? = some (conc τ v) ∧ x < b.n
  s3 : ∀ i o, Erl H L q i → ops[i]? = some o → ∀ (τ : Nat → Loc) c, τ (H i).c = ρ i → (H i).c < c → EnvOk τ c (putA .leaf (V i) o.dst) a'
  s4 : ∀ i k, Erl H L q i → Erl H L q k → i ≠ k → (ρ i).b ≠ (ρ k).b
  s5 : ∀ t i o, Erl H L q i → ops[i]? = some o → o.dst = some t → eD.get t = none
  s6 : ∀ i, Erl H L q i → ¬ B.keep (ρ i).b ∧ (ρ i).s = none
theorem Ear.keep {B : Keep} {ops : Array Oper} {V : Nat → AV} {H : Nat → Hp} {L L' : Array Bool} {q q' : Nat} {ρ : Nat → Loc} {eD : Env} {S : Nat → Prop} {a' : Act} {w' w2 : World} (E : Ear B ops V H L q ρ eD S a' w') (hL : ∀ i, Erl H L' q' i → Erl H L q i)
    (hb : Bel (addK B S) w' w2) {dst : Option Tmp} {v : AV} {x : Value} (hd : ∀ i o, Erl H L' q' i → ops[i]? = some o → ∀ d, o.dst = some d → dst ≠ some d) : Ear B ops V H L' q' ρ (putA eD v dst) S (a'.put dst x) w2 := by
  refine ⟨fun i h => E.s1 i (hL i h), fun i h => ?_, fun i o h ho τ c h1 h2 => ?_, fun i k h h' => E.s4 i k (hL i h) (hL k h'), fun t i o h ho hdd => ?_, fun i h => E.s6 i (hL i h)⟩
  · obtain ⟨b, k1, k2, ar, k3, k4⟩ := E.s2 i (hL i h)
    exact ⟨b, k1, k2, ar, by rw [hb.block _ (.inr (E.s1 i (hL i h))) (Array.getElem?_eq_some_iff.1 k3).1]; exact k3, k4⟩
  · have he := E.s3 i o (hL i h) ho τ c h1 h2
    intro t u hu
    obtain ⟨k1, k2⟩ := he t u hu
    refine ⟨k1, ?_⟩
    cases hdd : o.dst with
    | none => rw [hdd] at hu; change T.get .leaf t = some u at hu; rw [T.get_leaf] at hu; cases hu
    | some d =>
      rw [hdd] at hu
      change (T.put .leaf d (some (V i))).get t = some u at hu
      rw [T.get_put] at hu
      by_cases e1 : t = d
      · subst e1
        have hne := hd i o h ho t hdd
        cases dst with
        | none => exact k2
        | some d' =>
          simp only [Act.put]
          rw [Array.getElem?_setIfInBounds_ne (fun e => hne (by rw [e]))]
          exact k2
      · rw [if_neg e1, T.get_leaf] at hu
        cases hu
  · have := E.s5 t i o (hL i h) ho hdd
    have hne := hd i o h ho t hdd
    cases dst with
    | none => exact this
    | some d' =>
      show (T.put eD d' (some v)).get t = none
      rw [T.get_put, if_neg (fun e => hne (by rw [e]))]
      exact this
/-- what holds between two operations of a region -/
def RInv (ops : Array Oper) (e : Env) (V : Nat → AV) (H : Nat → Hp) (h : Hp) (σ : Nat → Loc) (B : Keep) (a : Act) (w : World) (L : Array Bool) (a' : Act) (w' : World) : Prop :=
  ∃ (σ' : Nat → Loc) (eD : Env) (j q : Nat) (hx : Hp) (ρ : Nat → Loc) (S : Nat → Prop), L.size = ops.size ∧ Dn ops L ∧ (j ≤ q ∧ q ≤ ops.size ∧ (∀ k, j ≤ k → k < q → isTwo ops k = false) ∧ (q < ops.size → isTwo ops q = true) ∧ (j = 0 ∨ isTwo ops (j - 1) = true)) ∧
    (∀ m, (H j).c ≤ m → (H j).m.get m = none) ∧ Part H L j q hx ∧ (∀ m, m < h.c → σ' m = σ m) ∧ h.c ≤ (H j).c ∧
    (∀ τ : Nat → Loc, (∀ m, m < (H q).c → ¬ Pend H L j q m → τ m = σ' m) → Gam τ (addK B S) hx w' ∧ EnvOk τ hx.c eD a') ∧ a'.tmps.size = a.tmps.size ∧ a'.defers = a.defers ∧ Bel B w w' ∧
    (∀ i o, ops[i]? = some o → kindA o.op = 2 → (L.getD i false = true ↔ i < j)) ∧ (∀ t, (∀ i o, Erl H L q i → ops[i]? = some o → o.dst ≠ some t) → eD.get t = valL ops e V (fun k => L.getD k false) ops.size t) ∧ Ear B ops V H L q ρ eD S a' w'
theorem region_any (hT : TysOk P C) {call : CallF} (hcall : CallOk P call) {n : Nat} (hdst : dstsOk n ops.toList = true) (hdown : allDown 0 ops.toList = true)
    (hpairs : pairsOk ops (masksOf ops.toList []) (masksOf ops.toList []) [] ops.toList = true) {e : Env} {h : Hp} {a : Act} {w : World} {σ : Nat → Loc} {e' : Env} {h' : Hp} {Q : Exit → Act → World → Prop}
    {E : Nat → Env} {H : Nat → Hp} {V : Nat → AV} (t1 : E 0 = e) (t2 : H 0 = h) (t3 : E ops.size = e') (t4 : H ops.size = h')
    (t5 : ∀ i o, ops[i]? = some o → StepTo C call ops.toList (E i) (H i) o (V i) (H (i + 1)) ∧ E (i + 1) = putA (E i) (V i) o.dst)
    (hdyn : ∀ i k, (i, k) ∈ dynOf ops true → ∀ o, ops[i]? = some o → kindA o.op = 1 → wantedA ops.toList (E i) o.guard = some true → opA C (E i) (H k) o.op = some (V i, H k))
    (g : Gam σ B h w) (he : EnvOk σ h.c e a) (hn : n ≤ a.tmps.size) (hQ : ∀ a' w', After P σ B h a w e' h' a' w' → Q .normal a' w') :
    wpAny P .any ops Q ops.size (Array.replicate ops.size false) a w := by
  have hVE : ∀ k, k ≤ ops.size → ∀ t, valL ops e V (fun _ => true) k t = (E k).get t := fun k hk t => valL_trace t1 (fun i o ho => (t5 i o ho).2) t k hk
  have hH1 : ∀ i o, ops[i]? = some o → kindA o.op = 0 ∨ kindA o.op = 1 → H (i + 1) = H i := fun i o ho hk => by
    rcases hk with h0 | h0
    · exact (step_kind0 h0 (t5 i o ho).1).1
    · exact step_kind1 h0 (t5 i o ho).1
  have hGr : ∀ i o, ops[i]? = some o → kindA o.op ≠ 2 → Grown (H i) (H (i + 1)) := fun i o ho hk => by
    rcases kind_le o.op with h0 | h0 | h0 | h0
    · exact .inl (hH1 i o ho (.inl h0))
    · exact .inl (hH1 i o ho (.inr h0))
    · exact absurd h0 hk
    · rcases (t5 i o ho).1 with ⟨_, _, hh⟩ | ⟨_, hr⟩
      · exact .inl hh
      · have hc : callA (E i) o.op = none := by
          cases hop : o.op <;> rw [hop] at h0 <;> first | rfl | (cases h0; done) | skip
          rename_i c
          obtain ⟨callee, args, ts⟩ := c
          cases callee with
          | value f => cases h0
          | invoke r m => cases h0
          | builtin b => rfl
        unfold resOp at hr
        rw [hc] at hr
        dsimp only at hr
        obtain ⟨_, cs, t, F, _, hrr, _⟩ := alloc_spec hT h0 hr
        exact .inr ⟨_, (Prod.mk.inj hrr).2⟩
  have hp2 : ∀ k, isTwo ops k = true → ∃ ok, ops[k]? = some ok ∧ kindA ok.op = 2 := by
    intro k hk
    unfold isTwo at hk
    split at hk
    · rename_i ok hok
      exact ⟨ok, hok, Nat.eq_of_beq_eq_true hk⟩
    · cases hk
  have hp2' : ∀ k ok, isTwo ops k = false → ops[k]? = some ok → kindA ok.op ≠ 2 := by
    intro k ok hk hok h2
    unfold isTwo at hk
    rw [hok] at hk
    dsimp only at hk
    rw [h2] at hk
    cases hk
  -- the next operation of kind 2
  have hnext : ∀ j, j ≤ ops.size → ∃ q, j ≤ q ∧ q ≤ ops.size ∧ (∀ k, j ≤ k → k < q → isTwo ops k = false) ∧ (q < ops.size → isTwo ops q = true) := by
    intro j hj
    obtain ⟨d, hd⟩ := Nat.le.dest hj
    rcases least2 (isTwo ops) d j with hz | ⟨k, k1, k2, k3, k4⟩
    · exact ⟨ops.size, hj, Nat.le_refl _, fun k a b => hz k a (by omega), fun h => absurd h (Nat.lt_irrefl _)⟩
    · exact ⟨k, k1, by omega, k4, fun _ => k3⟩
  have hphase : ∀ j q, q ≤ ops.size → (∀ k, j ≤ k → k < q → isTwo ops k = false) → ∀ m, j ≤ m → m < q → Grown (H m) (H (m + 1)) := by
    intro j q hq hz m h1 h2
    have hm : ops[m]? = some ops[m] := Array.getElem?_eq_getElem (by omega)
    exact hGr m _ hm (hp2' m _ (hz m h1 h2) hm)
  have hph : ∀ j q, q ≤ ops.size → (∀ k, j ≤ k → k < q → isTwo ops k = false) → ∀ k r, j ≤ k → k ≤ r → r ≤ q →
      (H r).ro = (H k).ro ∧ (H k).c ≤ (H r).c ∧ ((∀ n, (H k).c ≤ n → (H k).m.get n = none) → ∀ n, (H r).c ≤ n → (H r).m.get n = none) ∧ (∀ n, n < (H k).c → (H r).m.get n = (H k).m.get n) := by
    intro j q hq hz k r h1 h2 h3
    obtain ⟨d, rfl⟩ := Nat.le.dest h2
    exact phase2 d fun m a b => hphase j q hq hz m (by omega) (by omega)
  refine wpAny_inv hdown (RInv ops e V H h σ B a w) ?_ ?_ ?_ ops.size _ a w ?_ ?_
  · rintro L a' w' ⟨σ', eD, j, q, hx, ρ, S, h1, h2, _⟩
    exact ⟨h1, h2⟩
  · -- one operation
    rintro L a' w' i ⟨σ', eD, j, q, hx, ρ, S, hL, hD, ⟨hjq, hqs, hz, hq2, hj0⟩, hfr, hpt, x1, x2, hU, x5, x6, x7, x9, x10, EA⟩ hi
    obtain ⟨hun, o, ho, hpre⟩ := mem_ready.1 hi
    have hlt := (Array.getElem?_eq_some_iff.1 ho).1
    have hun' : L.getD i false = false := by
      have hls : i < L.size := by omega
      simp [hls] at hun ⊢; exact hun
    have hahead : ∀ k, before ops i k = true → L.getD k false = true := fun k hk => closed_ready hdown hD hi k hk
    have hbehind : ∀ k, k < ops.size → before ops k i = true → L.getD k false = false := fun k hk hb => by
      cases hc : L.getD k false with
      | false => rfl
      | true => have := closed hdown hD k i hk hc hb; rw [hun'] at this; cases this
    have hLq : q < ops.size → L.getD q false = false := fun hq => by
      obtain ⟨ok, hok, hkk⟩ := hp2 q (hq2 hq)
      cases hc : L.getD q false with
      | false => rfl
      | true => have := (x9 q ok hok hkk).1 hc; omega
    -- what was made ahead of its turn
    have hel : ∀ k ok, Erl H L q k → ops[k]? = some ok → kindA ok.op = 3 ∧ isAlloc ok.op = true ∧ ∀ z, before ops z k = true → before ops z q = true := by
      intro k ok hk hok
      obtain ⟨k1, k2, k3⟩ := hk
      have hklt := (Array.getElem?_eq_some_iff.1 hok).1
      obtain ⟨oq, hoq, hqq⟩ := hp2 q (hq2 (by omega))
      have h3 : kindA ok.op = 3 := by
        rcases kind_le ok.op with h0 | h0 | h0 | h0
        · rw [hH1 k _ hok (.inl h0)] at k3; omega
        · rw [hH1 k _ hok (.inr h0)] at k3; omega
        · have := (x9 k ok hok h0).1 k2; omega
        · exact h0
      rcases pair_cases hpairs hoq hok k1 with hb | ⟨_, (hh | hh) | ⟨_, h5, h6⟩⟩
      · have := closed hdown hD k q hklt k2 hb
        rw [hLq (by omega)] at this
        cases this
      · rw [hqq, h3] at hh; cases hh
      · rw [hqq, h3] at hh; cases hh
      · exact ⟨h3, h5, h6⟩
    have hea : ∀ k ok, Erl H L q k → ops[k]? = some ok → k ≠ i → Oper.apart ops ok o = true ∧ Oper.apart ops o ok = true := by
      intro k ok hk hok hne
      have hklt := (Array.getElem?_eq_some_iff.1 hok).1
      obtain ⟨_, _, h6⟩ := hel k ok hk hok
      obtain ⟨k1, k2, k3⟩ := hk
      rcases Nat.lt_or_ge k i with hki | hki
      · rcases pair_cases hpairs hok ho hki with hb | ⟨h1, _⟩
        · have := hahead q (h6 i hb)
          rw [hLq (by omega)] at this
          cases this
        · exact ⟨h1, apart_symm h1⟩
      · rcases pair_cases hpairs ho hok (by omega) with hb | ⟨h1, _⟩
        · have := closed hdown hD k i hklt k2 hb
          rw [hun'] at this
          cases this
        · exact ⟨apart_symm h1, h1⟩
    have hndst : ∀ k ok, Erl H L q k → ops[k]? = some ok → k ≠ i → ∀ d, ok.dst = some d → o.dst ≠ some d := fun k ok hk hok hne d hd hd2 => (Oper.apart_spec (hea k ok hk hok hne).1).2.1 d hd hd2
    -- what has to keep its order has kept it
    have hcmp : ∀ k ok, ops[k]? = some ok → k ≠ i → (¬ (Oper.apart ops ok o = true ∧ Oper.apart ops o ok = true) ∨ (kindA ok.op = 2 ∧ (kindA o.op = 2 ∨ (kindA o.op = 3 ∧ i < k))) ∨ (kindA ok.op = 3 ∧ kindA o.op = 2 ∧ k < i)) → (L.getD k false = true ↔ k < i) := by
      intro k ok hk hne hc
      have hklt := (Array.getElem?_eq_some_iff.1 hk).1
      have hal : ∀ op : Op, isAlloc op = true → kindA op = 3 := fun op h => by cases op <;> first | rfl | cases h
      rcases Nat.lt_or_ge k i with hki | hki
      · rcases pair_cases hpairs hk ho hki with hb | ⟨h1, h2⟩
        · simp [hahead k hb, hki]
        · exfalso
          rcases hc with hc | hc
          · exact hc ⟨h1, apart_symm h1⟩
          · rcases hc with ⟨c1, c2 | ⟨c2, c3⟩⟩ | ⟨c1, c2, c3⟩
            · rcases h2 with (h2 | h2) | ⟨_, h2, _⟩
              · rw [c1, c2] at h2; cases h2
              · rw [c1, c2] at h2; cases h2
              · have := hal _ h2; omega
            · omega
            · rcases h2 with (h2 | h2) | ⟨h2, _, _⟩
              · rw [c1, c2] at h2; cases h2
              · rw [c1, c2] at h2; cases h2
              · omega
      · have hki' : i < k := by omega
        rcases pair_cases hpairs ho hk hki' with hb | ⟨h1, h2⟩
        · rw [hbehind k hklt hb]; simp; omega
        · exfalso
          rcases hc with hc | hc
          · exact hc ⟨apart_symm h1, h1⟩
          · rcases hc with ⟨c1, c2 | ⟨c2, c3⟩⟩ | ⟨c1, c2, c3⟩
            · rcases h2 with (h2 | h2) | ⟨_, h2, _⟩
              · rw [c1, c2] at h2; cases h2
              · rw [c1, c2] at h2; cases h2
              · have := hal _ h2; omega
            · rcases h2 with (h2 | h2) | ⟨h2, _, _⟩
              · rw [c1, c2] at h2; cases h2
              · rw [c1, c2] at h2; cases h2
              · omega
            · omega
    -- its operands are those of the text's order
    have hsame : SameOn ops o (E i) eD := by
      intro t ht
      rw [x10 t (fun k ok hk hok hd => by
        have hne : k ≠ i := fun e1 => by have := hk.2.1; rw [e1, hun'] at this; cases this
        exact (Oper.apart_spec (hea k ok hk hok hne).1).1 t hd ht), ← hVE i (by omega), ← valL_upto (i := i) ops.size (by omega)]
      refine (valL_congr ops.size fun k hk hd => ?_).symm
      by_cases hki : k = i
      · subst hki; rw [hun']; simp
      · have hok : ops[k]? = some ops[k] := Array.getElem?_eq_getElem hk
        rw [hok] at hd
        have := hcmp k _ hok hki (.inl fun hh => (Oper.apart_spec hh.1).1 t hd ht)
        by_cases hlt2 : k < i
        · rw [this.2 hlt2]; simp [hlt2]
        · have h0 : L.getD k false = false := by
            cases hc : L.getD k false with
            | false => rfl
            | true => exact absurd (this.1 hc) hlt2
          rw [h0]; simp [hlt2]
    have hst := same_step hsame (t5 i o ho).1
    have hmemo : o ∈ ops.toList := List.mem_of_getElem? (by simpa using ho : ops.toList[i]? = some o)
    have hds : ∀ d, o.dst = some d → d < a'.tmps.size := fun d hd => Nat.lt_of_lt_of_le (dstsOk_spec hdst o hmemo d hd) (by omega)
    have hL' : ∀ k, k ≠ i → (L.setIfInBounds i true).getD k false = L.getD k false := fun k hk => getD_set_ne false (Ne.symm hk)
    have hLi : (L.setIfInBounds i true).getD i false = true := by simp [show i < L.size by omega]
    have hval : ∀ t, (∀ k ok, Erl H L q k → ops[k]? = some ok → ok.dst ≠ some t) → (putA eD (V i) o.dst).get t = valL ops e V (fun k => (L.setIfInBounds i true).getD k false) ops.size t := by
      intro t hne
      by_cases hd : o.dst = some t
      · rw [hd]
        show (T.put eD t (some (V i))).get t = _
        rw [T.get_put, if_pos rfl]
        refine (valL_last hLi (by rw [ho]; exact hd) ops.size hlt fun k hik hk hdk => ?_).symm
        have hok : ops[k]? = some ops[k] := Array.getElem?_eq_getElem hk
        rw [hok] at hdk
        rw [hL' k (by omega)]
        have := hcmp k _ hok (by omega) (.inl fun hh => (Oper.apart_spec hh.1).2.1 t hdk hd)
        cases hc : L.getD k false with
        | false => rfl
        | true => have := this.1 hc; omega
      · have : (putA eD (V i) o.dst).get t = eD.get t := by
          cases hdd : o.dst with
          | none => rfl
          | some d =>
            show (T.put eD d (some (V i))).get t = _
            rw [T.get_put, if_neg (fun h => hd (by rw [hdd, h]))]
        rw [this, x10 t hne]
        refine valL_congr ops.size fun k hk hdk => ?_
        by_cases hki : k = i
        · subst hki; rw [ho] at hdk; exact absurd hdk hd
        · rw [hL' k hki]
    have hDn : Dn ops (L.setIfInBounds i true) := by
      intro k ok hok hk e he hb
      by_cases hki : k = i
      · subst hki
        rw [ho] at hok
        cases hok
        exact getD_set_true (hpre e he hb)
      · rw [hL' k hki] at hk
        exact getD_set_true (hD k ok hok hk e he hb)
    have hPq := hph j q hqs hz
    -- the phase is complete up to here
    have hall : ∀ n, (H j).c ≤ n → n < (H q).c → Done H L j q n ∨ Pend H L j q n := by
      intro n h1 h2
      obtain ⟨d, rfl⟩ := Nat.le.dest hjq
      obtain ⟨k, k1, k2, k3, k4⟩ := name_of d (hphase j (j + d) hqs hz) n h1 h2
      cases hc : L.getD k false with
      | true => exact .inl ⟨k, k1, k2, k3, k4, hc⟩
      | false => exact .inr ⟨k, k1, k2, k3, k4, hc⟩
    -- an operation that leaves memory alone
    have hquiet : callA eD o.op = none → kindA o.op ≠ 2 → StepTo C call ops.toList eD hx o (V i) hx → H (i + 1) = H i → wpOp P ops Q i (RInv ops e V H h σ B a w (L.setIfInBounds i true)) a' w' := by
      intro hcl hk2 hs hHi
      obtain ⟨x, w2, y1, y2, y3⟩ := step_all hT ho hcl hs hU (fun _ _ _ => rfl : ∀ m, m < (H q).c → ¬ Pend H L j q m → σ' m = σ' m)
      have hD1 : ∀ n, Done H (L.setIfInBounds i true) j q n ↔ Done H L j q n := by
        intro n
        constructor
        · rintro ⟨k, k1, k2, k3, k4, k5⟩
          have hki : k ≠ i := by intro e; subst e; rw [hHi] at k4; omega
          exact ⟨k, k1, k2, k3, k4, by rw [← hL' k hki]; exact k5⟩
        · rintro ⟨k, k1, k2, k3, k4, k5⟩
          have hki : k ≠ i := by intro e; subst e; rw [hHi] at k4; omega
          exact ⟨k, k1, k2, k3, k4, by rw [hL' k hki]; exact k5⟩
      have hP1 : ∀ n, Pend H (L.setIfInBounds i true) j q n ↔ Pend H L j q n := by
        intro n
        constructor
        · rintro ⟨k, k1, k2, k3, k4, k5⟩
          have hki : k ≠ i := by intro e; subst e; rw [hHi] at k4; omega
          exact ⟨k, k1, k2, k3, k4, by rw [← hL' k hki]; exact k5⟩
        · rintro ⟨k, k1, k2, k3, k4, k5⟩
          have hki : k ≠ i := by intro e; subst e; rw [hHi] at k4; omega
          exact ⟨k, k1, k2, k3, k4, by rw [hL' k hki]; exact k5⟩
      have hEr : ∀ k, Erl H (L.setIfInBounds i true) q k → Erl H L q k ∧ k ≠ i := fun k hk => by
        have hki : k ≠ i := by intro e; have := hk.2.2; rw [e, hHi] at this; omega
        exact ⟨⟨hk.1, by rw [← hL' k hki]; exact hk.2.1, hk.2.2⟩, hki⟩
      have hEr2 : ∀ k, Erl H L q k → Erl H (L.setIfInBounds i true) q k := fun k hk => ⟨hk.1, getD_set_true hk.2.1, hk.2.2⟩
      refine y3 ⟨σ', putA eD (V i) o.dst, j, q, hx, ρ, S, by simpa using hL, hDn, ⟨hjq, hqs, hz, hq2, hj0⟩, hfr, ⟨hpt.c, hpt.ro, hpt.old, fun n h1 h2 => hpt.done n h1 ((hD1 n).1 h2), fun n h1 h2 => hpt.not n h1 fun h3 => h2 ((hD1 n).2 h3)⟩, x1, x2, fun τ hτ => ?_, by rw [put_size]; exact x5, by rw [put_defers]; exact x6, x7.trans (y1.less fun _ h => .inl h), fun k ok hok hkk => ?_, fun t ht => hval t (fun k ok hk hok => ht k ok (hEr2 k hk) hok), EA.keep (fun k hk => (hEr k hk).1) y1 (fun k ok hk hok => hndst k ok (hEr k hk).1 hok (hEr k hk).2)⟩
      · have hτ' : ∀ m, m < (H q).c → ¬ Pend H L j q m → τ m = σ' m := fun m h1 h2 => hτ m h1 fun h3 => h2 ((hP1 m).1 h3)
        obtain ⟨z1, z2, z3⟩ := y2 τ hτ'
        refine ⟨z3, ?_⟩
        rw [← z1]
        exact put_env (h := hx) (hU τ hτ').2 (fun _ _ => rfl) (Nat.le_refl _) z2 hds
      · by_cases hki : k = i
        · subst hki; rw [ho] at hok; cases hok; exact absurd hkk hk2
        · rw [hL' k hki]; exact x9 k ok hok hkk
    rcases kind_le o.op with hk0 | hk0 | hk0 | hk0
    · -- of its operands alone
      exact hquiet (kind0_op (C := C) (e := eD) (h := hx) hk0).1 (by omega) ((step_kind0 hk0 hst).2 hx) (hH1 i o ho (.inl hk0))
    · -- it reads
      have hcl := (kind1_op (C := C) (e := eD) (h := hx) hk0).1
      refine hquiet hcl (by omega) ?_ (hH1 i o ho (.inr hk0))
      rcases (t5 i o ho).1 with ⟨hw, hv, _⟩ | ⟨hw, hr⟩
      · exact same_step hsame (.inl ⟨hw, hv, rfl⟩)
      · have hcE := (kind1_op (C := C) (e := E i) (h := H i) hk0).1
        unfold resOp at hr
        rw [hcE] at hr
        dsimp only at hr
        rw [hH1 i o ho (.inr hk0)] at hr
        have hrd : ∃ r, j ≤ r ∧ r ≤ q ∧ opA C (E i) (H r) o.op = some (V i, H r) := by
          rcases Nat.le_total j i with h1 | h1
          · rcases Nat.lt_or_ge q i with h2 | h2
            · obtain ⟨ok, hok, hkk⟩ := hp2 q (hq2 (by omega))
              have hnb : before ops i q = false := by
                cases hb : before ops i q with
                | false => rfl
                | true => have := (x9 q ok hok hkk).1 (hahead q hb); omega
              exact ⟨q, hjq, Nat.le_refl _, hdyn i q ((dyn_spec hok ho h2 hnb).2 hkk hk0) o ho hk0 hw⟩
            · exact ⟨i, h1, h2, hr⟩
          · rcases Nat.eq_or_lt_of_le h1 with h2 | h2
            · exact ⟨i, by omega, by omega, hr⟩
            · rcases hj0 with h3 | h3
              · omega
              · obtain ⟨ok, hok, hkk⟩ := hp2 (j - 1) h3
                have hne : i ≠ j - 1 := by
                  intro e1
                  rw [← e1, ho] at hok
                  cases hok
                  omega
                have hnb : before ops (j - 1) i = false := by
                  cases hb : before ops (j - 1) i with
                  | false => rfl
                  | true =>
                    have h4 := hbehind (j - 1) (Array.getElem?_eq_some_iff.1 hok).1 hb
                    have h5 := (x9 (j - 1) ok hok hkk).2 (by omega)
                    rw [h4] at h5
                    cases h5
                have := hdyn i (j - 1 + 1) ((dyn_spec ho hok (by omega) hnb).1 hk0 hkk) o ho hk0 hw
                rw [show j - 1 + 1 = j by omega] at this
                exact ⟨j, Nat.le_refl _, hjq, this⟩
        obtain ⟨r, r1, r2, hr⟩ := hrd
        refine same_step hsame (.inr ⟨hw, ?_⟩)
        unfold resOp
        rw [hcE]
        dsimp only
        obtain ⟨t, x, hop⟩ := kind1_load hk0
        have hsx : ev (E i) x = ev eD x := same_ev hsame (by rw [hop]; simp [Op.operands])
        rw [hop] at hr ⊢
        change oLoad (H r) (C.tys.get t) (ev (E i) x) = some (V i, H r) at hr
        show oLoad hx (C.tys.get t) (ev (E i) x) = some (V i, hx)
        cases hti : C.tys.get t with
        | none => rw [hti] at hr; cases hr
        | some ti =>
          rw [hti] at hr
          cases hxe : ev (E i) x with
          | none => rw [hxe] at hr; cases hr
          | some v =>
            rw [hxe] at hr
            cases v <;> try (cases hr; done)
            rename_i nn off
            have hen : ev eD x = some (.ptr nn off) := by rw [← hsx]; exact hxe
            obtain ⟨gx, ex⟩ := hU σ' (fun _ _ _ => rfl)
            have hnlt : nn < hx.c := (ev_sound (h := hx) ex hen).1
            have hjr := hPq j r (Nat.le_refl _) r1 r2
            have key : ∀ size cs, load (H r) nn off size = some cs → load hx nn off size = some cs := by
              intro size cs hl
              by_cases h1 : nn < (H j).c
              · unfold load at hl ⊢
                rw [hpt.old nn h1, hpt.ro]
                rw [hjr.2.2.2 nn h1, hjr.1] at hl
                exact hl
              · rcases hall nn (by omega) (by rw [← hpt.c]; exact hnlt) with hd | hpnd
                · have hgq := hpt.done nn (by omega) hd
                  obtain ⟨k, k1, k2, k3, k4, k5⟩ := hd
                  rcases Nat.lt_or_ge k r with h2 | h2
                  · have e1 := (hPq r q r1 r2 (Nat.le_refl _)).2.2.2 nn (by have := (hPq (k + 1) r (by omega) (by omega) r2).2.1; omega)
                    unfold load at hl ⊢
                    rw [hgq, e1, hpt.ro]
                    rw [hjr.1] at hl
                    exact hl
                  · have e0 : (H r).m.get nn = none := hjr.2.2.1 hfr nn (by have := (hPq r k r1 h2 (by omega)).2.1; omega)
                    have hsome : ∃ b, hx.m.get nn = some b := by
                      rcases hphase j q hqs hz k k1 k2 with h3 | ⟨b, h3⟩
                      · rw [h3] at k4; omega
                      · refine ⟨b, ?_⟩
                        rw [hgq, (hPq (k + 1) q (by omega) (by omega) (Nat.le_refl _)).2.2.2 nn (by omega), h3]
                        show ((H k).m.put (H k).c (some b)).get nn = some b
                        rw [T.get_put, if_pos k3.symm]
                    obtain ⟨b, hb⟩ := hsome
                    have hro : ∀ o', hx.ro nn o' = none := by
                      intro o'
                      cases hh : hx.ro nn o' with
                      | none => rfl
                      | some u => have := (gx.ro nn o' u hh).2.1; rw [hb] at this; cases this
                    rw [load_none e0, hjr.1, ← hpt.ro] at hl
                    cases size with
                    | zero =>
                      cases hl
                      unfold load
                      rw [hb]
                      rfl
                    | succ s => rw [roCells_succ, hro] at hl; cases hl
                · exfalso
                  have u1 := (ev_sound (h := hx) (hU (fun m => if m = nn then ⟨0, 0, 0, none⟩ else σ' m) (fun m h1 h2 => if_neg (fun e1 => h2 (by rw [e1]; exact hpnd)))).2 hen).2
                  have u2 := (ev_sound (h := hx) (hU (fun m => if m = nn then ⟨1, 0, 0, none⟩ else σ' m) (fun m h1 h2 => if_neg (fun e1 => h2 (by rw [e1]; exact hpnd)))).2 hen).2
                  rw [u1] at u2
                  simp [conc] at u2
            unfold oLoad at hr ⊢
            dsimp only at hr ⊢
            cases hd : isAggD ti.desc with
            | true =>
              rw [hd, cond_true] at hr
              cases hl : load (H r) nn off ti.size with
              | none => rw [hl] at hr; cases hr
              | some cs =>
                rw [hl] at hr
                rw [cond_true, key _ _ hl]
                have e9 := (Prod.mk.inj (Option.some.inj hr)).1
                show some (AV.agg cs, hx) = _
                rw [e9]
            | false =>
              rw [hd, cond_false] at hr
              cases hl : load (H r) nn off 1 with
              | none => rw [hl] at hr; cases hr
              | some cs =>
                rw [hl] at hr
                rw [cond_false, key _ _ hl]
                unfold oneH at hr ⊢
                split at hr
                · rename_i v hcs
                  cases hcs
                  have e9 := (Prod.mk.inj (Option.some.inj hr)).1
                  rw [e9]
                · cases hr
    · -- it changes memory, or calls
      have hji : j ≤ i := by
        rcases Nat.lt_or_ge i j with h1 | h1
        · have := (x9 i o ho hk0).2 h1; rw [hun'] at this; cases this
        · exact h1
      have hqi : q = i := by
        have a1 : q ≤ i := by
          rcases Nat.lt_or_ge i q with h1 | h1
          · exact absurd hk0 (hp2' i o (hz i hji h1) ho)
          · exact h1
        rcases Nat.lt_or_eq_of_le a1 with h1 | h1
        · obtain ⟨ok, hok, hkk⟩ := hp2 q (hq2 (by omega))
          have h2 := (hcmp q ok hok (by omega) (.inr (.inl ⟨hkk, .inl hk0⟩))).2 h1
          have := (x9 q ok hok hkk).1 h2
          omega
        · exact h1
      subst q
      have hk3 : ∀ k, j ≤ k → (isTwo ops k = false) → k < ops.size → (H (k + 1)).c = (H k).c + 1 → ∃ ok, ops[k]? = some ok ∧ kindA ok.op = 3 := by
        intro k _ k2 k3 k4
        have hok : ops[k]? = some ops[k] := Array.getElem?_eq_getElem k3
        refine ⟨_, hok, ?_⟩
        rcases kind_le (ops[k]).op with h0 | h0 | h0 | h0
        · rw [hH1 k _ hok (.inl h0)] at k4; omega
        · rw [hH1 k _ hok (.inr h0)] at k4; omega
        · exact absurd h0 (hp2' k _ k2 hok)
        · exact h0
      have hnp : ∀ m, ¬ Pend H L j i m := by
        rintro m ⟨k, k1, k2, k3, k4, k5⟩
        obtain ⟨ok, hok, h3⟩ := hk3 k k1 (hz k k1 k2) (by omega) (by omega)
        have := (hcmp k ok hok (by omega) (.inr (.inr ⟨h3, hk0, k2⟩))).2 k2
        rw [this] at k5
        cases k5
      have hPh := hPq j i (Nat.le_refl _) hji (Nat.le_refl _)
      have hget : ∀ n, (H i).m.get n = hx.m.get n := by
        intro n
        by_cases h1 : n < (H j).c
        · rw [hpt.old n h1, hPh.2.2.2 n h1]
        · by_cases h2 : n < (H i).c
          · rcases hall n (by omega) h2 with hd | hp
            · exact (hpt.done n (by omega) hd).symm
            · exact absurd hp (hnp n)
          · rw [hPh.2.2.1 hfr n (by omega)]
            refine (hpt.not n (by omega) ?_).symm
            rintro ⟨k, k1, k2, k3, k4, _⟩
            have := (hPq (k + 1) i (by omega) (by omega) (Nat.le_refl _)).2.1
            omega
      obtain ⟨gx, ex⟩ := hU σ' (fun _ _ _ => rfl)
      have gi : Gam σ' (addK B S) (H i) w' := gx.congr hget (by rw [hpt.c]; exact Nat.le_refl _) (by rw [hpt.ro, hPh.1])
      have ei : EnvOk σ' (H i).c eD a' := by rw [← hpt.c]; exact ex
      refine step_sound gi hT hcall ei ho hst fun σ2 w2 y1 y2 y3 y4 y5 => ?_
      obtain ⟨q', r1, r2, r3, r4⟩ := hnext (i + 1) (by omega)
      have hph2 := hph (i + 1) q' r2 r3
      have hcq := (hph2 (i + 1) q' (Nat.le_refl _) r1 (Nat.le_refl _)).2.1
      have hfr' : ∀ m, (H (i + 1)).c ≤ m → (H (i + 1)).m.get m = none := by
        intro m hm
        cases hc : (H (i + 1)).m.get m with
        | none => rfl
        | some b => have := (y3.blk m b hc).1; omega
      have env' := put_env (h := H i) ei y1 y2 y5 hds
      have hhi : h.c ≤ (H i).c := Nat.le_trans x2 hPh.2.1
      -- what was made ahead of its turn
      have hE1 : ∀ k, i < k → (L.setIfInBounds i true).getD k false = true → (H (k + 1)).c = (H k).c + 1 → Erl H L i k := fun k k1 k2 k3 => ⟨k1, by rw [← hL' k (by omega)]; exact k2, k3⟩
      have EA1 : Ear B ops V H (L.setIfInBounds i true) i ρ (putA eD (V i) o.dst) S (a'.put o.dst (conc σ2 (V i))) w2 :=
        EA.keep (fun k hk => hE1 k hk.1 hk.2.1 hk.2.2) y4 (fun k ok hk hok => hndst k ok (hE1 k hk.1 hk.2.1 hk.2.2) hok (by have := hk.1; omega))
      have hlast : ∀ k ok m om t, Erl H (L.setIfInBounds i true) i k → ops[k]? = some ok → k < m → ops[m]? = some om → ok.dst = some t → om.dst = some t → (L.setIfInBounds i true).getD m false = false := by
        intro k ok m om t hk hok hkm hom hd1 hd2
        have hk' := hE1 k hk.1 hk.2.1 hk.2.2
        have := hk.1
        rw [hL' m (by omega)]
        cases hc : L.getD m false with
        | false => rfl
        | true =>
          exfalso
          rcases pair_cases hpairs hok hom hkm with hb | ⟨h1, _⟩
          · have h9 := closed hdown hD m i (Array.getElem?_eq_some_iff.1 hom).1 hc ((hel k ok hk' hok).2.2 m hb)
            rw [hun'] at h9
            cases h9
          · exact (Oper.apart_spec h1).2.1 t hd1 hd2
      have hname : ∀ k, i < k → k < q' → (H (k + 1)).c = (H k).c + 1 → (H (i + 1)).c ≤ (H k).c ∧ (H k).c < (H q').c := fun k k1 k2 k3 => by
        have a1 := (hph2 (i + 1) k (Nat.le_refl _) (by omega) (by omega)).2.1
        have a2 := (hph2 (k + 1) q' (by omega) (by omega) (Nat.le_refl _)).2.1
        omega
      have hsame : ∀ k m, i < k → k < q' → i < m → m < q' → (H (k + 1)).c = (H k).c + 1 → (H (m + 1)).c = (H m).c + 1 → (H k).c = (H m).c → k = m := by
        intro k m k1 k2 m1 m2 k3 m3 e
        rcases Nat.lt_trichotomy k m with h1 | h1 | h1
        · have := (hph2 (k + 1) m (by omega) (by omega) (by omega)).2.1; omega
        · exact h1
        · have := (hph2 (m + 1) k (by omega) (by omega) (by omega)).2.1; omega
      have key : ∀ d, i + 1 + d ≤ q' → ∃ (σr : Nat → Loc) (hA : Hp) (eA : Env), (∀ m, m < (H (i + 1)).c → σr m = σ2 m) ∧ (∀ k, k < i + 1 + d → Erl H (L.setIfInBounds i true) i k → σr (H k).c = ρ k) ∧ hA.c = (H q').c ∧ hA.ro = (H (i + 1)).ro ∧
          (∀ n, n < (H (i + 1)).c → hA.m.get n = (H (i + 1)).m.get n) ∧ (∀ k, k < i + 1 + d → Erl H (L.setIfInBounds i true) i k → hA.m.get (H k).c = (H (k + 1)).m.get (H k).c) ∧
          (∀ n, (H (i + 1)).c ≤ n → (∀ k, k < i + 1 + d → Erl H (L.setIfInBounds i true) i k → (H k).c ≠ n) → hA.m.get n = none) ∧
          (∀ τ : Nat → Loc, (∀ m, m < (H (i + 1)).c → τ m = σ2 m) → (∀ k, k < i + 1 + d → Erl H (L.setIfInBounds i true) i k → τ (H k).c = ρ k) → Gam τ B hA w2 ∧ EnvOk τ hA.c eA (a'.put o.dst (conc σ2 (V i)))) ∧
          (∀ t, (∀ k ok, k < i + 1 + d → Erl H (L.setIfInBounds i true) i k → ops[k]? = some ok → ok.dst ≠ some t) → eA.get t = (putA eD (V i) o.dst).get t) ∧
          (∀ k ok t, k < i + 1 + d → Erl H (L.setIfInBounds i true) i k → ops[k]? = some ok → ok.dst = some t → eA.get t = some (V k)) := by
        intro d
        induction d with
        | zero =>
          intro _
          have hno : ∀ k, k < i + 1 + 0 → Erl H (L.setIfInBounds i true) i k → False := fun k k1 k2 => by have := k2.1; omega
          exact ⟨σ2, ⟨(H (i + 1)).m, (H q').c, (H (i + 1)).ro⟩, putA eD (V i) o.dst, fun _ _ => rfl, fun k k1 k2 => (hno k k1 k2).elim, rfl, rfl, fun _ _ => rfl, fun k k1 k2 => (hno k k1 k2).elim, fun n hn _ => hfr' n hn,
            fun τ hτ _ => ⟨((y3.less (fun _ h => .inl h) (fun _ h => h)).agree hτ).congr (fun _ => rfl) hcq rfl, env'.agree hcq hτ⟩, fun _ _ => rfl, fun k _ _ k1 k2 => (hno k k1 k2).elim⟩
        | succ d ih =>
          intro hd
          obtain ⟨σr, hA, eA, p1, p2, p3, p4, p5, p6, p7, p8, p9, p10⟩ := ih (by omega)
          by_cases hr : Erl H (L.setIfInBounds i true) i (i + 1 + d)
          · obtain ⟨nm1, nm2⟩ := hname (i + 1 + d) hr.1 (by omega) hr.2.2
            have hne : ∀ k, k < i + 1 + d → Erl H (L.setIfInBounds i true) i k → (H k).c ≠ (H (i + 1 + d)).c := fun k k1 k2 e => by
              have := hsame k (i + 1 + d) k2.1 (by omega) hr.1 (by omega) k2.2.2 hr.2.2 e
              omega
            have hsplit : ∀ k, k < i + 1 + (d + 1) → k < i + 1 + d ∨ k = i + 1 + d := fun k hk => by omega
            obtain ⟨b, b1, b2, ar, b3, b4⟩ := EA1.s2 _ hr
            have hor : ops[i + 1 + d]? = some ops[i + 1 + d] := Array.getElem?_eq_getElem (by omega)
            refine ⟨fun m => if m = (H (i + 1 + d)).c then ρ (i + 1 + d) else σr m, ⟨hA.m.put (H (i + 1 + d)).c (some b), hA.c, hA.ro⟩, putA eA (V (i + 1 + d)) (ops[i + 1 + d]).dst, fun m hm => ?_, fun k k1 k2 => ?_, p3, p4, fun n hn => ?_, fun k k1 k2 => ?_, fun n hn hk => ?_, fun τ t1 t2 => ?_, fun t ht => ?_, fun k ok t k1 k2 hok hdd => ?_⟩
            · dsimp only
              rw [if_neg (by omega)]
              exact p1 m hm
            · dsimp only
              rcases hsplit k k1 with k1 | rfl
              · rw [if_neg (hne k k1 k2)]
                exact p2 k k1 k2
              · rw [if_pos rfl]
            · show (hA.m.put _ _).get n = _
              rw [T.get_put, if_neg (by omega)]
              exact p5 n hn
            · show (hA.m.put _ _).get _ = _
              rw [T.get_put]
              rcases hsplit k k1 with k1 | rfl
              · rw [if_neg (hne k k1 k2)]
                exact p6 k k1 k2
              · rw [if_pos rfl, b1]
            · show (hA.m.put _ _).get n = none
              rw [T.get_put, if_neg (fun e => hk (i + 1 + d) (by omega) hr e.symm)]
              exact p7 n hn (fun k k1 k2 => hk k (by omega) k2)
            · obtain ⟨g1, e1⟩ := p8 τ t1 (fun k k1 k2 => t2 k (by omega) k2)
              have hτr := t2 (i + 1 + d) (by omega) hr
              refine ⟨g1.absorb (by rw [p3]; exact nm2) (by rw [hτr]; exact (EA1.s6 _ hr).1) (by rw [hτr]; exact (EA1.s6 _ hr).2) (by rw [hτr]; exact b3) (fun x v hv => by rw [hτr]; exact b4 τ _ x v hv) b2 (fun n b' hn hnn => ?_), ?_⟩
              · rw [hτr]
                by_cases hlt2 : n < (H (i + 1)).c
                · rw [p5 n hlt2] at hn
                  have := (y3.blk n b' hn).2.1
                  rw [t1 n hlt2]
                  exact fun e => this (.inr (by rw [e]; exact EA1.s1 _ hr))
                · have hex : ∃ k, k < i + 1 + d ∧ Erl H (L.setIfInBounds i true) i k ∧ (H k).c = n := by
                    refine Classical.byContradiction fun hc => ?_
                    rw [p7 n (by omega) (fun k k1 k2 e => hc ⟨k, k1, k2, e⟩)] at hn
                    cases hn
                  obtain ⟨k, k1, k2, rfl⟩ := hex
                  rw [t2 k (by omega) k2]
                  exact EA1.s4 k _ k2 hr (by omega)
              · have e3 := EA1.s3 _ _ hr hor τ hA.c hτr (by rw [p3]; exact nm2)
                intro t u hu
                cases hdd : (ops[i + 1 + d]).dst with
                | none => rw [hdd] at hu; exact e1 t u hu
                | some dd =>
                  rw [hdd] at hu e3
                  change (T.put eA dd (some (V (i + 1 + d)))).get t = some u at hu
                  rw [T.get_put] at hu
                  by_cases e5 : t = dd
                  · refine e3 t u ?_
                    show (T.put .leaf dd (some (V (i + 1 + d)))).get t = some u
                    rw [T.get_put, if_pos e5]
                    rwa [if_pos e5] at hu
                  · rw [if_neg e5] at hu
                    exact e1 t u hu
            · have hnd : (ops[i + 1 + d]).dst ≠ some t := ht (i + 1 + d) _ (by omega) hr hor
              cases hdd : (ops[i + 1 + d]).dst with
              | none => exact p9 t (fun k ok k1 k2 hok => ht k ok (by omega) k2 hok)
              | some dd =>
                show (T.put eA dd (some (V (i + 1 + d)))).get t = _
                rw [T.get_put, if_neg (fun e => hnd (by rw [hdd, e]))]
                exact p9 t (fun k ok k1 k2 hok => ht k ok (by omega) k2 hok)
            · rcases hsplit k k1 with k1 | rfl
              · have hnd : (ops[i + 1 + d]).dst ≠ some t := fun e => by
                  have := hlast k ok (i + 1 + d) _ t k2 hok (by omega) hor hdd e
                  rw [hr.2.1] at this
                  cases this
                cases hdd2 : (ops[i + 1 + d]).dst with
                | none => exact p10 k ok t k1 k2 hok hdd
                | some dd =>
                  show (T.put eA dd (some (V (i + 1 + d)))).get t = _
                  rw [T.get_put, if_neg (fun e => hnd (by rw [hdd2, e]))]
                  exact p10 k ok t k1 k2 hok hdd
              · rw [hor] at hok
                cases hok
                rw [hdd]
                show (T.put eA t (some (V (i + 1 + d)))).get t = _
                rw [T.get_put, if_pos rfl]
          · have hsplit : ∀ k, k < i + 1 + (d + 1) → Erl H (L.setIfInBounds i true) i k → k < i + 1 + d := fun k hk he => by
              rcases Nat.lt_or_ge k (i + 1 + d) with h1 | h1
              · exact h1
              · have : k = i + 1 + d := by omega
                rw [this] at he
                exact absurd he hr
            exact ⟨σr, hA, eA, p1, fun k k1 k2 => p2 k (hsplit k k1 k2) k2, p3, p4, p5, fun k k1 k2 => p6 k (hsplit k k1 k2) k2, fun n hn hk => p7 n hn (fun k k1 k2 => hk k (by omega) k2), fun τ t1 t2 => p8 τ t1 (fun k k1 k2 => t2 k (by omega) k2),
              fun t ht => p9 t (fun k ok k1 k2 hok => ht k ok (by omega) k2 hok), fun k ok t k1 k2 => p10 k ok t (hsplit k k1 k2) k2⟩
      obtain ⟨σr, hA, eA, p1, p2, p3, p4, p5, p6, p7, p8, p9, p10⟩ := key (q' - (i + 1)) (by omega)
      rw [show i + 1 + (q' - (i + 1)) = q' by omega] at p2 p6 p7 p8 p9 p10
      have hEq : ∀ k, Erl H (L.setIfInBounds i true) q' k → Erl H (L.setIfInBounds i true) i k := fun k hk => ⟨by have := hk.1; omega, hk.2.1, hk.2.2⟩
      have hnq : ∀ k, Erl H (L.setIfInBounds i true) i k → k ≠ q' := fun k hk e => by
        have hk' := hE1 k hk.1 hk.2.1 hk.2.2
        have hlt3 : k < ops.size := by
          rcases Nat.lt_or_ge k ops.size with h1 | h1
          · exact h1
          · have h2 := hk'.2.1
            rw [Array.getD_eq_getD_getElem?, Array.getElem?_eq_none (by omega)] at h2
            cases h2
        have h3 := (hel k _ hk' (Array.getElem?_eq_getElem hlt3)).1
        obtain ⟨oq, hoq, hqq⟩ := hp2 q' (r4 (by omega))
        subst e
        rw [Array.getElem?_eq_getElem hlt3] at hoq
        cases hoq
        omega
      refine ⟨σr, eA, i + 1, q', hA, ρ, fun b => ∃ k, Erl H (L.setIfInBounds i true) q' k ∧ b = (ρ k).b, by simpa using hL, hDn, ⟨r1, r2, r3, r4, .inr ?_⟩, hfr', ⟨p3, p4, p5, fun m hm hd => ?_, fun m hm hd => ?_⟩, fun m hm => (p1 m (by omega)).trans ((y1 m (by omega)).trans (x1 m hm)), by omega, fun τ hτ => ?_, by rw [put_size]; exact x5, by rw [put_defers]; exact x6, x7.trans (y4.less fun _ h => .inl h), fun k ok hok hkk => ?_, fun t ht => ?_,
        ⟨fun k hk => ⟨k, hk, rfl⟩, fun k hk => EA1.s2 k (hEq k hk), fun k ok hk => EA1.s3 k ok (hEq k hk), fun k m hk hm => EA1.s4 k m (hEq k hk) (hEq m hm), fun t k ok hk hok hdd => ?_, fun k hk => EA1.s6 k (hEq k hk)⟩⟩
      · show isTwo ops i = true
        unfold isTwo
        rw [ho]
        dsimp only
        rw [hk0]
        rfl
      · obtain ⟨k, k1, k2, k3, k4, k5⟩ := hd
        rw [← k3, p6 k k2 ⟨by omega, k5, by omega⟩]
        exact ((hph2 (k + 1) q' (by omega) (by omega) (Nat.le_refl _)).2.2.2 _ (by omega)).symm
      · exact p7 m hm (fun k k1 k2 e => hd ⟨k, by have := k2.1; omega, k1, e, by rw [k2.2.2, e], k2.2.1⟩)
      · have t1 : ∀ m, m < (H (i + 1)).c → τ m = σ2 m := fun m hm => (hτ m (by omega) (by
          rintro ⟨k, k1, k2, k3, _, _⟩
          have := (hph2 (i + 1) k (Nat.le_refl _) k1 (by omega)).2.1
          omega)).trans (p1 m hm)
        have t2 : ∀ k, k < q' → Erl H (L.setIfInBounds i true) i k → τ (H k).c = ρ k := fun k k1 k2 => (hτ _ (hname k k2.1 k1 k2.2.2).2 (by
          rintro ⟨m, m1, m2, m3, m4, m5⟩
          have := hsame m k (by omega) m2 k2.1 k1 (by omega) k2.2.2 m3
          subst this
          rw [k2.2.1] at m5
          cases m5)).trans (p2 k k1 k2)
        obtain ⟨g1, e1⟩ := p8 τ t1 t2
        refine ⟨g1.more (fun b hb => ?_) (fun n b hn hb => ?_), e1⟩
        · obtain ⟨k, hk, rfl⟩ := hb
          obtain ⟨_, _, _, ar, b3, _⟩ := EA1.s2 k (hEq k hk)
          exact (Array.getElem?_eq_some_iff.1 b3).1
        · obtain ⟨k, hk, hbk⟩ := hb
          by_cases hlt2 : n < (H (i + 1)).c
          · rw [p5 n hlt2] at hn
            have := (y3.blk n b hn).2.1
            rw [t1 n hlt2] at hbk
            exact this (.inr (by rw [hbk]; exact EA1.s1 k (hEq k hk)))
          · have hex : ∃ m, m < q' ∧ Erl H (L.setIfInBounds i true) i m ∧ (H m).c = n := by
              refine Classical.byContradiction fun hc => ?_
              rw [p7 n (by omega) (fun m m1 m2 e => hc ⟨m, m1, m2, e⟩)] at hn
              cases hn
            obtain ⟨m, m1, m2, rfl⟩ := hex
            rw [t2 m m1 m2] at hbk
            exact EA1.s4 m k m2 (hEq k hk) (by have := hk.1; omega) hbk
      · by_cases hki : k = i
        · subst hki; rw [hLi]; simp
        · rw [hL' k hki, hcmp k ok hok hki (.inr (.inl ⟨hkk, .inl hk0⟩))]; omega
      · by_cases hex : ∃ k ok, k < q' ∧ Erl H (L.setIfInBounds i true) i k ∧ ops[k]? = some ok ∧ ok.dst = some t
        · obtain ⟨k, ok, k1, k2, hok, hdd⟩ := hex
          rw [p10 k ok t k1 k2 hok hdd]
          refine (valL_last k2.2.1 (by rw [hok]; exact hdd) ops.size (Array.getElem?_eq_some_iff.1 hok).1 fun m hm hms hdm => ?_).symm
          have hom : ops[m]? = some ops[m] := Array.getElem?_eq_getElem hms
          rw [hom] at hdm
          exact hlast k ok m _ t k2 hok hm hom hdd hdm
        · rw [p9 t (fun k ok k1 k2 hok hdd => hex ⟨k, ok, k1, k2, hok, hdd⟩)]
          refine hval t (fun k ok hk hok hdd => ?_)
          have hk2 : Erl H (L.setIfInBounds i true) i k := ⟨hk.1, by rw [hL' k (by have := hk.1; omega)]; exact hk.2.1, hk.2.2⟩
          rcases Nat.lt_trichotomy k q' with h1 | h1 | h1
          · exact hex ⟨k, ok, h1, hk2, hok, hdd⟩
          · exact hnq k hk2 h1
          · exact ht k ok ⟨h1, hk2.2.1, hk2.2.2⟩ hok hdd
      · have h9 := EA1.s5 t k ok (hEq k hk) hok hdd
        rw [p9 t (fun m om m1 m2 hom hdm => ?_)]
        · exact h9
        · have := hlast m om k ok t m2 hom (by have := hk.1; omega) hok hdm hdd
          rw [hk.2.1] at this
          cases this
    · -- it makes memory
      rcases hst with ⟨hw, hv, hH⟩ | ⟨hw, hr⟩
      · exact hquiet (kind3_call hk0 _) (by omega) (.inl ⟨hw, hv, rfl⟩) hH
      · unfold resOp at hr
        rw [kind3_call hk0] at hr
        dsimp only at hr
        obtain ⟨_, cs, t, F, hF, hrr, hall2, hoks⟩ := alloc_spec hT hk0 hr
        have hV : V i = F (H i).c := (Prod.mk.inj hrr).1
        have hHi : H (i + 1) = newBlk (H i) cs t 0 := (Prod.mk.inj hrr).2
        have hci : (H (i + 1)).c = (H i).c + 1 := by rw [hHi]; rfl
        have hji : j ≤ i := by
          rcases Nat.lt_or_ge i j with h1 | h1
          · rcases hj0 with h2 | h2
            · omega
            · obtain ⟨ok, hok, hkk⟩ := hp2 (j - 1) h2
              have hne : j - 1 ≠ i := by
                intro e1
                rw [e1, ho] at hok
                cases hok
                omega
              have := (hcmp (j - 1) ok hok hne (.inr (.inl ⟨hkk, .inr ⟨hk0, by omega⟩⟩))).1 ((x9 (j - 1) ok hok hkk).2 (by omega))
              omega
          · exact h1
        have hqi : q ≠ i := fun e1 => by
          obtain ⟨ok, hok, hkk⟩ := hp2 q (hq2 (by omega))
          rw [e1, ho] at hok
          cases hok
          omega
        rcases Nat.lt_or_ge q i with hlate | hiq'
        · -- ahead of its turn
          obtain ⟨oq, hoq, hqq⟩ := hp2 q (hq2 (by omega))
          have hal : isAlloc o.op = true := by
            rcases pair_cases hpairs hoq ho hlate with hb | ⟨_, (hh | hh) | ⟨_, h5, _⟩⟩
            · have := hahead q hb
              rw [hLq (by omega)] at this
              cases this
            · rw [hqq, hk0] at hh; cases hh
            · rw [hqq, hk0] at hh; cases hh
            · exact h5
          clear hV hHi hci hall2 hoks hrr hF F t cs
          obtain ⟨_, cs, t, F, hF, hrr, hlit, hall2⟩ := alloc_lit hal hr
          have hV : V i = F (H i).c := (Prod.mk.inj hrr).1
          have hnv : ∀ m, F m ≠ uv := by
            intro m e1
            rcases hF with hF | ⟨l, c, hF⟩ <;> rw [hF] at e1 <;> cases e1
          have hHi : H (i + 1) = newBlk (H i) cs t 0 := (Prod.mk.inj hrr).2
          have hci : (H (i + 1)).c = (H i).c + 1 := by rw [hHi]; rfl
          obtain ⟨gx, ex⟩ := hU σ' (fun _ _ _ => rfl)
          have hop := hall2 hx
          obtain ⟨σ0, w2, b1, b2, b3, b4, b5, b6⟩ := op_sound (P := P) gx hT ex hop
          have b3 : (execOp a'.eval o).run P w' = .ok (.value (conc σ0 (F hx.c))) w2 := by
            rcases b3 with b3 | ⟨_, b3⟩
            · exact b3
            · exact absurd b3 (hnv _)
          unfold wpOp
          rw [ho]
          dsimp only
          rw [wanted_sound ex hw, if_pos rfl]
          refine .inl ?_
          unfold Oper.wp
          rw [b3]
          show RInv ops e V H h σ B a w (L.setIfInBounds i true) (a'.put o.dst (conc σ0 (F hx.c))) w2
          have hnew : (newBlk hx cs t 0).m.get hx.c = some ⟨setCells .leaf 0 cs, cs.length, t, 0⟩ := by
            show (hx.m.put hx.c _).get hx.c = _
            rw [T.get_put, if_pos rfl]
          obtain ⟨_, n2, n9, ar, n3, n4, _⟩ := b4.blk hx.c _ hnew
          have hEi : Erl H (L.setIfInBounds i true) q i := ⟨hlate, hLi, hci⟩
          have hEr : ∀ k, Erl H (L.setIfInBounds i true) q k → k = i ∨ Erl H L q k := fun k hk => by
            by_cases hki : k = i
            · exact .inl hki
            · exact .inr ⟨hk.1, by rw [← hL' k hki]; exact hk.2.1, hk.2.2⟩
          have hEne : ∀ k, Erl H L q k → k ≠ i := fun k hk e1 => by have := hk.2.1; rw [e1, hun'] at this; cases this
          have hEr2 : ∀ k, Erl H L q k → Erl H (L.setIfInBounds i true) q k := fun k hk => ⟨hk.1, getD_set_true hk.2.1, hk.2.2⟩
          have hD1 : ∀ n, Done H (L.setIfInBounds i true) j q n ↔ Done H L j q n := fun n =>
            ⟨fun ⟨k, k1, k2, k3, k4, k5⟩ => ⟨k, k1, k2, k3, k4, by rw [← hL' k (by omega)]; exact k5⟩, fun ⟨k, k1, k2, k3, k4, k5⟩ => ⟨k, k1, k2, k3, k4, by rw [hL' k (by omega)]; exact k5⟩⟩
          have hP1 : ∀ n, Pend H (L.setIfInBounds i true) j q n ↔ Pend H L j q n := fun n =>
            ⟨fun ⟨k, k1, k2, k3, k4, k5⟩ => ⟨k, k1, k2, k3, k4, by rw [← hL' k (by omega)]; exact k5⟩, fun ⟨k, k1, k2, k3, k4, k5⟩ => ⟨k, k1, k2, k3, k4, by rw [hL' k (by omega)]; exact k5⟩⟩
          have E0 : Ear B ops V H L q ρ (putA eD (V i) o.dst) S (a'.put o.dst (conc σ0 (F hx.c))) w2 :=
            EA.keep (fun _ h => h) b5 (fun k ok hk hok => hndst k ok hk hok (hEne k hk))
          have hρ : ∀ k, Erl H L q k → (fun k => if k = i then σ0 hx.c else ρ k) k = ρ k := fun k hk => if_neg (hEne k hk)
          have hρi : (fun k => if k = i then σ0 hx.c else ρ k) i = σ0 hx.c := if_pos rfl
          generalize (fun k => if k = i then σ0 hx.c else ρ k) = ρ' at hρ hρi
          refine ⟨σ', clrE eD o.dst, j, q, hx, ρ', fun b => S b ∨ b = (σ0 hx.c).b, by simpa using hL, hDn, ⟨hjq, hqs, hz, hq2, hj0⟩, hfr, ⟨hpt.c, hpt.ro, hpt.old, fun n h1 h2 => hpt.done n h1 ((hD1 n).1 h2), fun n h1 h2 => hpt.not n h1 fun h3 => h2 ((hD1 n).2 h3)⟩, x1, x2, fun τ hτ => ?_, by rw [put_size]; exact x5, by rw [put_defers]; exact x6, x7.trans (b5.less fun _ h => .inl h), fun k ok hok hkk => ?_, fun t' ht => ?_,
            ⟨fun k hk => ?_, fun k hk => ?_, fun k ok hk hok τ c q1 q2 => ?_, fun k m hk hm hne => ?_, fun t' k ok hk hok hdd => ?_, fun k hk => ?_⟩⟩
          · have hτ' : ∀ m, m < (H q).c → ¬ Pend H L j q m → τ m = σ' m := fun m h1 h2 => hτ m h1 fun h3 => h2 ((hP1 m).1 h3)
            obtain ⟨gt, et⟩ := hU τ hτ'
            obtain ⟨σ2, w3, c1, c2, c3, c4, c5, c6⟩ := op_sound (P := P) gt hT et hop
            have c3 : (execOp a'.eval o).run P w' = .ok (.value (conc σ2 (F hx.c))) w3 := by
              rcases c3 with c3 | ⟨_, c3⟩
              · exact c3
              · exact absurd c3 (hnv _)
            rw [b3] at c3
            simp only [Result.ok.injEq, Next.value.injEq] at c3
            obtain ⟨e1, e2⟩ := c3
            subst e2
            obtain ⟨f1, f2, f3⟩ := hF.inj e1
            obtain ⟨d1, d2⟩ := dropBlk_gam gt c1 c4
            refine ⟨(d1.more (S := fun b => b = (σ0 hx.c).b) (fun b hb => ?_) (fun n b hn hb => ?_)).less (fun k hk => ?_) (fun _ h => h), fun t' u hu => ?_⟩
            · rw [hb]; exact (Array.getElem?_eq_some_iff.1 n3).1
            · exact d2 n b hn (by rw [hb, f1])
            · rcases hk with hk | hk | hk
              · exact .inl (.inl hk)
              · exact .inl (.inr hk)
              · exact .inr hk
            · rw [clrE_get] at hu
              by_cases hd : o.dst = some t'
              · rw [if_pos hd] at hu; cases hu
              · rw [if_neg hd] at hu
                obtain ⟨k1, k2⟩ := et t' u hu
                refine ⟨k1, ?_⟩
                cases hdd : o.dst with
                | none => exact k2
                | some d' =>
                  simp only [Act.put]
                  rw [Array.getElem?_setIfInBounds_ne (fun e => hd (by rw [hdd, e]))]
                  exact k2
          · have hki : k ≠ i := by
              intro e1
              rw [e1, ho] at hok
              cases hok
              omega
            rw [hL' k hki]
            exact x9 k ok hok hkk
          · have hd : o.dst ≠ some t' := ht i o hEi ho
            rw [clrE_get, if_neg hd, ← hval t' (fun k ok hk hok => ht k ok (hEr2 k hk) hok)]
            cases hdd : o.dst with
            | none => rfl
            | some d' =>
              show _ = (T.put eD d' (some (V i))).get t'
              rw [T.get_put, if_neg (fun e => hd (by rw [hdd, e]))]
          · rcases hEr k hk with rfl | hk
            · rw [hρi]; exact .inr rfl
            · rw [hρ k hk]; exact .inl (E0.s1 k hk)
          · rcases hEr k hk with rfl | hk
            · refine ⟨⟨setCells .leaf 0 cs, cs.length, t, 0⟩, ?_, rfl, ar, by rw [hρi]; exact n3, fun τ c x v hv => ?_⟩
              · rw [hHi]
                show ((H k).m.put (H k).c _).get (H k).c = _
                rw [T.get_put, if_pos rfl]
              · obtain ⟨m1, m2, m3⟩ := n4 x v hv
                have hmem : v ∈ cs := by
                  have := hv
                  rw [setCells_get, Nat.sub_zero] at this
                  split at this
                  · exact List.mem_of_getElem? this
                  · rw [T.get_leaf] at this; cases this
                obtain ⟨u, rfl⟩ := hlit v hmem
                exact ⟨by trivial, by rw [hρi]; exact m2, m3⟩
            · rw [hρ k hk]; exact E0.s2 k hk
          · rcases hEr k hk with rfl | hk
            · rw [ho] at hok
              cases hok
              rw [hρi] at q1
              have e0 : EnvOk τ c .leaf a' := fun t' u hu => by rw [T.get_leaf] at hu; cases hu
              have hcv : conc τ (V k) = conc σ0 (F hx.c) := by rw [hV]; exact hF.conc (by rw [q1]) (by rw [q1]) (by rw [q1])
              rw [← hcv]
              exact put_env (h := ⟨.leaf, c, fun _ _ => none⟩) e0 (fun _ _ => rfl) (Nat.le_refl _) (by rw [hV]; exact hF.ok q2) hds
            · rw [hρ k hk] at q1
              exact E0.s3 k ok hk hok τ c q1 q2
          · rcases hEr k hk with hk2 | hk2 <;> rcases hEr m hm with hm2 | hm2
            · exact absurd (hk2.trans hm2.symm) hne
            · rw [hk2, hρi, hρ m hm2]
              exact fun e => n2 (.inr (by rw [e]; exact E0.s1 m hm2))
            · rw [hm2, hρi, hρ k hk2]
              exact fun e => n2 (.inr (by rw [← e]; exact E0.s1 k hk2))
            · rw [hρ k hk2, hρ m hm2]
              exact E0.s4 k m hk2 hm2 hne
          · rw [clrE_get]
            rcases hEr k hk with rfl | hk
            · rw [ho] at hok
              cases hok
              rw [if_pos hdd]
            · split
              · rfl
              · exact EA.s5 t' k ok hk hok hdd
          · rcases hEr k hk with rfl | hk
            · rw [hρi]; exact ⟨fun h => n2 (.inl h), n9⟩
            · rw [hρ k hk]; exact E0.s6 k hk
        have hiq : i < q := by omega
        have hpi : Pend H L j q (H i).c := ⟨i, hji, hiq, rfl, hci, hun'⟩
        have hq1 := hPq (i + 1) q (by omega) (by omega) (Nat.le_refl _)
        have hq0 := hPq j i (Nat.le_refl _) hji (by omega)
        have hlc : (H i).c < hx.c := by rw [hpt.c]; have := hq1.2.1; omega
        have huniq : ∀ k, j ≤ k → k < q → (H k).c = (H i).c → (H (k + 1)).c = (H i).c + 1 → k = i := by
          intro k k1 k2 k3 k4
          rcases Nat.lt_trichotomy k i with h1 | h1 | h1
          · have := (hPq (k + 1) i (by omega) (by omega) (by omega)).2.1; omega
          · exact h1
          · have := (hPq (i + 1) k (by omega) (by omega) (by omega)).2.1; omega
        obtain ⟨gx, ex⟩ := hU σ' (fun _ _ _ => rfl)
        have hop := hall2 hx
        have hnv : ∀ m, F m ≠ uv := by
          intro m e1
          rcases hF with hF | ⟨l, c, hF⟩ <;> rw [hF] at e1 <;> cases e1
        obtain ⟨σ0, w2, b1, b2, b3, b4, b5, b6⟩ := op_sound (P := P) gx hT ex hop
        have b3 : (execOp a'.eval o).run P w' = .ok (.value (conc σ0 (F hx.c))) w2 := by
          rcases b3 with b3 | ⟨_, b3⟩
          · exact b3
          · exact absurd b3 (hnv _)
        unfold wpOp
        rw [ho]
        dsimp only
        rw [wanted_sound ex hw, if_pos rfl]
        refine .inl ?_
        unfold Oper.wp
        rw [b3]
        show RInv ops e V H h σ B a w (L.setIfInBounds i true) (a'.put o.dst (conc σ0 (F hx.c))) w2
        refine ⟨fun m => if m = (H i).c then σ0 hx.c else σ' m, putA eD (V i) o.dst, j, q, ⟨hx.m.put (H i).c (some ⟨setCells .leaf 0 cs, cs.length, t, 0⟩), hx.c, hx.ro⟩, ρ, S, by simpa using hL, hDn, ⟨hjq, hqs, hz, hq2, hj0⟩, hfr, ⟨hpt.c, hpt.ro, ?_, ?_, ?_⟩, ?_, x2, fun τ hτ => ?_, by rw [put_size]; exact x5, by rw [put_defers]; exact x6, x7.trans (b5.less fun _ h => .inl h), fun k ok hok hkk => ?_, fun t' ht => hval t' (fun k ok hk hok => ht k ok ⟨hk.1, getD_set_true hk.2.1, hk.2.2⟩ hok),
          EA.keep (fun k hk => ⟨hk.1, by rw [← hL' k (by have := hk.1; omega)]; exact hk.2.1, hk.2.2⟩) b5 (fun k ok hk hok => hndst k ok ⟨hk.1, by rw [← hL' k (by have := hk.1; omega)]; exact hk.2.1, hk.2.2⟩ hok (by have := hk.1; omega))⟩
        · intro m hm
          show (hx.m.put _ _).get m = _
          rw [T.get_put, if_neg (by have := hq0.2.1; omega)]
          exact hpt.old m hm
        · intro m hm hd
          show (hx.m.put _ _).get m = _
          rw [T.get_put]
          by_cases e1 : m = (H i).c
          · rw [if_pos e1, hq1.2.2.2 m (by omega), hHi, e1]
            show _ = ((H i).m.put (H i).c _).get (H i).c
            rw [T.get_put, if_pos rfl]
          · rw [if_neg e1]
            refine hpt.done m hm ?_
            obtain ⟨k, k1, k2, k3, k4, k5⟩ := hd
            have hki : k ≠ i := fun e2 => e1 (by rw [← k3, e2])
            exact ⟨k, k1, k2, k3, k4, by rw [← hL' k hki]; exact k5⟩
        · intro m hm hd
          have e1 : m ≠ (H i).c := fun e1 => hd ⟨i, hji, hiq, e1.symm, by rw [hci, e1], hLi⟩
          show (hx.m.put _ _).get m = _
          rw [T.get_put, if_neg e1]
          refine hpt.not m hm fun ⟨k, k1, k2, k3, k4, k5⟩ => hd ⟨k, k1, k2, k3, k4, getD_set_true k5⟩
        · intro m hm
          dsimp only
          rw [if_neg (by have := hq0.2.1; omega)]
          exact x1 m hm
        · have hτ' : ∀ m, m < (H q).c → ¬ Pend H L j q m → τ m = σ' m := fun m h1 h2 => by
            have hne : m ≠ (H i).c := fun e1 => h2 (by rw [e1]; exact hpi)
            have := hτ m h1 (fun ⟨k, k1, k2, k3, k4, k5⟩ => h2 ⟨k, k1, k2, k3, k4, by
              have hki : k ≠ i := fun e2 => hne (by rw [← k3, e2])
              rw [← hL' k hki]; exact k5⟩)
            dsimp only at this
            rw [if_neg hne] at this
            exact this
          obtain ⟨gt, et⟩ := hU τ hτ'
          have hl0 : τ (H i).c = σ0 hx.c := by
            have := hτ (H i).c (by rw [← hpt.c]; exact hlc) (fun ⟨k, k1, k2, k3, k4, k5⟩ => by
              have := huniq k k1 k2 k3 k4
              subst this
              rw [hLi] at k5
              cases k5)
            dsimp only at this
            rw [if_pos rfl] at this
            exact this
          obtain ⟨σ2, w3, c1, c2, c3, c4, c5, c6⟩ := op_sound (P := P) gt hT et hop
          have c3 : (execOp a'.eval o).run P w' = .ok (.value (conc σ2 (F hx.c))) w3 := by
            rcases c3 with c3 | ⟨_, c3⟩
            · exact c3
            · exact absurd c3 (hnv _)
          rw [b3] at c3
          simp only [Result.ok.injEq, Next.value.injEq] at c3
          obtain ⟨e1, e2⟩ := c3
          subst e2
          obtain ⟨f1, f2, f3⟩ := hF.inj e1
          have hcs := hoks τ hx.c a' et
          refine ⟨newBlk_gam gt hcs hlc (by rw [hl0]; exact f1.symm) (by rw [hl0]; exact f2.symm) (by rw [hl0]; exact f3.symm) c1 c4, ?_⟩
          have hcv : conc τ (V i) = conc σ0 (F hx.c) := by rw [hV]; exact hF.conc (by rw [hl0]) (by rw [hl0]) (by rw [hl0])
          rw [← hcv]
          exact put_env (h := hx) et (fun _ _ => rfl) (Nat.le_refl _) (by rw [hV]; exact hF.ok hlc) hds
        · have hki : k ≠ i := by
            intro e1
            rw [e1, ho] at hok
            cases hok
            omega
          rw [hL' k hki]
          exact x9 k ok hok hkk
  · -- all is done
    rintro L a' w' ⟨σ', eD, j, q, hx, ρ, S, hL, hD, ⟨hjq, hqs, hz, hq2, hj0⟩, hfr, hpt, x1, x2, hU, x5, x6, x7, x9, x10, EA⟩ hall
    have hq : q = ops.size := by
      rcases Nat.lt_or_eq_of_le hqs with h1 | h1
      · obtain ⟨ok, hok, hkk⟩ := hp2 q (hq2 h1)
        have := (x9 q ok hok hkk).1 (hall q h1)
        omega
      · exact h1
    subst q
    have hPq := hph j ops.size (Nat.le_refl _) hz
    have hPh := hPq j ops.size (Nat.le_refl _) hjq (Nat.le_refl _)
    obtain ⟨gx, ex⟩ := hU σ' (fun _ _ _ => rfl)
    have hget : ∀ n, (H ops.size).m.get n = hx.m.get n := by
      intro n
      by_cases h1 : n < (H j).c
      · rw [hpt.old n h1, hPh.2.2.2 n h1]
      · by_cases h2 : n < (H ops.size).c
        · obtain ⟨d, hd⟩ := Nat.le.dest hjq
          obtain ⟨k, k1, k2, k3, k4⟩ := name_of d (fun m a b => hphase j ops.size (Nat.le_refl _) hz m a (by omega)) n (by omega) (by rw [hd]; exact h2)
          exact (hpt.done n (by omega) ⟨k, k1, by omega, k3, k4, hall k (by omega)⟩).symm
        · rw [hPh.2.2.1 hfr n (by omega)]
          refine (hpt.not n (by omega) ?_).symm
          rintro ⟨k, k1, k2, k3, k4, _⟩
          have := (hPq (k + 1) ops.size (by omega) (by omega) (Nat.le_refl _)).2.1
          omega
    refine hQ a' w' ⟨σ', x1, by rw [← t4]; exact Nat.le_trans x2 hPh.2.1, ?_, fun t v hv => ?_, x5, x6, x7, rfl⟩
    · rw [← t4]
      exact (gx.less (fun _ h => .inl h) (fun _ h => h)).congr hget (by rw [hpt.c]; exact Nat.le_refl _) (by rw [hpt.ro, hPh.1])
    · rw [← t4, ← hpt.c]
      refine ex t v ?_
      rw [x10 t (fun k ok hk hok => absurd hk.1 (by have := (Array.getElem?_eq_some_iff.1 hok).1; omega)), valL_congr (L' := fun _ => true) ops.size fun k hk _ => by simpa using hall k hk, hVE ops.size (Nat.le_refl _), t3]
      exact hv
  · -- the beginning
    obtain ⟨q, q1, q2, q3, q4⟩ := hnext 0 (Nat.zero_le _)
    have hph0 := hph 0 q q2 q3
    have hcq : h.c ≤ (H q).c := by have := (hph0 0 q (Nat.le_refl _) q1 (Nat.le_refl _)).2.1; rwa [t2] at this
    have hfr : ∀ m, (H 0).c ≤ m → (H 0).m.get m = none := by
      intro m hm
      rw [t2] at hm ⊢
      cases hc : h.m.get m with
      | none => rfl
      | some b => have := (g.blk m b hc).1; omega
    have hno : ∀ k, Erl H (Array.replicate ops.size false) q k → False := fun k hk => by
      have h1 := hk.2.1
      rw [Array.getD_eq_getD_getElem?, Array.getElem?_replicate] at h1
      split at h1 <;> cases h1
    refine ⟨σ, e, 0, q, ⟨h.m, (H q).c, h.ro⟩, fun _ => ⟨0, 0, 0, none⟩, fun _ => False, by simp, fun k o hk hL => ?_, ⟨q1, q2, q3, q4, .inl rfl⟩, hfr, ⟨rfl, by rw [t2], fun n hn => by rw [t2], ?_, fun n hn _ => by have := hfr n hn; rw [t2] at this; exact this⟩, fun _ _ => rfl, by rw [t2]; exact Nat.le_refl _, fun τ hτ => ?_, rfl, rfl, Bel.refl _ _, fun k o hk _ => ?_, fun t _ => ?_,
      ⟨fun k hk => (hno k hk).elim, fun k hk => (hno k hk).elim, fun k _ hk => (hno k hk).elim, fun k _ hk => (hno k hk).elim, fun _ k _ hk => (hno k hk).elim, fun k hk => (hno k hk).elim⟩⟩
    · have h4 := (Array.getElem?_eq_some_iff.1 hk).1
      simp [h4] at hL
    · rintro n hn ⟨k, k1, k2, k3, k4, k5⟩
      have h4 : k < ops.size := by omega
      simp [h4] at k5
    · have hag : ∀ m, m < h.c → τ m = σ m := fun m hm => hτ m (by omega) (by
        rintro ⟨k, k1, k2, k3, _, _⟩
        have := (hph0 0 k (Nat.le_refl _) k1 (by omega)).2.1
        rw [t2] at this
        omega)
      have g0 : Gam τ B ⟨h.m, (H q).c, h.ro⟩ w := (g.agree hag).congr (fun _ => rfl) hcq rfl
      exact ⟨g0.more (S := fun _ => False) (fun _ hf => False.elim hf) (fun _ _ _ hf => hf), he.agree hcq hag⟩
    · have h4 := (Array.getElem?_eq_some_iff.1 hk).1
      simp [h4]
    · rw [valL_congr (L' := fun k => decide (k < 0)) ops.size fun k hk _ => by simp [hk], valL_upto (i := 0) ops.size (Nat.zero_le _)]
      rfl
  · unfold left
    exact Nat.le_trans (List.length_filter_le _ _) (by simp)

theorem litB_sound {a b : Value} (h : litB a b = true) : a = b := by
  unfold litB at h
  split at h <;> try (simp_all; done)
  rename_i a b
  obtain ⟨⟨a⟩⟩ := a
  obtain ⟨⟨b⟩⟩ := b
  have h2 : a = b := eq_of_beq h
  rw [h2]
theorem fnB_sound {a b : Fn} (h : fnB a b = true) : a = b := by
  unfold fnB at h
  split at h <;> simp_all
theorem allB_sound {f : AV → AV → Bool} (hf : ∀ v v', f v v' = true → v = v') : ∀ l l', allB f l l' = true → l = l' := by
  intro l
  induction l with
  | nil => intro l' h; cases l' <;> simp_all [allB]
  | cons x l ih =>
    intro l' h
    cases l' with
    | nil => simp [allB] at h
    | cons y l' =>
      simp only [allB, Bool.and_eq_true] at h
      rw [hf _ _ h.1, ih _ h.2]
theorem avB1_sound {f : AV → AV → Bool} (hf : ∀ v v', f v v' = true → v = v') {a b : AV} (h : avB1 f a b = true) : a = b := by
  unfold avB1 at h
  split at h
  · rw [litB_sound h]
  · simp_all
  · simp_all
  · rw [Bool.and_eq_true] at h; rw [fnB_sound h.1, allB_sound hf _ _ h.2]
  · rw [Bool.and_eq_true] at h; rw [hf _ _ h.2, eq_of_beq h.1]
  · rw [allB_sound hf _ _ h]
  · rw [allB_sound hf _ _ h]
  · cases h
theorem avB_sound : ∀ n v v', avB n v v' = true → v = v' := by
  intro n
  induction n with
  | zero => intro v v' h; cases h
  | succ n ih => intro v v' h; exact avB1_sound ih h

theorem preA_some {e : Env} {h : Hp} {r : Option (List (Env × Hp))} {tr : List (Env × Hp)} (hr : preA e h r = some tr) : ∃ l, r = some l ∧ tr = (e, h) :: l := by
  cases r with
  | none => cases hr
  | some l => cases hr; exact ⟨l, rfl, rfl⟩
theorem trA_trace {call : CallF} {all : List Oper} : ∀ (l : List Oper) (e : Env) (h : Hp) (tr : List (Env × Hp)), trA C call all l e h = some tr →
    tr.length = l.length + 1 ∧ tr[0]? = some (e, h) ∧ ∀ i o, l[i]? = some o → ∃ ei hi ej hj v, tr[i]? = some (ei, hi) ∧ tr[i + 1]? = some (ej, hj) ∧ StepTo C call all ei hi o v hj ∧ ej = putA ei v o.dst := by
  intro l
  induction l with
  | nil => intro e h tr hr; cases hr; exact ⟨rfl, rfl, fun i o ho => by simp at ho⟩
  | cons x l ih =>
    intro e h tr hr
    change nextT (trA C call all l) e h (opsA C call all [x] e h) = some tr at hr
    cases hx : opsA C call all [x] e h with
    | none => rw [hx] at hr; cases hr
    | some q =>
      obtain ⟨e1, h1⟩ := q
      rw [hx] at hr
      obtain ⟨l1, hl1, rfl⟩ := preA_some hr
      obtain ⟨v, h2, hs, hz⟩ := opsA_step hx
      cases hz
      obtain ⟨k1, k2, k3⟩ := ih _ _ _ hl1
      refine ⟨by simp [k1], rfl, fun i o ho => ?_⟩
      cases i with
      | zero =>
        simp at ho
        subst ho
        exact ⟨e, h, _, _, v, rfl, by simpa using k2, hs, rfl⟩
      | succ i =>
        obtain ⟨ei, hi, ej, hj, u, m1, m2, m3, m4⟩ := k3 i o (by simpa using ho)
        exact ⟨ei, hi, ej, hj, u, by simpa using m1, by simpa using m2, m3, m4⟩

theorem checks_mem {all : List Oper} {tr : List (Env × Hp)} : ∀ {ps : List (Nat × Nat)}, checksD C all tr ps = true → ∀ p ∈ ps, checkD C all all[p.1]? tr[p.1]? tr[p.2]? = true := by
  intro ps
  induction ps with
  | nil => intro _ p hp; cases hp
  | cons q ps ih =>
    intro h p hp
    change (checkD C all all[q.1]? tr[q.1]? tr[q.2]? && checksD C all tr ps) = true at h
    rw [Bool.and_eq_true] at h
    rcases List.mem_cons.1 hp with rfl | hp
    · exact h.1
    · exact ih h.2 p hp

theorem reg_trace {call : CallF} {e : Env} {h : Hp} {e' : Env} {h' : Hp} (hr : regA C call ops true e h = some (e', h')) : ∃ (E : Nat → Env) (H : Nat → Hp) (V : Nat → AV), E 0 = e ∧ H 0 = h ∧ E ops.size = e' ∧ H ops.size = h' ∧
    (∀ i o, ops[i]? = some o → StepTo C call ops.toList (E i) (H i) o (V i) (H (i + 1)) ∧ E (i + 1) = putA (E i) (V i) o.dst) ∧
    ∀ i k, (i, k) ∈ dynOf ops true → ∀ o, ops[i]? = some o → kindA o.op = 1 → wantedA ops.toList (E i) o.guard = some true → opA C (E i) (H k) o.op = some (V i, H k) := by
  unfold regA at hr
  cases hps : dynOf ops true with
  | nil =>
    rw [hps] at hr
    change opsA C call ops.toList ops.toList e h = some (e', h') at hr
    obtain ⟨E, H, V, t1, t2, t3, t4, t5⟩ := trace_of ops.toList 0 rfl e h e' h' hr
    simp only [Nat.zero_add, Array.length_toList] at t3 t4
    exact ⟨E, H, V, t1, t2, t3, t4, fun i o ho => t5 i o (Nat.zero_le _) ho, fun i k hik => by cases hik⟩
  | cons p ps =>
    rw [← hps]
    have hr' : finD C ops.toList (dynOf ops true) (trA C call ops.toList ops.toList e h) = some (e', h') := by
      rw [hps] at hr ⊢
      exact hr
    cases htr : trA C call ops.toList ops.toList e h with
    | none => rw [htr] at hr'; cases hr'
    | some tr =>
      rw [htr] at hr'
      change cond (checksD C ops.toList tr (dynOf ops true)) tr[ops.toList.length]? none = some (e', h') at hr'
      cases hck : checksD C ops.toList tr (dynOf ops true) with
      | false => rw [hck] at hr'; cases hr'
      | true =>
        rw [hck] at hr'
        change tr[ops.toList.length]? = some (e', h') at hr'
        rw [Array.length_toList] at hr'
        obtain ⟨k1, k2, k3⟩ := trA_trace ops.toList e h tr htr
        have hE : ∀ {i : Nat} {q : Env × Hp}, tr[i]? = some q → (tr[i]?).getD (e, h) = q := fun hq => by rw [hq]; rfl
        have hV : ∀ i, ∃ v, ∀ o, ops[i]? = some o → StepTo C call ops.toList ((tr[i]?).getD (e, h)).1 ((tr[i]?).getD (e, h)).2 o v ((tr[i + 1]?).getD (e, h)).2 ∧ ((tr[i + 1]?).getD (e, h)).1 = putA ((tr[i]?).getD (e, h)).1 v o.dst := by
          intro i
          cases ho : ops[i]? with
          | none => exact ⟨uv, fun o h => by cases h⟩
          | some o =>
            obtain ⟨ei, hi, ej, hj, v, m1, m2, m3, m4⟩ := k3 i o (by simpa using ho)
            refine ⟨v, fun o2 h2 => ?_⟩
            cases h2
            rw [hE m1, hE m2]
            exact ⟨m3, m4⟩
        obtain ⟨V, hV⟩ := Classical.skolem.1 hV
        refine ⟨fun i => ((tr[i]?).getD (e, h)).1, fun i => ((tr[i]?).getD (e, h)).2, V, by dsimp only; rw [hE k2], by dsimp only; rw [hE k2], by dsimp only; rw [hE hr'], by dsimp only; rw [hE hr'], hV, ?_⟩
        intro i k hik o ho hk1 hw
        have hc := checks_mem hck _ hik
        dsimp only at hc hw ⊢
        rw [show ops.toList[i]? = some o from by simpa using ho] at hc
        obtain ⟨ei, hi, ej, hj, v, m1, m2, m3, m4⟩ := k3 i o (by simpa using ho)
        rw [hE m1] at hw ⊢
        rw [m1] at hc
        cases hk : tr[k]? with
        | none => rw [hk] at hc; cases hc
        | some q =>
          obtain ⟨ek, hhk⟩ := q
          rw [hk] at hc
          change checkG C ei hi hhk o.op (wantedA ops.toList ei o.guard) = true at hc
          rw [hw] at hc
          change sameR (opA C ei hi o.op) (opA C ei hhk o.op) = true at hc
          have hst := (hV i o ho).1
          rw [hE m1, hE m2] at hst
          dsimp only at hst
          show opA C ei hhk o.op = some (V i, hhk)
          rcases hst with ⟨hw2, _⟩ | ⟨_, hr2⟩
          · rw [hw] at hw2; cases hw2
          · unfold resOp at hr2
            rw [(kind1_op (C := C) (e := ei) (h := hi) hk1).1] at hr2
            dsimp only at hr2
            rw [hr2] at hc
            cases hx : opA C ei hhk o.op with
            | none => rw [hx] at hc; cases hc
            | some r =>
              obtain ⟨v2, h2⟩ := r
              rw [hx] at hc
              have h4 := (kind1_op (C := C) (e := ei) (h := hhk) hk1).2 _ hx
              dsimp only at h4
              rw [h4, avB_sound 4 _ _ hc]
end
end Go.Proofs.Abs
