import Derived.Test.YtpioenfglmimgaaS8
import Derived.WalkKit
import Derived.Orders
import Derived.LoopN
import Derived.Laws.CopyRow
import Derived.Laws.Tables
import Derived.Laws.Rows
import Derived.Great.BuildSlice
import Derived.Laws.MakeOwn
import Derived.Laws.Append
import Derived.Laws.AppendOwn
import Derived.Lib.Strings
import Derived.WalkSpells
import Derived.Lib.SliceRun
namespace Go.Proofs.Abs
open Go Go.RowKit
set_option linter.unusedSimpArgs false
set_option linter.unusedVariables false
/-! The evaluator is sound, part 9: regions whose order is open. -/
section
variable {P : Program} {C : Ctx} {B : Keep}

theorem mask_spec (b : Nat) : ∀ (es : List Edge) (ms : List Nat), Nat.testBit (edgeMask ms es) b = true → ∃ e ∈ es, Region.binds .any e = true ∧ (e.on = b ∨ Nat.testBit (ms.getD e.on 0) b = true) := by
  intro es
  induction es with
  | nil => intro ms h; simp [edgeMask] at h
  | cons e es ih =>
    intro ms h
    simp only [edgeMask] at h
    cases hb : Region.binds .any e with
    | false =>
      rw [hb, cond_false] at h
      obtain ⟨e', h1, h2⟩ := ih ms h
      exact ⟨e', List.mem_cons_of_mem _ h1, h2⟩
    | true =>
      rw [hb, cond_true] at h
      change Nat.testBit (((1 <<< e.on) ||| (ms.getD e.on 0)) ||| (edgeMask ms es)) b = true at h
      rw [Nat.testBit_or, Nat.testBit_or, Bool.or_eq_true, Bool.or_eq_true] at h
      rcases h with (h | h) | h
      · rw [Nat.one_shiftLeft, Nat.testBit_two_pow] at h
        exact ⟨e, List.mem_cons_self, hb, .inl (of_decide_eq_true h)⟩
      · exact ⟨e, List.mem_cons_self, hb, .inr h⟩
      · obtain ⟨e', h1, h2⟩ := ih ms h
        exact ⟨e', List.mem_cons_of_mem _ h1, h2⟩

theorem masks_spec : ∀ (l : List Oper) (acc : List Nat), (masksOf l acc).take acc.length = acc ∧ (masksOf l acc).length = acc.length + l.length ∧
    ∀ i o, l[i]? = some o → (masksOf l acc)[acc.length + i]? = some (edgeMask ((masksOf l acc).take (acc.length + i)) o.after.toList) := by
  intro l
  induction l with
  | nil => intro acc; exact ⟨by simp [masksOf], by simp [masksOf], fun i o h => by simp at h⟩
  | cons x l ih =>
    intro acc
    obtain ⟨h1, h2, h3⟩ := ih (acc ++ [edgeMask acc x.after.toList])
    have hdef : masksOf (x :: l) acc = masksOf l (acc ++ [edgeMask acc x.after.toList]) := rfl
    rw [hdef]
    simp only [List.length_append, List.length_singleton] at h1 h2 h3
    have htk : (masksOf l (acc ++ [edgeMask acc x.after.toList])).take acc.length = acc := by
      have := congrArg (List.take acc.length) h1
      rw [List.take_take, Nat.min_eq_left (by omega)] at this
      rw [this]
      simp
    refine ⟨htk, by simp only [List.length_cons]; omega, fun i o hi => ?_⟩
    cases i with
    | zero =>
      simp only [List.getElem?_cons_zero, Option.some.injEq] at hi
      subst hi
      rw [Nat.add_zero, htk]
      have : (masksOf l (acc ++ [edgeMask acc x.after.toList]))[acc.length]? = ((masksOf l (acc ++ [edgeMask acc x.after.toList])).take (acc.length + 1))[acc.length]? := by
        rw [List.getElem?_take, if_pos (by omega)]
      rw [this, h1]
      simp
    | succ i =>
      have := h3 i o (by simpa using hi)
      rw [show acc.length + (i + 1) = acc.length + 1 + i from by omega]
      exact this

def before (ops : Array Oper) (k b : Nat) : Bool := Nat.testBit ((masksOf ops.toList []).getD k 0) b

theorem down_spec : ∀ (l : List Oper) (k : Nat), allDown k l = true → ∀ i o, l[i]? = some o → ∀ e ∈ o.after.toList, Region.binds .any e = true → e.on < k + i := by
  have hes : ∀ (es : List Edge) (i : Nat), edgesDown i es = true → ∀ e ∈ es, Region.binds .any e = true → e.on < i := by
    intro es
    induction es with
    | nil => intro i _ e he; cases he
    | cons x es ih =>
      intro i h e he hb
      simp only [edgesDown] at h
      rcases List.mem_cons.1 he with rfl | he
      · rw [hb, cond_true, Bool.and_eq_true] at h
        exact Nat.le_of_ble_eq_true h.1
      · cases hx : Region.binds .any x with
        | true => rw [hx, cond_true, Bool.and_eq_true] at h; exact ih i h.2 e he hb
        | false => rw [hx, cond_false] at h; exact ih i h e he hb
  intro l
  induction l with
  | nil => intro k _ i o h; simp at h
  | cons x l ih =>
    intro k h i o hi e he hb
    simp only [allDown, Bool.and_eq_true] at h
    cases i with
    | zero =>
      simp only [List.getElem?_cons_zero, Option.some.injEq] at hi
      subst hi
      exact hes _ _ h.1 e he hb
    | succ i =>
      have := ih (k + 1) h.2 i o (by simpa using hi) e he hb
      omega

variable {ops : Array Oper}
theorem before_spec (hd : allDown 0 ops.toList = true) {k b : Nat} {o : Oper} (hk : ops[k]? = some o) (hb : before ops k b = true) :
    ∃ e ∈ o.after, Region.binds .any e = true ∧ e.on < k ∧ (e.on = b ∨ before ops e.on b = true) := by
  obtain ⟨_, _, h3⟩ := masks_spec ops.toList []
  have hk' : ops.toList[k]? = some o := by simpa using hk
  have := h3 k o hk'
  simp only [List.length_nil, Nat.zero_add] at this
  unfold before at hb
  rw [List.getD_eq_getElem?_getD, this] at hb
  simp only [Option.getD_some] at hb
  obtain ⟨e, h1, h2, h4⟩ := mask_spec b _ _ hb
  have hlt := down_spec ops.toList 0 hd k o hk' e h1 h2
  refine ⟨e, by simpa using h1, h2, by omega, ?_⟩
  rcases h4 with h4 | h4
  · exact .inl h4
  · right
    unfold before
    rw [List.getD_eq_getElem?_getD] at h4 ⊢
    rw [List.getElem?_take, if_pos (by omega)] at h4
    exact h4

def Dn (ops : Array Oper) (L : Array Bool) : Prop := ∀ k o, ops[k]? = some o → L.getD k false = true → ∀ e ∈ o.after, Region.binds .any e = true → L.getD e.on false = true

theorem closed (hd : allDown 0 ops.toList = true) {L : Array Bool} (hD : Dn ops L) : ∀ k b, k < ops.size → L.getD k false = true → before ops k b = true → L.getD b false = true := by
  intro k
  induction k using Nat.strongRecOn with
  | _ k ih =>
    intro b hk hL hb
    have ho : ops[k]? = some ops[k] := Array.getElem?_eq_getElem hk
    obtain ⟨e, h1, h2, h3, h4⟩ := before_spec hd ho hb
    have hl := hD k _ ho hL e h1 h2
    rcases h4 with h4 | h4
    · rw [← h4]; exact hl
    · exact ih e.on h3 b (by omega) hl h4

theorem closed_ready (hd : allDown 0 ops.toList = true) {L : Array Bool} (hD : Dn ops L) {i : Nat} (hi : i ∈ Region.ready .any ops L) (b : Nat) (hb : before ops i b = true) : L.getD b false = true := by
  obtain ⟨_, o, ho, hall⟩ := mem_ready.1 hi
  obtain ⟨e, h1, h2, h3, h4⟩ := before_spec hd ho hb
  have hl := hall e h1 h2
  rcases h4 with h4 | h4
  · rw [← h4]; exact hl
  · have hlt := (Array.getElem?_eq_some_iff.1 ho).1
    exact closed hd hD e.on b (by omega) hl h4

theorem rows_spec (MS : List Nat) (q m : Nat) (y : Oper) : ∀ (l : List Oper) (k : Nat), rowOk ops MS q m y k l = true → ∀ i x, l[i]? = some x → pairOk ops MS q m (k + i) x y = true := by
  intro l
  induction l with
  | nil => intro k _ i x h; simp at h
  | cons z l ih =>
    intro k h i x hi
    simp only [rowOk, Bool.and_eq_true] at h
    cases i with
    | zero => simp only [List.getElem?_cons_zero, Option.some.injEq] at hi; subst hi; exact h.1
    | succ i =>
      have := ih (k + 1) h.2 i x (by simpa using hi)
      rw [show k + (i + 1) = k + 1 + i from by omega]
      exact this
theorem pairs_spec (MS : List Nat) : ∀ (l : List Oper) (ms : List Nat) (pre : List Oper), ms.length = l.length → pairsOk ops MS ms pre l = true → ∀ j y, l[j]? = some y → ∀ i x, i < pre.length + j → (pre ++ l)[i]? = some x → pairOk ops MS (pre.length + j) (ms.getD j 0) i x y = true := by
  intro l
  induction l with
  | nil => intro ms pre _ _ j y h; simp at h
  | cons z l ih =>
    intro ms pre hm h j y hj i x hi hx
    cases ms with
    | nil => simp at hm
    | cons m ms =>
      simp only [pairsOk, Bool.and_eq_true] at h
      cases j with
      | zero =>
        simp only [List.getElem?_cons_zero, Option.some.injEq] at hj
        subst hj
        have := rows_spec MS pre.length m z pre 0 h.1 i x (by rw [List.getElem?_append_left (by omega)] at hx; exact hx)
        simpa using this
      | succ j =>
        have := ih ms (pre ++ [z]) (by simpa using hm) h.2 j y (by simpa using hj) i x (by simp; omega) (by simpa using hx)
        rw [List.length_append, List.length_singleton, Nat.add_assoc, Nat.add_comm 1 j] at this
        simpa using this

/-- what two operations of a region have to do with each other -/
theorem pair_cases (hp : pairsOk ops (masksOf ops.toList []) (masksOf ops.toList []) [] ops.toList = true) {i j : Nat} {x y : Oper} (hi : ops[i]? = some x) (hj : ops[j]? = some y) (hij : i < j) :
    before ops j i = true ∨ (Oper.apart ops x y = true ∧ ((kindsOk (kindA x.op) (kindA y.op) = true ∨ dynKinds (kindA x.op) (kindA y.op) = true) ∨
      (kindA x.op = 2 ∧ isAlloc y.op = true ∧ ∀ z, before ops z j = true → before ops z i = true))) := by
  obtain ⟨_, h2, _⟩ := masks_spec ops.toList []
  have := pairs_spec (masksOf ops.toList []) ops.toList (masksOf ops.toList []) [] (by simpa using h2) hp j y (by simpa using hj) i x (by simpa using hij) (by simpa using hi)
  unfold pairOk at this
  rw [Bool.or_eq_true, Bool.and_eq_true, Bool.or_eq_true, Bool.or_eq_true] at this
  rcases this with h | ⟨h, h3 | h3 | h3⟩
  · exact .inl h
  · exact .inr ⟨h, .inl (.inl h3)⟩
  · exact .inr ⟨h, .inl (.inr h3)⟩
  · refine .inr ⟨h, .inr ?_⟩
    unfold lateOk at h3
    rw [Bool.and_eq_true, Bool.and_eq_true, List.all_eq_true] at h3
    refine ⟨Nat.eq_of_beq_eq_true h3.1.1, h3.1.2, fun z hz => ?_⟩
    unfold before at hz ⊢
    simp only [List.length_nil, Nat.zero_add] at h3
    by_cases hl : z < (masksOf ops.toList []).length
    · have hm : (masksOf ops.toList []).getD z 0 ∈ masksOf ops.toList [] := by
        rw [List.getD_eq_getElem?_getD, List.getElem?_eq_getElem hl]
        exact List.getElem_mem hl
      have := h3.2 _ hm
      rw [hz] at this
      simpa using this
    · rw [List.getD_eq_getElem?_getD, List.getElem?_eq_none (by omega)] at hz
      simp at hz

theorem rowD_spec (m j : Nat) (y : Oper) : ∀ (l : List Oper) (k i : Nat) (x : Oper), l[i]? = some x → Nat.testBit m (k + i) = false →
    (kindA x.op = 1 → kindA y.op = 2 → (k + i, j + 1) ∈ rowD m j y k l) ∧ (kindA x.op = 2 → kindA y.op = 1 → (j, k + i) ∈ rowD m j y k l) := by
  intro l
  induction l with
  | nil => intro k i x hx; simp at hx
  | cons z l ih =>
    intro k i x hx hm
    cases i with
    | zero =>
      simp at hx
      subst hx
      rw [Nat.add_zero] at hm ⊢
      constructor
      · intro h1 h2
        unfold rowD
        rw [hm, h1, h2]
        exact List.mem_cons_self
      · intro h1 h2
        unfold rowD
        rw [hm, h1, h2]
        exact List.mem_cons_self
    | succ i =>
      have hx' : l[i]? = some x := by simpa using hx
      obtain ⟨k1, k2⟩ := ih (k + 1) i x hx' (by rw [show k + 1 + i = k + (i + 1) by omega]; exact hm)
      rw [show k + 1 + i = k + (i + 1) by omega] at k1 k2
      have sub : ∀ q, q ∈ rowD m j y (k + 1) l → q ∈ rowD m j y k (z :: l) := by
        intro q hq
        unfold rowD
        cases Nat.testBit m k
        · cases (Nat.beq (kindA z.op) 1 && Nat.beq (kindA y.op) 2)
          · cases (Nat.beq (kindA z.op) 2 && Nat.beq (kindA y.op) 1)
            · exact hq
            · exact List.mem_cons_of_mem _ hq
          · exact List.mem_cons_of_mem _ hq
        · exact hq
      exact ⟨fun h1 h2 => sub _ (k1 h1 h2), fun h1 h2 => sub _ (k2 h1 h2)⟩
theorem dynL_spec : ∀ (l : List Oper) (ms : List Nat) (pre : List Oper), ms.length = l.length → ∀ j y, l[j]? = some y → ∀ i x, i < pre.length + j → (pre ++ l)[i]? = some x → Nat.testBit (ms.getD j 0) i = false →
    (kindA x.op = 1 → kindA y.op = 2 → (i, pre.length + j + 1) ∈ dynL ms pre l) ∧ (kindA x.op = 2 → kindA y.op = 1 → (pre.length + j, i) ∈ dynL ms pre l) := by
  intro l
  induction l with
  | nil => intro ms pre _ j y hj; simp at hj
  | cons z l ih =>
    intro ms pre hm j y hj i x hi hx hb
    cases ms with
    | nil => simp at hm
    | cons m ms =>
      cases j with
      | zero =>
        simp at hj
        subst hj
        have hx' : pre[i]? = some x := by rw [List.getElem?_append_left (by omega)] at hx; exact hx
        obtain ⟨k1, k2⟩ := rowD_spec m pre.length z pre 0 i x hx' (by simpa using hb)
        rw [Nat.zero_add] at k1 k2
        exact ⟨fun h1 h2 => List.mem_append_left _ (k1 h1 h2), fun h1 h2 => List.mem_append_left _ (k2 h1 h2)⟩
      | succ j =>
        obtain ⟨k1, k2⟩ := ih ms (pre ++ [z]) (by simpa using hm) j y (by simpa using hj) i x (by simp; omega) (by simpa using hx) (by simpa using hb)
        rw [List.length_append, List.length_singleton, show pre.length + 1 + j = pre.length + (j + 1) by omega] at k1 k2
        exact ⟨fun h1 h2 => List.mem_append_right _ (k1 h1 h2), fun h1 h2 => List.mem_append_right _ (k2 h1 h2)⟩
theorem dyn_spec {i j : Nat} {x y : Oper} (hi : ops[i]? = some x) (hj : ops[j]? = some y) (hij : i < j) (hb : before ops j i = false) :
    (kindA x.op = 1 → kindA y.op = 2 → (i, j + 1) ∈ dynOf ops true) ∧ (kindA x.op = 2 → kindA y.op = 1 → (j, i) ∈ dynOf ops true) := by
  obtain ⟨_, h2, _⟩ := masks_spec ops.toList []
  have := dynL_spec ops.toList (masksOf ops.toList []) [] (by simpa using h2) j y (by simpa using hj) i x (by simpa using hij) (by simpa using hi) hb
  simpa [dynOf] using this
theorem least2 (p : Nat → Bool) : ∀ (d a : Nat), (∀ k, a ≤ k → k < a + d → p k = false) ∨ ∃ k, a ≤ k ∧ k < a + d ∧ p k = true ∧ ∀ m, a ≤ m → m < k → p m = false := by
  intro d
  induction d with
  | zero => intro a; exact .inl fun k h1 h2 => by omega
  | succ d ih =>
    intro a
    rcases ih a with h | ⟨k, h1, h2, h3, h4⟩
    · cases hp : p (a + d) with
      | true => exact .inr ⟨a + d, by omega, by omega, hp, fun m h1 h2 => h m h1 h2⟩
      | false =>
        refine .inl fun k h1 h2 => ?_
        by_cases hk : k = a + d
        · rw [hk]; exact hp
        · exact h k h1 (by omega)
    · exact .inr ⟨k, h1, by omega, h3, h4⟩
theorem great2 (p : Nat → Bool) : ∀ (d a : Nat), (∀ k, a ≤ k → k < a + d → p k = false) ∨ ∃ k, a ≤ k ∧ k < a + d ∧ p k = true ∧ ∀ m, k < m → m < a + d → p m = false := by
  intro d
  induction d with
  | zero => intro a; exact .inl fun k h1 h2 => by omega
  | succ d ih =>
    intro a
    cases hp : p (a + d) with
    | true => exact .inr ⟨a + d, by omega, by omega, hp, fun m h1 h2 => by omega⟩
    | false =>
      rcases ih a with h | ⟨k, h1, h2, h3, h4⟩
      · refine .inl fun k h1 h2 => ?_
        by_cases hk : k = a + d
        · rw [hk]; exact hp
        · exact h k h1 (by omega)
      · refine .inr ⟨k, h1, by omega, h3, fun m hm1 hm2 => ?_⟩
        by_cases hk : m = a + d
        · rw [hk]; exact hp
        · exact h4 m hm1 (by omega)

theorem filter_lt {p q : Nat → Bool} {i : Nat} (hpq : ∀ k, q k = true → p k = true) (hi : p i = true) (hq : q i = false) : ∀ l : List Nat, i ∈ l → (l.filter q).length < (l.filter p).length := by
  have hle : ∀ l : List Nat, (l.filter q).length ≤ (l.filter p).length := by
    intro l
    induction l with
    | nil => simp
    | cons k l ih =>
      rw [List.filter_cons, List.filter_cons]
      cases h1 : q k with
      | true => rw [hpq k h1]; simp; exact ih
      | false => cases p k <;> simp <;> omega
  intro l
  induction l with
  | nil => intro h; cases h
  | cons k l ih =>
    intro hm
    rw [List.filter_cons, List.filter_cons]
    rcases List.mem_cons.1 hm with rfl | hm
    · rw [hi, hq]; simp; exact Nat.lt_succ_of_le (hle l)
    · have := ih hm
      cases h1 : q k with
      | true => rw [hpq k h1]; simp; exact this
      | false => cases p k <;> simp <;> omega

def left (n : Nat) (L : Array Bool) : Nat := ((List.range n).filter fun i => !L.getD i true).length

theorem wpAny_inv {Q : Exit → Act → World → Prop} (hd : allDown 0 ops.toList = true) (Inv : Array Bool → Act → World → Prop) (hsz : ∀ L a w, Inv L a w → L.size = ops.size ∧ Dn ops L)
    (hstep : ∀ L a w i, Inv L a w → i ∈ Region.ready .any ops L → wpOp P ops Q i (Inv (L.setIfInBounds i true)) a w)
    (hdone : ∀ L a w, Inv L a w → (∀ i, i < ops.size → L.getD i false = true) → Q .normal a w) :
    ∀ (fuel : Nat) (L : Array Bool) (a : Act) (w : World), Inv L a w → left ops.size L ≤ fuel → wpAny P .any ops Q fuel L a w := by
  have hall : ∀ L a w, Inv L a w → Region.ready .any ops L = [] → ∀ i, i < ops.size → L.getD i false = true := by
    intro L a w hI hr i
    obtain ⟨hs, hD⟩ := hsz L a w hI
    induction i using Nat.strongRecOn with
    | _ i ih =>
      intro hi
      cases hL : L.getD i false with
      | true => rfl
      | false =>
        have hin : i ∈ Region.ready .any ops L := by
          rw [mem_ready]
          have hlt : i < L.size := by omega
          refine ⟨?_, ops[i], Array.getElem?_eq_getElem hi, fun e he hb => ?_⟩
          · simp [hlt] at hL ⊢; exact hL
          · have := down_spec ops.toList 0 hd i ops[i] (by simp [hi]) e (by simpa using he) hb
            exact ih e.on (by omega) (by omega)
        rw [hr] at hin
        cases hin
  intro fuel
  induction fuel with
  | zero =>
    intro L a w hI hl
    have hr : Region.ready .any ops L = [] := by
      cases hr : Region.ready .any ops L with
      | nil => rfl
      | cons i rs =>
        exfalso
        have hi : i ∈ Region.ready .any ops L := by rw [hr]; exact List.mem_cons_self
        obtain ⟨h1, o, ho, _⟩ := mem_ready.1 hi
        have hlt := (Array.getElem?_eq_some_iff.1 ho).1
        have : i ∈ (List.range ops.size).filter fun i => !L.getD i true := List.mem_filter.2 ⟨List.mem_range.2 hlt, by rw [h1]; rfl⟩
        have := List.length_pos_of_mem this
        unfold left at hl
        omega
    exact ⟨hr, hdone L a w hI (hall L a w hI hr)⟩
  | succ fuel ih =>
    intro L a w hI hl
    refine ⟨fun hr => hdone L a w hI (hall L a w hI hr), fun i hi => ?_⟩
    refine wpOp_mono (fun a' w' hI' => ih _ a' w' hI' ?_) (hstep L a w i hI hi)
    obtain ⟨h1, o, ho, _⟩ := mem_ready.1 hi
    have hlt := (Array.getElem?_eq_some_iff.1 ho).1
    have hls : i < L.size := by rw [(hsz L a w hI).1]; exact hlt
    have := filter_lt (p := fun i => !L.getD i true) (q := fun k => !(L.setIfInBounds i true).getD k true) (i := i) (fun k hk => by
        by_cases e : i = k
        · subst e; simp [hls] at hk
        · rw [getD_set_ne true e] at hk; exact hk) (by simp only [h1]; rfl) (by simp [hls]) (List.range ops.size) (List.mem_range.2 hlt)
    unfold left at hl ⊢
    omega
end
end Go.Proofs.Abs
