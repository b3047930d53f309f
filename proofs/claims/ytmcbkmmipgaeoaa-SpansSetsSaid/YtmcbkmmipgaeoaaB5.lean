import Derived.Test.YtmcbkmmipgaeoaaB4
import Derived.KernelRfl
namespace Go.Proofs.Ytmcbkmmipgaeoaa
open Go Go.Proofs Go.RowKit
set_option linter.unusedSimpArgs false
set_option linter.unusedVariables false
open Go.Proofs.Abs
theorem hr_mem (i : Int) : ∀ xs : List (Int × Int), hr i xs = true ↔ mem i xs
  | [] => ⟨fun h => (by cases h), fun h => h.elim⟩
  | (a, b) :: xs => by
    rw [hr]
    by_cases h1 : i < a
    · rw [if_pos h1, hr_mem i xs]
      exact ⟨.inr, fun h => h.elim (fun h2 => by omega) id⟩
    · rw [if_neg h1]
      by_cases h2 : i < b
      · rw [if_pos h2]
        exact ⟨fun _ => .inl ⟨by omega, h2⟩, fun _ => rfl⟩
      · rw [if_neg h2, hr_mem i xs]
        exact ⟨.inr, fun h => h.elim (fun h2 => by omega) id⟩
theorem sp_mem {ws : List Bool} (hl : ws.length ≤ 1000000) (x : Int) : mem x (sp ws) ↔ ∃ j : Nat, x = (j : Int) ∧ ws[j]? = some true := by
  unfold sp
  rw [(sp_ok ws.length hl).mem0]
  exact ⟨fun ⟨j, _, h1, h2⟩ => ⟨j, h1, h2⟩, fun ⟨j, h1, h2⟩ => ⟨j, (List.getElem?_eq_some_iff.1 h2).1, h1, h2⟩⟩
theorem sp_chk {ws : List Bool} (hl : ws.length ≤ 1000000) : chk (-1) (sp ws) = 0 := (sp_ok ws.length hl).chk0
theorem spS_chk (ms : List Bool) : chk (-1) (spS ms) = 0 := sp_chk (by rw [List.length_take]; omega)
theorem spS_lt {ms : List Bool} {x : Int} (h : mem x (spS ms)) : 0 ≤ x ∧ x < 300 := by
  obtain ⟨j, rfl, h2⟩ := (sp_mem (by rw [List.length_take]; omega) x).1 h
  have := (List.getElem?_eq_some_iff.1 h2).1
  rw [List.length_take] at this
  omega
theorem spS_lto (ms : List Bool) : lto (-1) (spS ms) ≤ 300 := by
  have h1 := spK_lto0 (sp_ok (ms := ms.take 300) (ms.take 300).length (by rw [List.length_take]; omega))
  have h2 : (ms.take 300).length ≤ 300 := by rw [List.length_take]; omega
  unfold spS sp
  omega
def bsL (L : List (Int × Int)) (n : Nat) : List Bool := (List.range n).map fun (i : Nat) => hr (i : Int) L
theorem bsL_len (L : List (Int × Int)) (n : Nat) : (bsL L n).length = n := by simp [bsL]
theorem bsL_at (L : List (Int × Int)) {n j : Nat} (hj : j < n) : (bsL L n)[j]? = some (hr (j : Int) L) := by
  unfold bsL
  rw [List.getElem?_map, List.getElem?_range hj]
  rfl
theorem ins_mem {L : List (Int × Int)} {p n : Int} (hc : chk (-1) L = 0) (hp0 : 0 ≤ p) (hp : p ≤ 1073741824) (hn : 0 ≤ n) (hn2 : n ≤ 1073741824) (hl : L.length ≤ 2000) (hlt : lto (-1) L + n ≤ 1073741824) :
    ∃ r, insR L p n = (r, 0) ∧ chk (-1) r = 0 ∧ cnt 0 r = cnt 0 L ∧ r.length ≤ 2 * L.length ∧ remR r p n = (L, 0) ∧ ∀ x, mem x r ↔ (x < p ∧ mem x L) ∨ (p + n ≤ x ∧ mem (x - n) L) := by
  have hcc : cc L p n = 0 := cc_ne.2 ⟨hc, hp0, hp, hn, hn2⟩
  rcases insR_ok hcc hl with ⟨_, h1, _⟩ | ⟨_, r, h1, h2, h3, h4, h5⟩
  · omega
  · refine ⟨r, h1, h2, h3, h4, h5, fun x => ?_⟩
    cases hr : insF p n [] L with
    | none =>
      unfold insR at h1
      rw [if_neg (fun h => h hcc), hr] at h1
      cases h1
    | some s =>
      obtain ⟨_, _, _, i4⟩ := ins_good hp0 hp hn L [] s (-1) hc rfl (by rw [if_pos (by omega)]; exact Int.le_refl _) hr
      unfold insR at h1
      rw [if_neg (fun h => h hcc), hr] at h1
      change finR s = (r, 0) at h1
      unfold finR at h1
      split at h1
      · cases h1
        rw [i4]
        simp [mem]
      · cases h1
theorem rem_mem {L : List (Int × Int)} {p n : Int} (hc : chk (-1) L = 0) (hp0 : 0 ≤ p) (hn : 0 ≤ n) (hpn : p + n ≤ 1073741824) (hl : L.length ≤ 2000) :
    ∃ r, remR L p n = (r, 0) ∧ chk (-1) r = 0 ∧ cnt 0 r = cnt 0 L - gone p (p + n) L ∧ r.length ≤ 2 * L.length ∧ ∀ x, mem x r ↔ (x < p ∧ mem x L) ∨ (p ≤ x ∧ mem (x + n) L) := by
  have hcc : cc L p n = 0 := cc_ne.2 ⟨hc, hp0, by omega, hn, by omega⟩
  obtain ⟨r, h1, h2, h3, h4, h5⟩ := remR_ok hcc hl
  refine ⟨r, h1, h3, h4, h5, fun x => ?_⟩
  have e1 : p + min n (1073741824 - p) = p + n := by omega
  rw [e1] at h2
  obtain ⟨_, _, _, i4⟩ := rem_good (e := p + n) hp0 (by omega) hpn L [] (-1) hc rfl (by rw [if_pos (by omega)]; exact Int.le_refl _)
  rw [h2, i4, show p + n - p = n by omega]
  simp [mem]
theorem insB_eq {L r : List (Int × Int)} {at_ n N : Nat} (hN : at_ ≤ N) (hN2 : N ≤ 100000) (hn : n ≤ 100000) (hLt : ∀ x, mem x L → 0 ≤ x ∧ x < (N : Int)) (hcr : chk (-1) r = 0) (hm : ∀ x, mem x r ↔ (x < (at_ : Int) ∧ mem x L) ∨ ((at_ : Int) + (n : Int) ≤ x ∧ mem (x - (n : Int)) L)) : r = sp (insB (bsL L N) at_ n) := by
  have hlen : (insB (bsL L N) at_ n).length = N + n := by
    unfold insB
    rw [List.length_append, List.length_append, List.length_take, List.length_drop, List.length_replicate, bsL_len]
    omega
  refine mem_ext _ _ (-1) (-1) hcr (sp_chk (by omega)) fun x => ?_
  rw [hm, sp_mem (by omega)]
  have hat : ∀ j : Nat, (insB (bsL L N) at_ n)[j]? = if j < at_ then some (hr (j : Int) L) else if j < at_ + n then some false else if j < N + n then some (hr ((j - n : Nat) : Int) L) else none := by
    intro j
    unfold insB
    have l1 : ((bsL L N).take at_).length = at_ := by rw [List.length_take, bsL_len]; omega
    by_cases h1 : j < at_
    · rw [if_pos h1, List.append_assoc, List.getElem?_append_left (by omega), List.getElem?_take, if_pos h1, bsL_at L (by omega)]
    · rw [if_neg h1]
      by_cases h2 : j < at_ + n
      · rw [if_pos h2, List.getElem?_append_left (by rw [List.length_append, l1, List.length_replicate]; exact h2), List.getElem?_append_right (by omega), l1, List.getElem?_replicate, if_pos (by omega)]
      · rw [if_neg h2, List.getElem?_append_right (by rw [List.length_append, l1, List.length_replicate]; omega), List.length_append, l1, List.length_replicate, List.getElem?_drop, show at_ + (j - (at_ + n)) = j - n by omega]
        by_cases h3 : j < N + n
        · rw [if_pos h3, bsL_at L (by omega)]
        · rw [if_neg h3, List.getElem?_eq_none (by rw [bsL_len]; omega)]
  constructor
  · rintro (⟨h1, h2⟩ | ⟨h1, h2⟩)
    · obtain ⟨h3, h4⟩ := hLt x h2
      obtain ⟨j, rfl⟩ := Int.eq_ofNat_of_zero_le h3
      exact ⟨j, rfl, by rw [hat, if_pos (by omega), (hr_mem _ _).2 h2]⟩
    · obtain ⟨h3, h4⟩ := hLt _ h2
      obtain ⟨j, rfl⟩ := Int.eq_ofNat_of_zero_le (show 0 ≤ x by omega)
      exact ⟨j, rfl, by rw [hat, if_neg (by omega), if_neg (by omega), if_pos (by omega), (hr_mem _ _).2 (by rw [show ((j - n : Nat) : Int) = (j : Int) - (n : Int) by omega]; exact h2)]⟩
  · rintro ⟨j, rfl, h1⟩
    rw [hat] at h1
    by_cases h2 : j < at_
    · rw [if_pos h2] at h1
      exact .inl ⟨by omega, (hr_mem _ _).1 (Option.some.inj h1)⟩
    · rw [if_neg h2] at h1
      by_cases h3 : j < at_ + n
      · rw [if_pos h3] at h1
        cases h1
      · rw [if_neg h3] at h1
        by_cases h4 : j < N + n
        · rw [if_pos h4] at h1
          have := (hr_mem _ _).1 (Option.some.inj h1)
          rw [show ((j - n : Nat) : Int) = (j : Int) - (n : Int) by omega] at this
          exact .inr ⟨by omega, this⟩
        · rw [if_neg h4] at h1
          cases h1
theorem remB_eq {L r : List (Int × Int)} {at_ n N : Nat} (hN : at_ ≤ N) (hN2 : N ≤ 100000) (hn : n ≤ 100000) (hLt : ∀ x, mem x L → 0 ≤ x ∧ x < (N : Int)) (hcr : chk (-1) r = 0) (hm : ∀ x, mem x r ↔ (x < (at_ : Int) ∧ mem x L) ∨ ((at_ : Int) ≤ x ∧ mem (x + (n : Int)) L)) : r = sp (remB (bsL L N) at_ n) := by
  have hlen : (remB (bsL L N) at_ n).length ≤ N + N := by
    unfold remB
    rw [List.length_append, List.length_take, List.length_drop, bsL_len]
    omega
  refine mem_ext _ _ (-1) (-1) hcr (sp_chk (by omega)) fun x => ?_
  rw [hm, sp_mem (by omega)]
  have hat : ∀ j : Nat, (remB (bsL L N) at_ n)[j]? = if j < at_ then some (hr (j : Int) L) else if j + n < N then some (hr ((j + n : Nat) : Int) L) else none := by
    intro j
    unfold remB
    have l1 : ((bsL L N).take at_).length = at_ := by rw [List.length_take, bsL_len]; omega
    by_cases h1 : j < at_
    · rw [if_pos h1, List.getElem?_append_left (by omega), List.getElem?_take, if_pos h1, bsL_at L (by omega)]
    · rw [if_neg h1, List.getElem?_append_right (by omega), l1, List.getElem?_drop, show at_ + n + (j - at_) = j + n by omega]
      by_cases h3 : j + n < N
      · rw [if_pos h3, bsL_at L h3]
      · rw [if_neg h3, List.getElem?_eq_none (by rw [bsL_len]; omega)]
  constructor
  · rintro (⟨h1, h2⟩ | ⟨h1, h2⟩)
    · obtain ⟨h3, h4⟩ := hLt x h2
      obtain ⟨j, rfl⟩ := Int.eq_ofNat_of_zero_le h3
      exact ⟨j, rfl, by rw [hat, if_pos (by omega), (hr_mem _ _).2 h2]⟩
    · obtain ⟨h3, h4⟩ := hLt _ h2
      obtain ⟨j, rfl⟩ := Int.eq_ofNat_of_zero_le (show 0 ≤ x by omega)
      exact ⟨j, rfl, by rw [hat, if_neg (by omega), if_pos (by omega), (hr_mem _ _).2 (by rw [show ((j + n : Nat) : Int) = (j : Int) + (n : Int) by omega]; exact h2)]⟩
  · rintro ⟨j, rfl, h1⟩
    rw [hat] at h1
    by_cases h2 : j < at_
    · rw [if_pos h2] at h1
      exact .inl ⟨by omega, (hr_mem _ _).1 (Option.some.inj h1)⟩
    · rw [if_neg h2] at h1
      by_cases h4 : j + n < N
      · rw [if_pos h4] at h1
        have := (hr_mem _ _).1 (Option.some.inj h1)
        rw [show ((j + n : Nat) : Int) = (j : Int) + (n : Int) by omega] at this
        exact .inr ⟨by omega, this⟩
      · rw [if_neg h4] at h1
        cases h1
theorem gone_bound (p e : Int) : ∀ (xs : List (Int × Int)) (last : Int), chk last xs = 0 → 0 ≤ gone p e xs ∧ gone p e xs ≤ tot xs
  | [], _, _ => ⟨Int.le_refl _, Int.le_refl _⟩
  | (a, b) :: xs, last, hc => by
    have h1 := chk_cons.1 hc
    have := gone_bound p e xs b h1.2.2.2.2
    rw [gone, tot]
    omega
theorem gone_self (p : Int) : ∀ xs : List (Int × Int), gone p p xs = 0
  | [] => rfl
  | (a, b) :: xs => by rw [gone, gone_self p xs]; omega
theorem gone_succ {p e : Int} (hpe : p ≤ e) : ∀ (xs : List (Int × Int)) (last : Int), chk last xs = 0 → gone p (e + 1) xs = gone p e xs + (if hr e xs = true then 1 else 0)
  | [], _, _ => rfl
  | (a, b) :: xs, last, hc => by
    have h1 := chk_cons.1 hc
    rw [gone, gone, gone_succ hpe xs b h1.2.2.2.2, hr]
    by_cases h2 : e < a
    · rw [if_pos h2]
      have h3 : max 0 (min b (e + 1) - max a p) = 0 := by omega
      have h4 : max 0 (min b e - max a p) = 0 := by omega
      omega
    · rw [if_neg h2]
      by_cases h3 : e < b
      · have h4 : hr e xs = false := by
          cases hh : hr e xs with
          | false => rfl
          | true =>
            have := mem_ge xs b e h1.2.2.2.2 ((hr_mem _ _).1 hh)
            omega
        rw [if_pos h3, h4, if_pos rfl, if_neg (by decide)]
        omega
      · rw [if_neg h3]
        omega
end Go.Proofs.Ytmcbkmmipgaeoaa
