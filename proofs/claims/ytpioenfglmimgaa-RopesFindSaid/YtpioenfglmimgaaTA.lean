import Derived.Test.YtpioenfglmimgaaO4
namespace Go.Proofs.Abs
open Go Go.RowKit
set_option linter.unusedSimpArgs false
set_option linter.unusedVariables false
/-! Trees that stand: balanced trees of sizes. -/
inductive GT where
  | nil
  | nd (n : Nat) (l : GT) (s : Int) (r : GT)
namespace GT
def val : GT → AV
  | nil => .lit (.pointer none)
  | nd n _ _ _ => .ptr n 0
def cnt : GT → Nat
  | nil => 0
  | nd _ l _ r => cnt l + 1 + cnt r
def hgt : GT → Nat
  | nil => 0
  | nd _ l _ r => max (hgt l) (hgt r) + 1
def lst : GT → List Int
  | nil => []
  | nd _ l s r => lst l ++ s :: lst r
def sm (g : GT) : Int := (lst g).sum
def names : GT → List Nat
  | nil => []
  | nd n l _ r => n :: (names l ++ names r)
def bal : GT → Prop
  | nil => True
  | nd _ l _ r => bal l ∧ bal r ∧ hgt l ≤ hgt r + 1 ∧ hgt r ≤ hgt l + 1
def row (l : GT) (s : Int) (r : GT) : List AV := [val l, val r, I s, I ((cnt l : Int) + 1 + (cnt r : Int)), I ((if (hgt l : Int) < (hgt r : Int) then (hgt r : Int) else (hgt l : Int)) + 1), I (sm l + s + sm r)]
def ok (h : Hp) : GT → Prop
  | nil => True
  | nd n l s r => Blks id h n (row l s r) ∧ ok h l ∧ ok h r
theorem sm_nil : sm nil = 0 := rfl
theorem sum_app (a b : List Int) : (a ++ b).sum = a.sum + b.sum := by rw [List.sum_append]
theorem sm_nd (n : Nat) (l : GT) (s : Int) (r : GT) : sm (nd n l s r) = sm l + s + sm r := by
  unfold sm
  rw [lst, sum_app, List.sum_cons]
  omega
theorem cnt_nil : cnt nil = 0 := rfl
theorem cnt_nd (n : Nat) (l : GT) (s : Int) (r : GT) : cnt (nd n l s r) = cnt l + 1 + cnt r := rfl
theorem hgt_nil : hgt nil = 0 := rfl
theorem hgt_nd (n : Nat) (l : GT) (s : Int) (r : GT) : hgt (nd n l s r) = max (hgt l) (hgt r) + 1 := rfl
theorem len (g : GT) : (lst g).length = cnt g := by
  induction g with
  | nil => rfl
  | nd n l s r il ir =>
    rw [lst, List.length_append, List.length_cons, il, ir, cnt_nd]
    omega
theorem hgt_le (g : GT) : hgt g ≤ cnt g := by
  induction g with
  | nil => exact Nat.le_refl _
  | nd n l s r il ir =>
    rw [hgt_nd, cnt_nd]
    omega
theorem ok_fr {R : Nat → Prop} {h h' : Hp} (a : Fr R h h') : ∀ {g : GT}, ok h g → (∀ n, n ∈ names g → ¬ R n) → ok h' g := by
  intro g
  induction g with
  | nil => exact fun _ _ => trivial
  | nd n l s r il ir =>
    intro p hn
    obtain ⟨p1, p2, p3⟩ := p
    exact ⟨p1.fr a (hn n (.head _)), il p2 (fun m hm => hn m (.tail _ (List.mem_append_left _ hm))), ir p3 (fun m hm => hn m (.tail _ (List.mem_append_right _ hm)))⟩
theorem ok_lt {h : Hp} : ∀ {g : GT}, ok h g → ∀ n, n ∈ names g → n < h.c := by
  intro g
  induction g with
  | nil => intro _ n hn; cases hn
  | nd n l s r il ir =>
    intro p m hm
    obtain ⟨p1, p2, p3⟩ := p
    rcases List.mem_cons.1 hm with rfl | hm
    · exact p1.lt
    · rcases List.mem_append.1 hm with hm | hm
      · exact il p2 m hm
      · exact ir p3 m hm
theorem ok_ext {h h' : Hp} (a : Ext h h') {g : GT} (p : ok h g) : ok h' g := ok_fr (a.fr (fun _ => False)) p (fun _ _ => id)
theorem av_val (g : GT) (n : Nat) : avB (n + 1) (val g) (val g) = true := by
  cases g with
  | nil => rfl
  | nd m l s r =>
    show ((m == m) && ((0 : Nat) == 0)) = true
    simp
theorem one_val (g : GT) : oneA (val g) = true := by cases g <;> rfl
theorem cells_val (g : GT) : cellsOf (val g) = [val g] := by cases g <;> rfl
theorem val_nil : val nil = .lit (.pointer none) := rfl
theorem val_nd (n : Nat) (l : GT) (s : Int) (r : GT) : val (nd n l s r) = .ptr n 0 := rfl
/-! Sizes: none below 0, at most 4096, together at most 2^62. -/
def Good (l : List Int) : Prop := (∀ x, x ∈ l → 0 ≤ x) ∧ l.sum ≤ 4611686018427387904 ∧ l.length ≤ 4096
theorem sum_nn : ∀ {l : List Int}, (∀ x, x ∈ l → 0 ≤ x) → 0 ≤ l.sum := by
  intro l
  induction l with
  | nil => intro _; exact Int.le_refl _
  | cons a l ih =>
    intro h
    rw [List.sum_cons]
    have := h a (.head _)
    have := ih (fun x hx => h x (.tail _ hx))
    omega
theorem Good.left {a b : List Int} (h : Good (a ++ b)) : Good a := by
  obtain ⟨h1, h2, h3⟩ := h
  rw [sum_app] at h2
  rw [List.length_append] at h3
  have := sum_nn (l := b) (fun x hx => h1 x (List.mem_append_right _ hx))
  exact ⟨fun x hx => h1 x (List.mem_append_left _ hx), by omega, by omega⟩
theorem Good.right {a b : List Int} (h : Good (a ++ b)) : Good b := by
  obtain ⟨h1, h2, h3⟩ := h
  rw [sum_app] at h2
  rw [List.length_append] at h3
  have := sum_nn (l := a) (fun x hx => h1 x (List.mem_append_left _ hx))
  exact ⟨fun x hx => h1 x (List.mem_append_right _ hx), by omega, by omega⟩
theorem Good.tail {a : Int} {b : List Int} (h : Good (a :: b)) : Good b := Good.right (a := [a]) h
theorem Good.head {a : Int} {b : List Int} (h : Good (a :: b)) : 0 ≤ a := h.1 a (.head _)
/-- what is needed of three parts -/
theorem Good.three {l r : GT} {s : Int} (h : Good (lst l ++ s :: lst r)) : 0 ≤ sm l ∧ 0 ≤ s ∧ 0 ≤ sm r ∧ sm l + s + sm r ≤ 4611686018427387904 ∧ cnt l + 1 + cnt r ≤ 4096 := by
  have h0 := h
  obtain ⟨_, h2, h3⟩ := h
  rw [sum_app, List.sum_cons] at h2
  rw [List.length_append, List.length_cons, len, len] at h3
  refine ⟨sum_nn h0.left.1, h0.right.head, sum_nn h0.right.tail.1, ?_, by omega⟩
  unfold sm
  omega
theorem Good.sm {g : GT} (h : Good (lst g)) : 0 ≤ GT.sm g ∧ GT.sm g ≤ 4611686018427387904 ∧ cnt g ≤ 4096 := ⟨sum_nn h.1, h.2.1, by rw [← len]; exact h.2.2⟩
/-- how many sizes a tree of a height has at least -/
def fibs : Nat → Nat × Nat
  | 0 => (0, 1)
  | n + 1 => ((fibs n).2, (fibs n).1 + (fibs n).2 + 1)
def F (d : Nat) : Nat := (fibs d).1
theorem F_zero : F 0 = 0 := rfl
theorem F_one : F 1 = 1 := rfl
theorem F_two (d : Nat) : F (d + 2) = F d + F (d + 1) + 1 := rfl
theorem F_le (d : Nat) : F d ≤ F (d + 1) ∧ d ≤ F d := by
  induction d with
  | zero => exact ⟨by decide, by decide⟩
  | succ d ih =>
    have e1 : F (d + 1 + 1) = F d + F (d + 1) + 1 := rfl
    cases d with
    | zero => exact ⟨by decide, by decide⟩
    | succ k =>
      have e2 : F (k + 1 + 1) = F k + F (k + 1) + 1 := rfl
      omega
theorem F_mono {a b : Nat} (h : a ≤ b) : F a ≤ F b := by
  obtain ⟨k, rfl⟩ : ∃ k, b = a + k := ⟨b - a, by omega⟩
  clear h
  induction k with
  | zero => exact Nat.le_refl _
  | succ k ih => exact Nat.le_trans ih (F_le _).1
theorem bal_F {g : GT} (h : bal g) : F (hgt g) ≤ cnt g := by
  induction g with
  | nil => exact Nat.le_refl _
  | nd n l s r il ir =>
    obtain ⟨h1, h2, h3, h4⟩ := h
    have a := il h1
    have b := ir h2
    rw [hgt_nd, cnt_nd]
    rcases Nat.lt_trichotomy (hgt l) (hgt r) with h5 | h5 | h5
    · have e : hgt r = hgt l + 1 := by omega
      have : max (hgt l) (hgt r) + 1 = hgt l + 2 := by omega
      rw [this, F_two]
      rw [e] at b
      omega
    · have : max (hgt l) (hgt r) + 1 = hgt l + 1 := by omega
      rw [this]
      rw [← h5] at b
      cases h6 : hgt l with
      | zero => rw [F_one]; omega
      | succ k =>
        rw [h6] at a b
        rw [F_two]
        have := (F_le k).1
        omega
    · have e : hgt l = hgt r + 1 := by omega
      have : max (hgt l) (hgt r) + 1 = hgt r + 2 := by omega
      rw [this, F_two]
      rw [e] at a
      omega
theorem F_17 : F 17 = 4180 := by decide
theorem bal_hgt {g : GT} (h : bal g) (hc : cnt g ≤ 4096) : hgt g ≤ 16 := by
  have h1 := bal_F h
  by_cases h2 : hgt g ≤ 16
  · exact h2
  · have := F_mono (show 17 ≤ hgt g by omega)
    have := F_17
    omega
end GT
/-- a tree that stands -/
def tre (g : GT) : As := ⟨g.names, fun h => g.ok h, fun h h' R p a hn => GT.ok_fr a p hn, fun h p n hn => GT.ok_lt p n hn⟩
/-- what a function returns that makes trees -/
def RT (b h' : Hp) (r : AV) (src : List Nat) (P : GT → Prop) : Prop := ∃ g : GT, g.val = r ∧ g.ok h' ∧ Ext b h' ∧ (∀ n, n ∈ g.names → n ∈ src ∨ b.c ≤ n) ∧ P g
section
variable {C : Ctx} {M : List Nat} {h0 h h' : Hp} {L L' Z : List As}
theorem Hs.topen (H : Hs M h0 h L Z) {n : Nat} {l r : GT} {s : Int} (hm : tre (.nd n l s r) ∈ Z) : Hs M h0 h L (blk id n (GT.row l s r) :: tre l :: tre r :: Z) := by
  have p : GT.ok h (.nd n l s r) := H.pz hm
  have H1 := H.zsub (z' := tre r) hm p.2.2 (fun m h1 => .tail _ (List.mem_append_right _ h1))
  have H2 := H1.zsub (z' := tre l) (.tail _ hm) p.2.1 (fun m h1 => .tail _ (List.mem_append_left _ h1))
  exact H2.zsub (z' := blk id n (GT.row l s r)) (.tail _ (.tail _ hm)) p.1 (fun m h1 => by rw [List.mem_singleton.1 h1]; exact .head _)
/-- a tree that came back -/
theorem Hs.tnew (H : Hs M h0 h L Z) (a : Ext h h') {g : GT} {src : List Nat} (p : g.ok h') (hn : ∀ n, n ∈ g.names → n ∈ src ∨ h.c ≤ n) (hs : ∀ n, n ∈ src → ∃ z, z ∈ Z ∧ n ∈ z.foot) : Hs M h0 h' L (tre g :: Z) := by
  have G := H.ext a
  refine G.z1 (z := tre g) p (fun n h1 x hx h2 => ?_)
  rcases hn n h1 with h3 | h3
  · obtain ⟨z, hz, h4⟩ := hs n h3
    exact (H.std z hz).2 n h4 x hx h2
  · have := H.lt hx h2
    omega
/-- a new node -/
theorem Hs.tnode (H : Hs M h0 h L Z) {n : Nat} {l r : GT} {s : Int} {F : As → List As} (hp : PickF L (blk id n (GT.row l s r)) F) (hl : tre l ∈ Z) (hr : tre r ∈ Z) : GT.ok h (.nd n l s r) := ⟨H.p (hp.pick (blk id 0 [])).mem, H.pz hl, H.pz hr⟩
theorem src2 {a b : List Nat} {x y : As} (h1 : x ∈ Z) (h2 : y ∈ Z) (h3 : x.foot = a) (h4 : y.foot = b) : ∀ n, n ∈ a ++ b → ∃ z, z ∈ Z ∧ n ∈ z.foot := fun n hn => by
  subst h3 h4
  rcases List.mem_append.1 hn with h5 | h5
  · exact ⟨x, h1, h5⟩
  · exact ⟨y, h2, h5⟩
theorem src1 {a : List Nat} {x : As} (h1 : x ∈ Z) (h3 : x.foot = a) : ∀ n, n ∈ a → ∃ z, z ∈ Z ∧ n ∈ z.foot := fun n hn => by
  subst h3
  exact ⟨x, h1, hn⟩
/-- what is read of a node -/
def Rd (h : Hp) (n : Nat) (l : GT) (s : Int) (r : GT) : Prop :=
  ∀ ti : TI, isAggD ti.desc = false → oLoad h (some ti) (some (.ptr n 0)) = some (l.val, h) ∧ oLoad h (some ti) (some (.ptr n 1)) = some (r.val, h) ∧ oLoad h (some ti) (some (.ptr n 2)) = some (I s, h) ∧
    oLoad h (some ti) (some (.ptr n 3)) = some (I ((l.cnt : Int) + 1 + (r.cnt : Int)), h) ∧ oLoad h (some ti) (some (.ptr n 4)) = some (I ((if (l.hgt : Int) < (r.hgt : Int) then (r.hgt : Int) else (l.hgt : Int)) + 1), h) ∧ oLoad h (some ti) (some (.ptr n 5)) = some (I (l.sm + s + r.sm), h)
theorem GT.rd {n : Nat} {l r : GT} {s : Int} (p : GT.ok h (.nd n l s r)) : Rd h n l s r := fun ti hg =>
  ⟨oload1 hg (ld1 (f := id) p.1 rfl), oload1 hg (ld1 (f := id) p.1 rfl), oload1 hg (ld1 (f := id) p.1 rfl), oload1 hg (ld1 (f := id) p.1 rfl), oload1 hg (ld1 (f := id) p.1 rfl), oload1 hg (ld1 (f := id) p.1 rfl)⟩
/-- what is read of a cell of one's own -/
theorem Hs.rc (H : Hs M h0 h L Z) {n : Nat} {v : AV} (hm : blk id n [v] ∈ L) : ∀ ti : TI, isAggD ti.desc = false → oLoad h (some ti) (some (.ptr n 0)) = some (v, h) := fun ti hg => oload1 hg (Go.Proofs.Abs.ld1 (f := id) (H.p hm) rfl)
theorem Hs.tok (H : Hs M h0 h L Z) {g : GT} (hm : tre g ∈ Z) : GT.ok h g := H.pz hm
theorem src2t {g1 g2 : GT} (h1 : tre g1 ∈ Z) (h2 : tre g2 ∈ Z) : ∀ n, n ∈ g1.names ++ g2.names → ∃ z, z ∈ Z ∧ n ∈ z.foot := src2 h1 h2 rfl rfl
theorem src1t {g1 : GT} (h1 : tre g1 ∈ Z) : ∀ n, n ∈ g1.names → ∃ z, z ∈ Z ∧ n ∈ z.foot := src1 h1 rfl
theorem Hs.bok (H : Hs M h0 h L Z) {n : Nat} {cs : List AV} (hm : blk id n cs ∈ L) : Blks id h n cs := H.p hm
theorem Hs.bokz (H : Hs M h0 h L Z) {n : Nat} {cs : List AV} (hm : blk id n cs ∈ Z) : Blks id h n cs := H.pz hm
end
end Go.Proofs.Abs
