import Derived.Test.YtdbajhklnaekjaaR2
import Derived.KernelRfl
namespace Go.Proofs.Ytdbajhklnaekjaa
open Go Go.Proofs Go.RowKit Go.Proofs.Abs
set_option linter.unusedSimpArgs false
set_option linter.unusedVariables false
abbrev U8 (a : Int) : AV := .lit (.int .u8 a)
def Inb (a : Int) : Prop := 0 ≤ a ∧ a < 256
abbrev Q4 := Int × Int × Int × Int
def c4 (x : Q4) : List AV := [U8 x.1, U8 x.2.1, U8 x.2.2.1, U8 x.2.2.2]
def Q4.ok (x : Q4) : Prop := Inb x.1 ∧ Inb x.2.1 ∧ Inb x.2.2.1 ∧ Inb x.2.2.2
theorem u8rem (t : TypeId) {a b : Int} (hb : b ≠ 0) : pureV (binOp .rem t (.int .u8 a) (.int .u8 b)) = some (U8 (a.tmod b)) := by
  simp [binOp, Op.intDiv, hb]
  rfl
theorem conv53 (a : Int) : convA ctx 3 (U8 a) = some (I (IntKind.wrap .i64 a)) := by
  unfold convA
  rw [ty3]
  rfl
/-- what a step does to a list of indices -/
def insL (l : List Int) (a m : Nat) : List Int := l.take a ++ List.replicate m (-1) ++ l.drop a
def remL (l : List Int) (a m : Nat) : List Int := l.take a ++ l.drop (a + m)
def movL (l : List Int) (a m t : Nat) : List Int := (remL l a m).take t ++ (l.drop a).take m ++ (remL l a m).drop t
def atS (x : Q4) (l : List Int) : Int := x.2.1.tmod ((l.length : Int) + 1)
def mS (x : Q4) (l : List Int) : Int := if 0 < x.1.tmod 3 then (if (l.length : Int) - atS x l < x.2.2.1.tmod 6 then (l.length : Int) - atS x l else x.2.2.1.tmod 6) else x.2.2.1.tmod 6
def tS (x : Q4) (l : List Int) : Int := x.2.2.2.tmod ((l.length : Int) - (if (l.length : Int) < mS x l then (l.length : Int) else mS x l) + 1)
def stp (x : Q4) (l : List Int) : List Int :=
  if x.1.tmod 3 = 0 then insL l (atS x l).toNat (mS x l).toNat else if x.1.tmod 3 = 1 then remL l (atS x l).toNat (mS x l).toNat else movL l (atS x l).toNat (mS x l).toNat (tS x l).toNat
theorem tm_lt {a b : Int} (ha : 0 ≤ a) (hb : 0 < b) : 0 ≤ a.tmod b ∧ a.tmod b < b := by
  rw [Int.tmod_eq_emod_of_nonneg ha]
  exact ⟨Int.emod_nonneg _ (by omega), Int.emod_lt_of_pos _ hb⟩
theorem at_bd {x : Q4} (hx : x.ok) (l : List Int) : 0 ≤ atS x l ∧ atS x l ≤ l.length := by
  have := tm_lt hx.2.1.1 (show (0 : Int) < (l.length : Int) + 1 by omega)
  unfold atS
  omega
theorem m_bd {x : Q4} (hx : x.ok) (l : List Int) : 0 ≤ mS x l ∧ mS x l ≤ 5 ∧ (0 < x.1.tmod 3 → atS x l + mS x l ≤ l.length) := by
  have h1 := tm_lt hx.2.2.1.1 (show (0 : Int) < 6 by omega)
  have h2 := at_bd hx l
  unfold mS
  split
  · split <;> omega
  · omega
theorem t_bd {x : Q4} (hx : x.ok) (l : List Int) (h0 : 0 < x.1.tmod 3) : 0 ≤ tS x l ∧ tS x l + mS x l ≤ l.length := by
  have h2 := at_bd hx l
  have h3 := m_bd hx l
  have h4 := h3.2.2 h0
  unfold tS
  rw [if_neg (by omega)]
  have := tm_lt hx.2.2.2.1 (show (0 : Int) < (l.length : Int) - mS x l + 1 by omega)
  omega
theorem k_bd {x : Q4} (hx : x.ok) : 0 ≤ x.1.tmod 3 ∧ x.1.tmod 3 < 3 := tm_lt hx.1.1 (by omega)
theorem stp_len {x : Q4} (hx : x.ok) (l : List Int) : (stp x l).length ≤ l.length + 5 := by
  have h2 := at_bd hx l
  have h3 := m_bd hx l
  have hk := k_bd hx
  unfold stp
  split
  · unfold insL; simp; omega
  · split
    · unfold remL; simp; omega
    · have h4 := t_bd hx l (by omega)
      have h5 := h3.2.2 (by omega)
      unfold movL remL; simp; omega
def aft (st : List Q4) (l : List Int) : List Int := st.foldl (fun l x => stp x l) l
theorem aft_snoc (st : List Q4) (x : Q4) (l : List Int) : aft (st ++ [x]) l = stp x (aft st l) := by simp [aft]
theorem aft_len : ∀ {st : List Q4} (l : List Int), (∀ x ∈ st, x.ok) → (aft st l).length ≤ l.length + 5 * st.length
  | [], l, _ => by simp [aft]
  | x :: st, l, h => by
    have h1 := aft_len (st := st) (stp x l) (fun y hy => h y (by simp [hy]))
    have h2 := stp_len (h x (by simp)) l
    show (aft st (stp x l)).length ≤ _
    simp only [List.length_cons]
    omega
def glA (v : AV) (xs : List Int) : As := gr 3 1 v (xs.map I) xs.length
theorem k26 (d : Nat) (h : Hp) (v : AV) (xs : List Int) (a m : Int) (hv : GL h v xs) (ha : 0 ≤ a ∧ a ≤ xs.length) (hm : 0 ≤ m) (hl : (xs.length : Int) + m ≤ 4096) : Wv (runA ctx 5000 (d + 1) 26 [v, I a, I m] h) (fun r h' => ResL h h' r (insL xs a.toNat m.toNat) 0) := by
  obtain ⟨a, rfl⟩ := nat_of ha.1
  obtain ⟨m, rfl⟩ := nat_of hm
  simp only [Int.ofNat_eq_natCast] at ha hl
  exact c26 d h v xs a m hv (by omega) (by omega)
theorem k27 (d : Nat) (h : Hp) (v : AV) (xs : List Int) (a m : Int) (hv : GL h v xs) (hn : xs.length ≤ 4096) (ha : 0 ≤ a) (hm : 0 ≤ m) (hl : a + m ≤ xs.length) : Wv (runA ctx 5000 (d + 1) 27 [v, I a, I m] h) (fun r h' => ResL h h' r (remL xs a.toNat m.toNat) 0) := by
  obtain ⟨a, rfl⟩ := nat_of ha
  obtain ⟨m, rfl⟩ := nat_of hm
  simp only [Int.ofNat_eq_natCast] at hl
  exact c27 d h v xs a m hv hn (by omega)
theorem k28 (d : Nat) (h : Hp) (v : AV) (xs : List Int) (a m t : Int) (hv : GL h v xs) (hn : xs.length ≤ 4096) (ha : 0 ≤ a) (hm : 0 ≤ m) (ht : 0 ≤ t) (hl : a + m ≤ xs.length) (hl2 : t + m ≤ xs.length) : Wv (runA ctx 5000 (d + 2) 28 [v, I a, I m, I t] h) (fun r h' => ResL h h' r (movL xs a.toNat m.toNat t.toNat) 0) := by
  obtain ⟨a, rfl⟩ := nat_of ha
  obtain ⟨m, rfl⟩ := nat_of hm
  obtain ⟨t, rfl⟩ := nat_of ht
  simp only [Int.ofNat_eq_natCast] at hl hl2
  exact c28 d h v xs a m t hv hn (by omega) (by omega)

end Go.Proofs.Ytdbajhklnaekjaa
