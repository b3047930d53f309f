import Derived.Test.YtmcbkmmipgaeoaaW9
import Derived.Test.YtmcbkmmipgaeoaaCtx
import Derived.KernelRfl
namespace Go.Proofs.Ytmcbkmmipgaeoaa
open Go Go.Proofs Go.RowKit
set_option linter.unusedSimpArgs false
set_option linter.unusedVariables false
open Go.Proofs.Abs
theorem ty22 : ctx.tys.get 22 = some ti22 := by kernel_rfl
theorem ty25 : ctx.tys.get 25 = some ti25 := by kernel_rfl
theorem ty51 : ctx.tys.get 51 = some ti51 := by kernel_rfl
theorem ty28 : ctx.tys.get 28 = some ti28 := by kernel_rfl
theorem ty29 : ctx.tys.get 29 = some ti29 := by kernel_rfl
theorem ty3 : ctx.tys.get 3 = some ti3 := by kernel_rfl
theorem ty4 : ctx.tys.get 4 = some ti4 := by kernel_rfl
theorem fn3 : ctx.funs.get 3 = some Try.f3 := by kernel_rfl
theorem fn10 : ctx.funs.get 10 = some Try.f10 := by kernel_rfl
theorem fn11 : ctx.funs.get 11 = some Try.f11 := by kernel_rfl
theorem fn12 : ctx.funs.get 12 = some Try.f12 := by kernel_rfl
theorem fn13 : ctx.funs.get 13 = some Try.f13 := by kernel_rfl
theorem fn14 : ctx.funs.get 14 = some Try.f14 := by kernel_rfl
theorem fn15 : ctx.funs.get 15 = some Try.f15 := by kernel_rfl
/-- what Check says of spans behind a place -/
def chk (last : Int) : List (Int × Int) → Int
  | [] => 0
  | (a, b) :: xs => if a < 0 ∨ b ≤ a ∨ 1073741824 < b then 1 else if a ≤ last then 16 else chk b xs
/-- pairs of numbers lie in a row -/
def Rows (h : Hp) (nm off : Nat) (xs : List (Int × Int)) : Prop :=
  ∀ i a b, xs[i]? = some (a, b) → Abs.load h nm (off + i * 2) 1 = some [I a] ∧ Abs.load h nm (off + i * 2 + 1) 1 = some [I b]
theorem Rows.ext {h h' : Hp} {nm off : Nat} {xs : List (Int × Int)} (r : Rows h nm off xs) (a : Ext h h') (hn : nm < h.c) : Rows h' nm off xs :=
  fun i x y hx => ⟨(load_ext a hn _ _).trans (r i x y hx).1, (load_ext a hn _ _).trans (r i x y hx).2⟩
/-- a slice that stands for pairs of numbers -/
def IsRows (h : Hp) (v : AV) (xs : List (Int × Int)) : Prop :=
  (v = nilS ∧ xs = []) ∨ ∃ nm off rest cap z, v = .slice nm off xs.length rest cap z ∧ nm < h.c ∧ Rows h nm off xs
theorem IsRows.ext {h h' : Hp} {v : AV} {xs : List (Int × Int)} (r : IsRows h v xs) (a : Ext h h') : IsRows h' v xs := by
  rcases r with h1 | ⟨nm, off, rest, cap, z, h1, h2, h3⟩
  · exact .inl h1
  · exact .inr ⟨nm, off, rest, cap, z, h1, Nat.lt_of_lt_of_le h2 a.c, h3.ext a h2⟩
theorem wrap_add {a b : Int} (h1 : -9223372036854775808 ≤ a + b) (h2 : a + b ≤ 9223372036854775807) : wrapF .i64 (addF a b) = a + b := by
  rw [addF_eq, wrapF_eq, IntKind.wrap_i64]
  omega
theorem wrap_sub {a b : Int} (h1 : -9223372036854775808 ≤ a - b) (h2 : a - b ≤ 9223372036854775807) : wrapF .i64 (subF a b) = a - b := by
  rw [subF_eq, wrapF_eq, IntKind.wrap_i64]
  omega
theorem chk_mem : ∀ (xs : List (Int × Int)) (last : Int) (i : Nat) (a b : Int), chk last xs = 0 → xs[i]? = some (a, b) → 0 ≤ a ∧ a < b ∧ b ≤ 1073741824
  | (x, y) :: xs, last, i, a, b, hc, hi => by
    rw [chk] at hc
    split at hc
    · cases hc
    · split at hc
      · cases hc
      · cases i with
        | zero =>
          simp only [List.getElem?_cons_zero, Option.some.injEq, Prod.mk.injEq] at hi
          omega
        | succ i => exact chk_mem xs y i a b hc (by simpa using hi)

end Go.Proofs.Ytmcbkmmipgaeoaa
