import Derived.Test.YtlajgfnfclpneaaCtx
import Derived.Test.YtlajgfnfclpneaaW4
import Derived.KernelRfl
namespace Go.Proofs.Ytlajgfnfclpneaa
open Go Go.Proofs Go.RowKit
set_option linter.unusedSimpArgs false
set_option linter.unusedVariables false
open Go.Proofs.Abs
theorem fn7 : ctx.funs.get 7 = some Try.f7 := by kernel_rfl
theorem fn12 : ctx.funs.get 12 = some Try.f12 := by kernel_rfl
theorem fn14 : ctx.funs.get 14 = some Try.f14 := by kernel_rfl
theorem fn26 : ctx.funs.get 26 = some Try.f26 := by kernel_rfl
theorem fn28 : ctx.funs.get 28 = some Try.f28 := by kernel_rfl
/-- the function that is known already -/
def isLives (f : Nat) : Bool := Nat.beq f 9
noncomputable def all8 : CallF := plus isLives (runA ctx 5000 8)
def bodyOf (f : Func) : Code := match f.body with | some c => c | none => .skip
def W (a : Int) : AV := .lit (.int .u64 a)
def nOf : Option AV → Nat
  | some (.ptr n _) => n
  | _ => 0
set_option maxRecDepth 100000 in
/-- the key 0 -/
theorem z7 (v : Int) : isTrue (funA ctx all8 5000 [W (Int.ofNat 0), I v] h0 (ctx.funs.get 7)) = true := by kernel_rfl
/-- another key: what stands before the map that is made -/
noncomputable def s7 (n : Nat) (v : Int) : Option (AEx × Env × Hp) := codeA ctx all8 5000 (4991 + 9) (cutC 9 (bodyOf Try.f7)) (enterEnv [W (Int.ofNat (n + 1)), I v] Try.f7.ntmps) h0
set_option maxRecDepth 100000 in
theorem p7 (n : Nat) (v : Int) : s7 n v = some (.normal, envOf (s7 n v), hpOf (s7 n v)) := by kernel_rfl
noncomputable def nm (n : Nat) (v : Int) : Nat := nOf ((envOf (s7 n v)).get 6)
/-- Put as far as to add -/
noncomputable def s14 (n : Nat) (v : Int) : Option (AEx × Env × Hp) := codeA ctx (runA ctx 5000 7) 5000 (4994 + 6) (cutC 6 (bodyOf Try.f14)) (enterEnv [.ptr (nm n v) 0, W (Int.ofNat (n + 1)), I v] Try.f14.ntmps) (hpOf (s7 n v))
set_option maxRecDepth 100000 in
theorem p14 (n : Nat) (v : Int) : s14 n v = some (.normal, envOf (s14 n v), hpOf (s14 n v)) := by kernel_rfl
noncomputable def J1 (k : Int) : Int := IntKind.wrap .u64 ((BitVec.ofInt 64 k ^^^ BitVec.ofInt 64 (Int.fdiv k (2 ^ 32))).toNat)
noncomputable def J2 (k : Int) : Int := IntKind.wrap .i64 (Int.fdiv (IntKind.wrap .u64 (J1 k * 11400714819323198485)) (2 ^ 32))
noncomputable def J (k : Int) : Int := IntKind.wrap .i64 ((BitVec.ofInt 64 (J2 k) &&& BitVec.ofInt 64 7).toNat)
theorem J_lt (k : Int) : ∃ j : Nat, j < 8 ∧ J k = (j : Int) := by
  refine ⟨(BitVec.ofInt 64 (J2 k) &&& BitVec.ofInt 64 7).toNat, ?_, ?_⟩
  · rw [BitVec.toNat_and]
    exact Nat.lt_succ_of_le (Nat.and_le_right)
  · have h : (BitVec.ofInt 64 (J2 k) &&& BitVec.ofInt 64 7).toNat ≤ 7 := by
      rw [BitVec.toNat_and]
      exact Nat.and_le_right
    unfold J
    rw [IntKind.wrap_i64]
    omega
set_option maxRecDepth 100000 in
theorem q31 (n : Nat) (v : Int) : runA ctx 5000 6 31 [.ptr (nm n v) 0, W (Int.ofNat (n + 1))] (hpOf (s14 n v)) = some (I (J (Int.ofNat (n + 1))), hpOf (s14 n v)) := by kernel_rfl

end Go.Proofs.Ytlajgfnfclpneaa
