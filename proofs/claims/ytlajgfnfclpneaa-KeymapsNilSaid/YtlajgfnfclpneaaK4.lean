import Derived.Test.YtlajgfnfclpneaaK3
import Derived.KernelRfl
namespace Go.Proofs.Ytlajgfnfclpneaa
open Go Go.Proofs Go.RowKit
set_option linter.unusedSimpArgs false
set_option linter.unusedVariables false
open Go.Proofs.Abs
def slA : Option (List AV) → AV
  | some (x :: _) => x
  | _ => uv
def snOf : AV → Nat
  | .slice n _ _ _ _ _ => n
  | _ => 0
def rOf : AV → Bool
  | .slice _ _ _ r _ _ => r
  | _ => false
def cOf : AV → Nat
  | .slice _ _ _ _ c _ => c
  | _ => 0
def zOf : AV → Nat
  | .slice _ _ _ _ _ z => z
  | _ => 0
noncomputable def slv (n : Nat) (v : Int) (j : Nat) : AV := slA (Abs.load (hpOf (s28 n v j)) (nm n v) 0 1)
set_option maxRecDepth 100000 in
theorem b31_0 (n : Nat) (v : Int) : runA ctx 5000 6 31 [.ptr (nm n v) 0, W (Int.ofNat (n + 1))] (hpOf (s28 n v 0)) = some (I (J (Int.ofNat (n + 1))), (hpOf (s28 n v 0))) := by kernel_rfl
set_option maxRecDepth 100000 in
theorem b31_1 (n : Nat) (v : Int) : runA ctx 5000 6 31 [.ptr (nm n v) 0, W (Int.ofNat (n + 1))] (hpOf (s28 n v 1)) = some (I (J (Int.ofNat (n + 1))), (hpOf (s28 n v 1))) := by kernel_rfl
set_option maxRecDepth 100000 in
theorem b31_2 (n : Nat) (v : Int) : runA ctx 5000 6 31 [.ptr (nm n v) 0, W (Int.ofNat (n + 1))] (hpOf (s28 n v 2)) = some (I (J (Int.ofNat (n + 1))), (hpOf (s28 n v 2))) := by kernel_rfl
set_option maxRecDepth 100000 in
theorem b31_3 (n : Nat) (v : Int) : runA ctx 5000 6 31 [.ptr (nm n v) 0, W (Int.ofNat (n + 1))] (hpOf (s28 n v 3)) = some (I (J (Int.ofNat (n + 1))), (hpOf (s28 n v 3))) := by kernel_rfl
set_option maxRecDepth 100000 in
theorem b31_4 (n : Nat) (v : Int) : runA ctx 5000 6 31 [.ptr (nm n v) 0, W (Int.ofNat (n + 1))] (hpOf (s28 n v 4)) = some (I (J (Int.ofNat (n + 1))), (hpOf (s28 n v 4))) := by kernel_rfl
set_option maxRecDepth 100000 in
theorem b31_5 (n : Nat) (v : Int) : runA ctx 5000 6 31 [.ptr (nm n v) 0, W (Int.ofNat (n + 1))] (hpOf (s28 n v 5)) = some (I (J (Int.ofNat (n + 1))), (hpOf (s28 n v 5))) := by kernel_rfl
set_option maxRecDepth 100000 in
theorem b31_6 (n : Nat) (v : Int) : runA ctx 5000 6 31 [.ptr (nm n v) 0, W (Int.ofNat (n + 1))] (hpOf (s28 n v 6)) = some (I (J (Int.ofNat (n + 1))), (hpOf (s28 n v 6))) := by kernel_rfl
set_option maxRecDepth 100000 in
theorem b31_7 (n : Nat) (v : Int) : runA ctx 5000 6 31 [.ptr (nm n v) 0, W (Int.ofNat (n + 1))] (hpOf (s28 n v 7)) = some (I (J (Int.ofNat (n + 1))), (hpOf (s28 n v 7))) := by kernel_rfl
theorem b31 (n : Nat) (v : Int) (j : Nat) (hj : j < 8) : runA ctx 5000 6 31 [.ptr (nm n v) 0, W (Int.ofNat (n + 1))] (hpOf (s28 n v j)) = some (I (J (Int.ofNat (n + 1))), (hpOf (s28 n v j))) :=
  match j, hj with
  | 0, _ => b31_0 n v
  | 1, _ => b31_1 n v
  | 2, _ => b31_2 n v
  | 3, _ => b31_3 n v
  | 4, _ => b31_4 n v
  | 5, _ => b31_5 n v
  | 6, _ => b31_6 n v
  | 7, _ => b31_7 n v

set_option maxRecDepth 100000 in
theorem l0_0 (n : Nat) (v : Int) : Abs.load (hpOf (s28 n v 0)) (nm n v) 0 1 = some [.slice (snOf (slv n v 0)) 0 8 (rOf (slv n v 0)) (cOf (slv n v 0)) (zOf (slv n v 0))] := by kernel_rfl
set_option maxRecDepth 100000 in
theorem l0_1 (n : Nat) (v : Int) : Abs.load (hpOf (s28 n v 1)) (nm n v) 0 1 = some [.slice (snOf (slv n v 1)) 0 8 (rOf (slv n v 1)) (cOf (slv n v 1)) (zOf (slv n v 1))] := by kernel_rfl
set_option maxRecDepth 100000 in
theorem l0_2 (n : Nat) (v : Int) : Abs.load (hpOf (s28 n v 2)) (nm n v) 0 1 = some [.slice (snOf (slv n v 2)) 0 8 (rOf (slv n v 2)) (cOf (slv n v 2)) (zOf (slv n v 2))] := by kernel_rfl
set_option maxRecDepth 100000 in
theorem l0_3 (n : Nat) (v : Int) : Abs.load (hpOf (s28 n v 3)) (nm n v) 0 1 = some [.slice (snOf (slv n v 3)) 0 8 (rOf (slv n v 3)) (cOf (slv n v 3)) (zOf (slv n v 3))] := by kernel_rfl
set_option maxRecDepth 100000 in
theorem l0_4 (n : Nat) (v : Int) : Abs.load (hpOf (s28 n v 4)) (nm n v) 0 1 = some [.slice (snOf (slv n v 4)) 0 8 (rOf (slv n v 4)) (cOf (slv n v 4)) (zOf (slv n v 4))] := by kernel_rfl
set_option maxRecDepth 100000 in
theorem l0_5 (n : Nat) (v : Int) : Abs.load (hpOf (s28 n v 5)) (nm n v) 0 1 = some [.slice (snOf (slv n v 5)) 0 8 (rOf (slv n v 5)) (cOf (slv n v 5)) (zOf (slv n v 5))] := by kernel_rfl
set_option maxRecDepth 100000 in
theorem l0_6 (n : Nat) (v : Int) : Abs.load (hpOf (s28 n v 6)) (nm n v) 0 1 = some [.slice (snOf (slv n v 6)) 0 8 (rOf (slv n v 6)) (cOf (slv n v 6)) (zOf (slv n v 6))] := by kernel_rfl
set_option maxRecDepth 100000 in
theorem l0_7 (n : Nat) (v : Int) : Abs.load (hpOf (s28 n v 7)) (nm n v) 0 1 = some [.slice (snOf (slv n v 7)) 0 8 (rOf (slv n v 7)) (cOf (slv n v 7)) (zOf (slv n v 7))] := by kernel_rfl
theorem l0 (n : Nat) (v : Int) (j : Nat) (hj : j < 8) : Abs.load (hpOf (s28 n v j)) (nm n v) 0 1 = some [.slice (snOf (slv n v j)) 0 8 (rOf (slv n v j)) (cOf (slv n v j)) (zOf (slv n v j))] :=
  match j, hj with
  | 0, _ => l0_0 n v
  | 1, _ => l0_1 n v
  | 2, _ => l0_2 n v
  | 3, _ => l0_3 n v
  | 4, _ => l0_4 n v
  | 5, _ => l0_5 n v
  | 6, _ => l0_6 n v
  | 7, _ => l0_7 n v

set_option maxRecDepth 100000 in
theorem lj_0 (n : Nat) (v : Int) : Abs.load (hpOf (s28 n v 0)) (snOf (slv n v 0)) (3 * 0) 3 = some [U8 1, W (Int.ofNat (n + 1)), I v] := by kernel_rfl
set_option maxRecDepth 100000 in
theorem lj_1 (n : Nat) (v : Int) : Abs.load (hpOf (s28 n v 1)) (snOf (slv n v 1)) (3 * 1) 3 = some [U8 1, W (Int.ofNat (n + 1)), I v] := by kernel_rfl
set_option maxRecDepth 100000 in
theorem lj_2 (n : Nat) (v : Int) : Abs.load (hpOf (s28 n v 2)) (snOf (slv n v 2)) (3 * 2) 3 = some [U8 1, W (Int.ofNat (n + 1)), I v] := by kernel_rfl
set_option maxRecDepth 100000 in
theorem lj_3 (n : Nat) (v : Int) : Abs.load (hpOf (s28 n v 3)) (snOf (slv n v 3)) (3 * 3) 3 = some [U8 1, W (Int.ofNat (n + 1)), I v] := by kernel_rfl
set_option maxRecDepth 100000 in
theorem lj_4 (n : Nat) (v : Int) : Abs.load (hpOf (s28 n v 4)) (snOf (slv n v 4)) (3 * 4) 3 = some [U8 1, W (Int.ofNat (n + 1)), I v] := by kernel_rfl
set_option maxRecDepth 100000 in
theorem lj_5 (n : Nat) (v : Int) : Abs.load (hpOf (s28 n v 5)) (snOf (slv n v 5)) (3 * 5) 3 = some [U8 1, W (Int.ofNat (n + 1)), I v] := by kernel_rfl
set_option maxRecDepth 100000 in
theorem lj_6 (n : Nat) (v : Int) : Abs.load (hpOf (s28 n v 6)) (snOf (slv n v 6)) (3 * 6) 3 = some [U8 1, W (Int.ofNat (n + 1)), I v] := by kernel_rfl
set_option maxRecDepth 100000 in
theorem lj_7 (n : Nat) (v : Int) : Abs.load (hpOf (s28 n v 7)) (snOf (slv n v 7)) (3 * 7) 3 = some [U8 1, W (Int.ofNat (n + 1)), I v] := by kernel_rfl
theorem lj (n : Nat) (v : Int) (j : Nat) (hj : j < 8) : Abs.load (hpOf (s28 n v j)) (snOf (slv n v j)) (3 * j) 3 = some [U8 1, W (Int.ofNat (n + 1)), I v] :=
  match j, hj with
  | 0, _ => lj_0 n v
  | 1, _ => lj_1 n v
  | 2, _ => lj_2 n v
  | 3, _ => lj_3 n v
  | 4, _ => lj_4 n v
  | 5, _ => lj_5 n v
  | 6, _ => lj_6 n v
  | 7, _ => lj_7 n v

set_option maxRecDepth 100000 in
theorem hx_0 (sn c z : Nat) (r : Bool) : indexAddrA ctx 52 (.slice sn 0 8 r c z) (I (Int.ofNat 0)) = some (.ptr sn (3 * 0)) := by kernel_rfl
set_option maxRecDepth 100000 in
theorem hx_1 (sn c z : Nat) (r : Bool) : indexAddrA ctx 52 (.slice sn 0 8 r c z) (I (Int.ofNat 1)) = some (.ptr sn (3 * 1)) := by kernel_rfl
set_option maxRecDepth 100000 in
theorem hx_2 (sn c z : Nat) (r : Bool) : indexAddrA ctx 52 (.slice sn 0 8 r c z) (I (Int.ofNat 2)) = some (.ptr sn (3 * 2)) := by kernel_rfl
set_option maxRecDepth 100000 in
theorem hx_3 (sn c z : Nat) (r : Bool) : indexAddrA ctx 52 (.slice sn 0 8 r c z) (I (Int.ofNat 3)) = some (.ptr sn (3 * 3)) := by kernel_rfl
set_option maxRecDepth 100000 in
theorem hx_4 (sn c z : Nat) (r : Bool) : indexAddrA ctx 52 (.slice sn 0 8 r c z) (I (Int.ofNat 4)) = some (.ptr sn (3 * 4)) := by kernel_rfl
set_option maxRecDepth 100000 in
theorem hx_5 (sn c z : Nat) (r : Bool) : indexAddrA ctx 52 (.slice sn 0 8 r c z) (I (Int.ofNat 5)) = some (.ptr sn (3 * 5)) := by kernel_rfl
set_option maxRecDepth 100000 in
theorem hx_6 (sn c z : Nat) (r : Bool) : indexAddrA ctx 52 (.slice sn 0 8 r c z) (I (Int.ofNat 6)) = some (.ptr sn (3 * 6)) := by kernel_rfl
set_option maxRecDepth 100000 in
theorem hx_7 (sn c z : Nat) (r : Bool) : indexAddrA ctx 52 (.slice sn 0 8 r c z) (I (Int.ofNat 7)) = some (.ptr sn (3 * 7)) := by kernel_rfl
theorem hx (sn c z : Nat) (r : Bool) (j : Nat) (hj : j < 8) : indexAddrA ctx 52 (.slice sn 0 8 r c z) (I (Int.ofNat j)) = some (.ptr sn (3 * j)) :=
  match j, hj with
  | 0, _ => hx_0 sn c z r
  | 1, _ => hx_1 sn c z r
  | 2, _ => hx_2 sn c z r
  | 3, _ => hx_3 sn c z r
  | 4, _ => hx_4 sn c z r
  | 5, _ => hx_5 sn c z r
  | 6, _ => hx_6 sn c z r
  | 7, _ => hx_7 sn c z r

theorem b0 (n : Nat) : pureV (binOp .eql 27 (.int .u64 (Int.ofNat (n + 1))) (.int .u64 0)) = some (.lit (.bool false)) := by kernel_rfl
theorem bn (n : Nat) : pureV (binOp .neq 27 (.int .u64 (Int.ofNat (n + 1))) (.int .u64 0)) = some (.lit (.bool true)) := by kernel_rfl
theorem c26 (n : Nat) (v : Int) (j : Nat) (hj : j < 8) (hJ : J (Int.ofNat (n + 1)) = Int.ofNat j) : Wv (runA ctx 5000 7 26 [.ptr (nm n v) 0, W (Int.ofNat (n + 1))] (hpOf (s28 n v j))) (fun r h' => r = .tup [I (Int.ofNat j), Bo true] ∧ h' = hF (hpOf (s28 n v j)) (Int.ofNat (n + 1)) v) :=
  find_hit _ _ _ _ _ _ _ _ j hj (by rw [b31 n v j hj, hJ]) (l0 n v j hj) (lj n v j hj) (hx _ _ _ _ j hj) (b0 n)
/-- Drop as far as to the search -/
noncomputable def s12 (n : Nat) (v : Int) (j : Nat) : Option (AEx × Env × Hp) := codeA ctx (runA ctx 5000 7) 5000 (4998 + 2) (cutC 2 (bodyOf Try.f12)) (enterEnv [.ptr (nm n v) 0, W (Int.ofNat (n + 1))] Try.f12.ntmps) (hpOf (s28 n v j))
noncomputable def E12 (e : Env) (nm : Nat) (k : Int) (j : Nat) : Env := (((((((e.put 10 (some (.ptr nm 0))).put 11 (some (W k))).put 12 (some (.tup [I (Int.ofNat j), Bo true]))).put 9 (some (.tup [I (Int.ofNat j), Bo true]))).put 13 (some (I (Int.ofNat j)))).put 14 (some (Bo true))).put 5 (some (I (Int.ofNat j)))).put 6 (some (Bo true))
noncomputable def d12 (n : Nat) (v : Int) (j : Nat) : Option (AV × Hp) := returnA ctx Try.f12.results.toList (codeA ctx (runA ctx 5000 7) 5000 4997 (restC 3 (bodyOf Try.f12)) (E12 (envOf (s12 n v j)) (nm n v) (Int.ofNat (n + 1)) j) (hF (hpOf (s28 n v j)) (Int.ofNat (n + 1)) v))
set_option maxRecDepth 100000 in
theorem p12_0 (n : Nat) (v : Int) : s12 n v 0 = some (.normal, envOf (s12 n v 0), (hpOf (s28 n v 0))) := by kernel_rfl
set_option maxRecDepth 100000 in
theorem p12_1 (n : Nat) (v : Int) : s12 n v 1 = some (.normal, envOf (s12 n v 1), (hpOf (s28 n v 1))) := by kernel_rfl
set_option maxRecDepth 100000 in
theorem p12_2 (n : Nat) (v : Int) : s12 n v 2 = some (.normal, envOf (s12 n v 2), (hpOf (s28 n v 2))) := by kernel_rfl
set_option maxRecDepth 100000 in
theorem p12_3 (n : Nat) (v : Int) : s12 n v 3 = some (.normal, envOf (s12 n v 3), (hpOf (s28 n v 3))) := by kernel_rfl
set_option maxRecDepth 100000 in
theorem p12_4 (n : Nat) (v : Int) : s12 n v 4 = some (.normal, envOf (s12 n v 4), (hpOf (s28 n v 4))) := by kernel_rfl
set_option maxRecDepth 100000 in
theorem p12_5 (n : Nat) (v : Int) : s12 n v 5 = some (.normal, envOf (s12 n v 5), (hpOf (s28 n v 5))) := by kernel_rfl
set_option maxRecDepth 100000 in
theorem p12_6 (n : Nat) (v : Int) : s12 n v 6 = some (.normal, envOf (s12 n v 6), (hpOf (s28 n v 6))) := by kernel_rfl
set_option maxRecDepth 100000 in
theorem p12_7 (n : Nat) (v : Int) : s12 n v 7 = some (.normal, envOf (s12 n v 7), (hpOf (s28 n v 7))) := by kernel_rfl
theorem p12 (n : Nat) (v : Int) (j : Nat) (hj : j < 8) : s12 n v j = some (.normal, envOf (s12 n v j), (hpOf (s28 n v j))) :=
  match j, hj with
  | 0, _ => p12_0 n v
  | 1, _ => p12_1 n v
  | 2, _ => p12_2 n v
  | 3, _ => p12_3 n v
  | 4, _ => p12_4 n v
  | 5, _ => p12_5 n v
  | 6, _ => p12_6 n v
  | 7, _ => p12_7 n v

set_option maxRecDepth 100000 in
theorem g120_0 (n : Nat) (v : Int) : (envOf (s12 n v 0)).get 0 = some (.ptr (nm n v) 0) := by kernel_rfl
set_option maxRecDepth 100000 in
theorem g120_1 (n : Nat) (v : Int) : (envOf (s12 n v 1)).get 0 = some (.ptr (nm n v) 0) := by kernel_rfl
set_option maxRecDepth 100000 in
theorem g120_2 (n : Nat) (v : Int) : (envOf (s12 n v 2)).get 0 = some (.ptr (nm n v) 0) := by kernel_rfl
set_option maxRecDepth 100000 in
theorem g120_3 (n : Nat) (v : Int) : (envOf (s12 n v 3)).get 0 = some (.ptr (nm n v) 0) := by kernel_rfl
set_option maxRecDepth 100000 in
theorem g120_4 (n : Nat) (v : Int) : (envOf (s12 n v 4)).get 0 = some (.ptr (nm n v) 0) := by kernel_rfl
set_option maxRecDepth 100000 in
theorem g120_5 (n : Nat) (v : Int) : (envOf (s12 n v 5)).get 0 = some (.ptr (nm n v) 0) := by kernel_rfl
set_option maxRecDepth 100000 in
theorem g120_6 (n : Nat) (v : Int) : (envOf (s12 n v 6)).get 0 = some (.ptr (nm n v) 0) := by kernel_rfl
set_option maxRecDepth 100000 in
theorem g120_7 (n : Nat) (v : Int) : (envOf (s12 n v 7)).get 0 = some (.ptr (nm n v) 0) := by kernel_rfl
theorem g120 (n : Nat) (v : Int) (j : Nat) (hj : j < 8) : (envOf (s12 n v j)).get 0 = some (.ptr (nm n v) 0) :=
  match j, hj with
  | 0, _ => g120_0 n v
  | 1, _ => g120_1 n v
  | 2, _ => g120_2 n v
  | 3, _ => g120_3 n v
  | 4, _ => g120_4 n v
  | 5, _ => g120_5 n v
  | 6, _ => g120_6 n v
  | 7, _ => g120_7 n v

set_option maxRecDepth 100000 in
theorem g121_0 (n : Nat) (v : Int) : (envOf (s12 n v 0)).get 1 = some (W (Int.ofNat (n + 1))) := by kernel_rfl
set_option maxRecDepth 100000 in
theorem g121_1 (n : Nat) (v : Int) : (envOf (s12 n v 1)).get 1 = some (W (Int.ofNat (n + 1))) := by kernel_rfl
set_option maxRecDepth 100000 in
theorem g121_2 (n : Nat) (v : Int) : (envOf (s12 n v 2)).get 1 = some (W (Int.ofNat (n + 1))) := by kernel_rfl
set_option maxRecDepth 100000 in
theorem g121_3 (n : Nat) (v : Int) : (envOf (s12 n v 3)).get 1 = some (W (Int.ofNat (n + 1))) := by kernel_rfl
set_option maxRecDepth 100000 in
theorem g121_4 (n : Nat) (v : Int) : (envOf (s12 n v 4)).get 1 = some (W (Int.ofNat (n + 1))) := by kernel_rfl
set_option maxRecDepth 100000 in
theorem g121_5 (n : Nat) (v : Int) : (envOf (s12 n v 5)).get 1 = some (W (Int.ofNat (n + 1))) := by kernel_rfl
set_option maxRecDepth 100000 in
theorem g121_6 (n : Nat) (v : Int) : (envOf (s12 n v 6)).get 1 = some (W (Int.ofNat (n + 1))) := by kernel_rfl
set_option maxRecDepth 100000 in
theorem g121_7 (n : Nat) (v : Int) : (envOf (s12 n v 7)).get 1 = some (W (Int.ofNat (n + 1))) := by kernel_rfl
theorem g121 (n : Nat) (v : Int) (j : Nat) (hj : j < 8) : (envOf (s12 n v j)).get 1 = some (W (Int.ofNat (n + 1))) :=
  match j, hj with
  | 0, _ => g121_0 n v
  | 1, _ => g121_1 n v
  | 2, _ => g121_2 n v
  | 3, _ => g121_3 n v
  | 4, _ => g121_4 n v
  | 5, _ => g121_5 n v
  | 6, _ => g121_6 n v
  | 7, _ => g121_7 n v

set_option maxRecDepth 100000 in
theorem t12_0 (n : Nat) (v : Int) : isTrue (d12 n v 0) = true := by kernel_rfl
set_option maxRecDepth 100000 in
theorem t12_1 (n : Nat) (v : Int) : isTrue (d12 n v 1) = true := by kernel_rfl
set_option maxRecDepth 100000 in
theorem t12_2 (n : Nat) (v : Int) : isTrue (d12 n v 2) = true := by kernel_rfl
set_option maxRecDepth 100000 in
theorem t12_3 (n : Nat) (v : Int) : isTrue (d12 n v 3) = true := by kernel_rfl
set_option maxRecDepth 100000 in
theorem t12_4 (n : Nat) (v : Int) : isTrue (d12 n v 4) = true := by kernel_rfl
set_option maxRecDepth 100000 in
theorem t12_5 (n : Nat) (v : Int) : isTrue (d12 n v 5) = true := by kernel_rfl
set_option maxRecDepth 100000 in
theorem t12_6 (n : Nat) (v : Int) : isTrue (d12 n v 6) = true := by kernel_rfl
set_option maxRecDepth 100000 in
theorem t12_7 (n : Nat) (v : Int) : isTrue (d12 n v 7) = true := by kernel_rfl
theorem t12 (n : Nat) (v : Int) (j : Nat) (hj : j < 8) : isTrue (d12 n v j) = true :=
  match j, hj with
  | 0, _ => t12_0 n v
  | 1, _ => t12_1 n v
  | 2, _ => t12_2 n v
  | 3, _ => t12_3 n v
  | 4, _ => t12_4 n v
  | 5, _ => t12_5 n v
  | 6, _ => t12_6 n v
  | 7, _ => t12_7 n v

theorem wc_true {rs : List ResultVar} {c : Option (AEx × Env × Hp)} (h : isTrue (returnA ctx rs c) = true) : Wc c fun x e h => Wv (returnA ctx rs (some (x, e, h))) fun v _ => v = Bo true := by
  cases c with
  | none => cases h
  | some q =>
    obtain ⟨x, e, h2⟩ := q
    obtain ⟨h', hh⟩ := isTrue_some h
    exact ⟨x, e, h2, rfl, _, h', hh, rfl⟩
theorem mid12 {Q : AEx → Env → Hp → Prop} (e : Env) (h h3 : Hp) (nm : Nat) (k : Int) (j : Nat) (e0 : e.get 0 = some (.ptr nm 0)) (e1 : e.get 1 = some (W k))
    (q : Wv (runA ctx 5000 7 26 [.ptr nm 0, W k] h) (fun r h' => r = .tup [I (Int.ofNat j), Bo true] ∧ h' = h3))
    (hk : Wc (codeA ctx (runA ctx 5000 7) 5000 4997 (restC 3 (bodyOf Try.f12)) (E12 e nm k j) h3) Q) :
    Wc (codeA ctx (runA ctx 5000 7) 5000 4998 (restC 2 (bodyOf Try.f12)) e h) Q := by
  obtain ⟨r, h4, q, rfl, rfl⟩ := q
  simp only [W, I, Bo] at q e0 e1
  unfold E12 at hk
  unfold bodyOf Try.f12 at hk ⊢
  dsimp only [restC] at hk ⊢
  refine wc_seq ?_
  (refine wc_region rfl ?_; simp only [oUn_not, beq_self_eq_true, eq_self, pv_mul, List.toList_toArray, opsA_cons, opsA_nil, wantedA, guardA, yieldA, stepA_t, stepA_f, callA, calleeA, targetA, runOp_c, runOp_n, opA, ev, evs, evo, consO, consOO, withH, pickA, afterA_s, putA, T.get_put, Nat.reduceEqDiff, reduceIte, List.getElem?_toArray, List.getElem?_cons_zero, List.getElem?_cons_succ, oBuiltin, oBin, binA, binG, binL, aggO, litA, intA, ltF_eq, eqF_eq, oIndexAddr, cond_true, cond_false, Bool.not_true, Bool.not_false, decide_true, decide_false, blt_eq, tt_beq, tf_beq, ft_beq, ff_beq, Bool.and_true, Bool.true_and, Option.some.injEq, I, Bo, addI, subI, oExtract, Bool.not_eq_true', ite_true, ite_false, fieldAddrA, oFieldAddr, oLoad, oStore, allocA, boxA, isAggD, aggH, oneH, skipH, newBlk, load_mk, store_h, ldO_s, ldO_h, stO_s, Nat.add_eq_left, Nat.left_eq_add, Nat.succ_ne_self, fieldA, partA, setCells_cons, setCells_nil, cellsOf, litCells_cons, litCells_nil, List.length_cons, List.length_nil, Nat.reduceAdd, Nat.zero_add, Nat.add_zero, Nat.mul_one, Nat.reduceMul, nbeq_self, known_s, known_zero, getCells1, getCells2, onesA_cons', onesA_nil, oneA, Value.oneCell', Nat.reduceLT, ty3, ti3, ty24, ti24, ty27, ti27, ty52, ti52, ty54, ti54, ty58, ti58, e0, e1, q, W]; refine ⟨_, _, rfl, ?_⟩)
  exact hk
theorem c12 (n : Nat) (v : Int) (j : Nat) (hj : j < 8) (hJ : J (Int.ofNat (n + 1)) = Int.ofNat j) : Wv (runA ctx 5000 8 12 [.ptr (nm n v) 0, W (Int.ofNat (n + 1))] (hpOf (s28 n v j))) (fun r _ => r = Bo true) := by
  refine wv_run fn12 rfl ?_
  exact wc_cutk 2 4998 _ _ _ _ _ (p12 n v j hj) (mid12 _ _ _ _ _ j (g120 n v j hj) (g121 n v j hj) (c26 n v j hj hJ) (wc_true (t12 n v j hj)))

end Go.Proofs.Ytlajgfnfclpneaa
