import Derived.Test.YtdbajhklnaekjaaR7
import Derived.KernelRfl
namespace Go.Proofs.Ytdbajhklnaekjaa
open Go Go.Proofs Go.RowKit Go.Proofs.Abs
set_option linter.unusedSimpArgs false
set_option linter.unusedVariables false
/-! Regions in which a read and a change are not ordered, walked by rules. -/
def WT (C : Ctx) (call : CallF) (all l : List Oper) (e : Env) (h : Hp) (P : List (Env × Hp) → Prop) : Prop := ∃ tr, trA C call all l e h = some tr ∧ P tr
theorem wt_nil {C : Ctx} {call : CallF} {all : List Oper} {e : Env} {h : Hp} {P : List (Env × Hp) → Prop} (h1 : P [(e, h)]) : WT C call all [] e h P := ⟨_, rfl, h1⟩
theorem wt_cons {C : Ctx} {call : CallF} {all l : List Oper} {o : Oper} {e : Env} {h : Hp} {P : List (Env × Hp) → Prop} (h1 : Wo (opsA C call all [o] e h) (fun e' h' => WT C call all l e' h' (fun tr => P ((e, h) :: tr)))) : WT C call all (o :: l) e h P := by
  obtain ⟨e', h', r, tr, r2, p⟩ := h1
  refine ⟨(e, h) :: tr, ?_, p⟩
  rw [trA_cons, r]
  show preA e h (trA C call all l e' h') = _
  rw [r2]
  rfl
theorem wc_dynW {C : Ctx} {call : CallF} {N n : Nat} {e : Env} {h : Hp} {id : Nat} {ops : Array Oper} {dr : Bool} {Q : AEx → Env → Hp → Prop} {p : Nat × Nat} {ps : List (Nat × Nat)} (hd : dynOf ops dr = p :: ps)
    (h1 : WT C call ops.toList ops.toList e h (fun tr => checksD C ops.toList tr (p :: ps) = true ∧ ∃ e' h', tr[ops.toList.length]? = some (e', h') ∧ Q .normal e' h')) : Wc (codeA C call N (n + 1) (.region id ops dr) e h) Q := by
  obtain ⟨tr, r, c, e', h', l, q⟩ := h1
  exact wc_dyn hd r c l q

end Go.Proofs.Ytdbajhklnaekjaa
