import Derived.Test.YtdbajhklnaekjaaR9
import Derived.KernelRfl
namespace Go.Proofs.Ytdbajhklnaekjaa
open Go Go.Proofs Go.RowKit Go.Proofs.Abs
set_option linter.unusedSimpArgs false
set_option linter.unusedVariables false
def Inu8 (a : Int) : Prop := 0 ≤ a ∧ a ≤ 255
theorem inb_of {a : Int} (h : Inu8 a) : Inb a := ⟨h.1, by have := h.2; omega⟩
theorem inv_law (b : Hp) (n : Int) (s : AV) (st : List Q4) (z0 z1 z2 : Int) (rn : Inu8 n) (hs : IsR c4 4 b s st) (hok : ∀ x ∈ st, x.ok) (r0 : Inu8 z0) (r1 : Inu8 z1) (r2 : Inu8 z2) : Wv (funA ctx all8 5000 [.agg [U8 n, s], .agg [U8 z0, U8 z1, U8 z2]] b (ctx.funs.get 6)) (fun v _ => v = Bo true) := by
  have hb := tm_lt rn.1 (show (0 : Int) < 31 by omega)
  obtain ⟨N, hN⟩ := nat_of hb.1
  rw [hN] at hb
  simp only [Int.ofNat_eq_natCast] at hN hb
  have ha := tm_lt r0.1 (show (0 : Int) < (N : Int) + 1 by omega)
  obtain ⟨A, hA⟩ := nat_of ha.1
  rw [hA] at ha
  simp only [Int.ofNat_eq_natCast] at hA ha
  have hm := tm_lt r1.1 (show (0 : Int) < (N : Int) - (A : Int) + 1 by omega)
  obtain ⟨M, hM⟩ := nat_of hm.1
  rw [hM] at hm
  simp only [Int.ofNat_eq_natCast] at hM hm
  have ht := tm_lt r2.1 (show (0 : Int) < (N : Int) - (M : Int) + 1 by omega)
  obtain ⟨Tt, hT⟩ := nat_of ht.1
  rw [hT] at ht
  simp only [Int.ofNat_eq_natCast] at hT ht
  have hlen := aft_len (st := st.take 12) (upto N) (fun x hx => hok x (List.mem_of_mem_take hx))
  rw [upto_len, List.length_take] at hlen
  exact inv_law0 b n z0 z1 z2 s st N A M Tt _ hs hok (inb_of rn) (inb_of r0) (inb_of r1) (inb_of r2) hN (by omega) rfl ((OkP.aft _ (okp_upto N)).ok (by omega) (by omega)) hA (by omega) hM (by omega) hT (by omega)

end Go.Proofs.Ytdbajhklnaekjaa
