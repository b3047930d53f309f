import Derived.Test.YtdbajhklnaekjaaRK
import Derived.KernelRfl
namespace Go.Proofs.Ytdbajhklnaekjaa
open Go Go.Proofs Go.RowKit Go.Proofs.Abs
set_option linter.unusedSimpArgs false
set_option linter.unusedVariables false
def Inu8 (a : Int) : Prop := 0 ≤ a ∧ a ≤ 255
theorem inb_of {a : Int} (h : Inu8 a) : Inb a := ⟨h.1, by have := h.2; omega⟩
theorem aft12 {st : List Q4} (hok : ∀ x ∈ st, x.ok) (l : List Int) : (aft (st.take 12) l).length ≤ l.length + 60 := by
  have := aft_len (st := st.take 12) l (fun x hx => hok x (List.mem_of_mem_take hx))
  rw [List.length_take] at this
  omega
theorem carr_law (b : Hp) (n : Int) (s : AV) (st : List Q4) (mo : AV) (sm : List Q4) (z : Int) (rn : Inu8 n) (hs : IsR c4 4 b s st) (hok : ∀ x ∈ st, x.ok) (hm : IsR c4 4 b mo sm) (hok2 : ∀ x ∈ sm, x.ok) (rz : In z) :
    Wv (funA ctx all8 5000 [.agg [U8 n, s], mo, I z] b (ctx.funs.get 7)) (fun v _ => v = Bo true) := by
  have hb := tm_lt rn.1 (show (0 : Int) < 31 by omega)
  obtain ⟨N, hN⟩ := nat_of hb.1
  rw [hN] at hb
  simp only [Int.ofNat_eq_natCast] at hN hb
  have lU := upto_len N
  have pU := okp_upto N
  have pA := OkP.aft (st.take 12) pU
  have lA := aft12 hok (upto N)
  generalize eA : aft (st.take 12) (upto N) = A at pA lA
  have pB := OkP.aft (sm.take 12) (okp_upto A.length)
  have lB := aft12 hok2 (upto A.length)
  rw [upto_len] at lB
  have cAB := cmp_aft A (sm.take 12) rfl
  have lW := (aft_upto_len A (sm.take 12) rfl).symm
  generalize eB : aft (sm.take 12) (upto A.length) = B at pB lB cAB lW
  have pW := OkP.aft (sm.take 12) pA
  have oA := pA.ok (by omega) (by omega)
  have oB := pB.ok (by omega) (by omega)
  have e3 := carry2 (l := lk z N) oB
  rw [cAB] at e3
  exact carr_law0 b n z s mo st sm N A B _ _ _ hs hm hok hok2 (inb_of rn) hN (by omega) eA eB cAB rfl rfl e3.symm oA oB (pW.ok (by omega) (by omega)) (by omega) (by omega) (by rw [List.length_map]) (by rw [List.length_map]) lW

end Go.Proofs.Ytdbajhklnaekjaa
