import Derived.Test.YtdbajhklnaekjaaRF
import Derived.KernelRfl
namespace Go.Proofs.Ytdbajhklnaekjaa
open Go Go.Proofs Go.RowKit Go.Proofs.Abs
set_option linter.unusedSimpArgs false
set_option linter.unusedVariables false
def Inu8 (a : Int) : Prop := 0 ≤ a ∧ a ≤ 255
theorem inb_of {a : Int} (h : Inu8 a) : Inb a := ⟨h.1, by have := h.2; omega⟩
theorem aft12 {st : List Q4} (hok : ∀ x ∈ st, x.ok) (l : List Int) : (aft (st.take 12) l).length ≤ l.length + 60 := by
  have := aft_len (st := st.take 12) l (fun x hx => hok x (List.mem_of_mem_take hx))
  rw [List.length_take] at this
  omega
theorem comp_law (b : Hp) (n : Int) (s : AV) (st : List Q4) (mo : AV) (sm : List Q4) (la : AV) (sl : List Q4) (rn : Inu8 n) (hs : IsR c4 4 b s st) (hok : ∀ x ∈ st, x.ok) (hm : IsR c4 4 b mo sm) (hok2 : ∀ x ∈ sm, x.ok) (hl : IsR c4 4 b la sl) (hok3 : ∀ x ∈ sl, x.ok) :
    Wv (funA ctx all8 5000 [.agg [U8 n, s], mo, la] b (ctx.funs.get 5)) (fun v _ => v = Bo true) := by
  have hb := tm_lt rn.1 (show (0 : Int) < 31 by omega)
  obtain ⟨N, hN⟩ := nat_of hb.1
  rw [hN] at hb
  simp only [Int.ofNat_eq_natCast] at hN hb
  have lU := upto_len N
  have pU := okp_upto N
  have pA := OkP.aft (st.take 12) pU
  have lA := aft12 hok (upto N)
  have cS := upto_cmp pA
  generalize eA : aft (st.take 12) (upto N) = A at pA lA cS
  have pB := OkP.aft (sm.take 12) (okp_upto A.length)
  have lB := aft12 hok2 (upto A.length)
  rw [upto_len] at lB
  have cAB := cmp_aft A (sm.take 12) rfl
  have cR := cmp_aft2 A (sm.take 12) (sl.take 12) rfl
  have lW := (aft_upto_len A (sm.take 12) rfl).symm
  generalize eB : aft (sm.take 12) (upto A.length) = B at pB lB cAB cR lW
  have pC := OkP.aft (sl.take 12) (okp_upto B.length)
  have lC := aft12 hok3 (upto B.length)
  rw [upto_len] at lC
  have pW := OkP.aft (sm.take 12) pA
  have pBC := OkP.aft (sl.take 12) pB
  have lBC := aft12 hok3 B
  have cBC := cmp_aft B (sl.take 12) rfl
  have cL := cmp_aft (aft (sm.take 12) A) (sl.take 12) lW.symm
  have lAL := aft12 hok3 (aft (sm.take 12) A)
  have oC := pC.ok (by omega) (by omega)
  exact comp_law0 b n s mo la st sm sl N A B _ _ _ _ hs hm hl hok hok2 hok3 (inb_of rn) hN (by omega) eA eB rfl rfl rfl cAB cBC cL cR cS (cmp_upto A rfl) (pA.ok (by omega) (by omega)) (pB.ok (by omega) (by omega)) oC (pW.ok (by omega) (by omega)) (by rw [lW]; exact oC) (pBC.ok (by omega) (by omega)) (pU.ok (by omega) (by omega)) (by rw [lU]; exact pA.ok (by omega) (by omega)) ((okp_upto A.length).ok (by omega) (by rw [upto_len]; omega)) (by omega) (by omega) lW (by omega)

end Go.Proofs.Ytdbajhklnaekjaa
