import Derived.Test.YtpioenfglmimgaaO3
namespace Go.Proofs.Abs
open Go Go.RowKit
set_option linter.unusedSimpArgs false
set_option linter.unusedVariables false
section
variable {C : Ctx} {t : TypeId} {e : TypeId} {ti te : TI} {M : List Nat} {h0 h h' : Hp} {L L' Z : List As} {k : OpsK} {dst : Option Tmp} {env : Env} {Q : Env → Hp → Prop}
theorem ble_f {a b : Nat} (h : b < a) : Nat.ble a b = false := by
  cases hb : Nat.ble a b with
  | false => rfl
  | true => have := Nat.le_of_ble_eq_true hb; omega
/-- append to a list that fills its block -/
theorem wo_appf {n n2 m len c2 z2 : Nat} {r2 : Bool} {cs ds : List AV} (H : Hs M h0 h L Z) (h2 : blk id n cs ∈ L) (hcl : cs.length = len) (ht : C.tys.get t = some ti) (hd : ti.desc = .slice e) (he : C.tys.get e = some te) (hs : te.size = 1) (hb : Nat.ble te.bytes 65536 = true)
    (hm : blk id n2 ds ∈ L) (hdl : ds.length = m) (hm0 : 0 < m) (hl : len + m ≤ 100000)
    (h1 : ∀ u' h', Hs M h0 h' (gr e 1 u' (cs ++ ds) (len + m) :: L) Z → Wo (k (putA env u' dst) h') Q) : Wo (afterA k env dst (builtinA C h .append [t, t] [.slice n 0 len false len 0, .slice n2 0 m r2 c2 z2])) Q := by
  have hds : elemsA h 1 m (.slice n2 0 m r2 c2 z2) = some ds := by
    show cond (Nat.beq m 0) (some []) (load h n2 0 (m * 1)) = _
    rw [beq_zero (by omega), Nat.mul_one]
    exact ldn (H.p hm) (by rw [List.drop_zero, ← hdl, List.take_length]) hdl
  have hol : load h n 0 (len * 1) = some cs := by
    rw [Nat.mul_one]
    exact ldn (H.p h2) (by rw [List.drop_zero, ← hcl, List.take_length]) hcl
  have e1 : builtinA C h .append [t, t] [.slice n 0 len false len 0, .slice n2 0 m r2 c2 z2] = some (.slice h.c 0 (len + m) true 0 0, newBlk h (cs ++ ds) e 1) := by
    show appendA C h t t (.slice n 0 len false len 0) (.slice n2 0 m r2 c2 z2) = _
    unfold appendA
    rw [ht]
    simp only [hd, he, lenA, hs, hb, hds, hol, Nat.zero_add, Nat.mul_one] at *
    rw [Nat.ble_eq_true_of_le (show m ≤ 1048576 by omega), ble_f (show len < len + m by omega), Nat.ble_eq_true_of_le (show len + m ≤ 1048576 by omega), hol]
    rfl
  rw [e1]
  have hlen : (cs ++ ds).length = len + m := by rw [List.length_append, hcl, hdl]
  have b9 := new_blk h (cs ++ ds) e 1
  refine h1 _ _ (H.fresh (new_cells h (cs ++ ds) e 1).1 (x := gr e 1 _ (cs ++ ds) (len + m)) ⟨by rw [hlen, Nat.mul_one], .inr ⟨h.c, ⟨setCells .leaf 0 (cs ++ ds), (cs ++ ds).length, e, 1⟩, by omega, rfl, Nat.lt_succ_self _, ?_, rfl, by rw [Nat.mul_one]; exact hlen, rfl, fun j x hx => ?_⟩⟩ (fun n hn => ?_))
  · show (h.m.put h.c _).get h.c = _
    rw [T.get_put, if_pos rfl]
  · obtain ⟨c, g1, g2⟩ := b9.blk
    have g3 : (newBlk h (cs ++ ds) e 1).m.get h.c = some ⟨setCells .leaf 0 (cs ++ ds), (cs ++ ds).length, e, 1⟩ := by
      show (h.m.put h.c _).get h.c = _
      rw [T.get_put, if_pos rfl]
    rw [g3] at g1
    cases g1
    exact g2 j x hx
  · have hn2 : nmO (.slice h.c 0 (len + m) true 0 0) = some n := nmO_mem.1 hn
    cases hn2
    exact Nat.le_refl _
end
section
variable {C : Ctx} {t : TypeId} {e : TypeId} {ti te : TI} {M : List Nat} {h0 h h' : Hp} {L L' Z : List As} {k : OpsK} {dst : Option Tmp} {env : Env} {Q : Env → Hp → Prop}
theorem wo_sl1 {c : Bool} {w : AV} {ys : List AV} (H : Hs M h0 h L Z) (hm : lc c w ys ∈ Z) (ht : C.tys.get t = some ti) (hd : ti.desc = .slice e) (he : C.tys.get e = some te) (hs : te.size = 1) (hl : 1 ≤ ys.length)
    (h1 : ∀ w', Lc false h w' (ys.drop 1) → nmO w' = nmO w → Hs M h0 h L (isl w' (ys.drop 1) :: lc false w' (ys.drop 1) :: Z) → Wo (k (putA env w' dst) h) Q) :
    Wo (afterA k env dst (sliceA C h t w (some (I 1)) none none)) Q := wo_sla H hm ht hd he hs (i := 1) (a := 1) rfl hl h1
end
section
variable {M : List Nat} {h0 h h' : Hp} {L Z : List As}
theorem Hs.two2 (H : Hs M h0 h L Z) (a : Ext h h') {c c2 : Bool} {vB vR w9 : AV} {ws : List AV} {bs : List Int} {xss : List (List Int)} {ys : List AV} (h1 : PLs c h' vB vR ws bs xss) (h2 : ∀ n, n ∈ (Abs.pls c vB vR ws bs xss).foot → h.c ≤ n) (h3 : Lc c2 h' w9 ys) (h4 : ∀ m, nmO w9 = some m → h.c ≤ m) :
    Hs M h0 h' L (lc c2 w9 ys :: Abs.pls c vB vR ws bs xss :: Z) := by
  have H1 := H.freshz a (x := Abs.pls c vB vR ws bs xss) h1 h2
  refine H1.z1 (z := lc c2 w9 ys) h3 (fun n hn b hb h9 => ?_)
  have := H.lt hb h9
  have := h4 n (nmO_mem.1 hn)
  omega
end
end Go.Proofs.Abs
