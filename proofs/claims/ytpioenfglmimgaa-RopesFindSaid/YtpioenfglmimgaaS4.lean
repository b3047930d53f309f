import Derived.Test.YtpioenfglmimgaaS3
import Derived.WalkKit
import Derived.Orders
import Derived.LoopN
import Derived.Laws.CopyRow
import Derived.Laws.Tables
import Derived.Laws.Rows
import Derived.Great.BuildSlice
import Derived.Laws.MakeOwn
import Derived.Laws.Append
import Derived.Laws.AppendOwn
import Derived.Lib.Strings
import Derived.WalkSpells
import Derived.Lib.SliceRun
namespace Go.Proofs.Abs
open Go Go.RowKit
set_option linter.unusedSimpArgs false
set_option linter.unusedVariables false
/-! The evaluator is sound, part 4: slice expressions, places, numbers. -/
section
variable {P : Program} {C : Ctx} {σ : Nat → Loc} {B : Keep} {h : Hp} {w : World} {t : TypeId} {ti : TI} {r : AV × Hp}

theorem slice_off {n off len cap z : Nat} {rest : Bool} (hok : (AV.slice n off len rest cap z).ok σ h.c) (hl : 0 < len) : cond (rest && Nat.ble (σ n).k cap) z off = off := by
  simp only [AV.ok] at hok
  cases rest with
  | false => rfl
  | true =>
    have := hok.2 rfl
    have hb : Nat.ble (σ n).k cap = false := by
      cases hb : Nat.ble (σ n).k cap with
      | false => rfl
      | true => have := Nat.le_of_ble_eq_true hb; omega
    rw [hb]; rfl

theorem bound_run {v : AV} {m n y : Nat} (hv : natOf? v m = some n) (hy : m ≤ y) (code : BoundsCode) : (Instr.sliceBound (conc σ v) y code).run P w = .ok n w := by
  obtain ⟨h1, k, rfl⟩ := natOf_some hv
  simp only [conc]
  rw [run_sliceBound w k (n : Int) y code (by omega) (by omega)]
  simp

theorem bounds_sound {len c cap : Nat} {lo hi mx : Option AV} {l rr m : Nat} (hc : c ≤ cap) (hb : boundsA len c lo hi mx = some (l, rr, m)) (isS : Bool) :
    (Instr.sliceBounds isS len cap (lo.map (conc σ)) (hi.map (conc σ)) (mx.map (conc σ))).run P w = .ok (l, rr, if mx.isSome then m else cap) w ∧
      l ≤ rr ∧ (mx = none → m = c) ∧ (mx.isSome = true → rr ≤ m ∧ m ≤ c) ∧ (mx = none → hi = none → rr = len) ∧ (mx = none → hi.isSome = true → rr ≤ c) := by
  unfold boundsA at hb
  cases mx with
  | some v =>
    dsimp only at hb
    cases h1 : natOf? v c with
    | none => rw [h1] at hb; cases hb
    | some m' =>
      rw [h1] at hb
      cases hi with
      | none => cases hb
      | some vh =>
        dsimp only at hb
        cases h2 : natOf? vh m' with
        | none => rw [h2] at hb; cases hb
        | some h' =>
          rw [h2] at hb
          have n1 := (natOf_some h1).1
          have n2 := (natOf_some h2).1
          cases lo with
          | none =>
            cases hb
            refine ⟨?_, by omega, by simp, fun _ => ⟨n2, n1⟩, by simp, by simp⟩
            cases isS <;> simp [Instr.sliceBounds, bound_run h1 hc, bound_run h2 (Nat.le_refl _)]
          | some vl =>
            dsimp only at hb
            cases h3 : natOf? vl h' with
            | none => rw [h3] at hb; cases hb
            | some l' =>
              rw [h3] at hb
              cases hb
              refine ⟨?_, (natOf_some h3).1, by simp, fun _ => ⟨n2, n1⟩, by simp, by simp⟩
              cases isS <;> simp [Instr.sliceBounds, bound_run h1 hc, bound_run h2 (Nat.le_refl _), bound_run h3 (Nat.le_refl _)]
  | none =>
    dsimp only at hb
    cases hi with
    | none =>
      cases lo with
      | none =>
        cases hb
        exact ⟨by simp [Instr.sliceBounds], by omega, by simp, by simp, by simp, by simp⟩
      | some vl =>
        dsimp only at hb
        cases h3 : natOf? vl len with
        | none => rw [h3] at hb; cases hb
        | some l' =>
          rw [h3] at hb
          cases hb
          refine ⟨?_, (natOf_some h3).1, by simp, by simp, by simp, by simp⟩
          simp [Instr.sliceBounds, bound_run h3 (Nat.le_refl _)]
    | some vh =>
      dsimp only at hb
      cases h2 : natOf? vh c with
      | none => rw [h2] at hb; cases hb
      | some h' =>
        rw [h2] at hb
        have n2 := (natOf_some h2).1
        cases lo with
        | none =>
          cases hb
          refine ⟨?_, by omega, by simp, by simp, by simp, fun _ _ => n2⟩
          cases isS <;> simp [Instr.sliceBounds, bound_run h2 hc]
        | some vl =>
          dsimp only at hb
          cases h3 : natOf? vl h' with
          | none => rw [h3] at hb; cases hb
          | some l' =>
            rw [h3] at hb
            cases hb
            refine ⟨?_, (natOf_some h3).1, by simp, by simp, by simp, fun _ _ => n2⟩
            cases isS <;> simp [Instr.sliceBounds, bound_run h2 hc, bound_run h3 (Nat.le_refl _)]

theorem beq_cond {α : Type} (a b : Nat) (x y : α) : cond (Nat.beq a b) x y = if a = b then x else y := by
  by_cases e : a = b
  · subst e; rw [if_pos rfl, Nat.beq_refl]; rfl
  · rw [if_neg e]
    have : Nat.beq a b = false := by
      cases hb : Nat.beq a b with
      | false => rfl
      | true => exact absurd (Nat.eq_of_beq_eq_true hb) e
    rw [this]; rfl

theorem slice_sound (g : Gam σ B h w) (hT : TysOk P C) {x : AV} {lo hi mx : Option AV} (hx : x.ok σ h.c) (hv : sliceA C h t x lo hi mx = some r) :
    Gives P σ B h w (Instr.sliceAt t (conc σ x) (lo.map (conc σ)) (hi.map (conc σ)) (mx.map (conc σ))) r := by
  unfold sliceA at hv
  cases ht : C.tys.get t with
  | none => rw [ht] at hv; cases hv
  | some ti =>
    rw [ht] at hv
    dsimp only at hv
    have hu := (hT t ti ht).desc
    cases hd : ti.desc <;> rw [hd] at hv hu <;> try (cases hv; done)
    case array n e =>
      dsimp only at hv
      cases he : C.tys.get e with
      | none => rw [he] at hv; cases hv
      | some te =>
        rw [he] at hv
        have hte := hT e te he
        cases x <;> try (cases hv; done)
        case ptr b off =>
          dsimp only at hv
          cases hb : boundsA n n lo hi mx with
          | none => rw [hb] at hv; cases hv
          | some q =>
            obtain ⟨l, rr, m⟩ := q
            rw [hb] at hv
            cases hv
            obtain ⟨hrun, h1, h2, h3, h4, h5⟩ := bounds_sound (P := P) (σ := σ) (w := w) (Nat.le_refl n) hb false
            have hm : (if mx.isSome = true then m else n) = m := by
              cases mx with
              | none => simp [h2 rfl]
              | some _ => simp
            rw [hm] at hrun
            simp only [AV.ok] at hx
            refine gives_same g ?_ (by simpa [AV.ok] using hx)
            simp only [Instr.sliceAt, Sem.run_bind, run_underlying hu, Result.andThen_ok, conc, Instr.sureAddr, Sem.run_pure, hrun, run_size hte]
            rw [beq_cond]
            by_cases e1 : m = l
            · rw [if_pos e1, if_pos e1]; rfl
            · rw [if_neg e1, if_neg e1, spt_add]; rfl
    case string =>
      dsimp only at hv
      split at hv
      · rename_i s
        cases hb : boundsA s.size s.size lo hi none with
        | none => rw [hb] at hv; cases hv
        | some q =>
          obtain ⟨l, rr, m⟩ := q
          rw [hb] at hv
          cases hv
          obtain ⟨hrun, _⟩ := bounds_sound (P := P) (σ := σ) (w := w) (Nat.le_refl s.size) hb false
          refine gives_same g ?_ (lit_ok _ _ _)
          simp only [Option.map_none] at hrun
          simp [Instr.sliceAt, run_underlying hu, Instr.slice, conc, hrun]
      · cases hv
    case slice e =>
      dsimp only at hv
      cases he : C.tys.get e with
      | none => rw [he] at hv; cases hv
      | some te =>
        rw [he] at hv
        dsimp only at hv
        have hte := hT e te he
        have hgen : ∀ (a : Option Addr) (len cap l rr m : Nat), (Instr.sliceBounds true len cap (lo.map (conc σ)) (hi.map (conc σ)) (mx.map (conc σ))).run P w = .ok (l, rr, m) w →
            (Instr.sliceAt t (.slice a len cap) (lo.map (conc σ)) (hi.map (conc σ)) (mx.map (conc σ))).run P w = .ok (.slice (if m = l then a else a.map (·.add (l * te.size))) (rr - l) (m - l)) w := by
          intro a len cap l rr m hrun
          simp [Instr.sliceAt, run_underlying hu, Instr.slice, hrun, run_size hte]
        split at hv
        · -- nil
          cases hb : boundsA 0 0 lo hi mx with
          | none => rw [hb] at hv; cases hv
          | some q =>
            obtain ⟨l, rr, m⟩ := q
            rw [hb] at hv
            cases hv
            obtain ⟨hrun, h1, h2, h3, h4, h5⟩ := bounds_sound (P := P) (σ := σ) (w := w) (Nat.le_refl 0) hb true
            have hr0 : rr = 0 ∧ l = 0 ∧ (if mx.isSome = true then m else 0) = 0 := by
              cases mx with
              | none =>
                cases hi with
                | none => have := h4 rfl rfl; simp; omega
                | some _ => have := h5 rfl rfl; simp; omega
              | some _ => have := h3 rfl; simp; omega
            refine gives_same g ?_ (lit_ok _ _ _)
            simp only [conc]
            rw [hgen none 0 0 _ _ _ hrun, hr0.1, hr0.2.1, hr0.2.2]
            rfl
        · -- a capacity that is known
          rename_i b off len cap z
          cases hb : boundsA len cap lo hi mx with
          | none => rw [hb] at hv; cases hv
          | some q =>
            obtain ⟨l, rr, m⟩ := q
            rw [hb] at hv
            cases hv
            obtain ⟨hrun, h1, h2, h3, h4, h5⟩ := bounds_sound (P := P) (σ := σ) (w := w) (Nat.le_refl cap) hb true
            have hm : (if mx.isSome = true then m else cap) = m := by
              cases mx with
              | none => simp [h2 rfl]
              | some _ => simp
            rw [hm] at hrun
            simp only [AV.ok] at hx
            refine gives_same g ?_ (by simpa [AV.ok] using hx)
            simp only [conc, cond_false, Bool.false_and]
            rw [hgen _ _ _ _ _ _ hrun, beq_cond]
            by_cases e1 : m = l
            · rw [if_pos e1, if_pos e1]
            · rw [if_neg e1, if_neg e1]; simp [spt_add, Nat.add_assoc]
        · -- a slice that has grown
          rename_i b off len o z
          have hx' := hx
          simp only [AV.ok] at hx'
          have hcap := hx'.2 trivial
          cases hb : boundsA len len lo hi mx with
          | none => rw [hb] at hv; cases hv
          | some q =>
            obtain ⟨l, rr, m⟩ := q
            rw [hb] at hv
            dsimp only at hv
            obtain ⟨hrun, h1, h2, h3, h4, h5⟩ := bounds_sound (P := P) (σ := σ) (w := w) (show len ≤ (σ b).k - o by omega) hb true
            have hexec := hgen (some ⟨(σ b).b, (σ b).o + cond (true && Nat.ble (σ b).k o) z off, spt (σ b) (cond (true && Nat.ble (σ b).k o) z off)⟩) len ((σ b).k - o) _ _ _ hrun
            cases hmx : mx with
            | some v =>
              rw [hmx] at hv hexec
              simp only [Option.isSome_some, if_true] at hexec
              dsimp only at hv
              have h3' := h3 (by rw [hmx]; rfl)
              have hoff : cond (true && Nat.ble (σ b).k o) z off = off := by
                by_cases e0 : m = 0
                · cases hz : Nat.beq z off with
                  | false => rw [e0, hz] at hv; cases hv
                  | true =>
                    rw [Nat.eq_of_beq_eq_true hz]
                    exact cond_same _ _
                · exact slice_off (h := h) hx (by omega)
              have hv' : some (AV.slice b (cond (Nat.beq m l) off (off + l * te.size)) (rr - l) false (m - l) 0, h) = some r := by
                cases hc : (Nat.beq m 0 && !(Nat.beq z off)) with
                | true => rw [hc] at hv; cases hv
                | false => rw [hc] at hv; exact hv
              cases hv'
              rw [hoff] at hexec
              refine gives_same g ?_ (by simpa [AV.ok] using hx'.1)
              simp only [conc, cond_true, cond_false, Bool.false_and]
              rw [hoff, hexec, beq_cond]
              by_cases e1 : m = l
              · rw [if_pos e1, if_pos e1]
              · rw [if_neg e1, if_neg e1]; simp [spt_add, Nat.add_assoc]
            | none =>
              rw [hmx] at hv hexec
              simp only [Option.isSome_none, Bool.false_eq_true, if_false] at hexec
              cases hv
              have hr : rr ≤ len := by
                cases hi with
                | none => have := h4 hmx rfl; omega
                | some _ => exact h5 hmx rfl
              refine gives_same g ?_ (by simp only [AV.ok]; exact ⟨hx'.1, fun _ => by omega⟩)
              simp only [conc, cond_true]
              rw [hexec, beq_cond]
              have hble : ∀ a b : Nat, Nat.ble a b = decide (a ≤ b) := fun a b => by
                cases hb : Nat.ble a b with
                | true => exact (decide_eq_true (Nat.le_of_ble_eq_true hb)).symm
                | false => exact (decide_eq_false (fun hh => by rw [Nat.ble_eq_true_of_le hh] at hb; cases hb)).symm
              rw [hble, hble]
              by_cases e1 : (σ b).k ≤ o + l
              · rw [if_pos (by omega)]
                by_cases e2 : l = 0
                · subst e2
                  rw [decide_eq_true (show (σ b).k ≤ o by omega), decide_eq_true (show (σ b).k ≤ o + 0 by omega)]
                  simp
                · rw [decide_eq_false (show ¬ (σ b).k ≤ o by omega), decide_eq_true e1, if_neg e2]
                  simp
                  omega
              · rw [if_neg (by omega), decide_eq_false (show ¬ (σ b).k ≤ o by omega), decide_eq_false e1]
                simp [spt_add, Nat.add_assoc]
                omega
        · cases hv

theorem indexAddr_sound (g : Gam σ B h w) (hT : TysOk P C) {x i v : AV} (hx : x.ok σ h.c) (hv : indexAddrA C t x i = some v) : Gives P σ B h w (Instr.indexAt t (conc σ x) (conc σ i)) (v, h) := by
  unfold indexAddrA at hv
  cases ht : C.tys.get t with
  | none => rw [ht] at hv; cases hv
  | some ti =>
    rw [ht] at hv
    have hu := (hT t ti ht).desc
    dsimp only at hv
    split at hv
    · rename_i n e k kn hd
      rw [hd] at hu
      split at hv
      · rename_i te b off he
        obtain ⟨hb, hv⟩ := cond_none hv
        cases hv
        have hlt : kn < n := Nat.le_of_ble_eq_true hb
        have hte := hT e te he
        simp only [AV.ok] at hx
        refine gives_same g ?_ (by simpa [AV.ok] using hx)
        simp [Instr.indexAt, asIntOf, run_underlying hu, conc, Instr.sureAddr, hlt, run_size hte, spt_add, Nat.add_assoc]
      · cases hv
    · rename_i e k kn hd
      rw [hd] at hu
      split at hv
      · rename_i te b off len rest cap z he
        obtain ⟨hb, hv⟩ := cond_none hv
        cases hv
        have hlt : kn < len := Nat.le_of_ble_eq_true hb
        have hte := hT e te he
        have hso := slice_off (h := h) hx (by omega)
        simp only [AV.ok] at hx
        refine gives_same g ?_ (by simpa [AV.ok] using hx.1)
        simp only [conc, hso]
        simp [Instr.indexAt, asIntOf, run_underlying hu, hlt, run_size hte, spt_add, Nat.add_assoc]
      · cases hv
    · cases hv

theorem fieldAddr_sound (g : Gam σ B h w) (hT : TysOk P C) {x v : AV} {f : Nat} (hx : x.ok σ h.c) (hv : fieldAddrA C t x f = some v) : Gives P σ B h w (Instr.fieldAt t (conc σ x) f) (v, h) := by
  unfold fieldAddrA at hv
  cases ht : C.tys.get t with
  | none => rw [ht] at hv; cases hv
  | some ti =>
    rw [ht] at hv
    have hu := (hT t ti ht).desc
    dsimp only at hv
    split at hv
    · rename_i fs b off hd
      rw [hd] at hu
      cases hf : fs[f]? with
      | none => rw [hf] at hv; cases hv
      | some fd =>
        rw [hf] at hv
        dsimp only at hv
        cases hft : C.tys.get fd.type with
        | none => rw [hft] at hv; cases hv
        | some tf =>
          rw [hft] at hv
          obtain ⟨hb, hv⟩ := cond_none hv
          cases hv
          have hlt : 0 < tf.size := Nat.le_of_ble_eq_true hb
          have htf := hT _ tf hft
          simp only [AV.ok] at hx
          refine gives_same g ?_ (by simpa [AV.ok] using hx)
          simp [Instr.fieldAt, run_underlying hu, hf, conc, Instr.sureAddr, fieldPlace, run_size htf, spt_add, Nat.add_assoc, Nat.ne_of_gt hlt]
    · cases hv

theorem part_sound (_g : Gam σ B h w) (hT : TysOk P C) {cs : List AV} {v : AV} {off : Nat} (hcs : oks σ h.c cs) (hv : partA C t cs off = some v) :
    (part t (concs σ cs).toArray off).run P w = .ok (conc σ v) w ∧ v.ok σ h.c := by
  unfold partA at hv
  cases ht : C.tys.get t with
  | none => rw [ht] at hv; cases hv
  | some ti =>
    rw [ht] at hv
    dsimp only at hv
    have hk := hT t ti ht
    cases hd : isAggD ti.desc with
    | true =>
      rw [hd, cond_true] at hv
      obtain ⟨hb, hv⟩ := cond_none hv
      cases hv
      refine ⟨?_, ?_⟩
      · simp only [part, Sem.run_bind, run_isAgg hk, Result.andThen_ok, hd, if_true, run_size hk, Sem.run_pure]
        have e1 : (concs σ cs).toArray.extract off (off + ti.size) = (concs σ ((cs.drop off).take ti.size)).toArray := by
          apply Array.ext'
          simp [concs_eq, List.map_take, List.map_drop]
        rw [e1]
        simp [conc]
      · simp only [AV.ok, oks_iff]
        intro u hu
        exact (oks_iff _ _ _).1 hcs u (List.mem_of_mem_drop (List.mem_of_mem_take hu))
    | false =>
      rw [hd, cond_false] at hv
      refine ⟨?_, (oks_iff _ _ _).1 hcs v (List.mem_of_getElem? hv)⟩
      simp only [part, Sem.run_bind, run_isAgg hk, Result.andThen_ok, hd]
      have : (concs σ cs).toArray[off]? = some (conc σ v) := by rw [List.getElem?_toArray, concs_get, hv]; rfl
      rw [this]
      rfl

theorem field_sound (g : Gam σ B h w) (hT : TysOk P C) {x v : AV} {f : Nat} (hx : x.ok σ h.c) (hv : fieldA C t x f = some v) : Gives P σ B h w (Instr.field t (conc σ x) f) (v, h) := by
  unfold fieldA at hv
  cases ht : C.tys.get t with
  | none => rw [ht] at hv; cases hv
  | some ti =>
    rw [ht] at hv
    have hu := (hT t ti ht).desc
    dsimp only at hv
    split at hv
    · rename_i fs hd
      rw [hd] at hu
      split at hv
      · rename_i fd cs hf
        simp only [AV.ok] at hx
        obtain ⟨h1, h2⟩ := part_sound (P := P) (w := w) g hT hx hv
        refine gives_same g ?_ h2
        simp [Instr.field, run_underlying hu, hf, conc, asAgg, h1]
      · rename_i fd cs hf
        obtain ⟨h1, h2⟩ := part_sound (P := P) (w := w) g hT (oks_litCells _ _ _) hv
        refine gives_same g ?_ h2
        rw [concs_litCells] at h1
        simp [Instr.field, run_underlying hu, hf, conc, asAgg, h1]
      · cases hv
    · cases hv

theorem index_sound (g : Gam σ B h w) (hT : TysOk P C) {x i v : AV} (hx : x.ok σ h.c) (hv : indexA C t x i = some v) : Gives P σ B h w (Instr.index t (conc σ x) (conc σ i)) (v, h) := by
  unfold indexA at hv
  cases ht : C.tys.get t with
  | none => rw [ht] at hv; cases hv
  | some ti =>
    rw [ht] at hv
    have hu := (hT t ti ht).desc
    dsimp only at hv
    split at hv
    · rename_i n e k kn hd
      rw [hd] at hu
      cases he : C.tys.get e with
      | none => rw [he] at hv; cases hv
      | some te =>
        rw [he] at hv
        dsimp only at hv
        have hte := hT e te he
        obtain ⟨hb, hv⟩ := cond_none hv
        have hlt : kn < n := Nat.le_of_ble_eq_true hb
        split at hv
        · rename_i cs _
          have hx' : oks σ h.c cs := by simpa [AV.ok] using hx
          obtain ⟨h1, h2⟩ := part_sound (P := P) (w := w) g hT hx' hv
          refine gives_same g ?_ h2
          simp [Instr.index, asIntOf, run_underlying hu, conc, hlt, run_size hte, h1]
        · obtain ⟨h1, h2⟩ := part_sound (P := P) (w := w) g hT (oks_litCells _ _ _) hv
          refine gives_same g ?_ h2
          rw [concs_litCells] at h1
          simp [Instr.index, asIntOf, run_underlying hu, conc, hlt, run_size hte, h1]
        · cases hv
    · rename_i k kn hd
      rw [hd] at hu
      split at hv
      · rename_i s
        split at hv
        · rename_i b hs
          cases hv
          refine gives_same g ?_ (lit_ok _ _ _)
          simp [Instr.index, asIntOf, run_underlying hu, conc, hs]
        · cases hv
      · cases hv
    · cases hv
end
end Go.Proofs.Abs
