import Derived.Test.YtpioenfglmimgaaS2
import Derived.WalkKit
import Derived.Orders
import Derived.LoopN
import Derived.Laws.CopyRow
import Derived.Laws.Tables
import Derived.Laws.Rows
import Derived.Great.BuildSlice
import Derived.Laws.MakeOwn
import Derived.Laws.Append
import Derived.Laws.AppendOwn
import Derived.Lib.Strings
import Derived.WalkSpells
import Derived.Lib.SliceRun
namespace Go.Proofs.Abs
open Go Go.RowKit
set_option linter.unusedSimpArgs false
set_option linter.unusedVariables false
/-! The evaluator is sound, part 3: slices, indices, numbers. -/
section
variable {P : Program} {C : Ctx} {σ : Nat → Loc} {B : Keep} {h : Hp} {w : World} {t : TypeId} {ti : TI} {r : AV × Hp}

theorem lit_ok (σ : Nat → Loc) (c : Nat) (v : Value) : AV.ok σ c (.lit v) := by simp [AV.ok]

theorem build_sound (g : Gam σ B h w) (hT : TysOk P C) {ps : List (Nat × AV)} {v : AV} (hl : ∀ x ∈ ps, x.2.ok σ h.c) (hv : buildA C t ps = some v) (qs : Array (Nat × Value))
    (hq : qs.toList = ps.map fun x => (x.1, conc σ x.2)) : Gives P σ B h w (Instr.build t qs) (v, h) := by
  cases ht : C.tys.get t with
  | none => unfold buildA at hv; rw [ht] at hv; cases hv
  | some ti =>
    obtain ⟨cs, rfl, hb⟩ := built_sound (σ := σ) hT ht hv
    refine gives_same g ?_ ?_
    · rw [run_build w t qs _ (by rw [hq]; exact hb)]; simp [conc]
    · -- the names
      have hz : oks σ h.c (cellsOf (.lit ti.zero)) := cellsOf_ok (by simp [AV.ok])
      have key : ∀ (place : Nat → Option (Nat × Nat)) (n : Nat) (ps : List (Nat × AV)) (cells out : List AV), (∀ x ∈ ps, x.2.ok σ h.c) → cells.length = n → oks σ h.c cells → fillA place n cells ps = some out → oks σ h.c out := by
        intro place n ps
        induction ps with
        | nil => intro cells out _ _ hc h; cases h; exact hc
        | cons p ps ih =>
          intro cells out hp hn hc hf
          change fillOne (fun cells => fillA place n cells ps) n cells (cellsOf p.2) (place p.1) = some out at hf
          cases hpl : place p.1 with
          | none => rw [hpl] at hf; cases hf
          | some x =>
            obtain ⟨off, size⟩ := x
            rw [hpl] at hf
            obtain ⟨hb, hf⟩ := cond_none hf
            rw [Bool.and_eq_true] at hb
            have h2 := Nat.le_of_ble_eq_true hb.2
            refine ih _ out (fun x hx => hp x (List.mem_cons_of_mem _ hx)) ?_ ?_ hf
            · rw [putAt_eq _ _ _ (by omega)]; simp only [List.length_append, List.length_take, List.length_drop]; omega
            · rw [putAt_eq _ _ _ (by omega), oks_iff]
              intro v hv
              have hpc := (oks_iff _ _ _).1 (cellsOf_ok (hp p (List.mem_cons_self)))
              have hcc := (oks_iff _ _ _).1 hc
              rcases List.mem_append.1 hv with hv | hv
              · rcases List.mem_append.1 hv with hv | hv
                · exact hcc v (List.mem_of_mem_take hv)
                · exact hpc v hv
              · exact hcc v (List.mem_of_mem_drop hv)
      unfold buildA at hv
      rw [ht] at hv
      dsimp only at hv
      cases hd : ti.desc <;> rw [hd] at hv <;> try (cases hv; done)
      case array n e =>
        dsimp only at hv
        cases he : C.tys.get e with
        | none => rw [he] at hv; cases hv
        | some te =>
          rw [he] at hv
          dsimp only at hv
          cases hf : fillA (fun i => some (i * te.size, te.size)) (cellsOf (.lit ti.zero)).length (cellsOf (.lit ti.zero)) ps with
          | none => rw [hf] at hv; cases hv
          | some cs' => rw [hf] at hv; cases hv; exact key _ _ _ _ _ hl rfl hz hf
      case struct fs =>
        dsimp only at hv
        cases hf : fillA (placeOf C fs) (cellsOf (.lit ti.zero)).length (cellsOf (.lit ti.zero)) ps with
        | none => rw [hf] at hv; cases hv
        | some cs' => rw [hf] at hv; cases hv; exact key _ _ _ _ _ hl rfl hz hf

theorem fillA_ok {σ : Nat → Loc} {c : Nat} {place : Nat → Option (Nat × Nat)} {n : Nat} : ∀ {ps : List (Nat × AV)} {cells out : List AV}, (∀ x ∈ ps, x.2.ok σ c) → cells.length = n → oks σ c cells → fillA place n cells ps = some out → oks σ c out ∧ out.length = n := by
  intro ps
  induction ps with
  | nil => intro cells out _ hn hc h; cases h; exact ⟨hc, hn⟩
  | cons p ps ih =>
    intro cells out hp hn hc hf
    change fillOne (fun cells => fillA place n cells ps) n cells (cellsOf p.2) (place p.1) = some out at hf
    cases hpl : place p.1 with
    | none => rw [hpl] at hf; cases hf
    | some x =>
      obtain ⟨off, size⟩ := x
      rw [hpl] at hf
      obtain ⟨hb, hf⟩ := cond_none hf
      rw [Bool.and_eq_true] at hb
      have h2 := Nat.le_of_ble_eq_true hb.2
      refine ih (fun x hx => hp x (List.mem_cons_of_mem _ hx)) ?_ ?_ hf
      · rw [putAt_eq _ _ _ (by omega)]; simp only [List.length_append, List.length_take, List.length_drop]; omega
      · rw [putAt_eq _ _ _ (by omega), oks_iff]
        intro v hv
        have hpc := (oks_iff _ _ _).1 (cellsOf_ok (hp p (List.mem_cons_self)))
        have hcc := (oks_iff _ _ _).1 hc
        rcases List.mem_append.1 hv with hv | hv
        · rcases List.mem_append.1 hv with hv | hv
          · exact hcc v (List.mem_of_mem_take hv)
          · exact hpc v hv
        · exact hcc v (List.mem_of_mem_drop hv)

theorem buildSlice_sound (g : Gam σ B h w) (hT : TysOk P C) {len : Nat} {ps : List (Nat × AV)} (hl : ∀ x ∈ ps, x.2.ok σ h.c) (hv : buildSliceA C h t len ps = some r) (qs : Array (Nat × Value))
    (hq : qs.toList = ps.map fun x => (x.1, conc σ x.2)) : Gives P σ B h w (Instr.buildSlice t len qs) r := by
  unfold buildSliceA at hv
  cases ht : C.tys.get t with
  | none => rw [ht] at hv; cases hv
  | some ti =>
    rw [ht] at hv
    dsimp only at hv
    cases hd : ti.desc <;> rw [hd] at hv <;> try (cases hv; done)
    case slice e =>
      dsimp only at hv
      cases he : C.tys.get e with
      | none => rw [he] at hv; cases hv
      | some te =>
        rw [he] at hv
        dsimp only at hv
        obtain ⟨hb, hv⟩ := cond_none hv
        rw [Bool.and_eq_true] at hb
        have hb1 := Nat.le_of_ble_eq_true hb.1
        have hb2 : 0 < te.size := Nat.le_of_ble_eq_true hb.2
        have hte := hT e te he
        obtain ⟨ie, hie, hs, _, hz⟩ := hte.info
        have hu : P.underlying t = some (.slice e) := by rw [(hT t ti ht).desc, hd]
        cases hf : fillA (fun i => some (i * te.size, te.size)) (len * te.size) (repl (cellsOf (.lit te.zero)) len) ps with
        | none => rw [hf] at hv; cases hv
        | some cs =>
          rw [hf] at hv
          cases hv
          have hzl : (cellsOf (.lit te.zero)).length = te.size := by rw [← concs_length σ, cellsOf_conc]; simp [conc, hte.zsz]
          have hzt : oks σ h.c (repl (cellsOf (.lit te.zero)) len) := repl_ok (cellsOf_ok (by simp [AV.ok])) len
          have hlen : (repl (cellsOf (.lit te.zero)) len).length = len * te.size := by rw [repl_length, hzl]
          have hfs := fill_sound σ (fun i => some (i * te.size, te.size)) ps _ _ _ cs (fun _ _ hx => hx) hlen hf
          rw [repl_made, hte.zsz] at hfs
          refine gives_new (kk := 0) (arr := (concs σ cs).toArray) g (fillA_ok hl hlen hzt hf).1 (fun i u hu => by simpa using hu) (fun h0 => absurd h0 (by omega)) ?_ (by simp [AV.ok])
          by_cases h0 : len = 0
          · subst h0
            have hcs : cs = [] := List.eq_nil_of_length_eq_zero (by have := (fillA_ok hl hlen hzt hf).2; omega)
            subst hcs
            simp only [Nat.zero_mul] at hfs
            simp [Instr.buildSlice, run_underlying hu, sizeOf, typeInfo, hie, conc, upd_same, newRow, concs, spt_lit]
            rw [hq, hs]
            have e1 : madeCells te.zero.cells 0 = #[] := by simp [madeCells]
            rw [e1] at hfs
            rw [show Array.range 0 = #[] from by apply Array.ext <;> simp, Array.map_empty, hfs]
            simp [concs]
          · rw [run_buildSlice w t e len qs (concs σ cs).toArray ie te.zero hu hie hz (by rw [hs]; omega) (by rw [hs]; intro hm; rcases Nat.mul_eq_zero.1 hm with h1 | h1 <;> omega) (by rw [hq, hs]; exact hfs)]
            simp [conc, upd_same, spt_lit]

theorem natOf_some {v : AV} {m n : Nat} (hv : natOf? v m = some n) : n ≤ m ∧ ∃ k, v = .lit (.int k (n : Int)) := by
  unfold natOf? at hv
  split at hv
  · rename_i k n'
    obtain ⟨hb, hv⟩ := cond_none hv
    cases hv
    exact ⟨Nat.le_of_ble_eq_true hb, k, rfl⟩
  · cases hv

theorem makeSlice_sound (g : Gam σ B h w) (hT : TysOk P C) {l c : AV} (hv : makeSliceA C h t l c = some r) : Gives P σ B h w (Instr.makeSlice t (conc σ l) (conc σ c)) r := by
  unfold makeSliceA at hv
  cases ht : C.tys.get t with
  | none => rw [ht] at hv; cases hv
  | some ti =>
    rw [ht] at hv
    dsimp only at hv
    cases hd : ti.desc <;> rw [hd] at hv <;> try (cases hv; done)
    case slice e =>
      dsimp only at hv
      cases he : C.tys.get e with
      | none => rw [he] at hv; cases hv
      | some te =>
        rw [he] at hv
        dsimp only at hv
        cases hc : natOf? c 1048576 with
        | none => rw [hc] at hv; cases hv
        | some cn =>
          rw [hc] at hv
          dsimp only at hv
          cases hl : natOf? l cn with
          | none => rw [hl] at hv; cases hv
          | some ln =>
            rw [hl] at hv
            dsimp only at hv
            obtain ⟨hb, hv⟩ := cond_none hv
            cases hv
            rw [Bool.and_eq_true] at hb
            have hb2 : 0 < te.size := Nat.le_of_ble_eq_true hb.1
            have hb3 := Nat.le_of_ble_eq_true hb.2
            obtain ⟨h1, kc, rfl⟩ := natOf_some hc
            obtain ⟨h2, kl, rfl⟩ := natOf_some hl
            have hte := hT e te he
            obtain ⟨ie, hie, hs, hby, hz⟩ := hte.info
            have hu : P.underlying t = some (.slice e) := by rw [(hT t ti ht).desc, hd]
            have hbytes : (ie.bytes : Int) * (cn : Int) ≤ 281474976710656 := by
              rw [hby]
              have : te.bytes * cn ≤ 1024 * 1048576 := Nat.mul_le_mul hb3 h1
              have h3 : ((te.bytes * cn : Nat) : Int) ≤ ((281474976710656 : Nat) : Int) := Int.ofNat_le.2 (by omega)
              rw [Int.natCast_mul] at h3
              exact h3
            have hr := run_make w t e ie te.zero hu hie hz kl kc (ln : Int) (cn : Int) (by omega) (by omega) hbytes (by omega)
            have hm : (concs σ (repl (cellsOf (.lit te.zero)) cn)).toArray = madeCells te.zero.cells (cn * te.size) := by rw [repl_made, hte.zsz]
            have hz2 : oks σ h.c (cellsOf (.lit te.zero)) := cellsOf_ok (lit_ok _ _ _)
            refine gives_new (kk := 0) (arr := madeCells te.zero.cells (cn * te.size)) g (repl_ok hz2 cn) (fun i u hu => by rw [← hm]; simpa using hu) (fun h0 => absurd h0 (by omega)) ?_ (by simp [AV.ok])
            simp only [conc]
            rw [hr, hs]
            simp [upd_same, spt_lit]
end
end Go.Proofs.Abs
