import Derived.Test.YtpioenfglmimgaaS4
import Derived.WalkKit
import Derived.Orders
import Derived.LoopN
import Derived.Laws.CopyRow
import Derived.Laws.Tables
import Derived.Laws.Rows
import Derived.Great.BuildSlice
import Derived.Laws.MakeOwn
import Derived.Laws.Append
import Derived.Laws.AppendOwn
import Derived.Lib.Strings
import Derived.WalkSpells
import Derived.Lib.SliceRun
namespace Go.Proofs.Abs
open Go Go.RowKit
set_option linter.unusedSimpArgs false
set_option linter.unusedVariables false
/-! The evaluator is sound, part 5: numbers, comparisons, lengths, append, copy. -/
section
variable {P : Program} {C : Ctx} {σ : Nat → Loc} {B : Keep} {h : Hp} {w : World} {t : TypeId} {ti : TI} {r : AV × Hp}

theorem pureV_some {s : Sem Value} {v : AV} (hv : pureV s = some v) : ∃ x, v = .lit x ∧ ∀ w, s.run P w = .ok x w := by
  cases s <;> try (cases hv; done)
  case pure x => cases hv; exact ⟨x, rfl, fun _ => rfl⟩

theorem addF_eq (a b : Int) : addF a b = a + b := by cases a <;> cases b <;> rfl
theorem subF_eq (a b : Int) : subF a b = a - b := by
  cases a with
  | ofNat a =>
    cases b with
    | ofNat b =>
      show cond (Nat.ble b a) (Int.ofNat (Nat.sub a b)) (Int.negSucc (Nat.sub (Nat.sub b a) 1)) = _
      cases hb : Nat.ble b a with
      | true =>
        have := Nat.le_of_ble_eq_true hb
        show Int.ofNat (a - b) = Int.ofNat a - Int.ofNat b
        simp only [Int.ofNat_eq_natCast]; omega
      | false =>
        have : ¬ b ≤ a := fun hh => by rw [Nat.ble_eq_true_of_le hh] at hb; cases hb
        show Int.negSucc ((b - a) - 1) = Int.ofNat a - Int.ofNat b
        rw [Int.negSucc_eq]
        simp only [Int.ofNat_eq_natCast]; omega
    | negSucc b => rfl
  | negSucc a => rfl
theorem blt_eq (a b : Nat) : Nat.blt a b = decide (a < b) := by
  cases hb : Nat.blt a b with
  | true => exact (decide_eq_true (Nat.le_of_ble_eq_true hb)).symm
  | false => exact (decide_eq_false (fun hh => by rw [show Nat.blt a b = Nat.ble (a + 1) b from rfl, Nat.ble_eq_true_of_le hh] at hb; cases hb)).symm
theorem ltF_eq (a b : Int) : ltF a b = decide (a < b) := by
  cases a with
  | ofNat a =>
    cases b with
    | ofNat b => show Nat.blt a b = _; rw [blt_eq]; simp
    | negSucc b => show false = _; symm; apply decide_eq_false; rw [Int.negSucc_eq]; simp only [Int.ofNat_eq_natCast]; omega
  | negSucc a =>
    cases b with
    | ofNat b => show true = _; symm; apply decide_eq_true; rw [Int.negSucc_eq]; simp only [Int.ofNat_eq_natCast]; omega
    | negSucc b => show Nat.blt b a = _; rw [blt_eq, Int.negSucc_eq, Int.negSucc_eq]; congr 1; apply propext; omega
theorem eqF_eq (a b : Int) : eqF a b = (a == b) := by
  have hd : ∀ (x y : Nat), Nat.beq x y = decide (x = y) := fun x y => by
    by_cases e : x = y
    · subst e; simp [Nat.beq_refl]
    · rw [decide_eq_false e]
      cases hb : Nat.beq x y with
      | false => rfl
      | true => exact absurd (Nat.eq_of_beq_eq_true hb) e
  rw [show (a == b) = decide (a = b) from by by_cases e : a = b <;> simp [e]]
  cases a with
  | ofNat a =>
    cases b with
    | ofNat b => show Nat.beq a b = _; rw [hd]; congr 1; apply propext; simp only [Int.ofNat_eq_natCast]; omega
    | negSucc b => show false = _; symm; apply decide_eq_false; simp
  | negSucc a =>
    cases b with
    | ofNat b => show false = _; symm; apply decide_eq_false; simp
    | negSucc b => show Nat.beq a b = _; rw [hd]; simp
theorem wrapF_eq (k : IntKind) (r : Int) : wrapF k r = k.wrap r := by
  cases k <;> try rfl
  case i64 =>
    cases r with
    | ofNat n =>
      show cond (Nat.blt n 9223372036854775808) (Int.ofNat n) (IntKind.wrap .i64 (.ofNat n)) = _
      cases hb : Nat.blt n 9223372036854775808 with
      | true =>
        have : n < 9223372036854775808 := by rw [blt_eq] at hb; exact of_decide_eq_true hb
        rw [IntKind.wrap_i64]
        simp only [cond_true, Int.ofNat_eq_natCast]; omega
      | false => rfl
    | negSucc n =>
      show cond (Nat.blt n 9223372036854775808) (Int.negSucc n) (IntKind.wrap .i64 (.negSucc n)) = _
      cases hb : Nat.blt n 9223372036854775808 with
      | true =>
        have : n < 9223372036854775808 := by rw [blt_eq] at hb; exact of_decide_eq_true hb
        rw [IntKind.wrap_i64]
        show Int.negSucc n = _
        have e := Int.negSucc_eq n
        omega
      | false => rw [cond_false]

theorem intA_sound {op : BinOp} {k k' : IntKind} {a b : Int} {v : AV} (hv : intA op t k a k' b = some v) : ∃ x, v = .lit x ∧ ∀ w, (binOp op t (.int k a) (.int k' b)).run P w = .ok x w := by
  unfold intA at hv
  split at hv <;> first | exact pureV_some hv | (cases hv; refine ⟨_, rfl, fun w => ?_⟩; simp [binOp, Op.intArith, Op.intCmp, addF_eq, subF_eq, ltF_eq, eqF_eq, wrapF_eq, bne, ← decide_not, Int.not_lt])

theorem eqD_sound {x y : AV} {b : Bool} (ht : P.underlying t = some ti.desc) (hv : eqD ti.desc x y = some b) (w : World) : (Op.equal t (conc σ x) (conc σ y)).run P w = .ok b w := by
  unfold eqD at hv
  split at hv <;> first | (cases hv; done) | (rename_i hd; rw [hd] at ht; cases hv; refine (show ∀ d, (Op.equalIn (d + 1) t _ _).run P w = .ok _ w from fun d => ?_) 9999; simp [Op.equalIn, run_underlying ht, conc])

theorem guard_ok (op : BinOp) (x y : Operand) (a b : Value) (h1 : ¬ (a = .nilIface ∧ b = .nilIface)) (h2 : ∀ p q, ¬ (a = .agg p ∧ b = .agg q)) (w : World) : (eqGuard op t x y a b).run P w = .ok () w := by
  unfold eqGuard
  cases a <;> cases b <;> first | (exact absurd ⟨rfl, rfl⟩ h1) | (exact absurd ⟨rfl, rfl⟩ (h2 _ _)) | (cases op <;> simp)

theorem eqA_sound {op : BinOp} {x y : AV} {v : AV} (hT : TysOk P C) (hv : eqA op x y (C.tys.get t) = some v) (hne : ∀ m, op ≠ m ∨ True) (w : World) :
    ∃ b, v = .lit (.bool b) ∧ (op = .eql ∨ op = .neq) ∧ (Op.equal t (conc σ x) (conc σ y)).run P w = .ok (if op = .eql then b else !b) w := by
  cases ht : C.tys.get t with
  | none => rw [ht] at hv; cases hv
  | some ti =>
    rw [ht] at hv
    unfold eqA at hv
    dsimp only at hv
    cases hd : eqD ti.desc x y with
    | none => rw [hd] at hv; cases hv
    | some b =>
      rw [hd] at hv
      have he := eqD_sound (σ := σ) (hT t ti ht).desc hd w
      unfold eqOp at hv
      cases op <;> try (cases hv; done)
      all_goals (cases hv; exact ⟨_, rfl, by simp, by simp [he]⟩)

theorem eqD_shape {d : TypeDesc} {x y : AV} {b : Bool} (hv : eqD d x y = some b) :
    ¬ (conc σ x = .nilIface ∧ conc σ y = .nilIface) ∧ (∀ p q, ¬ (conc σ x = .agg p ∧ conc σ y = .agg q)) ∧
      (∀ op w, (op = .eql → (binOp op t (conc σ x) (conc σ y)).run P w = ((Op.equal t (conc σ x) (conc σ y)).run P w).andThen fun c w => .ok (.bool c) w) ∧
        (op = .neq → (binOp op t (conc σ x) (conc σ y)).run P w = ((Op.equal t (conc σ x) (conc σ y)).run P w).andThen fun c w => .ok (.bool (!c)) w)) := by
  unfold eqD at hv
  split at hv <;> first | (cases hv; done) | (refine ⟨by simp [conc], by simp [conc], fun op w => ⟨fun e => ?_, fun e => ?_⟩⟩ <;> subst e <;> simp [conc, binOp])

theorem aggO_sound (σ : Nat → Loc) {c : Nat} {x : AV} {xs : List AV} (hv : aggO x = some xs) : conc σ x = .agg (concs σ xs).toArray ∧ (x.ok σ c → oks σ c xs) := by
  unfold aggO at hv
  split at hv
  · cases hv; exact ⟨by simp [conc], fun h => by simpa [AV.ok] using h⟩
  · cases hv; exact ⟨by rw [concs_litCells]; simp [conc], fun _ => oks_litCells _ _ _⟩
  · cases hv
theorem eqB_sound {d : TypeDesc} {x y : AV} {b : Bool} (ht : P.underlying t = some d) (hv : eqB d x y = some b) (m : Nat) (w : World) : (Op.equalIn (m + 1) t (conc σ x) (conc σ y)).run P w = .ok b w := by
  unfold eqB at hv
  split at hv
  · rename_i k' k a k2 b'
    rcases hk : (k == k2) with _ | _
    · rw [hk] at hv; cases hv
    · rw [hk] at hv
      have hk2 := eq_of_beq hk
      subst hk2
      cases hv
      rw [eqF_eq]
      simp only [conc]
      exact run_equalIn_int w m t k k' a b' ht
  · rename_i a b'
    cases hv
    simp only [conc]
    rw [run_equalIn_string w m t a b' ht, ByteArray.toList_eq, ByteArray.toList_eq]
  · unfold eqD at hv
    split at hv <;> first | (cases hv; done) | (cases hv; simp [Op.equalIn, run_underlying ht, conc])
theorem eqFs_sound (g : Gam σ B h w) (hT : TysOk P C) {step : TypeId → AV → AV → Option Bool} {n : Nat} (hs : ∀ t a b r, step t a b = some r → a.ok σ h.c → b.ok σ h.c → ∀ d, (Op.equalIn (d + n) t (conc σ a) (conc σ b)).run P w = .ok r w)
    {xs ys : List AV} (hx : oks σ h.c xs) (hy : oks σ h.c ys) (d : Nat) : ∀ (l : List Field) (r : Bool), eqFs step C xs ys l = some r → (Op.eqFields (d + n) (concs σ xs).toArray (concs σ ys).toArray l).run P w = .ok r w := by
  intro l
  induction l with
  | nil => intro r hv; cases hv; simp [Op.eqFields]
  | cons f l ih =>
    intro r hv
    change cond (f.name == "_") none (eqNext (eqFs step C xs ys l) (eqTwo step f.type (partA C f.type xs f.offset) (partA C f.type ys f.offset))) = some r at hv
    cases hn : (f.name == "_") with
    | true => rw [hn] at hv; cases hv
    | false =>
      rw [hn] at hv
      change eqNext (eqFs step C xs ys l) (eqTwo step f.type (partA C f.type xs f.offset) (partA C f.type ys f.offset)) = some r at hv
      have hn' : f.name ≠ "_" := by simpa using hn
      cases h1 : partA C f.type xs f.offset with
      | none => rw [h1] at hv; cases hv
      | some a =>
        cases h2 : partA C f.type ys f.offset with
        | none => rw [h1, h2] at hv; cases hv
        | some b =>
          rw [h1, h2] at hv
          obtain ⟨p1, o1⟩ := part_sound g hT hx h1
          obtain ⟨p2, o2⟩ := part_sound g hT hy h2
          change eqNext (eqFs step C xs ys l) (step f.type a b) = some r at hv
          cases h3 : step f.type a b with
          | none => rw [h3] at hv; cases hv
          | some c =>
            rw [h3] at hv
            have h4 := hs _ _ _ _ h3 o1 o2 d
            simp only [Op.eqFields]
            rw [if_pos hn']
            simp only [Sem.run_bind, p1, p2, h4, Result.andThen_ok]
            cases c
            · cases hv
              simp
            · simpa using ih r hv
theorem eqV_sound (g : Gam σ B h w) (hT : TysOk P C) : ∀ (n : Nat) (t : TypeId) (a b : AV) (r : Bool), eqV C n t a b = some r → a.ok σ h.c → b.ok σ h.c → ∀ d, (Op.equalIn (d + n) t (conc σ a) (conc σ b)).run P w = .ok r w := by
  intro n
  induction n with
  | zero => intro t a b r hv; cases hv
  | succ n ih =>
    intro t a b r hv ha hb d
    change eqT (eqV C n) C a b (C.tys.get t) = some r at hv
    cases ht : C.tys.get t with
    | none => rw [ht] at hv; cases hv
    | some ti =>
      rw [ht] at hv
      have hu := (hT _ _ ht).desc
      unfold eqT at hv
      dsimp only at hv
      split at hv
      · rename_i fs hd
        rw [hd] at hu
        unfold eqS at hv
        split at hv
        · rename_i xs ys hxs hys
          cases hc : ti.cmp with
          | false => rw [hc] at hv; cases hv
          | true =>
            rw [hc] at hv
            obtain ⟨c1, k1⟩ := aggO_sound σ (c := h.c) hxs
            obtain ⟨c2, k2⟩ := aggO_sound σ (c := h.c) hys
            have hf : P.fieldsOf t = fs := by unfold Program.fieldsOf; rw [hu]
            rw [c1, c2]
            have := run_equalIn_struct w (d + n) t (concs σ xs).toArray (concs σ ys).toArray (by rw [hf]; exact hu) ((hT _ _ ht).eqs hc).1
            rw [show d + (n + 1) = d + n + 1 from rfl, this, hf]
            exact eqFs_sound g hT ih (k1 ha) (k2 hb) d fs.toList r hv
        · cases hv
      · exact eqB_sound hu hv (d + n) w
theorem binL_sound (g : Gam σ B h w) (hT : TysOk P C) {op : BinOp} {x y : AV} {v : AV} (X Y : Operand) (hv : binL C op t x y = some v) :
    Gives P σ B h w (do eqGuard op t X Y (conc σ x) (conc σ y); binOp op t (conc σ x) (conc σ y)) (v, h) := by
  have hlit : ∀ a b v, (¬ (a = .nilIface ∧ b = .nilIface)) → (∀ p q, ¬ (a = .agg p ∧ b = .agg q)) → (∃ x, v = .lit x ∧ ∀ w, (binOp op t a b).run P w = .ok x w) →
      Gives P σ B h w (do eqGuard op t X Y a b; binOp op t a b) (v, h) := by
    intro a b v h1 h2 ⟨x, hx, hr⟩
    subst hx
    refine gives_same g ?_ (lit_ok _ _ _)
    simp [guard_ok op X Y a b h1 h2, hr, conc]
  have heq : ∀ x y v, eqA op x y (C.tys.get t) = some v → Gives P σ B h w (do eqGuard op t X Y (conc σ x) (conc σ y); binOp op t (conc σ x) (conc σ y)) (v, h) := by
    intro x y v hv
    obtain ⟨b, rfl, hop, he⟩ := eqA_sound (σ := σ) hT hv (fun _ => .inr trivial) w
    cases ht : C.tys.get t with
    | none => rw [ht] at hv; cases hv
    | some ti =>
      rw [ht] at hv
      unfold eqA at hv
      dsimp only at hv
      cases hd : eqD ti.desc x y with
      | none => rw [hd] at hv; cases hv
      | some b' =>
        obtain ⟨s1, s2, s3⟩ := eqD_shape (P := P) (t := t) (σ := σ) hd
        refine gives_same g ?_ (lit_ok _ _ _)
        rw [Sem.run_bind, guard_ok op X Y _ _ s1 s2, Result.andThen_ok]
        rcases hop with e | e
        · rw [(s3 op w).1 e, he, if_pos e]; rfl
        · rw [(s3 op w).2 e, he, if_neg (by rw [e]; simp)]; simp [conc]
  unfold binL at hv
  split at hv
  · rename_i a b
    unfold litA at hv
    split at hv
    · exact hlit _ _ _ (by simp [conc]) (by simp [conc]) (intA_sound hv)
    · exact hlit _ _ _ (by simp [conc]) (by simp [conc]) (pureV_some hv)
    · exact hlit _ _ _ (by simp [conc]) (by simp [conc]) (pureV_some hv)
    · exact hlit _ _ _ (by simp [conc]) (by simp [conc]) (pureV_some hv)
    · exact heq _ _ _ hv
  · exact heq _ _ _ hv

theorem bin_sound (g : Gam σ B h w) (hT : TysOk P C) {op : BinOp} {x y : AV} {v : AV} (hx : x.ok σ h.c) (hy : y.ok σ h.c) (X Y : Operand) (hv : binA C op t x y = some v) :
    Gives P σ B h w (do eqGuard op t X Y (conc σ x) (conc σ y); binOp op t (conc σ x) (conc σ y)) (v, h) := by
  unfold binA binG at hv
  split at hv
  · rename_i xs ys hxs hys
    cases he : eqV C 6 t x y with
    | none => rw [he] at hv; cases hv
    | some b =>
      rw [he] at hv
      have hq := eqV_sound g hT 6 t x y b he hx hy 9994
      obtain ⟨c1, _⟩ := aggO_sound σ (c := h.c) hxs
      obtain ⟨c2, _⟩ := aggO_sound σ (c := h.c) hys
      have hcmp : P.eqGuardType P.depth t = false := by
        change eqT (eqV C 5) C x y (C.tys.get t) = some b at he
        cases ht : C.tys.get t with
        | none => rw [ht] at he; cases he
        | some ti =>
          rw [ht] at he
          unfold eqT at he
          dsimp only at he
          split at he
          · unfold eqS at he
            split at he
            · cases hc : ti.cmp with
              | false => rw [hc] at he; cases he
              | true => exact ((hT _ _ ht).eqs hc).2
            · cases he
          · exfalso
            unfold aggO at hxs
            unfold eqB at he
            split at he
            · cases hxs
            · cases hxs
            · unfold eqD at he
              split at he <;> first | (cases he; done) | (cases hxs; done)
      rw [c1, c2] at hq ⊢
      refine gives_same g ?_ ?_
      · rw [Sem.run_bind, run_eqGuard_agg w op t X Y _ _ hcmp, Result.andThen_ok]
        unfold eqOp at hv
        dsimp only at hv
        cases op <;> try (cases hv; done)
        · cases hv
          rw [run_eql_struct, hq]
          simp [conc]
        · cases hv
          rw [run_neq_struct, hq]
          simp [conc]
      · unfold eqOp at hv
        dsimp only at hv
        cases op <;> first | (cases hv; done) | (cases hv; exact lit_ok _ _ _)
  · exact binL_sound g hT X Y hv

theorem conv_sound (g : Gam σ B h w) (hT : TysOk P C) {src dst : TypeId} {x v : AV} (hs : ∃ d, P.underlying src = some d) (hv : convA C dst x = some v) : Gives P σ B h w (convert src dst (conc σ x)) (v, h) := by
  unfold convA at hv
  obtain ⟨d, hs⟩ := hs
  split at hv
  · rename_i td k n hd
    have hu := (hT _ _ hd).desc
    split at hv
    · rename_i k' hk
      cases hv
      rw [hk] at hu
      refine gives_same g ?_ (lit_ok _ _ _)
      simp [convert, run_underlying hu, run_underlying hs, conc, Conv.intToInt]
    · rename_i k' hk
      rw [hk] at hu
      obtain ⟨u, rfl, hx⟩ := pureV_some (P := P) hv
      refine gives_same g ?_ (lit_ok _ _ _)
      have := hx w
      simpa [convert, run_underlying hu, run_underlying hs, conc] using this
    · cases hv
  · rename_i td k n hd
    have hu := (hT _ _ hd).desc
    split at hv
    · rename_i k' hk
      rw [hk] at hu
      obtain ⟨u, rfl, hx⟩ := pureV_some (P := P) hv
      refine gives_same g ?_ (lit_ok _ _ _)
      have := hx w
      simpa [convert, run_underlying hu, run_underlying hs, conc] using this
    · rename_i k' hk
      rw [hk] at hu
      obtain ⟨u, rfl, hx⟩ := pureV_some (P := P) hv
      refine gives_same g ?_ (lit_ok _ _ _)
      have := hx w
      simpa [convert, run_underlying hu, run_underlying hs, conc] using this
    · cases hv
  · cases hv

theorem bytesA_eq (σ : Nat → Loc) (l : List UInt8) : concs σ (bytesA l) = l.map fun b => Value.int .u8 b.toNat := by
  induction l with
  | nil => rfl
  | cons b l ih => show conc σ (.lit (.int .u8 b.toNat)) :: concs σ (bytesA l) = _; rw [ih]; simp [conc]
theorem bytesA_ok (σ : Nat → Loc) (c : Nat) (l : List UInt8) : oks σ c (bytesA l) := by
  induction l with
  | nil => show oks σ c []; simp [oks]
  | cons b l ih => exact ⟨lit_ok _ _ _, ih⟩
theorem lenA_sound {x : AV} {k : Nat} (hv : lenA x = some k) : (Builtin.lenOf (conc σ x)).run P w = .ok k w := by
  unfold lenA at hv
  split at hv <;> first | (cases hv; done) | (cases hv; simp [Builtin.lenOf, conc])

theorem elems_sound (g : Gam σ B h w) {x : AV} {size n : Nat} {cs : List AV} (hx : x.ok σ h.c) (hv : elemsA h size n x = some cs) (hn : ∀ k, lenA x = some k → n ≤ k) :
    (Builtin.firstCells size n (conc σ x)).run P w = .ok (concs σ cs).toArray w ∧ oks σ h.c cs ∧ (cs.length = n * size) := by
  unfold elemsA at hv
  split at hv
  · cases hv
    have h0 := hn 0 rfl
    have : n = 0 := by omega
    subst this
    refine ⟨by simp [Builtin.firstCells, conc, concs], by simp [oks], by simp⟩
  · rename_i s
    obtain ⟨hs1, hv⟩ := cond_none hv
    have hs1 := Nat.eq_of_beq_eq_true hs1
    subst hs1
    cases hv
    have h0 := hn s.size rfl
    refine ⟨?_, ?_, ?_⟩
    · simp only [Builtin.firstCells, conc, Sem.run_pure]
      congr 1
      apply Array.ext'
      rw [concs_eq, List.map_take, ← concs_eq, bytesA_eq]
      simp only [Array.toList_map, Go.Lib.extract_data, List.drop_zero, Nat.sub_zero, List.map_take]
    · rw [oks_iff]
      intro v hv
      exact (oks_iff _ _ _).1 (bytesA_ok _ _ _) v (List.mem_of_mem_take hv)
    · rw [List.length_take, ← concs_length σ, bytesA_eq]
      have : s.data.size = s.size := rfl
      simp; omega
  · rename_i b off len rest cap z
    by_cases h0 : n = 0
    · subst h0
      simp only [Nat.beq_refl, cond_true, Option.some.injEq] at hv
      subst hv
      exact ⟨by simp [Builtin.firstCells, conc, concs, loadCells, loadCellsFrom], by simp [oks], by simp⟩
    · rw [beq_cond, if_neg h0] at hv
      obtain ⟨h1, h2, h3⟩ := load_sound g hv
      have := hn len rfl
      have hso := slice_off (h := h) hx (by omega)
      exact ⟨by simp [Builtin.firstCells, conc, hso, loadCells_sound g hv], h2, h1⟩
  · cases hv

set_option maxHeartbeats 800000 in
/-- a new array -/
theorem grow_run {e : TypeId} {te : TI} (hte : TyOk P e te) (hby : te.bytes ≤ 65536) {xt ty : TypeId} {xd : TypeDesc} (hxu : P.underlying xt = some xd) (hxi : (∃ e', xd = .slice e') ∨ xd = .string)
    (hu : P.underlying t = some (.slice e)) {a : Option Addr} {len cap k : Nat} {olds news : List Value} (hroom : cap < len + k) (hsm : len + k ≤ 2097152)
    (hold : (Builtin.firstCells te.size len (.slice a len cap)).run P w.drew = .ok olds.toArray w.drew) {X : Value} (hX : (Builtin.lenOf X).run P w = .ok k w)
    (hnX : (Builtin.firstCells te.size k X).run P w.drew = .ok news.toArray w.drew) :
    (Builtin.append_ #[t, xt] ty #[.slice a len cap, X]).run P w =
      .ok (.slice (some ⟨w.heap.size, 0, none⟩) (len + k) (grownCap w (len + k) cap e)) (w.drew.alloc (.cells (olds.toArray ++ news.toArray ++ Builtin.zeroCells te.zero.cells (grownCap w (len + k) cap e - (len + k))) e)) := by
  obtain ⟨ie, hie, hsz, hb, hz⟩ := hte.info
  have n1 : ¬ (281474976710656 < Builtin.nextslicecap (len + k) cap * te.bytes) := by
    have h1 : Builtin.nextslicecap (len + k) cap * te.bytes ≤ 4194304 * 65536 := Nat.mul_le_mul (Nat.le_trans (nextslicecap_le hroom) (by omega)) hby
    omega
  have n2 : ¬ (len + k ≤ cap) := by omega
  have n3 : ¬ (9223372036854775807 < ((len : Int) + (k : Int))) := by omega
  rcases hxi with ⟨e', rfl⟩ | rfl
  all_goals
    simp [Builtin.append_, run_underlying hu, run_underlying hxu, sizeOf, typeInfo, zeroValue, hie, hsz, hb, hz, hX, hnX, hold, n1, n2, n3, Question.forced, newRow, grownCap]
    congr 2
    apply Array.ext'
    simp

theorem grow_arr {e : TypeId} {te : TI} (hte : TyOk P e te) {len k cap : Nat} {olds news : List Value} (hol : olds.length = len * te.size) (hnl : news.length = k * te.size) :
    grownCap w (len + k) cap e * te.size ≤ (olds.toArray ++ news.toArray ++ Builtin.zeroCells te.zero.cells (grownCap w (len + k) cap e - (len + k))).size := by
  have hge := grownCap_ge w (len + k) cap e
  have hzl : (Builtin.zeroCells te.zero.cells (grownCap w (len + k) cap e - (len + k))).size = (grownCap w (len + k) cap e - (len + k)) * te.size := by rw [size_zeroCells, hte.zsz]
  simp only [Array.size_append, hzl, List.size_toArray, hol, hnl, ← Nat.add_mul]
  apply Nat.mul_le_mul_right
  omega

theorem append_new (g : Gam σ B h w) (hT : TysOk P C) {e : TypeId} {te : TI} (he : C.tys.get e = some te) (hby : te.bytes ≤ 65536) {xt ty : TypeId} {xd : TypeDesc} (hxu : P.underlying xt = some xd) (hxi : (∃ e', xd = .slice e') ∨ xd = .string)
    (hu : P.underlying t = some (.slice e)) {a : Option Addr} {len cap k : Nat} {x : AV} {olds news : List AV} (hk : lenA x = some k) (hroom : cap < len + k) (hsm : len + k ≤ 2097152)
    (hold : (Builtin.firstCells te.size len (.slice a len cap)).run P w.drew = .ok (concs σ olds).toArray w.drew) (hol : olds.length = len * te.size) (holt : oks σ h.c olds)
    (hnew : (Builtin.firstCells te.size k (conc σ x)).run P w.drew = .ok (concs σ news).toArray w.drew) (hnl : news.length = k * te.size) (hnlt : oks σ h.c news) :
    Gives P σ B h w (Builtin.append_ #[t, xt] ty #[.slice a len cap, conc σ x]) (.slice h.c 0 (len + k) true 0 0, newBlk h (olds ++ news) e te.size) := by
  have hte := hT e te he
  have hcm := grownCap_le_maxLen w (len + k) cap e (by unfold maxLen; omega)
  have hge := grownCap_ge w (len + k) cap e
  have hrun := grow_run (ty := ty) hte hby hxu hxi hu hroom hsm hold (lenA_sound hk) hnew
  refine ⟨upd σ h.c ⟨w.heap.size, 0, grownCap w (len + k) cap e, none⟩, _, upd_lt σ h.c _, Nat.le_succ _, by rw [hrun]; simp only [conc, upd_same, spt_lit, cond_true, Nat.add_zero, Nat.sub_zero, cond_same], new_sound (w := w.drew) g.drew (olds ++ news) e te.size (grownCap w (len + k) cap e) ((concs σ olds).toArray ++ (concs σ news).toArray ++ Builtin.zeroCells te.zero.cells (grownCap w (len + k) cap e - (len + k))) ?_ ?_ ?_, (Bel.refl _ _).drew.alloc g.base _, by simp only [AV.ok, newBlk, upd_same]; exact ⟨by omega, fun _ => by omega⟩⟩
  · rw [oks_iff]
    intro v hv
    rcases List.mem_append.1 hv with hv | hv
    · exact (oks_iff _ _ _).1 holt v hv
    · exact (oks_iff _ _ _).1 hnlt v hv
  · intro i u hu'
    have hlt : i < (concs σ (olds ++ news)).length := (List.getElem?_eq_some_iff.1 hu').1
    rw [Array.getElem?_append_left (by simp; rw [concs_append] at hlt; simpa using hlt)]
    rw [concs_append] at hu'
    simpa using hu'
  · intro _
    refine ⟨grow_arr hte (by rw [concs_length, hol]) (by rw [concs_length, hnl]), ?_, hcm⟩
    rw [List.length_append, hol, hnl, ← Nat.add_mul]
    exact Nat.mul_le_mul_right _ hge
end
end Go.Proofs.Abs
