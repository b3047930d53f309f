import Derived.Test.YtikoeapocdegmaaS10
import Derived.WalkKit
import Derived.Orders
import Derived.LoopN
import Derived.Laws.CopyRow
import Derived.Laws.Tables
import Derived.Laws.Rows
import Derived.Great.BuildSlice
import Derived.Laws.MakeOwn
import Derived.Laws.Append
import Derived.Laws.AppendOwn
import Derived.Lib.Strings
import Derived.WalkSpells
import Derived.Lib.SliceRun
namespace Go.Proofs.Abs
open Go Go.RowKit
/-! The evaluator is sound, part 11: a region in whatever order. -/
section
variable {P : Program} {C : Ctx} {B : Nat} {ops : Array Oper}

theorem trace_of {call : CallF} : ∀ (l : List Oper) (k : Nat), ops.toList.drop k = l → ∀ (e : Env) (h : Hp) (e' : Env) (h' : Hp), opsA C call ops.toList l e h = some (e', h') →
    ∃ (E : Nat → Env) (H : Nat → Hp) (V : Nat → AV), E k = e ∧ H k = h ∧ E (k + l.length) = e' ∧ H (k + l.length) = h' ∧
      ∀ i o, k ≤ i → ops[i]? = some o → StepTo C call ops.toList (E i) (H i) o (V i) (H (i + 1)) ∧ E (i + 1) = putA (E i) (V i) o.dst := by
  intro l
  induction l with
  | nil =>
    intro k hk e h e' h' hr
    cases hr
    refine ⟨fun _ => e, fun _ => h, fun _ => uv, rfl, rfl, rfl, rfl, fun i o hi ho => ?_⟩
    have h1 : ops.size ≤ k := by
      have := congrArg List.length hk
      simp at this
      omega
    have := (Array.getElem?_eq_some_iff.1 ho).1
    omega
  | cons x l ih =>
    intro k hk e h e' h' hr
    obtain ⟨v, h1, hs, hr⟩ := opsA_step hr
    have hk' : ops.toList.drop (k + 1) = l := by rw [← List.drop_drop, hk]; rfl
    have hx : ops[k]? = some x := by
      have : (ops.toList.drop k)[0]? = some x := by rw [hk]; rfl
      rw [List.getElem?_drop] at this
      simpa using this
    obtain ⟨E, H, V, e1, e2, e3, e4, e5⟩ := ih (k + 1) hk' _ _ _ _ hr
    refine ⟨fun i => if i = k then e else E i, fun i => if i = k then h else H i, fun i => if i = k then v else V i, by simp, by simp, ?_, ?_, fun i o hi ho => ?_⟩
    · dsimp only; rw [List.length_cons, if_neg (by omega), ← e3]; congr 1; omega
    · dsimp only; rw [List.length_cons, if_neg (by omega), ← e4]; congr 1; omega
    · by_cases hik : i = k
      · subst hik
        rw [hx] at ho
        cases ho
        simp only [if_true, if_neg (show ¬ (i + 1 = i) by omega)]
        rw [e1, e2]
        exact ⟨hs, rfl⟩
      · simp only [if_neg hik, if_neg (show ¬ (i + 1 = k) by omega)]
        exact e5 i o (by omega) ho

/-- the value of a slot behind the operations that are listed -/
noncomputable def valL (ops : Array Oper) (e : Env) (V : Nat → AV) (L : Nat → Bool) : Nat → Nat → Option AV
  | 0, t => e.get t
  | k + 1, t => if L k = true ∧ (ops[k]?).bind (·.dst) = some t then some (V k) else valL ops e V L k t

variable {e : Env} {V : Nat → AV}
theorem valL_congr {L L' : Nat → Bool} {t : Nat} : ∀ n, (∀ k, k < n → (ops[k]?).bind (·.dst) = some t → L k = L' k) → valL ops e V L n t = valL ops e V L' n t := by
  intro n
  induction n with
  | zero => intro _; rfl
  | succ n ih =>
    intro h
    simp only [valL]
    rw [ih fun k hk => h k (by omega)]
    by_cases hd : (ops[n]?).bind (·.dst) = some t
    · rw [h n (by omega) hd]
    · simp [hd]
theorem valL_last {L : Nat → Bool} {t i : Nat} (hi : L i = true) (hd : (ops[i]?).bind (·.dst) = some t) : ∀ n, i < n → (∀ k, i < k → k < n → (ops[k]?).bind (·.dst) = some t → L k = false) → valL ops e V L n t = some (V i) := by
  intro n
  induction n with
  | zero => intro h; omega
  | succ n ih =>
    intro hin h
    simp only [valL]
    by_cases hni : n = i
    · subst hni; rw [if_pos ⟨hi, hd⟩]
    · rw [if_neg (fun hc => by have := h n (by omega) (by omega) hc.2; rw [this] at hc; cases hc.1)]
      exact ih (by omega) fun k h1 h2 => h k h1 (by omega)
theorem valL_trace {E : Nat → Env} (h0 : E 0 = e) (hE : ∀ i o, ops[i]? = some o → E (i + 1) = putA (E i) (V i) o.dst) (t : Nat) : ∀ n, n ≤ ops.size → valL ops e V (fun _ => true) n t = (E n).get t := by
  intro n
  induction n with
  | zero => intro _; rw [h0]; rfl
  | succ n ih =>
    intro hn
    have ho : ops[n]? = some ops[n] := Array.getElem?_eq_getElem (by omega)
    simp only [valL]
    rw [hE n _ ho, ho]
    simp only [Option.bind_some, true_and]
    cases hd : ops[n].dst with
    | none => simp only [putA, reduceCtorEq, if_false]; exact ih (by omega)
    | some d =>
      show _ = (T.put (E n) d (some (V n))).get t
      rw [T.get_put]
      by_cases e1 : t = d
      · subst e1; simp
      · rw [if_neg (fun h => e1 (by injection h with h; exact h.symm)), if_neg e1]; exact ih (by omega)
theorem valL_upto {i : Nat} {t : Nat} : ∀ n, i ≤ n → valL ops e V (fun k => decide (k < i)) n t = valL ops e V (fun _ => true) i t := by
  intro n
  induction n with
  | zero => intro h; have : i = 0 := by omega
            subst this; rfl
  | succ n ih =>
    intro h
    by_cases hi : i = n + 1
    · subst hi
      exact valL_congr (n + 1) fun k hk _ => by simp [hk]
    · simp only [valL]
      rw [if_neg (by simp; omega)]
      exact ih (by omega)

theorem kindsOk_cases {x y : Nat} (h : kindsOk x y = true) : x = 0 ∨ y = 0 ∨ (x = 1 ∧ y = 1) := by
  unfold kindsOk at h
  simp only [Bool.or_eq_true, Bool.and_eq_true] at h
  rcases h with (h | h) | h
  · exact .inl (Nat.eq_of_beq_eq_true h)
  · exact .inr (.inl (Nat.eq_of_beq_eq_true h))
  · exact .inr (.inr ⟨Nat.eq_of_beq_eq_true h.1, Nat.eq_of_beq_eq_true h.2⟩)
theorem kind_le (op : Op) : kindA op = 0 ∨ kindA op = 1 ∨ kindA op = 2 := by
  cases op <;> first | exact .inl rfl | exact .inr (.inl rfl) | exact .inr (.inr rfl) | skip
  case call c =>
    obtain ⟨callee, args, ts⟩ := c
    cases callee <;> first | exact .inr (.inr rfl) | skip
    case builtin b => cases b <;> first | exact .inl rfl | exact .inr (.inr rfl)

theorem region_any (hT : TysOk P C) {call : CallF} (hcall : CallOk P call) {n : Nat} (hdst : dstsOk n ops.toList = true) (hdown : allDown 0 ops.toList = true)
    (hpairs : pairsOk ops (masksOf ops.toList []) [] ops.toList = true) {e : Env} {h : Hp} {a : Act} {w : World} {σ : Nat → Loc} {e' : Env} {h' : Hp} {Q : Exit → Act → World → Prop}
    {E : Nat → Env} {H : Nat → Hp} {V : Nat → AV} (t1 : E 0 = e) (t2 : H 0 = h) (t3 : E ops.size = e') (t4 : H ops.size = h')
    (t5 : ∀ i o, ops[i]? = some o → StepTo C call ops.toList (E i) (H i) o (V i) (H (i + 1)) ∧ E (i + 1) = putA (E i) (V i) o.dst)
    (hdyn : ∀ i k, (i, k) ∈ dynOf ops true → ∀ o, ops[i]? = some o → kindA o.op = 1 → wantedA ops.toList (E i) o.guard = some true → opA C (E i) (H k) o.op = some (V i, H k))
    (g : Gam σ B h w) (he : EnvOk σ h.c e a) (hn : n ≤ a.tmps.size) (hQ : ∀ a' w', After P σ B h a w e' h' a' w' → Q .normal a' w') :
    wpAny P .any ops Q ops.size (Array.replicate ops.size false) a w := by
  have hVE : ∀ k, k ≤ ops.size → ∀ t, valL ops e V (fun _ => true) k t = (E k).get t := fun k hk t => valL_trace t1 (fun i o ho => (t5 i o ho).2) t k hk
  -- memory stays where nothing of kind 2 comes between
  have hH1 : ∀ i o, ops[i]? = some o → kindA o.op ≠ 2 → H (i + 1) = H i := fun i o ho hk => by
    rcases kind_le o.op with h0 | h0 | h0
    · exact (step_kind0 h0 (t5 i o ho).1).1
    · exact step_kind1 h0 (t5 i o ho).1
    · exact absurd h0 hk
  have hHH : ∀ (d i : Nat), i + d ≤ ops.size → (∀ k o, i ≤ k → k < i + d → ops[k]? = some o → kindA o.op ≠ 2) → H (i + d) = H i := by
    intro d
    induction d with
    | zero => intro i _ _; rfl
    | succ d ih =>
      intro i hi hk
      have ho : ops[i + d]? = some ops[i + d] := Array.getElem?_eq_getElem (by omega)
      have := hH1 (i + d) _ ho (hk (i + d) _ (by omega) (by omega) ho)
      rw [show i + (d + 1) = i + d + 1 from by omega, this]
      exact ih i (by omega) fun k o h1 h2 => hk k o h1 (by omega)
  refine wpAny_inv hdown (fun L a' w' => ∃ σ' eD j, L.size = ops.size ∧ Dn ops L ∧ (∀ m, m < h.c → σ' m = σ m) ∧ h.c ≤ (H j).c ∧ Gam σ' B (H j) w' ∧ EnvOk σ' (H j).c eD a' ∧ a'.tmps.size = a.tmps.size ∧ a'.defers = a.defers ∧ Below B w w' ∧ j ≤ ops.size ∧
      (∀ i o, ops[i]? = some o → kindA o.op = 2 → (L.getD i false = true ↔ i < j)) ∧ (∀ t, eD.get t = valL ops e V (fun k => L.getD k false) ops.size t)) ?_ ?_ ?_ ops.size _ a w ?_ ?_
  · rintro L a' w' ⟨σ', eD, j, h1, h2, _⟩
    exact ⟨h1, h2⟩
  · -- one operation
    rintro L a' w' i ⟨σ', eD, j, hL, hD, x1, x2, x3, x4, x5, x6, x7, x8, x9, x10⟩ hi
    obtain ⟨hun, o, ho, hpre⟩ := mem_ready.1 hi
    have hlt := (Array.getElem?_eq_some_iff.1 ho).1
    have hun' : L.getD i false = false := by
      have hls : i < L.size := by omega
      simp [hls] at hun ⊢; exact hun
    -- what is ahead is listed, what is behind is not
    have hahead : ∀ k, before ops i k = true → L.getD k false = true := fun k hk => closed_ready hdown hD hi k hk
    have hbehind : ∀ k, k < ops.size → before ops k i = true → L.getD k false = false := fun k hk hb => by
      cases hc : L.getD k false with
      | false => rfl
      | true => have := closed hdown hD k i hk hc hb; rw [hun'] at this; cases this
    have hcmp : ∀ k ok, ops[k]? = some ok → k ≠ i → (¬ (Oper.apart ops ok o = true ∧ Oper.apart ops o ok = true) ∨ (kindA ok.op = 2 ∧ kindA o.op = 2)) → (L.getD k false = true ↔ k < i) := by
      intro k ok hk hne hc
      have hklt := (Array.getElem?_eq_some_iff.1 hk).1
      have hsym : Oper.apart ops ok o = Oper.apart ops o ok ∨ True := .inr trivial
      rcases Nat.lt_or_ge k i with hki | hki
      · rcases pair_cases hpairs hk ho hki with hb | ⟨h1, h2⟩
        · simp [hahead k hb, hki]
        · exfalso
          rcases hc with hc | hc
          · apply hc
            refine ⟨h1, ?_⟩
            obtain ⟨p1, p2, p3⟩ := Oper.apart_spec h1
            unfold Oper.apart
            rw [Bool.and_eq_true]
            constructor
            · cases hd : o.dst with
              | none => rfl
              | some d =>
                dsimp only
                rw [Bool.and_eq_true]
                refine ⟨by simpa using p3 d hd, ?_⟩
                cases hd2 : ok.dst with
                | none => rfl
                | some d2 => have := p2 d2 hd2; rw [hd] at this; simp; exact fun h => this (by rw [h])
            · cases hd : ok.dst with
              | none => rfl
              | some d => dsimp only; simpa using p1 d hd
          · rw [hc.1, hc.2] at h2; rcases h2 with h2 | h2 <;> cases h2
      · have hki' : i < k := by omega
        rcases pair_cases hpairs ho hk hki' with hb | ⟨h1, h2⟩
        · rw [hbehind k hklt hb]; simp; omega
        · exfalso
          rcases hc with hc | hc
          · apply hc
            refine ⟨?_, h1⟩
            obtain ⟨p1, p2, p3⟩ := Oper.apart_spec h1
            unfold Oper.apart
            rw [Bool.and_eq_true]
            constructor
            · cases hd : ok.dst with
              | none => rfl
              | some d =>
                dsimp only
                rw [Bool.and_eq_true]
                refine ⟨by simpa using p3 d hd, ?_⟩
                cases hd2 : o.dst with
                | none => rfl
                | some d2 => have := p2 d2 hd2; rw [hd] at this; simp; exact fun h => this (by rw [h])
            · cases hd : o.dst with
              | none => rfl
              | some d => dsimp only; simpa using p1 d hd
          · rw [hc.1, hc.2] at h2; rcases h2 with h2 | h2 <;> cases h2
    -- its operands are those of the text's order
    have hsame : SameOn ops o (E i) eD := by
      intro t ht
      rw [x10, ← hVE i (by omega), ← valL_upto (i := i) ops.size (by omega)]
      refine (valL_congr ops.size fun k hk hd => ?_).symm
      by_cases hki : k = i
      · subst hki; rw [hun']; simp
      · have hok : ops[k]? = some ops[k] := Array.getElem?_eq_getElem hk
        rw [hok] at hd
        have := hcmp k _ hok hki (.inl fun hh => (Oper.apart_spec hh.1).1 t hd ht)
        by_cases hlt2 : k < i
        · rw [this.2 hlt2]; simp [hlt2]
        · have h0 : L.getD k false = false := by
            cases hc : L.getD k false with
            | false => rfl
            | true => exact absurd (this.1 hc) hlt2
          rw [h0]; simp [hlt2]
    have hst := same_step hsame (t5 i o ho).1
    -- the memory
    have hmem : kindA o.op = 2 → H j = H i := by
      intro hko
      have hno : ∀ k ok, ops[k]? = some ok → kindA ok.op = 2 → k ≠ i → (k < j ↔ k < i) := by
        intro k ok hok hk2 hne
        rw [← x9 k ok hok hk2]
        exact hcmp k ok hok hne (.inr ⟨hk2, hko⟩)
      have hij : j ≤ i := by
        rcases Nat.lt_or_ge i j with h1 | h1
        · have := (x9 i o ho hko).2 h1; rw [hun'] at this; cases this
        · exact h1
      obtain ⟨d, rfl⟩ := Nat.le.dest hij
      exact (hHH d j (by omega) fun k ok h2 h3 hok hk2 => by have := (hno k ok hok hk2 (by omega)).2 h3; omega).symm
    let p2 : Nat → Bool := fun k => match ops[k]? with
      | some ok => Nat.beq (kindA ok.op) 2
      | none => false
    have hp2 : ∀ k, p2 k = true → ∃ ok, ops[k]? = some ok ∧ kindA ok.op = 2 := by
      intro k hk
      simp only [p2] at hk
      split at hk
      · rename_i ok hok
        exact ⟨ok, hok, Nat.eq_of_beq_eq_true hk⟩
      · cases hk
    have hp2' : ∀ k ok, p2 k = false → ops[k]? = some ok → kindA ok.op ≠ 2 := by
      intro k ok hk hok h2
      simp only [p2, hok, h2] at hk
      cases hk
    have hread : kindA o.op = 1 → StepTo C call ops.toList (E i) (H j) o (V i) (H j) := by
      intro hk1
      have hHi := hH1 i o ho (by omega)
      rcases (t5 i o ho).1 with ⟨hw, hv, _⟩ | ⟨hw, hr⟩
      · exact .inl ⟨hw, hv, rfl⟩
      · refine .inr ⟨hw, ?_⟩
        have hc := (kind1_op (C := C) (e := E i) (h := H i) hk1).1
        unfold resOp at hr ⊢
        rw [hc] at hr ⊢
        dsimp only at hr ⊢
        rw [hHi] at hr
        rcases Nat.le_total j i with h1 | h1
        · obtain ⟨d, rfl⟩ := Nat.le.dest h1
          rcases least2 p2 d j with hz | ⟨k, hk1', hk2', hk3, hk4⟩
          · rw [hHH d j (by omega) fun k ok h2 h3 hok => hp2' k ok (hz k h2 h3) hok] at hr
            exact hr
          · obtain ⟨ok, hok, hkk⟩ := hp2 k hk3
            have hnb : before ops (j + d) k = false := by
              cases hb : before ops (j + d) k with
              | false => rfl
              | true => have := (x9 k ok hok hkk).1 (hahead k hb); omega
            have hHk : H k = H j := by
              obtain ⟨d2, rfl⟩ := Nat.le.dest hk1'
              exact hHH d2 j (by omega) fun m om h2 h3 hom => hp2' m om (hk4 m h2 h3) hom
            have := hdyn (j + d) k ((dyn_spec hok ho hk2' hnb).2 hkk hk1) o ho hk1 hw
            rw [hHk] at this
            exact this
        · obtain ⟨d, rfl⟩ := Nat.le.dest h1
          rcases great2 p2 d i with hz | ⟨k, hk1', hk2', hk3, hk4⟩
          · rw [hHH d i (by omega) fun k ok h2 h3 hok => hp2' k ok (hz k h2 h3) hok]
            exact hr
          · obtain ⟨ok, hok, hkk⟩ := hp2 k hk3
            have hklt := (Array.getElem?_eq_some_iff.1 hok).1
            have hki : i < k := by
              rcases Nat.lt_or_eq_of_le hk1' with h | h
              · exact h
              · subst h; rw [ho] at hok; cases hok; omega
            have hnb : before ops k i = false := by
              cases hb : before ops k i with
              | false => rfl
              | true => have := hbehind k hklt hb; have := (x9 k ok hok hkk).2 hk2'; simp_all
            have hHk : H (i + d) = H (k + 1) := by
              obtain ⟨d2, hd2⟩ := Nat.le.dest (show k + 1 ≤ i + d by omega)
              rw [← hd2]
              exact hHH d2 (k + 1) (by omega) fun m om h2 h3 hom => hp2' m om (hk4 m (by omega) (by omega)) hom
            have := hdyn i (k + 1) ((dyn_spec ho hok hki hnb).1 hk1 hkk) o ho hk1 hw
            rw [hHk]
            exact this
    have hreach : ∃ h1, StepTo C call ops.toList eD (H j) o (V i) h1 ∧ (kindA o.op ≠ 2 → h1 = H j) ∧ (kindA o.op = 2 → h1 = H (i + 1)) := by
      rcases kind_le o.op with hk0 | hk0 | hk0
      · exact ⟨H j, (step_kind0 hk0 hst).2 (H j), fun _ => rfl, fun h => by rw [hk0] at h; cases h⟩
      · exact ⟨H j, same_step hsame (hread hk0), fun _ => rfl, fun h => by rw [hk0] at h; cases h⟩
      · exact ⟨H (i + 1), by rw [hmem hk0]; exact hst, fun h => absurd hk0 h, fun _ => rfl⟩
    obtain ⟨h1, hst', hn2, h2⟩ := hreach
    refine step_sound x3 hT hcall x4 ho hst' fun σ2 w2 y1 y2 y3 y4 y5 => ?_
    have hmemo : o ∈ ops.toList := List.mem_of_getElem? (by simpa using ho : ops.toList[i]? = some o)
    have henv := put_env x4 y1 y2 y5 (dst := o.dst) (fun d hd => Nat.lt_of_lt_of_le (dstsOk_spec hdst o hmemo d hd) (by omega))
    have hL' : ∀ k, k ≠ i → (L.setIfInBounds i true).getD k false = L.getD k false := fun k hk => getD_set_ne false (Ne.symm hk)
    have hLi : (L.setIfInBounds i true).getD i false = true := by simp [show i < L.size by omega]
    have hval : ∀ t, (putA eD (V i) o.dst).get t = valL ops e V (fun k => (L.setIfInBounds i true).getD k false) ops.size t := by
      intro t
      by_cases hd : o.dst = some t
      · rw [hd]
        show (T.put eD t (some (V i))).get t = _
        rw [T.get_put, if_pos rfl]
        refine (valL_last hLi (by rw [ho]; exact hd) ops.size hlt fun k hik hk hdk => ?_).symm
        have hok : ops[k]? = some ops[k] := Array.getElem?_eq_getElem hk
        rw [hok] at hdk
        rw [hL' k (by omega)]
        have := hcmp k _ hok (by omega) (.inl fun hh => (Oper.apart_spec hh.1).2.1 t hdk hd)
        cases hc : L.getD k false with
        | false => rfl
        | true => have := this.1 hc; omega
      · have : (putA eD (V i) o.dst).get t = eD.get t := by
          cases hdd : o.dst with
          | none => rfl
          | some d =>
            show (T.put eD d (some (V i))).get t = _
            rw [T.get_put, if_neg (fun h => hd (by rw [hdd, h]))]
        rw [this, x10]
        refine valL_congr ops.size fun k hk hdk => ?_
        by_cases hki : k = i
        · subst hki; rw [ho] at hdk; exact absurd hdk hd
        · rw [hL' k hki]
    have hDn : Dn ops (L.setIfInBounds i true) := by
      intro k ok hok hk e he hb
      by_cases hki : k = i
      · subst hki
        rw [ho] at hok
        cases hok
        exact getD_set_true (hpre e he hb)
      · rw [hL' k hki] at hk
        exact getD_set_true (hD k ok hok hk e he hb)
    by_cases hk2 : kindA o.op = 2
    · have e1 := h2 hk2
      subst e1
      have hmji := hmem hk2
      refine ⟨σ2, putA eD (V i) o.dst, i + 1, by simpa using hL, hDn, fun m hm => (y1 m (by omega)).trans (x1 m hm), by omega, y3, henv, by rw [put_size]; exact x5, by rw [put_defers]; exact x6, x7.trans y4, by omega, fun k ok hok hkk => ?_, hval⟩
      by_cases hki : k = i
      · subst hki; rw [hLi]; simp
      · rw [hL' k hki, hcmp k ok hok hki (.inr ⟨hkk, hk2⟩)]; omega
    · have e1 := hn2 hk2
      subst e1
      refine ⟨σ2, putA eD (V i) o.dst, j, by simpa using hL, hDn, fun m hm => (y1 m (by omega)).trans (x1 m hm), x2, y3, henv, by rw [put_size]; exact x5, by rw [put_defers]; exact x6, x7.trans y4, x8, fun k ok hok hkk => ?_, hval⟩
      by_cases hki : k = i
      · subst hki; rw [ho] at hok; cases hok; exact absurd hkk hk2
      · rw [hL' k hki]; exact x9 k ok hok hkk
  · -- all is done
    rintro L a' w' ⟨σ', eD, j, hL, hD, x1, x2, x3, x4, x5, x6, x7, x8, x9, x10⟩ hall
    have hHn : H j = H ops.size := by
      obtain ⟨d, hd⟩ := Nat.le.dest x8
      have := hHH d j (by omega) fun k ok h2 h3 hok hk2 => by
        have h4 := (Array.getElem?_eq_some_iff.1 hok).1
        have := (x9 k ok hok hk2).1 (hall k h4); omega
      rw [hd] at this
      exact this.symm
    rw [hHn, t4] at x2 x3 x4
    refine hQ a' w' ⟨σ', x1, x2, x3, fun t v hv => ?_, x5, x6, x7, rfl⟩
    refine x4 t v ?_
    rw [x10, valL_congr (L' := fun _ => true) ops.size fun k hk _ => by simpa using hall k hk, hVE ops.size (Nat.le_refl _), t3]
    exact hv
  · -- the beginning
    refine ⟨σ, e, 0, by simp, fun k o hk hL => ?_, fun _ _ => rfl, by rw [t2]; exact Nat.le_refl _, by rw [t2]; exact g, by rw [t2]; exact he, rfl, rfl, Below.refl _ _, Nat.zero_le _, fun k o hk _ => ?_, fun t => ?_⟩
    · have h4 := (Array.getElem?_eq_some_iff.1 hk).1
      simp [h4] at hL
    · have h4 := (Array.getElem?_eq_some_iff.1 hk).1
      simp [h4]
    · rw [valL_congr (L' := fun k => decide (k < 0)) ops.size fun k hk _ => by simp [hk], valL_upto (i := 0) ops.size (Nat.zero_le _)]
      rfl
  · unfold left
    exact Nat.le_trans (List.length_filter_le _ _) (by simp)

theorem litB_sound {a b : Value} (h : litB a b = true) : a = b := by
  unfold litB at h
  split at h <;> try (simp_all; done)
  rename_i a b
  obtain ⟨⟨a⟩⟩ := a
  obtain ⟨⟨b⟩⟩ := b
  have h2 : a = b := eq_of_beq h
  rw [h2]
theorem fnB_sound {a b : Fn} (h : fnB a b = true) : a = b := by
  unfold fnB at h
  split at h <;> simp_all
theorem allB_sound {f : AV → AV → Bool} (hf : ∀ v v', f v v' = true → v = v') : ∀ l l', allB f l l' = true → l = l' := by
  intro l
  induction l with
  | nil => intro l' h; cases l' <;> simp_all [allB]
  | cons x l ih =>
    intro l' h
    cases l' with
    | nil => simp [allB] at h
    | cons y l' =>
      simp only [allB, Bool.and_eq_true] at h
      rw [hf _ _ h.1, ih _ h.2]
theorem avB1_sound {f : AV → AV → Bool} (hf : ∀ v v', f v v' = true → v = v') {a b : AV} (h : avB1 f a b = true) : a = b := by
  unfold avB1 at h
  split at h
  · rw [litB_sound h]
  · simp_all
  · simp_all
  · rw [Bool.and_eq_true] at h; rw [fnB_sound h.1, allB_sound hf _ _ h.2]
  · rw [Bool.and_eq_true] at h; rw [hf _ _ h.2, eq_of_beq h.1]
  · rw [allB_sound hf _ _ h]
  · rw [allB_sound hf _ _ h]
  · cases h
theorem avB_sound : ∀ n v v', avB n v v' = true → v = v' := by
  intro n
  induction n with
  | zero => intro v v' h; cases h
  | succ n ih => intro v v' h; exact avB1_sound ih h

theorem preA_some {e : Env} {h : Hp} {r : Option (List (Env × Hp))} {tr : List (Env × Hp)} (hr : preA e h r = some tr) : ∃ l, r = some l ∧ tr = (e, h) :: l := by
  cases r with
  | none => cases hr
  | some l => cases hr; exact ⟨l, rfl, rfl⟩
theorem trA_trace {call : CallF} {all : List Oper} : ∀ (l : List Oper) (e : Env) (h : Hp) (tr : List (Env × Hp)), trA C call all l e h = some tr →
    tr.length = l.length + 1 ∧ tr[0]? = some (e, h) ∧ ∀ i o, l[i]? = some o → ∃ ei hi ej hj v, tr[i]? = some (ei, hi) ∧ tr[i + 1]? = some (ej, hj) ∧ StepTo C call all ei hi o v hj ∧ ej = putA ei v o.dst := by
  intro l
  induction l with
  | nil => intro e h tr hr; cases hr; exact ⟨rfl, rfl, fun i o ho => by simp at ho⟩
  | cons x l ih =>
    intro e h tr hr
    change nextT (trA C call all l) e h (opsA C call all [x] e h) = some tr at hr
    cases hx : opsA C call all [x] e h with
    | none => rw [hx] at hr; cases hr
    | some q =>
      obtain ⟨e1, h1⟩ := q
      rw [hx] at hr
      obtain ⟨l1, hl1, rfl⟩ := preA_some hr
      obtain ⟨v, h2, hs, hz⟩ := opsA_step hx
      cases hz
      obtain ⟨k1, k2, k3⟩ := ih _ _ _ hl1
      refine ⟨by simp [k1], rfl, fun i o ho => ?_⟩
      cases i with
      | zero =>
        simp at ho
        subst ho
        exact ⟨e, h, _, _, v, rfl, by simpa using k2, hs, rfl⟩
      | succ i =>
        obtain ⟨ei, hi, ej, hj, u, m1, m2, m3, m4⟩ := k3 i o (by simpa using ho)
        exact ⟨ei, hi, ej, hj, u, by simpa using m1, by simpa using m2, m3, m4⟩

theorem checks_mem {all : List Oper} {tr : List (Env × Hp)} : ∀ {ps : List (Nat × Nat)}, checksD C all tr ps = true → ∀ p ∈ ps, checkD C all all[p.1]? tr[p.1]? tr[p.2]? = true := by
  intro ps
  induction ps with
  | nil => intro _ p hp; cases hp
  | cons q ps ih =>
    intro h p hp
    change (checkD C all all[q.1]? tr[q.1]? tr[q.2]? && checksD C all tr ps) = true at h
    rw [Bool.and_eq_true] at h
    rcases List.mem_cons.1 hp with rfl | hp
    · exact h.1
    · exact ih h.2 p hp

theorem reg_trace {call : CallF} {e : Env} {h : Hp} {e' : Env} {h' : Hp} (hr : regA C call ops true e h = some (e', h')) : ∃ (E : Nat → Env) (H : Nat → Hp) (V : Nat → AV), E 0 = e ∧ H 0 = h ∧ E ops.size = e' ∧ H ops.size = h' ∧
    (∀ i o, ops[i]? = some o → StepTo C call ops.toList (E i) (H i) o (V i) (H (i + 1)) ∧ E (i + 1) = putA (E i) (V i) o.dst) ∧
    ∀ i k, (i, k) ∈ dynOf ops true → ∀ o, ops[i]? = some o → kindA o.op = 1 → wantedA ops.toList (E i) o.guard = some true → opA C (E i) (H k) o.op = some (V i, H k) := by
  unfold regA at hr
  cases hps : dynOf ops true with
  | nil =>
    rw [hps] at hr
    change opsA C call ops.toList ops.toList e h = some (e', h') at hr
    obtain ⟨E, H, V, t1, t2, t3, t4, t5⟩ := trace_of ops.toList 0 rfl e h e' h' hr
    simp only [Nat.zero_add, Array.length_toList] at t3 t4
    exact ⟨E, H, V, t1, t2, t3, t4, fun i o ho => t5 i o (Nat.zero_le _) ho, fun i k hik => by cases hik⟩
  | cons p ps =>
    rw [← hps]
    have hr' : finD C ops.toList (dynOf ops true) (trA C call ops.toList ops.toList e h) = some (e', h') := by
      rw [hps] at hr ⊢
      exact hr
    cases htr : trA C call ops.toList ops.toList e h with
    | none => rw [htr] at hr'; cases hr'
    | some tr =>
      rw [htr] at hr'
      change cond (checksD C ops.toList tr (dynOf ops true)) tr[ops.toList.length]? none = some (e', h') at hr'
      cases hck : checksD C ops.toList tr (dynOf ops true) with
      | false => rw [hck] at hr'; cases hr'
      | true =>
        rw [hck] at hr'
        change tr[ops.toList.length]? = some (e', h') at hr'
        rw [Array.length_toList] at hr'
        obtain ⟨k1, k2, k3⟩ := trA_trace ops.toList e h tr htr
        have hE : ∀ {i : Nat} {q : Env × Hp}, tr[i]? = some q → (tr[i]?).getD (e, h) = q := fun hq => by rw [hq]; rfl
        have hV : ∀ i, ∃ v, ∀ o, ops[i]? = some o → StepTo C call ops.toList ((tr[i]?).getD (e, h)).1 ((tr[i]?).getD (e, h)).2 o v ((tr[i + 1]?).getD (e, h)).2 ∧ ((tr[i + 1]?).getD (e, h)).1 = putA ((tr[i]?).getD (e, h)).1 v o.dst := by
          intro i
          cases ho : ops[i]? with
          | none => exact ⟨uv, fun o h => by cases h⟩
          | some o =>
            obtain ⟨ei, hi, ej, hj, v, m1, m2, m3, m4⟩ := k3 i o (by simpa using ho)
            refine ⟨v, fun o2 h2 => ?_⟩
            cases h2
            rw [hE m1, hE m2]
            exact ⟨m3, m4⟩
        obtain ⟨V, hV⟩ := Classical.skolem.1 hV
        refine ⟨fun i => ((tr[i]?).getD (e, h)).1, fun i => ((tr[i]?).getD (e, h)).2, V, by dsimp only; rw [hE k2], by dsimp only; rw [hE k2], by dsimp only; rw [hE hr'], by dsimp only; rw [hE hr'], hV, ?_⟩
        intro i k hik o ho hk1 hw
        have hc := checks_mem hck _ hik
        dsimp only at hc hw ⊢
        rw [show ops.toList[i]? = some o from by simpa using ho] at hc
        obtain ⟨ei, hi, ej, hj, v, m1, m2, m3, m4⟩ := k3 i o (by simpa using ho)
        rw [hE m1] at hw ⊢
        rw [m1] at hc
        cases hk : tr[k]? with
        | none => rw [hk] at hc; cases hc
        | some q =>
          obtain ⟨ek, hhk⟩ := q
          rw [hk] at hc
          change checkG C ei hi hhk o.op (wantedA ops.toList ei o.guard) = true at hc
          rw [hw] at hc
          change sameR (opA C ei hi o.op) (opA C ei hhk o.op) = true at hc
          have hst := (hV i o ho).1
          rw [hE m1, hE m2] at hst
          dsimp only at hst
          show opA C ei hhk o.op = some (V i, hhk)
          rcases hst with ⟨hw2, _⟩ | ⟨_, hr2⟩
          · rw [hw] at hw2; cases hw2
          · unfold resOp at hr2
            rw [(kind1_op (C := C) (e := ei) (h := hi) hk1).1] at hr2
            dsimp only at hr2
            rw [hr2] at hc
            cases hx : opA C ei hhk o.op with
            | none => rw [hx] at hc; cases hc
            | some r =>
              obtain ⟨v2, h2⟩ := r
              rw [hx] at hc
              have h4 := (kind1_op (C := C) (e := ei) (h := hhk) hk1).2 _ hx
              dsimp only at h4
              rw [h4, avB_sound 4 _ _ hc]
end
end Go.Proofs.Abs
