import Derived.Test.YtpioenfglmimgaaS1
import Derived.WalkKit
import Derived.Orders
import Derived.LoopN
import Derived.Laws.CopyRow
import Derived.Laws.Tables
import Derived.Laws.Rows
import Derived.Great.BuildSlice
import Derived.Laws.MakeOwn
import Derived.Laws.Append
import Derived.Laws.AppendOwn
import Derived.Lib.Strings
import Derived.WalkSpells
import Derived.Lib.SliceRun
namespace Go.Proofs.Abs
open Go Go.RowKit
set_option linter.unusedSimpArgs false
set_option linter.unusedVariables false
/-! The evaluator is sound, part 2: operations. -/
structure TyOk (P : Program) (t : TypeId) (ti : TI) : Prop where
  desc : P.underlying t = some ti.desc
  info : ∃ i, P.info? t = some i ∧ i.size = ti.size ∧ i.bytes = ti.bytes ∧ i.zero = some ti.zero
  zsz : ti.zero.cells.size = ti.size
  flds : ∀ fs, ti.desc = .struct fs → ∃ places, fs.toList.mapM (fun f => (P.info? f.type).map fun i => (f.offset, i.size)) = some places
  eqs : ti.cmp = true → P.stoodInHeld t = false ∧ P.eqGuardType P.depth t = false

def TysOk (P : Program) (C : Ctx) : Prop := ∀ t ti, C.tys.get t = some ti → TyOk P t ti

theorem cond_none {α : Type} {b : Bool} {x : Option α} {r : α} (h : cond b x none = some r) : b = true ∧ x = some r := by
  cases b
  · cases h
  · exact ⟨rfl, h⟩
theorem withH_some {h : Hp} {v : Option AV} {r : AV × Hp} (hr : withH h v = some r) : ∃ x, v = some x ∧ r = (x, h) := by
  cases v with
  | none => cases hr
  | some x => exact ⟨x, rfl, by simpa [withH] using hr.symm⟩

def Gives (P : Program) (σ : Nat → Loc) (B : Keep) (h : Hp) (w : World) (s : Sem Value) (r : AV × Hp) : Prop :=
  ∃ σ' w', (∀ n, n < h.c → σ' n = σ n) ∧ h.c ≤ r.2.c ∧ s.run P w = .ok (conc σ' r.1) w' ∧ Gam σ' B r.2 w' ∧ Bel B w w' ∧ r.1.ok σ' r.2.c

section
variable {P : Program} {C : Ctx} {σ : Nat → Loc} {B : Keep} {h : Hp} {w : World} {t : TypeId} {ti : TI} {r : AV × Hp}

theorem gives_same (g : Gam σ B h w) {s : Sem Value} {v : AV} (hs : s.run P w = .ok (conc σ v) w) (hv : v.ok σ h.c) : Gives P σ B h w s (v, h) :=
  ⟨σ, w, fun _ _ => rfl, Nat.le_refl _, hs, g, Bel.refl _ _, hv⟩

theorem gives_new (g : Gam σ B h w) {s : Sem Value} {v : AV} {cs : List AV} {e grow kk : Nat} {arr : Array Value} (hcs : oks σ h.c cs)
    (harr : ∀ (i : Nat) (u : Value), (concs σ cs)[i]? = some u → arr[i]? = some u) (hg : 0 < grow → kk * grow ≤ arr.size ∧ cs.length ≤ kk * grow ∧ kk ≤ maxLen)
    (hs : s.run P w = .ok (conc (upd σ h.c ⟨w.heap.size, 0, kk, none⟩) v) (w.alloc (.cells arr e))) (hv : v.ok (upd σ h.c ⟨w.heap.size, 0, kk, none⟩) (h.c + 1)) : Gives P σ B h w s (v, newBlk h cs e grow) :=
  ⟨_, _, upd_lt σ h.c _, Nat.le_succ _, hs, new_sound g cs e grow kk arr hcs harr hg, (Bel.refl _ _).alloc g.base _, hv⟩

theorem run_size (ht : TyOk P t ti) : (sizeOf t).run P w = .ok ti.size w := by
  obtain ⟨i, hi, hs, _, _⟩ := ht.info
  simp [sizeOf, typeInfo, hi, hs]
theorem run_zero (ht : TyOk P t ti) : (zeroValue t).run P w = .ok ti.zero w := by
  obtain ⟨i, hi, _, _, hz⟩ := ht.info
  simp [zeroValue, typeInfo, hi, hz]
theorem run_isAgg (ht : TyOk P t ti) : (isAgg t).run P w = .ok (isAggD ti.desc) w := by
  simp only [isAgg, Sem.run_bind, run_underlying ht.desc, Result.andThen_ok]
  cases ti.desc <;> rfl
theorem add_at (b o j : Nat) : (⟨b, o, none⟩ : Addr).add j = ⟨b, o + j, none⟩ := by
  unfold Addr.add
  by_cases hj : j = 0 <;> simp [hj]

theorem alloc_sound (g : Gam σ B h w) (ht : TyOk P t ti) (hr : allocA h t (some ti) = some r) : Gives P σ B h w (Instr.alloc t true (.tuple #[])) r := by
  obtain ⟨_, hr⟩ := cond_none hr
  cases hr
  refine gives_new (kk := 0) (arr := ti.zero.cells) g (cellsOf_ok (by simp [AV.ok])) (fun i u hu => ?_) (fun h0 => absurd h0 (by omega)) ?_ (by simp [AV.ok])
  · rw [cellsOf_conc] at hu; simpa [conc] using hu
  · simp [Instr.alloc, run_zero ht, newVar, newRow, conc, upd_same, spt_lit]
theorem box_sound (g : Gam σ B h w) {v : AV} (hv : v.ok σ h.c) (hr : boxA h t (some v) = some r) : Gives P σ B h w (Instr.box t (conc σ v)) r := by
  cases hr
  refine gives_new (kk := 0) (arr := (conc σ v).cells) g (cellsOf_ok hv) (fun i u hu => ?_) (fun h0 => absurd h0 (by omega)) ?_ (by simp [AV.ok])
  · rw [cellsOf_conc] at hu; simpa using hu
  · simp [Instr.box, newVar, newRow, conc, upd_same, spt_lit]

theorem loadCells_sound (g : Gam σ B h w) {n off k : Nat} {cs : List AV} (hl : load h n off k = some cs) :
    (loadCells ⟨(σ n).b, (σ n).o + off, spt (σ n) off⟩ k).run P w = .ok (concs σ cs).toArray w := by
  obtain ⟨hlen, hlt, hc⟩ := load_sound g hl
  by_cases hk : k = 0
  · subst hk
    rw [List.length_eq_zero_iff.1 hlen]
    exact run_loadCells_list (P := P) w _ [] (fun j v hj => by cases hj)
  rw [spt_none (load_spot g hl (by omega))]
  have := run_loadCells_list (P := P) w ⟨(σ n).b, (σ n).o + off, none⟩ (concs σ cs) (fun j v hj => by rw [add_at]; exact hc j v hj)
  rwa [concs_length, hlen] at this

theorem loadOp_sound (g : Gam σ B h w) (ht : TyOk P t ti) {x : AV} (hr : oLoad h (some ti) (some x) = some r) : Gives P σ B h w (Instr.loadAt t (conc σ x)) r := by
  cases x <;> try (simp [oLoad] at hr; done)
  case ptr n off =>
    simp only [oLoad] at hr
    cases hd : isAggD ti.desc with
    | true =>
      rw [hd, cond_true] at hr
      cases hl : load h n off ti.size with
      | none => rw [hl] at hr; cases hr
      | some cs =>
        rw [hl] at hr
        cases hr
        refine gives_same g ?_ (load_sound g hl).2.1
        simp [Instr.loadAt, Instr.sureAddr, conc, loadVar, run_isAgg ht, hd, run_size ht, loadCells_sound g hl]
    | false =>
      rw [hd, cond_false] at hr
      cases hl : load h n off 1 with
      | none => rw [hl] at hr; cases hr
      | some cs =>
        rw [hl] at hr
        obtain ⟨hlen, hlt, hc⟩ := load_sound g hl
        match cs, hlen with
        | [v], _ =>
          cases hr
          have h0 := hc 0 (conc σ v) (by simp [concs])
          simp only [oks] at hlt
          refine gives_same g ?_ hlt.1
          simp [Instr.loadAt, Instr.sureAddr, conc, loadVar, run_isAgg ht, hd, run_load, spt_none (load_spot g hl (by omega))]
          rw [Nat.add_zero] at h0
          rw [h0]

theorem storeOp_sound (g : Gam σ B h w) (ht : TyOk P t ti) {x v : AV} (hv : v.ok σ h.c) (hr : oStore h (some ti) (some x) (some v) = some r) :
    r.1 = uv ∧ ∃ w', (Instr.storeAt t (conc σ x) (conc σ v)).run P w = .ok () w' ∧ Gam σ B r.2 w' ∧ Bel B w w' ∧ r.2.c = h.c := by
  cases x <;> try (simp [oStore] at hr; done)
  case ptr n off =>
    obtain ⟨hsz, hr⟩ := cond_none hr
    cases hs : store h n off (cellsOf v) with
    | none => rw [hs] at hr; cases hr
    | some h' =>
      rw [hs] at hr
      cases hr
      obtain ⟨hc, w', hrun, hg, hb⟩ := store_sound (P := P) g hs (cellsOf_ok hv)
      have hcells : (conc σ v).cells.size = ti.size := by
        rw [← Array.length_toList, ← cellsOf_conc, concs_length]
        exact Nat.eq_of_beq_eq_true hsz
      refine ⟨rfl, w', ?_, hg, hb, hc⟩
      rw [cellsOf_conc] at hrun
      simp [Instr.storeAt, Instr.sureAddr, conc, storeVar, run_size ht, hcells, hrun, spt_none (store_spot g hs)]

theorem over_eq (vs : List AV) : ∀ xs : List AV, vs.length ≤ xs.length → over vs xs = vs ++ xs.drop vs.length := by
  induction vs with
  | nil => intro xs _; rfl
  | cons v vs ih =>
    intro xs hl
    cases xs with
    | nil => simp at hl
    | cons x xs =>
      show v :: over vs xs = _
      rw [ih xs (by simpa using hl)]
      rfl
theorem putAt_eq (n : Nat) (vs : List AV) : ∀ xs : List AV, n + vs.length ≤ xs.length → putAt xs n vs = xs.take n ++ vs ++ xs.drop (n + vs.length) := by
  induction n with
  | zero => intro xs hl; show over vs xs = _; rw [over_eq vs xs (by omega)]; simp
  | succ n ih =>
    intro xs hl
    cases xs with
    | nil => simp at hl
    | cons x xs =>
      show x :: putAt xs n vs = _
      rw [ih xs (by simp only [List.length_cons] at hl; omega)]
      have : n + 1 + vs.length = (n + vs.length) + 1 := by omega
      rw [this]
      simp
theorem foldl_set (vs : List Value) : ∀ (off k : Nat) (cells : Array Value), off + k + vs.length ≤ cells.size →
    ((vs.zipIdx k).foldl (fun (cs : Array Value) x => cs.setIfInBounds (off + x.2) x.1) cells).toList = cells.toList.take (off + k) ++ vs ++ cells.toList.drop (off + k + vs.length) := by
  induction vs with
  | nil => intro off k cells _; simp
  | cons v vs ih =>
    intro off k cells hl
    rw [List.zipIdx_cons, List.foldl_cons, ih off (k + 1) _ (by simp at hl ⊢; omega)]
    simp only [List.length_cons] at hl
    have hp : (cells.toList.take (off + k)).length = off + k := by simp; omega
    have e1 : (cells.setIfInBounds (off + k) v).toList = cells.toList.take (off + k) ++ v :: cells.toList.drop (off + k + 1) := by
      rw [Array.toList_setIfInBounds, List.set_eq_take_append_cons_drop, if_pos (by simp; omega)]
    dsimp only
    rw [e1, show off + (k + 1) = (off + k) + 1 from by omega, List.take_append, hp, List.drop_append, hp]
    have e2 : off + k + 1 - (off + k) = 1 := by omega
    have e3 : off + k + 1 + vs.length - (off + k) = vs.length + 1 := by omega
    rw [e2, e3, List.take_of_length_le (l := cells.toList.take (off + k)) (by omega), List.drop_eq_nil_of_le (as := cells.toList.take (off + k)) (by omega)]
    simp only [List.take_succ_cons, List.take_zero, List.drop_succ_cons, List.drop_drop, List.length_cons, List.append_assoc, List.cons_append, List.nil_append]
    rw [show off + k + 1 + vs.length = off + k + (vs.length + 1) from by omega]

theorem fill_sound (σ : Nat → Loc) (place : Nat → Option (Nat × Nat)) : ∀ (ps : List (Nat × AV)) (place' : Nat → Option (Nat × Nat)) (n : Nat) (cells out : List AV),
    (∀ i x, place' i = some x → place i = some x) → cells.length = n → fillA place' n cells ps = some out →
    Instr.fill place (concs σ cells).toArray (ps.map fun x => (x.1, conc σ x.2)) = some (concs σ out).toArray := by
  intro ps
  induction ps with
  | nil => intro place' n cells out _ _ h; cases h; simp [Instr.fill]
  | cons p ps ih =>
    intro place' n cells out hp hn h
    change fillOne (fun cells => fillA place' n cells ps) n cells (cellsOf p.2) (place' p.1) = some out at h
    cases hpl : place' p.1 with
    | none => rw [hpl] at h; cases h
    | some x =>
      obtain ⟨off, size⟩ := x
      rw [hpl] at h
      obtain ⟨hb, h⟩ := cond_none h
      rw [Bool.and_eq_true] at hb
      have h1 := Nat.eq_of_beq_eq_true hb.1
      have h2 := Nat.le_of_ble_eq_true hb.2
      have hlen : (conc σ p.2).cells.size = (cellsOf p.2).length := by rw [← Array.length_toList, ← cellsOf_conc, concs_length]
      have hput : (putAt cells off (cellsOf p.2)).length = n := by
        rw [putAt_eq _ _ _ (by omega)]; simp only [List.length_append, List.length_take, List.length_drop]; omega
      have := ih place' n _ out hp hput h
      simp only [List.map_cons, Instr.fill, hp _ _ hpl]
      rw [if_neg (by simp [hlen, h1, concs_length]; omega)]
      rw [← this]
      congr 1
      apply Array.toList_inj.1
      rw [← Array.foldl_toList, Array.toList_zipIdx, foldl_set _ off 0 _ (by rw [Array.length_toList, hlen]; simp [concs_length]; omega), ← cellsOf_conc, putAt_eq _ _ _ (by omega)]
      simp only [Nat.add_zero, concs_eq, List.map_append, List.map_take, List.map_drop, List.length_map]


/-- the parts of a build, as the model has them -/
theorem built_sound (hT : TysOk P C) (ht : C.tys.get t = some ti) {ps : List (Nat × AV)} {v : AV} (hv : buildA C t ps = some v) :
    ∃ cs, v = .agg cs ∧ P.built t (ps.map fun x => (x.1, conc σ x.2)) = some (concs σ cs).toArray := by
  have hk := hT t ti ht
  obtain ⟨i, hi, _, _, hz⟩ := hk.info
  have hzc : (concs σ (cellsOf (.lit ti.zero))).toArray = ti.zero.cells := by rw [cellsOf_conc]; simp [conc]
  unfold buildA at hv
  rw [ht] at hv
  dsimp only at hv
  unfold Program.built
  rw [hi, hk.desc]
  cases hd : ti.desc <;> rw [hd] at hv <;> try (cases hv; done)
  case array n e =>
    dsimp only at hv ⊢
    cases he : C.tys.get e with
    | none => rw [he] at hv; cases hv
    | some te =>
      rw [he] at hv
      dsimp only at hv
      obtain ⟨ie, hie, hs, _, _⟩ := (hT e te he).info
      cases hf : fillA (fun i => some (i * te.size, te.size)) (cellsOf (.lit ti.zero)).length (cellsOf (.lit ti.zero)) ps with
      | none => rw [hf] at hv; cases hv
      | some cs =>
        rw [hf] at hv
        cases hv
        refine ⟨cs, rfl, ?_⟩
        rw [hz, hie]
        dsimp only
        rw [hs, ← hzc]
        exact fill_sound σ _ ps _ _ _ cs (fun _ _ hx => hx) rfl hf
  case struct fs =>
    dsimp only at hv ⊢
    obtain ⟨places, hpl⟩ := hk.flds fs hd
    cases hf : fillA (placeOf C fs) (cellsOf (.lit ti.zero)).length (cellsOf (.lit ti.zero)) ps with
    | none => rw [hf] at hv; cases hv
    | some cs =>
      rw [hf] at hv
      cases hv
      refine ⟨cs, rfl, ?_⟩
      rw [hz, hpl]
      dsimp only
      rw [← hzc]
      refine fill_sound σ _ ps (placeOf C fs) _ _ cs (fun i x hx => ?_) rfl hf
      unfold placeOf at hx
      cases hfi : fs[i]? with
      | none => rw [hfi] at hx; cases hx
      | some f =>
        rw [hfi] at hx
        dsimp only at hx
        cases hft : C.tys.get f.type with
        | none => rw [hft] at hx; cases hx
        | some tf =>
          rw [hft] at hx
          cases hx
          obtain ⟨jf, hjf, hs, _, _⟩ := (hT _ tf hft).info
          rw [List.getElem?_toArray]
          have key : ∀ (l : List Field) (pl : List (Nat × Nat)), l.mapM (fun f => (P.info? f.type).map fun i => (f.offset, i.size)) = some pl → ∀ (j : Nat) (g : Field), l[j]? = some g → pl[j]? = (P.info? g.type).map fun i => (g.offset, i.size) := by
            intro l
            induction l with
            | nil => intro pl _ j g hg; simp at hg
            | cons a l ih =>
              intro pl hp j g hg
              simp only [List.mapM_cons, Option.bind_eq_bind, Option.pure_def] at hp
              cases ha : P.info? a.type with
              | none => simp [ha] at hp
              | some ia =>
                cases hr : l.mapM (fun f => (P.info? f.type).map fun i => (f.offset, i.size)) with
                | none => simp [ha, hr] at hp
                | some rest =>
                  simp [ha, hr] at hp
                  subst hp
                  cases j with
                  | zero => simp at hg; subst hg; simp [ha]
                  | succ j => simp at hg ⊢; rw [ih rest hr j g hg]
          rw [key fs.toList places hpl i f (by simpa using hfi), hjf]
          simp [hs]

theorem repl_succ (cs : List AV) (n : Nat) : repl cs (n + 1) = cs ++ repl cs n := rfl
theorem repl_length (cs : List AV) (n : Nat) : (repl cs n).length = n * cs.length := by
  induction n with
  | zero => show ([] : List AV).length = _; simp
  | succ n ih => rw [repl_succ, List.length_append, ih, Nat.succ_mul]; omega
theorem repl_get (cs : List AV) (n : Nat) : ∀ i, i < n * cs.length → (repl cs n)[i]? = cs[i % cs.length]? := by
  induction n with
  | zero => intro i hi; omega
  | succ n ih =>
    intro i hi
    rw [repl_succ]
    by_cases h1 : i < cs.length
    · rw [List.getElem?_append_left h1, Nat.mod_eq_of_lt h1]
    · rw [List.getElem?_append_right (by omega), ih _ (by rw [Nat.succ_mul] at hi; omega)]
      congr 1
      exact (Nat.mod_eq_sub_mod (by omega)).symm
theorem repl_ok {σ : Nat → Loc} {c : Nat} {cs : List AV} (h : oks σ c cs) (n : Nat) : oks σ c (repl cs n) := by
  induction n with
  | zero => show oks σ c []; simp [oks]
  | succ n ih =>
    rw [repl_succ, oks_iff]
    intro v hv
    rcases List.mem_append.1 hv with hv | hv
    · exact (oks_iff _ _ _).1 h v hv
    · exact (oks_iff _ _ _).1 ih v hv
theorem repl_made (σ : Nat → Loc) (z : Value) (n : Nat) : (concs σ (repl (cellsOf (.lit z)) n)).toArray = madeCells z.cells (n * z.cells.size) := by
  have hl : (cellsOf (.lit z)).length = z.cells.size := by rw [← concs_length σ, cellsOf_conc]; simp [conc]
  apply Array.ext'
  apply List.ext_getElem?
  intro i
  show (concs σ (repl (cellsOf (.lit z)) n))[i]? = _
  by_cases hi : i < n * z.cells.size
  · rw [concs_get, repl_get _ _ _ (by rw [hl]; exact hi), ← concs_get, cellsOf_conc, hl]
    have hz : i % z.cells.size < z.cells.size := Nat.mod_lt _ (by rcases Nat.eq_zero_or_pos z.cells.size with h0 | h0
                                                                  · rw [h0] at hi; omega
                                                                  · exact h0)
    simp [conc, madeCells, hi, hz]
  · rw [List.getElem?_eq_none (by rw [concs_length, repl_length, hl]; omega), List.getElem?_eq_none (by simp [madeCells]; omega)]
end
end Go.Proofs.Abs
