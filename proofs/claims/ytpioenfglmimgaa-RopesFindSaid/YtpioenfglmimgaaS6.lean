import Derived.Test.YtpioenfglmimgaaS5
import Derived.WalkKit
import Derived.Orders
import Derived.LoopN
import Derived.Laws.CopyRow
import Derived.Laws.Tables
import Derived.Laws.Rows
import Derived.Great.BuildSlice
import Derived.Laws.MakeOwn
import Derived.Laws.Append
import Derived.Laws.AppendOwn
import Derived.Lib.Strings
import Derived.WalkSpells
import Derived.Lib.SliceRun
namespace Go.Proofs.Abs
open Go Go.RowKit
set_option linter.unusedSimpArgs false
set_option linter.unusedVariables false
/-! The evaluator is sound, part 6: append, copy, lengths; every operation. -/
section
variable {P : Program} {C : Ctx} {σ : Nat → Loc} {B : Keep} {h : Hp} {w : World} {t : TypeId} {ti : TI} {r : AV × Hp}

theorem gam_get {h' : Hp} (g : Gam σ B h w) (hc : h'.c = h.c) (hro : h'.ro = h.ro) (hm : ∀ n, n < h.c → h.m.get n = none → h'.m.get n = none) (hg : ∀ n b, h'.m.get n = some b → ∃ b1, h.m.get n = some b1 ∧ b1.elem = b.elem ∧ (∀ i v, b.cells.get i = some v → b1.cells.get i = some v ∧ i < b.n) ∧
    (0 < b.grow → b1.grow = b.grow ∧ b.n ≤ b1.n)) : Gam σ B h' w := by
  refine ⟨g.base, fun n b hn => ?_, fun n m bn bm hn hm hne => ?_, g.keep hro (by omega) (fun _ _ => rfl) hm (Bel.refl _ _)⟩
  · obtain ⟨b1, h1, h2, h3, h4⟩ := hg n b hn
    obtain ⟨k1, k2, k9, cs, kw, k3, k4⟩ := g.blk n b1 h1
    rw [hc]
    refine ⟨k1, k2, k9, cs, by rw [← h2]; exact kw, fun i v hv => ?_, fun h0 => ?_⟩
    · obtain ⟨j1, j2⟩ := h3 i v hv
      obtain ⟨l1, l2, _⟩ := k3 i v j1
      exact ⟨l1, l2, j2⟩
    · obtain ⟨j1, j2⟩ := h4 h0
      obtain ⟨l1, l2, l3⟩ := k4 (by omega)
      rw [j1] at l1 l2
      exact ⟨l1, by omega, l3⟩
  · obtain ⟨b1, h1, _⟩ := hg n bn hn
    obtain ⟨b2, h2, _⟩ := hg m bm hm
    exact g.sep n m b1 b2 h1 h2 hne

/-- a block gets a new name -/
theorem gam_move (g : Gam σ B h w) {n : Nat} {b : Blk} (hn : h.m.get n = some b) {m' : T Blk} (hm : ∀ k, m'.get k = if k = h.c then some b else if k = n then none else h.m.get k) :
    Gam (upd σ h.c (σ n)) B ⟨m', h.c + 1, h.ro⟩ w := by
  have hlt : ∀ n b, h.m.get n = some b → n ≠ h.c := fun n b hn e => by rw [e, g.name] at hn; cases hn
  refine ⟨g.base, fun k bk hk => ?_, fun k l bk bl hk hl hne => ?_, g.keep rfl (Nat.le_succ _) (upd_lt σ h.c _) (fun k hk h0 => ?_) (Bel.refl _ _)⟩
  rotate_left 2
  · show m'.get k = none
    rw [hm, if_neg (by omega), h0]
    split <;> rfl
  · dsimp only at hk ⊢
    rw [hm] at hk
    by_cases e : k = h.c
    · rw [if_pos e] at hk
      cases hk
      subst e
      obtain ⟨k1, k2, k9, cs, kw, k3, k4⟩ := g.blk n _ hn
      rw [upd_same]
      refine ⟨by omega, k2, k9, cs, kw, fun i v hv => ?_, k4⟩
      obtain ⟨l1, l2, l3⟩ := k3 i v hv
      exact ⟨ok_mono (Nat.le_succ _) (upd_lt σ h.c _) v l1, by rw [conc_agree (upd_lt σ h.c _) v l1]; exact l2, l3⟩
    · rw [if_neg e] at hk
      by_cases e2 : k = n
      · rw [if_pos e2] at hk; cases hk
      · rw [if_neg e2] at hk
        obtain ⟨k1, k2, k9, cs, kw, k3, k4⟩ := g.blk k _ hk
        rw [upd_other _ _ _ e]
        refine ⟨by omega, k2, k9, cs, kw, fun i v hv => ?_, k4⟩
        obtain ⟨l1, l2, l3⟩ := k3 i v hv
        exact ⟨ok_mono (Nat.le_succ _) (upd_lt σ h.c _) v l1, by rw [conc_agree (upd_lt σ h.c _) v l1]; exact l2, l3⟩
  · dsimp only at hk hl
    rw [hm] at hk hl
    by_cases e : k = h.c
    · have e' : l ≠ h.c := fun h => hne (by rw [e, h])
      rw [if_neg e'] at hl
      by_cases e2 : l = n
      · rw [if_pos e2] at hl; cases hl
      · rw [if_neg e2] at hl
        subst e
        rw [upd_same, upd_other _ _ _ e']
        exact g.sep n l b bl hn hl (fun h => e2 h.symm)
    · rw [if_neg e] at hk
      by_cases e2 : k = n
      · rw [if_pos e2] at hk; cases hk
      · rw [if_neg e2] at hk
        rw [upd_other _ _ _ e]
        by_cases e3 : l = h.c
        · subst e3
          rw [upd_same]
          exact g.sep k n bk b hk hn e2
        · rw [if_neg e3] at hl
          by_cases e4 : l = n
          · rw [if_pos e4] at hl; cases hl
          · rw [if_neg e4] at hl
            rw [upd_other _ _ _ e3]
            exact g.sep k l bk bl hk hl hne

theorem append_room {xt ty e : TypeId} {te : TI} (hT : TysOk P C) (he : C.tys.get e = some te) {xd : TypeDesc} (hxu : P.underlying xt = some xd) (hxi : (∃ e', xd = .slice e') ∨ xd = .string)
    (hu : P.underlying t = some (.slice e)) {b o len cap k : Nat} {X : Value} {news : List Value} (hX : (Builtin.lenOf X).run P w = .ok k w) (hroom : len + k ≤ cap)
    (hnX : (Builtin.firstCells te.size k X).run P w = .ok news.toArray w) {w' : World} (hst : (storeCells ⟨b, o + len * te.size, none⟩ news).run P w = .ok () w') :
    (Builtin.append_ #[t, xt] ty #[.slice (some ⟨b, o, none⟩) len cap, X]).run P w = .ok (.slice (some ⟨b, o, none⟩) (len + k) cap) w' := by
  obtain ⟨ie, hie, hsz, hb, hz⟩ := (hT e te he).info
  rcases hxi with ⟨e', rfl⟩ | rfl
  all_goals
    simp [Builtin.append_, run_underlying hu, run_underlying hxu, sizeOf, typeInfo, hie, hsz, hX, hnX, hroom, add_at, hst]

theorem append_sound (g : Gam σ B h w) (hT : TysOk P C) {xt : TypeId} {s x : AV} (hs : s.ok σ h.c) (hx : x.ok σ h.c) (ty : TypeId) (hv : appendA C h t xt s x = some r) :
    Gives P σ B h w (Builtin.append_ #[t, xt] ty #[conc σ s, conc σ x]) r := by
  unfold appendA at hv
  split at hv
  · rename_i ti tx ht hxt
    have hu := (hT _ _ ht).desc
    have hxu := (hT _ _ hxt).desc
    split at hv
    · rename_i e hd
      rw [hd] at hu
      split at hv
      · rename_i te k he hk
        have hte := hT e te he
        obtain ⟨hcnd, hv⟩ := cond_none hv
        simp only [Bool.and_eq_true] at hcnd
        obtain ⟨⟨⟨c1, c2⟩, c3⟩, c4⟩ := hcnd
        have c1 : 0 < te.size := Nat.le_of_ble_eq_true c1
        have c2 := Nat.le_of_ble_eq_true c2
        have c3 := Nat.le_of_ble_eq_true c3
        have hxi : (∃ e', tx.desc = .slice e') ∨ tx.desc = .string := by
          cases hq : tx.desc <;> rw [hq] at c4 <;> first | (cases c4; done) | (exact .inl ⟨_, rfl⟩) | (exact .inr rfl)
        have hlen : ∀ w, (Builtin.lenOf (conc σ x)).run P w = .ok k w := fun w => lenA_sound hk
        cases hel : elemsA h te.size k x with
        | none => rw [hel] at hv; cases hv
        | some news =>
          rw [hel] at hv
          dsimp only at hv
          obtain ⟨hf, hnlt, hnl⟩ := elems_sound (P := P) g hx hel (fun k' hk' => by rw [hk] at hk'; cases hk'; exact Nat.le_refl _)
          obtain ⟨hfd, _, _⟩ := elems_sound (P := P) g.drew hx hel (fun k' hk' => by rw [hk] at hk'; cases hk'; exact Nat.le_refl _)
          split at hv
          · -- nil
            cases hk0 : Nat.beq k 0 with
            | true =>
              rw [hk0, cond_true] at hv
              cases hv
              have hk0 := Nat.eq_of_beq_eq_true hk0
              subst hk0
              have hn : news = [] := List.eq_nil_of_length_eq_zero (by rw [hnl]; simp)
              subst hn
              refine gives_same g ?_ (lit_ok _ _ _)
              obtain ⟨ie, hie, hsz, hb, hz⟩ := hte.info
              have hl := hlen w
              rw [concs] at hf
              rcases hxi with ⟨e', hq⟩ | hq
              all_goals
                rw [hq] at hxu
                simp only [conc]
                simp [Builtin.append_, run_underlying hu, run_underlying hxu, sizeOf, typeInfo, hie, hsz, hl, hf]
            | false =>
              rw [hk0, cond_false] at hv
              cases hv
              have hk1 : k ≠ 0 := fun e => by rw [e] at hk0; cases hk0
              have := append_new (ty := ty) (len := 0) (cap := 0) (a := none) (olds := []) (news := news) (x := x) (k := k) g hT he c2 hxu hxi hu hk (by omega) (by omega) (by simp [Builtin.firstCells, concs]) (by simp) (by simp [oks]) hfd hnl hnlt
              simpa only [Nat.zero_add, List.nil_append, conc] using this
          · -- a capacity that is known
            rename_i b off len cap z _
            simp only [AV.ok] at hs
            cases hroom : Nat.ble (len + k) cap with
            | true =>
              rw [hroom, cond_true] at hv
              have hroom := Nat.le_of_ble_eq_true hroom
              cases hst : store h b (off + len * te.size) news with
              | none => rw [hst] at hv; cases hv
              | some h' =>
                rw [hst] at hv
                cases hv
                obtain ⟨hc, w', hrun, hg, hb⟩ := store_sound (P := P) g hst hnlt
                rw [← Nat.add_assoc] at hrun
                refine ⟨σ, w', fun _ _ => rfl, by rw [hc]; exact Nat.le_refl _, ?_, hg, hb, by simp only [AV.ok]; rw [hc]; exact ⟨hs.1, fun h => by cases h⟩⟩
                simp only [conc, cond_false, Bool.false_and, spt_none (store_spot g hst)]
                exact append_room hT he hxu hxi hu (hlen w) hroom hf hrun
            | false =>
              rw [hroom, cond_false] at hv
              have hroom' : cap < len + k := by
                rcases Nat.lt_or_ge cap (len + k) with h1 | h1
                · exact h1
                · rw [Nat.ble_eq_true_of_le h1] at hroom; cases hroom
              obtain ⟨hsm, hv⟩ := cond_none hv
              have hsm := Nat.le_of_ble_eq_true hsm
              cases hl : load h b off (len * te.size) with
              | none => rw [hl] at hv; cases hv
              | some olds =>
                rw [hl] at hv
                cases hv
                obtain ⟨l1, l2, l3⟩ := load_sound g hl
                have := append_new (ty := ty) (len := len) (cap := cap) (a := some ⟨(σ b).b, (σ b).o + off, spt (σ b) off⟩) (olds := olds) (news := news) (x := x) (k := k) g hT he c2 hxu hxi hu hk hroom' (by omega)
                  (by simp [Builtin.firstCells, loadCells_sound (P := P) g.drew hl]) l1 l2 hfd hnl hnlt
                simpa only [conc, cond_false, Bool.false_and] using this
          · -- a slice that has grown
            rename_i b off len o z _
            have hs' := hs
            simp only [AV.ok] at hs
            have hsk := hs.2 trivial
            cases hblk : h.m.get b with
            | none => rw [hblk] at hv; cases hv
            | some blk =>
              rw [hblk] at hv
              dsimp only at hv
              obtain ⟨hcnd, hv⟩ := cond_none hv
              simp only [Bool.and_eq_true] at hcnd
              obtain ⟨⟨d1, d2⟩, d3⟩ := hcnd
              have d1 := Nat.eq_of_beq_eq_true d1
              have d2 := Nat.eq_of_beq_eq_true d2
              have d3 := Nat.le_of_ble_eq_true d3
              obtain ⟨k1, k2, k9, cur, kw, k3, k4⟩ := g.blk b blk hblk
              obtain ⟨g1, g2, g3⟩ := k4 (by omega)
              rw [d1] at g1 g2
              cases hin : (Nat.ble ((o + len + k) * te.size) blk.n && Nat.blt 0 (len + k)) with
              | true =>
                rw [hin, cond_true] at hv
                rw [Bool.and_eq_true] at hin
                have hin2 : 0 < len + k := Nat.le_of_ble_eq_true hin.2
                have hin := Nat.le_of_ble_eq_true hin.1
                cases hst : store h b (off + len * te.size) news with
                | none => rw [hst] at hv; cases hv
                | some h' =>
                  rw [hst] at hv
                  cases hv
                  have hroom : len + k ≤ (σ b).k - o := by
                    have : (o + len + k) * te.size ≤ (σ b).k * te.size := Nat.le_trans hin g2
                    have := Nat.le_of_mul_le_mul_right this c1
                    omega
                  obtain ⟨hc, w', hrun, hg, hb⟩ := store_sound (P := P) g hst hnlt
                  rw [← Nat.add_assoc] at hrun
                  refine ⟨σ, w', fun _ _ => rfl, by rw [hc]; exact Nat.le_refl _, ?_, hg, hb, by simp only [AV.ok]; rw [hc]; exact ⟨hs.1, fun _ => by omega⟩⟩
                  have hso : cond (true && Nat.ble (σ b).k o) z off = off := slice_off (h := h) (len := len + k) (σ := σ) (n := b) (rest := true) (by simp only [AV.ok]; exact ⟨hs.1, fun _ => by omega⟩) hin2
                  simp only [conc, cond_true, hso, spt_none (store_spot g hst)]
                  exact append_room hT he hxu hxi hu (hlen w) hroom hf hrun
              | false =>
                rw [hin, cond_false] at hv
                obtain ⟨hcnd, hv⟩ := cond_none hv
                simp only [Bool.and_eq_true] at hcnd
                obtain ⟨⟨⟨⟨f1, f0⟩, f2⟩, f3⟩, f4⟩ := hcnd
                cases hv
                have f1 := Nat.eq_of_beq_eq_true f1
                have f0 := Nat.eq_of_beq_eq_true f0
                have f2 := Nat.eq_of_beq_eq_true f2
                have f3 := Nat.eq_of_beq_eq_true f3
                subst f1
                have hoff : off = 0 := by rw [d2]; simp
                subst hoff
                subst f0
                -- the cells so far
                by_cases hroom : len + k ≤ (σ b).k
                · -- in place
                  have hfit : (σ b).o + blk.n + news.length ≤ cur.size := by
                    rw [← f2, hnl]
                    have : len * te.size + k * te.size ≤ (σ b).k * te.size := by rw [← Nat.add_mul]; exact Nat.mul_le_mul_right _ hroom
                    omega
                  have hrun := run_storeCells_at (P := P) (σ b).b ((σ b).o + blk.n) blk.elem (concs σ news) 0 cur w kw (by rw [concs_length]; omega) (onesA_spec σ news f4)
                  have hrow := row_sound g hblk hnlt kw hfit (blk.n + k * te.size) (by omega) (by rw [hnl]; exact Nat.le_refl _) (fun _ => by
                    rw [d1, ← f2, ← Nat.add_mul]; exact Nat.mul_le_mul_right _ hroom)
                  have hmv := gam_move hrow (n := b) (b := ⟨setCells blk.cells blk.n news, blk.n + k * te.size, blk.elem, blk.grow⟩) (by rw [T.get_put, if_pos rfl])
                    (m' := (h.m.put b none).put h.c (some ⟨setCells blk.cells blk.n news, blk.n + k * te.size, e, te.size⟩)) (fun j => by
                      rw [T.get_put, T.get_put, T.get_put, f3, d1]
                      by_cases e1 : j = h.c
                      · rw [if_pos e1, if_pos e1]
                      · rw [if_neg e1, if_neg e1]
                        by_cases e2 : j = b
                        · rw [if_pos e2, if_pos e2]
                        · rw [if_neg e2, if_neg e2, if_neg e2])
                  simp only [Nat.add_zero] at hrun
                  refine ⟨upd σ h.c (σ b), _, upd_lt σ h.c _, Nat.le_succ _, ?_, hmv, below_setRow' (Bel.refl _ _) k2 _, by simp only [AV.ok, upd_same]; exact ⟨by omega, fun _ => by omega⟩⟩
                  have hap := append_room (ty := ty) (b := (σ b).b) (o := (σ b).o) (len := len) (cap := (σ b).k) hT he hxu hxi hu (hlen w) hroom hf (w' := w.setRow (σ b).b (cur.toList.take ((σ b).o + blk.n) ++ concs σ news ++ cur.toList.drop ((σ b).o + blk.n + (concs σ news).length)).toArray) (by rw [f2]; exact hrun)
                  simp only [conc, cond_true, Nat.add_zero, Nat.sub_zero, upd_same, cond_same, spt_none k9]
                  exact hap
                · -- a new array
                  have hlc : len * te.size + (σ b).o ≤ cur.size := by
                    have : len * te.size ≤ (σ b).k * te.size := by rw [f2]; exact g2
                    omega
                  have hol : ((cur.toList.drop (σ b).o).take (len * te.size)).length = len * te.size := by simp; omega
                  have hold : (Builtin.firstCells te.size len (.slice (some ⟨(σ b).b, (σ b).o, none⟩) len (σ b).k)).run P w.drew = .ok ((cur.toList.drop (σ b).o).take (len * te.size)).toArray w.drew :=
                    run_firstCells_some (P := P) w.drew te.size len ⟨(σ b).b, (σ b).o, none⟩ len (σ b).k _ hol (fun j v hj => by
                      rw [add_at, show w.drew.cell? ⟨(σ b).b, (σ b).o + j, none⟩ = cur[(σ b).o + j]? from cell_of_row w _ _ cur blk.elem (0, 0) kw]
                      rw [List.getElem?_take] at hj
                      split at hj
                      · rw [List.getElem?_drop] at hj; simpa using hj
                      · cases hj)
                  have hcap : (σ b).k < len + k := by omega
                  have hrun := grow_run (ty := ty) hte c2 hxu hxi hu hcap (by omega) hold (hlen w) hfd
                  have hge := grownCap_ge w (len + k) (σ b).k e
                  have hcm := grownCap_le_maxLen w (len + k) (σ b).k e (by unfold maxLen; omega)
                  have hnw := new_any (w := w.drew) g.drew ⟨setCells blk.cells blk.n news, blk.n + k * te.size, e, te.size⟩ (grownCap w (len + k) (σ b).k e)
                    (((cur.toList.drop (σ b).o).take (len * te.size)).toArray ++ (concs σ news).toArray ++ Builtin.zeroCells te.zero.cells (grownCap w (len + k) (σ b).k e - (len + k)))
                    (fun i v hv => by
                      dsimp only at hv ⊢
                      rw [setCells_get] at hv
                      by_cases hr : blk.n ≤ i ∧ i < blk.n + news.length
                      · rw [if_pos hr] at hv
                        refine ⟨(oks_iff _ _ _).1 hnlt v (List.mem_of_getElem? hv), ?_, by omega⟩
                        rw [Array.getElem?_append_left (by simp [concs_length]; omega), Array.getElem?_append_right (by simp; omega)]
                        have e1 : i - ((cur.toList.drop (σ b).o).take (len * te.size)).toArray.size = i - blk.n := by rw [List.size_toArray, hol, f2]
                        rw [e1, List.getElem?_toArray, concs_get, hv]
                        rfl
                      · rw [if_neg hr] at hv
                        obtain ⟨j1, j2, j3⟩ := k3 i v hv
                        refine ⟨j1, ?_, by omega⟩
                        rw [Array.getElem?_append_left (by simp [concs_length]; omega), Array.getElem?_append_left (by rw [List.size_toArray, hol]; omega), List.getElem?_toArray, List.getElem?_take, if_pos (by omega), List.getElem?_drop]
                        simpa using j2)
                    (fun _ => ⟨grow_arr hte hol (by rw [concs_length, hnl]), by dsimp only; rw [← f2, ← Nat.add_mul]; exact Nat.mul_le_mul_right _ hge, hcm⟩)
                    ((h.m.put b none).put h.c (some ⟨setCells blk.cells blk.n news, blk.n + k * te.size, e, te.size⟩))
                    (fun j bj hj => by
                      rw [T.get_put] at hj
                      by_cases e1 : j = h.c
                      · rw [if_pos e1] at hj; cases hj; exact .inl ⟨e1, rfl⟩
                      · rw [if_neg e1, T.get_put] at hj
                        by_cases e2 : j = b
                        · rw [if_pos e2] at hj; cases hj
                        · rw [if_neg e2] at hj; exact .inr ⟨e1, hj⟩)
                  refine ⟨upd σ h.c ⟨w.heap.size, 0, grownCap w (len + k) (σ b).k e, none⟩, _, upd_lt σ h.c _, Nat.le_succ _, ?_, hnw, (Bel.refl _ _).drew.alloc g.base _, by simp only [AV.ok, upd_same]; exact ⟨by omega, fun _ => by omega⟩⟩
                  simp only [conc, cond_true, Nat.add_zero, Nat.sub_zero, upd_same, cond_same, spt_none k9, spt_lit]
                  exact hrun
          · cases hv
      · cases hv
    · cases hv
  · cases hv
end
end Go.Proofs.Abs
