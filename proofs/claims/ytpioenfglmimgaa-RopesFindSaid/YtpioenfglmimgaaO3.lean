import Derived.Test.YtpioenfglmimgaaO2
namespace Go.Proofs.Abs
open Go Go.RowKit
set_option linter.unusedSimpArgs false
set_option linter.unusedVariables false
/-! Lists that are put together by append, each in a block of its own. -/
section
variable {C : Ctx} {t : TypeId} {e : TypeId} {ti te : TI} {M : List Nat} {h0 h h' : Hp} {L L' Z : List As} {k : OpsK} {dst : Option Tmp} {env : Env} {Q : Env → Hp → Prop}
theorem gr_lc' {h : Hp} {v : AV} {xs : List Int} {n : Nat} (g : Gr e 1 h v (xs.map I) n) (hn : xs.length = n) : Lc false h v (xs.map I) := by
  subst hn
  rcases g.is with ⟨rfl, h0⟩ | ⟨nm, r, rfl, h1, h2⟩
  · have : xs = [] := List.eq_nil_of_length_eq_zero h0
    subst this
    exact Lc.nil false h
  · refine ⟨.inr ⟨nm, 0, r, 0, 0, by rw [List.length_map], h1, fun k x hx => ?_⟩, ?_, fun h => by cases h⟩
    · rw [Nat.zero_add]
      exact (g.cell hx).load
    · rcases h2 with ⟨h2, rfl⟩ | ⟨h2, rfl⟩
      · show xs.length ≤ 0
        omega
      · trivial
abbrev nmL (ws : List AV) : List Nat := ws.flatMap fun w => (nmO w).toList
theorem mem_nmL {ws : List AV} {n : Nat} : n ∈ nmL ws ↔ ∃ (i : Nat) (w : AV), ws[i]? = some w ∧ nmO w = some n := by
  unfold nmL
  rw [List.mem_flatMap]
  constructor
  · rintro ⟨w, h1, h2⟩
    obtain ⟨i, hi⟩ := List.getElem?_of_mem h1
    exact ⟨i, w, hi, nmO_mem.1 h2⟩
  · rintro ⟨i, w, h1, h2⟩
    exact ⟨w, List.mem_of_getElem? h1, nmO_mem.2 h2⟩
structure GRs (e : TypeId) (h : Hp) (ws : List AV) (xss : List (List Int)) : Prop where
  len : ws.length = xss.length
  gr : ∀ (i : Nat) (w : AV) (xs : List Int), ws[i]? = some w → xss[i]? = some xs → Gr e 1 h w (xs.map I) xs.length
  sep : ∀ (i j : Nat) (w w' : AV) (n : Nat), i ≠ j → ws[i]? = some w → ws[j]? = some w' → nmO w = some n → nmO w' ≠ some n
theorem GRs.at {ws : List AV} {xss : List (List Int)} (p : GRs e h ws xss) {i : Nat} {w : AV} (hw : ws[i]? = some w) : ∃ xs, xss[i]? = some xs ∧ Gr e 1 h w (xs.map I) xs.length := by
  obtain ⟨xs, hx⟩ := at_some (show i < xss.length by rw [← p.len]; exact (List.getElem?_eq_some_iff.1 hw).1)
  exact ⟨xs, hx, p.gr i w xs hw hx⟩
theorem GRs.fr {ws : List AV} {xss : List (List Int)} {R : Nat → Prop} (p : GRs e h ws xss) (a : Fr R h h') (hn : ∀ n, n ∈ nmL ws → ¬ R n) : GRs e h' ws xss :=
  ⟨p.len, fun i w xs h1 h2 => (p.gr i w xs h1 h2).fr a (fun n hv => hn n (mem_nmL.2 ⟨i, w, h1, hv⟩)), p.sep⟩
theorem GRs.lt {ws : List AV} {xss : List (List Int)} (p : GRs e h ws xss) {n : Nat} (hn : n ∈ nmL ws) : n < h.c := by
  obtain ⟨i, w, h1, h2⟩ := mem_nmL.1 hn
  obtain ⟨xs, _, g⟩ := p.at h1
  exact g.lt h2
def grs (e : TypeId) (ws : List AV) (xss : List (List Int)) : As := ⟨nmL ws, fun h => GRs e h ws xss, fun h h' R p a hn => p.fr a hn, fun h p n hn => p.lt hn⟩
theorem GRs.lls {ws : List AV} {xss : List (List Int)} (p : GRs e h ws xss) : LLs false h ws xss := ⟨p.len, fun i w xs h1 h2 => gr_lc' (p.gr i w xs h1 h2) rfl⟩
theorem Hs.gnil (H : Hs M h0 h L Z) (e : TypeId) : Hs M h0 h (grs e [] [] :: L) Z := H.fresh (Ext.refl _) (x := grs e [] []) ⟨rfl, fun i w xs h1 => by simp at h1, fun i j w w' n _ h1 => by simp at h1⟩ (fun n hn => by cases hn)
/-- one more -/
theorem Hs.gsnoc {u : AV} {ys : List Int} {n : Nat} {us : List AV} {zs : List (List Int)} (H : Hs M h0 h (gr e 1 u (ys.map I) n :: grs e us zs :: L) Z) (hn : ys.length = n) : Hs M h0 h (grs e (us ++ [u]) (zs ++ [ys]) :: L) Z := by
  subst hn
  have p := H.p (a := grs e us zs) (.tail _ (.head _))
  have g := H.p (a := gr e 1 u (ys.map I) ys.length) (.head _)
  obtain ⟨s1, s2⟩ := List.pairwise_cons.1 H.sep
  obtain ⟨s3, s4⟩ := List.pairwise_cons.1 s2
  have hu : ∀ m, nmO u = some m → m ∉ nmL us := fun m hm => s1 _ (.head _) m (nmO_mem.2 hm)
  have hmem : ∀ m, m ∈ nmL (us ++ [u]) → m ∈ nmL us ∨ nmO u = some m := by
    intro m hm
    unfold nmL at hm
    rw [List.flatMap_append, List.mem_append, List.flatMap_singleton] at hm
    exact hm.imp id nmO_mem.1
  have hG : GRs e h (us ++ [u]) (zs ++ [ys]) := by
    refine ⟨by simp [p.len], fun i w xs hw hx => ?_, fun i j w w' m hij hi hj hm => ?_⟩
    · rw [List.getElem?_append] at hw hx
      rw [← p.len] at hx
      split at hw
      · rename_i hlt
        rw [if_pos hlt] at hx
        exact p.gr i w xs hw hx
      · rename_i hlt
        rw [if_neg hlt] at hx
        have h0 : i - us.length = 0 := by
          have := (List.getElem?_eq_some_iff.1 hw).1
          simp only [List.length_singleton] at this
          omega
        rw [h0] at hw hx
        cases hw
        cases hx
        exact g
    · have key : ∀ (i : Nat) (w : AV), (us ++ [u])[i]? = some w → (i < us.length ∧ us[i]? = some w) ∨ (i = us.length ∧ w = u) := by
        intro i w hw
        rw [List.getElem?_append] at hw
        split at hw
        · rename_i hlt; exact .inl ⟨hlt, hw⟩
        · rename_i hlt
          have h0 : i - us.length = 0 := by
            have := (List.getElem?_eq_some_iff.1 hw).1
            simp only [List.length_singleton] at this
            omega
          rw [h0] at hw
          cases hw
          exact .inr ⟨by omega, rfl⟩
      rcases key i w hi with ⟨_, h1⟩ | ⟨h1, rfl⟩ <;> rcases key j w' hj with ⟨_, h2⟩ | ⟨h2, rfl⟩
      · exact p.sep i j w w' m hij h1 h2 hm
      · exact fun h3 => hu m h3 (mem_nmL.2 ⟨i, w, h1, hm⟩)
      · exact fun h3 => hu m hm (mem_nmL.2 ⟨j, w', h2, h3⟩)
      · omega
  refine ⟨H.fr, fun a ha => ?_, List.pairwise_cons.2 ⟨fun a ha m hm => ?_, s4⟩, fun z hz => ⟨(H.std z hz).1, fun m hm a ha => ?_⟩⟩
  · rcases List.mem_cons.1 ha with rfl | ha
    · refine ⟨hG, fun m hm => ?_⟩
      rcases hmem m hm with h1 | h1
      · exact (H.own (grs e us zs) (.tail _ (.head _))).2 m h1
      · exact (H.own (gr e 1 u (ys.map I) ys.length) (.head _)).2 m (nmO_mem.2 h1)
    · exact H.own a (.tail _ (.tail _ ha))
  · rcases hmem m hm with h1 | h1
    · exact s3 a ha m h1
    · exact s1 a (.tail _ ha) m (nmO_mem.2 h1)
  · rcases List.mem_cons.1 ha with rfl | ha
    · intro h2
      rcases hmem m h2 with h1 | h1
      · exact (H.std z hz).2 m hm (grs e us zs) (.tail _ (.head _)) h1
      · exact (H.std z hz).2 m hm (gr e 1 u (ys.map I) ys.length) (.head _) (nmO_mem.2 h1)
    · exact (H.std z hz).2 m hm a (.tail _ (.tail _ ha))
/-- they stand from now on -/
theorem Hs.gstand {ws : List AV} {xss : List (List Int)} (H : Hs M h0 h (grs e ws xss :: L) Z) : Hs M h0 h L (lls false ws xss :: Z) := by
  have H1 := H.freeze (a := grs e ws xss) (b := blk id 0 []) (L' := L) (.here _ _ _) rfl
  have p : GRs e h ws xss := H1.pz (.head _)
  have H2 := H1.zsub (z' := lls false ws xss) (.head _) p.lls (fun n hn => hn)
  exact H2.sub (List.Sublist.refl _) (fun z hz => by
    rcases List.mem_cons.1 hz with rfl | hz
    · exact .head _
    · exact .tail _ (.tail _ hz))
/-- an element is appended to one of them -/
theorem wo_apprs {i n2 c2 z2 : Nat} {r2 : Bool} {w : AV} {ys : List Int} {y : Int} {ws : List AV} {xss : List (List Int)} {F : As → List As} (H : Hs M h0 h L Z) (hp : PickF L (grs e ws xss) F) (hw : ws[i]? = some w) (hy : xss[i]? = some ys) (ht : C.tys.get t = some ti) (hd : ti.desc = .slice e) (he : C.tys.get e = some te) (hs : te.size = 1) (hb : Nat.ble te.bytes 65536 = true)
    (hm : blk id n2 [I y] ∈ L) (hl : ys.length + 1 ≤ 100000)
    (h1 : ∀ u' h', oneA u' = true → cellsOf u' = [u'] → Hs M h0 h' (F (grs e (ws.set i u') (xss.set i (ys ++ [y])))) Z → Wo (k (putA env u' dst) h') Q) : Wo (afterA k env dst (builtinA C h .append [t, t] [w, .slice n2 0 1 r2 c2 z2])) Q := by
  have p : GRs e h ws xss := H.p (hp.pick (blk id 0 [])).mem
  have g := p.gr i w ys hw hy
  have hds : elemsA h 1 1 (.slice n2 0 1 r2 c2 z2) = some [I y] := by
    show load h n2 0 (1 * 1) = _
    exact ldn (H.p hm) rfl rfl
  obtain ⟨v', h', e1, g1, f1, n1⟩ := app_gr ht hd he hs (by omega) hb g rfl hds rfl rfl hl
  have g2 : Gr e 1 h' v' ((ys ++ [y]).map I) (ys ++ [y]).length := by rw [List.map_append, List.length_append]; exact g1
  rw [e1]
  have hilt := (List.getElem?_eq_some_iff.1 hw).1
  have hset : ∀ (j : Nat) (u : AV), (ws.set i v')[j]? = some u → (j = i ∧ u = v') ∨ (j ≠ i ∧ ws[j]? = some u) := by
    intro j u hu
    rw [List.getElem?_set] at hu
    by_cases e2 : i = j
    · subst e2
      rw [if_pos rfl, if_pos hilt] at hu
      cases hu
      exact .inl ⟨rfl, rfl⟩
    · rw [if_neg e2] at hu
      exact .inr ⟨fun h => e2 h.symm, hu⟩
  have hnv : ∀ m, nmO v' = some m → nmO w = some m ∨ m = h.c := by
    intro m hm
    rcases n1 with h2 | h2
    · exact .inl (by rw [← h2]; exact hm)
    · rw [h2] at hm; cases hm; exact .inr rfl
  have hG : GRs e h' (ws.set i v') (xss.set i (ys ++ [y])) := by
    refine ⟨by simp [p.len], fun j u zs hu hz => ?_, fun j j' u u' m hjj hj hj' hm => ?_⟩
    · rcases hset j u hu with ⟨rfl, rfl⟩ | ⟨hne, hu⟩
      · rw [List.getElem?_set, if_pos rfl, if_pos (by rw [← p.len]; exact hilt)] at hz
        cases hz
        exact g2
      · rw [List.getElem?_set, if_neg (fun h => hne h.symm)] at hz
        exact (p.gr j u zs hu hz).fr f1 (fun m hm h2 => p.sep j i u w m hne hu hw hm h2)
    · rcases hset j u hj with ⟨rfl, rfl⟩ | ⟨hne, hu⟩ <;> rcases hset j' u' hj' with ⟨h3, rfl⟩ | ⟨hne', hu'⟩
      · exact absurd h3.symm hjj
      · rcases hnv m hm with h2 | h2
        · exact fun h4 => p.sep j' j u' w m hne' hu' hw h4 h2
        · subst h2
          intro h4
          have := p.lt (mem_nmL.2 ⟨j', u', hu', h4⟩)
          omega
      · intro h4
        rcases hnv m h4 with h2 | h2
        · exact p.sep j j' u w m hjj hu (by rw [h3]; exact hw) hm h2
        · subst h2
          have := p.lt (mem_nmL.2 ⟨j, u, hu, hm⟩)
          omega
      · exact p.sep j j' u u' m hjj hu hu' hm
  refine h1 v' h' (gr_lc' g2 rfl).one (gr_lc' g2 rfl).cells (H.upd (hp.pick _) (a' := grs e (ws.set i v') (xss.set i (ys ++ [y]))) ⟨f1.c, f1.ro, fun m h2 h3 => f1.m m h2 (fun h4 => h3 (mem_nmL.2 ⟨i, w, hw, h4⟩))⟩ hG (fun m hm => ?_))
  obtain ⟨j, u, hu, h2⟩ := mem_nmL.1 hm
  rcases hset j u hu with ⟨rfl, rfl⟩ | ⟨hne, hu⟩
  · rcases hnv m h2 with h3 | h3
    · exact .inl (mem_nmL.2 ⟨j, w, hw, h3⟩)
    · exact .inr (Nat.le_of_eq h3.symm)
  · exact .inl (mem_nmL.2 ⟨j, u, hu, h2⟩)
/-- the answer of a function that makes lists by append -/
def RPg (e : TypeId) (b h' : Hp) (r : AV) (bs : List Int) (xss : List (List Int)) : Prop :=
  ∃ vB p ws, r = .agg [vB, .slice p 0 ws.length false ws.length 0] ∧ Blks id h' p ws ∧ b.c ≤ p ∧ Lc false h' vB (bs.map I) ∧ GRs e h' ws xss ∧ (∀ n, nmO vB = some n → b.c ≤ n ∧ n ≠ p ∧ n ∉ nmL ws) ∧ ∀ n, n ∈ nmL ws → b.c ≤ n ∧ n ≠ p
theorem Hs.dupg (H : Hs M h0 h L Z) (a : Ext h h') {vB : AV} {p : Nat} {ws : List AV} {bs : List Int} {xss : List (List Int)} (h1 : Blks id h' p ws) (h2 : h.c ≤ p) (h3 : Lc false h' vB (bs.map I)) (h4 : GRs e h' ws xss)
    (h5 : ∀ n, nmO vB = some n → h.c ≤ n ∧ n ≠ p ∧ n ∉ nmL ws) (h6 : ∀ n, n ∈ nmL ws → h.c ≤ n ∧ n ≠ p) : Hs M h0 h' (grs e ws xss :: blk id p ws :: L) (isl vB (bs.map I) :: lc false vB (bs.map I) :: Z) := by
  have G := H.ext a
  have hlt : ∀ x, x ∈ L → ∀ n, n ∈ x.foot → n < h.c := fun x hx n hn => H.lt hx hn
  refine ⟨G.fr, fun x hx => ?_, List.pairwise_cons.2 ⟨fun x hx n hn h9 => ?_, List.pairwise_cons.2 ⟨fun x hx n hn h9 => ?_, G.sep⟩⟩, fun z hz => ?_⟩
  · rcases List.mem_cons.1 hx with rfl | hx
    · exact ⟨h4, fun n hn => .inl (Nat.le_trans H.fr.c (h6 n hn).1)⟩
    · rcases List.mem_cons.1 hx with rfl | hx
      · exact ⟨h1, fun n hn => .inl (by rw [List.mem_singleton.1 hn]; exact Nat.le_trans H.fr.c h2)⟩
      · exact G.own x hx
  · rcases List.mem_cons.1 hx with rfl | hx
    · exact (h6 n hn).2 (List.mem_singleton.1 h9)
    · have := hlt x hx n h9
      have := (h6 n hn).1
      omega
  · have := hlt x hx n h9
    rw [List.mem_singleton.1 hn] at this
    omega
  · have hB : ∀ z : As, z.P h' → (∀ n, n ∈ z.foot → nmO vB = some n) → z.P h' ∧ ∀ n, n ∈ z.foot → ∀ a, a ∈ (grs e ws xss :: blk id p ws :: L) → n ∉ a.foot := by
      intro z pz hf
      refine ⟨pz, fun n hn a ha h9 => ?_⟩
      obtain ⟨q1, q2, q3⟩ := h5 n (hf n hn)
      rcases List.mem_cons.1 ha with rfl | ha
      · exact q3 h9
      · rcases List.mem_cons.1 ha with rfl | ha
        · exact q2 (List.mem_singleton.1 h9)
        · have := hlt a ha n h9
          omega
    rcases List.mem_cons.1 hz with rfl | hz
    · exact hB _ h3.isL (fun n hn => nmO_mem.1 hn)
    · rcases List.mem_cons.1 hz with rfl | hz
      · exact hB _ h3 (fun n hn => nmO_mem.1 hn)
      · refine ⟨(G.std z hz).1, fun n hn a ha h9 => ?_⟩
        have hl := z.lt h (H.std z hz).1 n hn
        rcases List.mem_cons.1 ha with rfl | ha
        · have := (h6 n h9).1
          omega
        · rcases List.mem_cons.1 ha with rfl | ha
          · have := List.mem_singleton.1 h9
            omega
          · exact (G.std z hz).2 n hn a ha h9
/-- the answer of a function of the definition -/
def RP0 (b h' : Hp) (r : AV) (bs : List Int) (xss : List (List Int)) : Prop :=
  ∃ vB vR ws, r = .agg [vB, vR] ∧ PLs false h' vB vR ws bs xss ∧ ∀ n, n ∈ (pls false vB vR ws bs xss).foot → b.c ≤ n
theorem Hs.rp0 (H : Hs M h0 h L Z) {vB : AV} {p : Nat} {ws : List AV} {bs : List Int} {xss : List (List Int)} (h1 : blk id p ws ∈ L) (h2 : lc false vB (bs.map I) ∈ Z) (h3 : lls false ws xss ∈ Z) (f1 : h0.c ≤ p) (f2 : ∀ n, nmO vB = some n → h0.c ≤ n) (f3 : ∀ n, n ∈ nmL ws → h0.c ≤ n) : RP0 h0 h (.agg [vB, .slice p 0 ws.length false ws.length 0]) bs xss := by
  refine ⟨vB, _, ws, rfl, ⟨H.pz h2, (Lc.blk (H.p h1) rfl).weak, H.pz h3⟩, fun n hn => ?_⟩
  rcases List.mem_append.1 hn with h4 | h4
  · exact f2 n (nmO_mem.1 h4)
  · rcases List.mem_append.1 h4 with h4 | h4
    · cases nmO_mem.1 h4; exact f1
    · exact f3 n h4
end
section
variable {C : Ctx} {t : TypeId} {e : TypeId} {ti te : TI} {M : List Nat} {h0 h h' : Hp} {L L' Z : List As} {k : OpsK} {dst : Option Tmp} {env : Env} {Q : Env → Hp → Prop}
theorem Hs.rpg {b : Hp} {ws : List AV} {xss : List (List Int)} {p : Nat} (H : Hs [] b h (grs e ws xss :: blk id p ws :: L) Z) {vB : AV} {bs : List Int} (h2 : lc false vB (bs.map I) ∈ Z) (f2 : ∀ n, nmO vB = some n → b.c ≤ n) : RPg e b h (.agg [vB, .slice p 0 ws.length false ws.length 0]) bs xss := by
  have own := fun a ha n hn => ((H.own a ha).2 n hn).elim id (fun h => by cases h)
  refine ⟨vB, p, ws, rfl, H.p (a := blk id p ws) (.tail _ (.head _)), own _ (.tail _ (.head _)) p (List.mem_singleton.2 rfl), H.pz h2, H.p (a := grs e ws xss) (.head _), fun n hn => ⟨f2 n hn, fun h3 => ?_, fun h3 => ?_⟩, fun n hn => ⟨own _ (.head _) n hn, fun h3 => ?_⟩⟩
  · exact (H.std _ h2).2 n (nmO_mem.2 hn) _ (.tail _ (.head _)) (List.mem_singleton.2 h3)
  · exact (H.std _ h2).2 n (nmO_mem.2 hn) _ (.head _) h3
  · exact (List.pairwise_cons.1 H.sep).1 _ (.head _) n hn (List.mem_singleton.2 h3)
theorem wo_leng {te' : TypeId} {i : Nat} {w : AV} {ys : List Int} {ws : List AV} {xss : List (List Int)} (H : Hs M h0 h L Z) (hp : grs e ws xss ∈ L) (hw : ws[i]? = some w) (hy : xss[i]? = some ys) (ht : C.tys.get t = some ti) (hd : ti.desc = .slice te')
    (h1 : Wo (k (putA env (I ys.length) dst) h) Q) : Wo (afterA k env dst (builtinA C h .len [t] [w])) Q := by
  have p : GRs e h ws xss := H.p hp
  have := (gr_lc' (p.gr i w ys hw hy) rfl).isL.len (C := C) (h' := h) ht hd
  rw [List.length_map] at this
  rw [this]
  exact h1
end
end Go.Proofs.Abs
