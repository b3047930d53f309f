import Derived.Test.YtpioenfglmimgaaO4
namespace Go.Proofs.Abs
open Go Go.RowKit
set_option linter.unusedSimpArgs false
set_option linter.unusedVariables false
/-! Slices of structs of one's own, row by row. -/
theorem at_some5 {α : Type} {xs : List α} {k : Nat} (h : k < xs.length) : ∃ x, xs[k]? = some x := ⟨_, List.getElem?_eq_getElem h⟩
/-- each row has s cells -/
def RowL (s : Nat) (R : List (List AV)) : Prop := ∀ r ∈ R, r.length = s
theorem RowL.tail {s : Nat} {r : List AV} {R : List (List AV)} (h : RowL s (r :: R)) : RowL s R := fun x hx => h x (.tail _ hx)
theorem RowL.len {s : Nat} : ∀ {R : List (List AV)}, RowL s R → R.flatten.length = R.length * s := by
  intro R
  induction R with
  | nil => intro _; simp
  | cons r R ih => intro h; rw [List.flatten_cons, List.length_append, ih h.tail, h r (.head _), List.length_cons, Nat.succ_mul, Nat.add_comm]
theorem RowL.at {s : Nat} : ∀ {R : List (List AV)} {i j : Nat} {r : List AV} {x : AV}, RowL s R → R[i]? = some r → r[j]? = some x → R.flatten[i * s + j]? = some x := by
  intro R
  induction R with
  | nil => intro i j r x _ h; cases h
  | cons q R ih =>
    intro i j r x h hr hx
    have hq := h q (.head _)
    cases i with
    | zero =>
      rw [List.getElem?_cons_zero] at hr
      cases hr
      have := (List.getElem?_eq_some_iff.1 hx).1
      rw [List.flatten_cons, Nat.zero_mul, Nat.zero_add, List.getElem?_append_left this]
      exact hx
    | succ i =>
      rw [List.getElem?_cons_succ] at hr
      rw [List.flatten_cons, List.getElem?_append_right (by rw [hq, Nat.succ_mul]; omega), hq]
      have := ih h.tail hr hx
      rwa [show (i + 1) * s + j - s = i * s + j by rw [Nat.succ_mul]; omega]
theorem RowL.sub {s : Nat} : ∀ {R : List (List AV)} {i : Nat} {r : List AV}, RowL s R → R[i]? = some r → (R.flatten.drop (i * s)).take s = r := by
  intro R i r h hr
  have hl : r.length = s := h r (List.mem_of_getElem? hr)
  apply List.ext_getElem?
  intro j
  rw [List.getElem?_take, List.getElem?_drop]
  by_cases hj : j < s
  · rw [if_pos hj]
    obtain ⟨x, hx⟩ := at_some5 (show j < r.length by omega)
    rw [hx]
    exact h.at hr hx
  · rw [if_neg hj, List.getElem?_eq_none (by omega)]
theorem RowL.set {s : Nat} {R : List (List AV)} (h : RowL s R) {i : Nat} {r : List AV} (hr : r.length = s) : RowL s (R.set i r) := fun x hx => by
  rcases List.mem_or_eq_of_mem_set hx with h1 | h1
  · exact h x h1
  · rw [h1]; exact hr
theorem RowL.snoc {s : Nat} {R : List (List AV)} (h : RowL s R) {r : List AV} (hr : r.length = s) : RowL s (R ++ [r]) := fun x hx => by
  rcases List.mem_append.1 hx with h1 | h1
  · exact h x h1
  · rw [List.mem_singleton.1 h1]; exact hr
theorem RowL.take {s : Nat} {R : List (List AV)} (h : RowL s R) (k : Nat) : RowL s (R.take k) := fun x hx => h x (List.mem_of_mem_take hx)
theorem flat_app (R : List (List AV)) (r : List AV) : (R ++ [r]).flatten = R.flatten ++ r := by simp
theorem flat_set {s : Nat} : ∀ {R : List (List AV)} {i : Nat} {r : List AV}, RowL s R → r.length = s → i < R.length → (R.set i r).flatten = patch R.flatten (i * s) r := by
  intro R
  induction R with
  | nil => intro i r _ _ h; exact absurd h (by simp)
  | cons q R ih =>
    intro i r h hr hi
    have hq := h q (.head _)
    cases i with
    | zero =>
      rw [List.set_cons_zero, List.flatten_cons, List.flatten_cons]
      unfold patch
      rw [Nat.zero_mul, List.take_zero, Nat.zero_add, List.nil_append, List.drop_append, hr, hq, Nat.sub_self, List.drop_of_length_le (by omega), List.nil_append, List.drop_zero]
    | succ i =>
      rw [List.set_cons_succ, List.flatten_cons, ih h.tail hr (by simpa using hi), List.flatten_cons]
      unfold patch
      have e1 : (i + 1) * s = s + i * s := by rw [Nat.succ_mul, Nat.add_comm]
      have e2 : (q ++ R.flatten).take (s + i * s) = q ++ R.flatten.take (i * s) := by rw [List.take_append, List.take_of_length_le (show q.length ≤ s + i * s by omega), hq, Nat.add_sub_cancel_left]
      have e3 : (q ++ R.flatten).drop (s + i * s + r.length) = R.flatten.drop (i * s + r.length) := by rw [List.drop_append, List.drop_of_length_le (show q.length ≤ s + i * s + r.length by omega), List.nil_append, hq, show s + i * s + r.length - s = i * s + r.length by omega]
      rw [e1, e2, e3, List.append_assoc, List.append_assoc, List.append_assoc]
theorem flat_take {s : Nat} {R : List (List AV)} (h : RowL s R) {k : Nat} (hk : k ≤ R.length) : (R.take k).flatten = R.flatten.take (k * s) := by
  have h1 : R.flatten = (R.take k).flatten ++ (R.drop k).flatten := by rw [← List.flatten_append, List.take_append_drop]
  have h2 : (R.take k).flatten.length = k * s := by rw [(h.take k).len, List.length_take, Nat.min_eq_left hk]
  conv => rhs; rw [h1]
  rw [List.take_append, List.take_of_length_le (Nat.le_of_eq h2), h2, Nat.sub_self, List.take_zero, List.append_nil]
section
variable {C : Ctx} {t e s : Nat} {ti te : TI} {M : List Nat} {h0 h h' : Hp} {L L' Z : List As} {k : OpsK} {dst : Option Tmp} {env : Env} {Q : Env → Hp → Prop}
/-- a slice of rows of one's own: as append left it, or as long as it says -/
def OwR (e s : Nat) (h : Hp) (v : AV) (R : List (List AV)) : Prop :=
  RowL s R ∧ (Gr e s h v R.flatten R.length ∨ ∃ nm, v = .slice nm 0 R.length false R.length 0 ∧ Blks id h nm R.flatten)
theorem OwR.fr {v : AV} {R : List (List AV)} {P : Nat → Prop} (p : OwR e s h v R) (a : Fr P h h') (hn : ∀ n, nmO v = some n → ¬ P n) : OwR e s h' v R := by
  obtain ⟨h1, h2 | ⟨nm, rfl, h3⟩⟩ := p
  · exact ⟨h1, .inl (h2.fr a hn)⟩
  · exact ⟨h1, .inr ⟨nm, rfl, h3.fr a (hn nm rfl)⟩⟩
theorem OwR.lt {v : AV} {R : List (List AV)} (p : OwR e s h v R) {n : Nat} (hn : nmO v = some n) : n < h.c := by
  obtain ⟨_, h2 | ⟨nm, rfl, h3⟩⟩ := p
  · exact h2.lt hn
  · cases hn; exact h3.lt
def owr (e s : Nat) (v : AV) (R : List (List AV)) : As :=
  ⟨(nmO v).toList, fun h => OwR e s h v R, fun h h' P p a hn => p.fr a (fun n hv => hn n (nmO_mem.2 hv)), fun h p n hn => p.lt (nmO_mem.1 hn)⟩
theorem OwR.is {v : AV} {R : List (List AV)} (p : OwR e s h v R) : (v = nilS ∧ R = []) ∨ ∃ nm r c, v = .slice nm 0 R.length r c 0 := by
  obtain ⟨_, h2 | ⟨nm, rfl, h3⟩⟩ := p
  · rcases h2.is with ⟨h4, h5⟩ | ⟨nm, r, h4, _⟩
    · exact .inl ⟨h4, List.eq_nil_of_length_eq_zero h5⟩
    · exact .inr ⟨nm, r, 0, h4⟩
  · exact .inr ⟨nm, false, _, rfl⟩
theorem OwR.one {v : AV} {R : List (List AV)} (p : OwR e s h v R) : oneA v = true := by
  rcases p.is with ⟨rfl, _⟩ | ⟨nm, r, c, rfl⟩ <;> rfl
theorem OwR.cells {v : AV} {R : List (List AV)} (p : OwR e s h v R) : cellsOf v = [v] := by
  rcases p.is with ⟨rfl, _⟩ | ⟨nm, r, c, rfl⟩ <;> rfl
theorem OwR.blk {v : AV} {R : List (List AV)} (p : OwR e s h v R) {i : Nat} (hi : i < R.length) : ∃ nm r c, v = .slice nm 0 R.length r c 0 ∧ Blks id h nm R.flatten := by
  obtain ⟨_, h2 | ⟨nm, rfl, h3⟩⟩ := p
  · obtain ⟨hl, ⟨h5, _⟩ | ⟨nm, b, h5, h6, h7, h8, _, _, _, h9⟩⟩ := h2
    · omega
    · exact ⟨nm, true, 0, h6, h7, b, h8, h9⟩
  · exact ⟨nm, false, _, rfl, h3⟩
theorem OwR.nil (e s : Nat) (h : Hp) : OwR e s h nilS [] := ⟨fun r hr => (by cases hr), .inl (Gr.nil e s h)⟩
/-- some cells are changed -/
theorem OwR.store {nm o n c z : Nat} {r : Bool} {R R' : List (List AV)} (p : OwR e s h (.slice nm o n r c z) R) {a : Nat} {vs : List AV} (hb : Blks id h nm R.flatten) (hv : onesA vs = true) (ha : a + vs.length ≤ R.flatten.length) (hR : R'.flatten = patch R.flatten a vs) (hl : R'.length = R.length) (hr : RowL s R') :
    ∃ h', Abs.store h nm a vs = some h' ∧ OwR e s h' (.slice nm o n r c z) R' ∧ Only nm h h' := by
  obtain ⟨h', e1, o1, b1⟩ := store_blk' (f := id) (xs := vs) hb (by rw [List.map_id]; exact hv) ha
  rw [List.map_id] at e1
  refine ⟨h', e1, ⟨hr, ?_⟩, o1⟩
  obtain ⟨_, h2 | ⟨nm', h9, h3⟩⟩ := p
  · obtain ⟨g1, ⟨g2, g3⟩ | ⟨nm', b, g2, g3, g4, g5, g6, g7, g8, g9⟩⟩ := h2
    · have hz : R.flatten.length = 0 := by rw [g1, g2, Nat.zero_mul]
      have hz2 : R' = [] := List.eq_nil_of_length_eq_zero (by omega)
      have hz3 : R = [] := List.eq_nil_of_length_eq_zero g2
      subst hz2 hz3
      refine .inl ⟨by simp, .inl ⟨rfl, ?_⟩⟩
      rcases g3 with g3 | ⟨nm', b, g3, g4, g5⟩
      · exact .inl g3
      · cases g3
        obtain ⟨b', hb', _⟩ := b1.blk
        exact .inr ⟨nm, b', rfl, b1.lt, hb'⟩
    · cases g3
      refine .inl ⟨by rw [hr.len], .inr ⟨nm, ⟨setCells b.cells a vs, b.n, b.elem, b.grow⟩, by omega, by rw [hl], b1.lt, ?_, g6, by rw [hl]; exact g7, g8, ?_⟩⟩
      · have : Abs.store h nm a vs = some ⟨h.m.put nm (some ⟨setCells b.cells a vs, b.n, b.elem, b.grow⟩), h.c, h.ro⟩ := by
          rw [store_h, g5, stO_s, hv, known_of (fun i hi => by
            have hq : a + i < R.flatten.length := by omega
            exact ⟨_, g9 (a + i) R.flatten[a + i] (List.getElem?_eq_getElem hq)⟩)]
          rfl
        rw [this] at e1
        cases e1
        show (h.m.put nm _).get nm = _
        rw [T.get_put, if_pos rfl]
      · intro j x hx
        obtain ⟨b', hb', hc'⟩ := b1.blk
        have : Abs.store h nm a vs = some ⟨h.m.put nm (some ⟨setCells b.cells a vs, b.n, b.elem, b.grow⟩), h.c, h.ro⟩ := by
          rw [store_h, g5, stO_s, hv, known_of (fun i hi => by
            have hq : a + i < R.flatten.length := by omega
            exact ⟨_, g9 (a + i) R.flatten[a + i] (List.getElem?_eq_getElem hq)⟩)]
          rfl
        rw [this] at e1
        cases e1
        rw [hR] at hx
        have h10 := hc' j x hx
        have h11 : b' = ⟨setCells b.cells a vs, b.n, b.elem, b.grow⟩ := by
          change (h.m.put nm _).get nm = _ at hb'
          rw [T.get_put, if_pos rfl] at hb'
          exact (Option.some.inj hb').symm
        rw [h11] at h10
        exact h10
  · cases h9
    rw [← hR] at b1
    exact .inr ⟨nm, by rw [hl], b1⟩
theorem wo_rlen {v : AV} {R : List (List AV)} (p : OwR e s h v R) (ht : C.tys.get t = some ti) (hd : ti.desc = .slice e) (h1 : Wo (k (putA env (I (R.length : Int)) dst) h) Q) : Wo (afterA k env dst (builtinA C h .len [t] [v])) Q := by
  have e1 : builtinA C h .len [t] [v] = some (I (R.length : Int), h) := by
    rcases p.is with ⟨rfl, rfl⟩ | ⟨nm, r, c, rfl⟩ <;> simp only [builtinA, ht, hd] <;> rfl
  rw [e1]
  exact h1
theorem wo_ria {v : AV} {R : List (List AV)} {kk : IntKind} {i : Int} {j : Nat} (p : OwR e s h v R) (ht : C.tys.get t = some ti) (hd : ti.desc = .slice e) (he : C.tys.get e = some te) (hs : te.size = s) (hj : i = (j : Int)) (hx : j < R.length)
    (h1 : ∀ nm, nmO v = some nm → Wo (k (putA env (.ptr nm (j * s)) dst) h) Q) : Wo (afterA k env dst (withH h (indexAddrA C t v (.lit (.int kk i))))) Q := by
  subst hj
  obtain ⟨nm, r, c, rfl, _⟩ := p.blk hx
  have e1 : indexAddrA C t (.slice nm 0 R.length r c 0) (.lit (.int kk (j : Int))) = some (.ptr nm (j * s)) := by
    show indexAddrA C t _ (.lit (.int kk (.ofNat j))) = _
    simp only [indexAddrA, ht, hd, he, hs]
    rw [show Nat.blt j R.length = true from by simpa using hx, Nat.zero_add]
    rfl
  rw [e1]
  exact h1 nm rfl
theorem wo_rld {v : AV} {R : List (List AV)} {nm i j off : Nat} {r : List AV} {x : AV} (p : OwR e s h v R) (hn : nmO v = some nm) (hg : isAggD ti.desc = false) (hr : R[i]? = some r) (ho : off = i * s + j) (hx : r[j]? = some x)
    (h1 : Wo (k (putA env x dst) h) Q) : Wo (afterA k env dst (oLoad h (some ti) (some (.ptr nm off)))) Q := by
  subst ho
  obtain ⟨nm', r', c, rfl, hb⟩ := p.blk (List.getElem?_eq_some_iff.1 hr).1
  cases hn
  rw [oload1 hg (ld1 hb (p.1.at hr hx))]
  exact h1
theorem wo_rldn {v : AV} {R : List (List AV)} {nm i off : Nat} {r : List AV} (p : OwR e s h v R) (hn : nmO v = some nm) (hg : isAggD ti.desc = true) (hs : ti.size = s) (hr : R[i]? = some r) (ho : off = i * s)
    (h1 : Wo (k (putA env (.agg r) dst) h) Q) : Wo (afterA k env dst (oLoad h (some ti) (some (.ptr nm off)))) Q := by
  subst ho
  obtain ⟨nm', r', c, rfl, hb⟩ := p.blk (List.getElem?_eq_some_iff.1 hr).1
  cases hn
  rw [oloadn hg (ldn (vs := r) hb (by rw [hs]; exact p.1.sub hr) (by rw [hs]; exact p.1 r (List.mem_of_getElem? hr)))]
  exact h1
theorem wo_rst {v : AV} {R : List (List AV)} {nm i j off : Nat} {r : List AV} {w y : AV} (H : Hs M h0 h L Z) (hp : Pick L (owr e s v R) (owr e s v (R.set i (r.set j y))) L') (hn : nmO v = some nm) (hr : R[i]? = some r) (ho : off = i * s + j) (hj : j < s) (hw : w = y) (hc : cellsOf y = [y]) (h1o : oneA y = true) (hs1 : ti.size = 1)
    (h1 : ∀ h', Hs M h0 h' L' Z → Wo (k (putA env uv dst) h') Q) : Wo (afterA k env dst (oStore h (some ti) (some (.ptr nm off)) (some w))) Q := by
  subst ho hw
  have p : OwR e s h v R := H.p hp.mem
  have hil := (List.getElem?_eq_some_iff.1 hr).1
  have hrl := p.1 r (List.mem_of_getElem? hr)
  have hfl := p.1.len
  have hin : i * s + s ≤ R.length * s := by rw [← Nat.succ_mul]; exact Nat.mul_le_mul_right _ hil
  obtain ⟨nm', r', c, rfl, hb⟩ := p.blk hil
  cases hn
  have hfe : (R.set i (r.set j w)).flatten = patch R.flatten (i * s + j) [w] := by
    rw [flat_set p.1 (by rw [List.length_set]; exact hrl) hil]
    apply List.ext_getElem?
    intro q
    rw [patch_at (by rw [List.length_set, hrl, hfl]; omega), patch_at (by rw [hfl]; simp; omega), List.length_set, hrl]
    simp only [List.length_cons, List.length_nil, Nat.zero_add]
    by_cases h1 : i * s ≤ q ∧ q < i * s + s
    · rw [if_pos h1, List.getElem?_set]
      by_cases h2 : j = q - i * s
      · rw [if_pos h2, if_pos (by omega), if_pos (by omega), show q - (i * s + j) = 0 by omega]; rfl
      · rw [if_neg h2, if_neg (by omega)]
        obtain ⟨x, hx⟩ := at_some5 (show q - i * s < r.length by omega)
        have := p.1.at hr hx
        rw [show i * s + (q - i * s) = q by omega] at this
        rw [this, hx]
    · rw [if_neg h1, if_neg (by omega)]
  obtain ⟨h', e1, p', o1⟩ := p.store (R' := R.set i (r.set j w)) (a := i * s + j) (vs := [w]) hb (by rw [onesA_cons', h1o]; rfl) (by rw [hfl]; simp; omega) hfe (by rw [List.length_set]) (p.1.set (by rw [List.length_set]; exact hrl))
  have e2 : oStore h (some ti) (some (.ptr nm (i * s + j))) (some w) = some (uv, h') := by
    show cond (Nat.beq (cellsOf w).length ti.size) (skipH (Abs.store h nm (i * s + j) (cellsOf w))) none = _
    rw [hc, hs1]
    show skipH (Abs.store h nm (i * s + j) [w]) = _
    rw [e1]
    rfl
  rw [e2]
  exact h1 h' (H.upd hp (o1.fr (P := fun m => m ∈ (owr e s (.slice nm 0 R.length r' c 0) R).foot) (show nm ∈ (nmO (AV.slice nm 0 R.length r' c 0)).toList from nmO_mem.2 rfl)) p' (fun m hm => .inl hm))
theorem wo_rstn {v : AV} {R : List (List AV)} {nm i off : Nat} {w : AV} {vs : List AV} (H : Hs M h0 h L Z) (hp : Pick L (owr e s v R) (owr e s v (R.set i vs)) L') (hn : nmO v = some nm) (ho : off = i * s) (hi : i < R.length) (hc : cellsOf w = vs) (hv : onesA vs = true) (hl : vs.length = s) (hs1 : ti.size = s)
    (h1 : ∀ h', Hs M h0 h' L' Z → Wo (k (putA env uv dst) h') Q) : Wo (afterA k env dst (oStore h (some ti) (some (.ptr nm off)) (some w))) Q := by
  subst ho
  have p : OwR e s h v R := H.p hp.mem
  have hfl := p.1.len
  have hin : i * s + s ≤ R.length * s := by rw [← Nat.succ_mul]; exact Nat.mul_le_mul_right _ hi
  obtain ⟨nm', r', c, rfl, hb⟩ := p.blk hi
  cases hn
  obtain ⟨h', e1, p', o1⟩ := p.store (R' := R.set i vs) (a := i * s) (vs := vs) hb hv (by rw [hfl, hl]; exact hin) (flat_set p.1 hl hi) (by rw [List.length_set]) (p.1.set hl)
  have e2 : oStore h (some ti) (some (.ptr nm (i * s))) (some w) = some (uv, h') := by
    show cond (Nat.beq (cellsOf w).length ti.size) (skipH (Abs.store h nm (i * s) (cellsOf w))) none = _
    rw [hc, hs1, hl, Nat.beq_refl]
    show skipH (Abs.store h nm (i * s) vs) = _
    rw [e1]
    rfl
  rw [e2]
  exact h1 h' (H.upd hp (o1.fr (P := fun m => m ∈ (owr e s (.slice nm 0 R.length r' c 0) R).foot) (show nm ∈ (nmO (AV.slice nm 0 R.length r' c 0)).toList from nmO_mem.2 rfl)) p' (fun m hm => .inl hm))
theorem wo_rlenL {v : AV} {R : List (List AV)} (H : Hs M h0 h L Z) (ht : C.tys.get t = some ti) (hd : ti.desc = .slice e) (hm : owr e s v R ∈ L) (h1 : Wo (k (putA env (I (R.length : Int)) dst) h) Q) : Wo (afterA k env dst (builtinA C h .len [t] [v])) Q := wo_rlen (H.p hm) ht hd h1
theorem wo_rlenZ {v : AV} {R : List (List AV)} (H : Hs M h0 h L Z) (ht : C.tys.get t = some ti) (hd : ti.desc = .slice e) (hm : owr e s v R ∈ Z) (h1 : Wo (k (putA env (I (R.length : Int)) dst) h) Q) : Wo (afterA k env dst (builtinA C h .len [t] [v])) Q := wo_rlen (H.pz hm) ht hd h1
theorem wo_riaL {v : AV} {R : List (List AV)} {kk : IntKind} {i : Int} {j : Nat} (H : Hs M h0 h L Z) (ht : C.tys.get t = some ti) (hd : ti.desc = .slice e) (he : C.tys.get e = some te) (hm : owr e s v R ∈ L) (hs : te.size = s) (hj : i = (j : Int)) (hx : j < R.length)
    (h1 : ∀ nm, nmO v = some nm → Wo (k (putA env (.ptr nm (j * s)) dst) h) Q) : Wo (afterA k env dst (withH h (indexAddrA C t v (.lit (.int kk i))))) Q := wo_ria (H.p hm) ht hd he hs hj hx h1
theorem wo_riaZ {v : AV} {R : List (List AV)} {kk : IntKind} {i : Int} {j : Nat} (H : Hs M h0 h L Z) (ht : C.tys.get t = some ti) (hd : ti.desc = .slice e) (he : C.tys.get e = some te) (hm : owr e s v R ∈ Z) (hs : te.size = s) (hj : i = (j : Int)) (hx : j < R.length)
    (h1 : ∀ nm, nmO v = some nm → Wo (k (putA env (.ptr nm (j * s)) dst) h) Q) : Wo (afterA k env dst (withH h (indexAddrA C t v (.lit (.int kk i))))) Q := wo_ria (H.pz hm) ht hd he hs hj hx h1
theorem wo_rldL {v : AV} {R : List (List AV)} {nm i j off : Nat} {r : List AV} {x : AV} (H : Hs M h0 h L Z) (hn : nmO v = some nm) (hm : owr e s v R ∈ L) (hg : isAggD ti.desc = false) (hr : R[i]? = some r) (ho : off = i * s + j) (hx : r[j]? = some x)
    (h1 : Wo (k (putA env x dst) h) Q) : Wo (afterA k env dst (oLoad h (some ti) (some (.ptr nm off)))) Q := wo_rld (H.p hm) hn hg hr ho hx h1
theorem wo_rldZ {v : AV} {R : List (List AV)} {nm i j off : Nat} {r : List AV} {x : AV} (H : Hs M h0 h L Z) (hn : nmO v = some nm) (hm : owr e s v R ∈ Z) (hg : isAggD ti.desc = false) (hr : R[i]? = some r) (ho : off = i * s + j) (hx : r[j]? = some x)
    (h1 : Wo (k (putA env x dst) h) Q) : Wo (afterA k env dst (oLoad h (some ti) (some (.ptr nm off)))) Q := wo_rld (H.pz hm) hn hg hr ho hx h1
theorem wo_rldnL {v : AV} {R : List (List AV)} {nm i off : Nat} {r : List AV} (H : Hs M h0 h L Z) (hn : nmO v = some nm) (hm : owr e s v R ∈ L) (hg : isAggD ti.desc = true) (hs : ti.size = s) (hr : R[i]? = some r) (ho : off = i * s)
    (h1 : Wo (k (putA env (.agg r) dst) h) Q) : Wo (afterA k env dst (oLoad h (some ti) (some (.ptr nm off)))) Q := wo_rldn (H.p hm) hn hg hs hr ho h1
theorem wo_rldnZ {v : AV} {R : List (List AV)} {nm i off : Nat} {r : List AV} (H : Hs M h0 h L Z) (hn : nmO v = some nm) (hm : owr e s v R ∈ Z) (hg : isAggD ti.desc = true) (hs : ti.size = s) (hr : R[i]? = some r) (ho : off = i * s)
    (h1 : Wo (k (putA env (.agg r) dst) h) Q) : Wo (afterA k env dst (oLoad h (some ti) (some (.ptr nm off)))) Q := wo_rldn (H.pz hm) hn hg hs hr ho h1
/-- one more row, which was just built -/
theorem wo_rapp {u : AV} {R : List (List AV)} {ds : List AV} {F : As → List As} {n2 c2 z2 : Nat} {r2 : Bool} (H : Hs M h0 h L Z) (hp : PickF L (owr e s u R) F) (ht : C.tys.get t = some ti) (hd : ti.desc = .slice e) (he : C.tys.get e = some te) (hs : te.size = s) (hs0 : 0 < s) (hb : Nat.ble te.bytes 65536 = true)
    (hm : blk id n2 ds ∈ L) (hdl : ds.length = s) (ho : onesA ds = true) (hl : R.length ≤ 90000)
    (h1 : ∀ u' h', Hs M h0 h' (F (owr e s u' (R ++ [ds]))) Z → Wo (k (putA env u' dst) h') Q) : Wo (afterA k env dst (builtinA C h .append [t, t] [u, .slice n2 0 1 r2 c2 z2])) Q := by
  have p : OwR e s h u R := H.p (hp.pick (blk id 0 [])).mem
  have hds : elemsA h s 1 (.slice n2 0 1 r2 c2 z2) = some ds := by
    show load h n2 0 (1 * s) = _
    rw [Nat.one_mul]
    exact ldn (H.p hm) (by rw [List.drop_zero, ← hdl, List.take_length]) hdl
  have key : ∃ u' h', builtinA C h .append [t, t] [u, .slice n2 0 1 r2 c2 z2] = some (u', h') ∧ OwR e s h' u' (R ++ [ds]) ∧ Fr (fun n => nmO u = some n) h h' ∧ (nmO u' = nmO u ∨ nmO u' = some h.c) := by
    obtain ⟨q1, q2 | ⟨nm, rfl, q3⟩⟩ := p
    · obtain ⟨v', h', e1, g1, f1, n1⟩ := app_gr ht hd he hs hs0 hb q2 (w := .slice n2 0 1 r2 c2 z2) (k := 1) rfl hds (by rw [hdl, Nat.one_mul]) ho (by omega)
      refine ⟨v', h', e1, ⟨q1.snoc hdl, .inl ?_⟩, f1, n1⟩
      rw [flat_app, List.length_append, List.length_cons, List.length_nil, Nat.zero_add]
      exact g1
    · have hol : load h nm 0 (R.length * s) = some R.flatten := ldn q3 (by rw [List.drop_zero, ← q1.len, List.take_length]) q1.len
      have e1 : builtinA C h .append [t, t] [.slice nm 0 R.length false R.length 0, .slice n2 0 1 r2 c2 z2] = some (.slice h.c 0 (R.length + 1) true 0 0, newBlk h (R.flatten ++ ds) e s) := by
        show appendA C h t t (.slice nm 0 R.length false R.length 0) (.slice n2 0 1 r2 c2 z2) = _
        unfold appendA
        rw [ht]
        simp only [hd, he, lenA, hs, hb, hds, Nat.zero_add]
        rw [show Nat.ble 1 1048576 = true from rfl, show Nat.ble (R.length + 1) R.length = false from (by cases hq : Nat.ble (R.length + 1) R.length with | false => rfl | true => have := Nat.le_of_ble_eq_true hq; omega), Nat.ble_eq_true_of_le (show R.length + 1 ≤ 1048576 by omega), show Nat.blt 0 s = true from by simpa using hs0, hol]
        rfl
      have hlen : (R.flatten ++ ds).length = (R.length + 1) * s := by rw [List.length_append, q1.len, hdl, Nat.succ_mul]
      refine ⟨_, _, e1, ⟨q1.snoc hdl, .inl ?_⟩, (new_cells h (R.flatten ++ ds) e s).1.fr _, .inr rfl⟩
      rw [flat_app, List.length_append, List.length_cons, List.length_nil, Nat.zero_add]
      refine ⟨hlen, .inr ⟨h.c, ⟨setCells .leaf 0 (R.flatten ++ ds), (R.flatten ++ ds).length, e, s⟩, by omega, rfl, Nat.lt_succ_self _, ?_, rfl, hlen, rfl, fun j x hx => ?_⟩⟩
      · show (h.m.put h.c _).get h.c = _
        rw [T.get_put, if_pos rfl]
      · show (setCells .leaf 0 (R.flatten ++ ds)).get j = _
        have hk := (List.getElem?_eq_some_iff.1 hx).1
        rw [setCells_get, if_pos ⟨Nat.zero_le _, by omega⟩]
        exact hx
  obtain ⟨u', h', e1, g1, f1, n1⟩ := key
  rw [e1]
  refine h1 u' h' (H.upd (hp.pick _) (a' := owr e s u' (R ++ [ds])) ⟨f1.c, f1.ro, fun m h2 h3 => f1.m m h2 (fun h4 => h3 (nmO_mem.2 h4))⟩ g1 (fun m hm => ?_))
  have hm := nmO_mem.1 hm
  rcases n1 with h2 | h2
  · exact .inl (nmO_mem.2 (h2 ▸ hm))
  · rw [h2] at hm
    cases hm
    exact .inr (Nat.le_refl _)
/-- the first rows, without spare capacity -/
theorem wo_rcut {v : AV} {R : List (List AV)} {F : As → List As} {i : Int} {j : Nat} (H : Hs M h0 h L Z) (hp : PickF L (owr e s v R) F) (ht : C.tys.get t = some ti) (hd : ti.desc = .slice e) (he : C.tys.get e = some te) (hi : i = (j : Int)) (hj : j < R.length) (hl : R.length ≤ 90000)
    (h1 : ∀ v', Hs M h0 h (F (owr e s v' (R.take j))) Z → Wo (k (putA env v' dst) h) Q) : Wo (afterA k env dst (sliceA C h t v none (some (I i)) (some (I i)))) Q := by
  subst hi
  have p : OwR e s h v R := H.p (hp.pick (blk id 0 [])).mem
  obtain ⟨nm, r, c, rfl, hb⟩ := p.blk hj
  have hn : ∀ m, j ≤ m → natOf? (I (j : Int)) m = some j := fun m hm => natOf_I (n := j) hm
  have e1 : sliceA C h t (.slice nm 0 R.length r c 0) none (some (I (j : Int))) (some (I (j : Int))) = some (.slice nm 0 j false j 0, h) := by
    obtain ⟨_, q2 | ⟨nm', q3, _⟩⟩ := p
    · rcases q2.is with ⟨h2, _⟩ | ⟨nm', r', h2, _, h3⟩
      · cases h2
      · cases h2
        have hr : r = true := by rcases h3 with ⟨h3, _⟩ | ⟨_, h3⟩; omega; exact h3
        subst hr
        unfold sliceA
        rw [ht]
        simp only [hd, he]
        unfold boundsA
        simp only [hn R.length (by omega), hn j (Nat.le_refl _)]
        simp
    · cases q3
      unfold sliceA
      rw [ht]
      simp only [hd, he]
      unfold boundsA
      simp only [hn R.length (by omega), hn j (Nat.le_refl _)]
      simp
  rw [e1]
  have ht2 : (R.take j).length = j := by rw [List.length_take]; omega
  refine h1 _ (H.upd (hp.pick _) (a' := owr e s (.slice nm 0 j false j 0) (R.take j)) (Fr.refl _ _) ⟨p.1.take j, .inr ⟨nm, by rw [ht2], ?_⟩⟩ (fun m hm => .inl hm))
  rw [flat_take p.1 (by omega)]
  exact ⟨hb.lt, by
    obtain ⟨b, h2, h3⟩ := hb.blk
    exact ⟨b, h2, fun q x hx => h3 q x (by rw [List.getElem?_take] at hx; split at hx; exact hx; cases hx)⟩⟩
end
/-! Two things that change at once. -/
section
variable {M : List Nat} {h0 h h' : Hp} {L Z : List As}
inductive Pick2 : List As → As → As → (As → As → List As) → Prop where
  | h1 (a : As) {b : As} {l : List As} {F : As → List As} (p : PickF l b F) : Pick2 (a :: l) a b (fun x y => x :: F y)
  | h2 (b : As) {a : As} {l : List As} {F : As → List As} (p : PickF l a F) : Pick2 (b :: l) a b (fun x y => y :: F x)
  | there (c : As) {a b : As} {l : List As} {F : As → As → List As} (p : Pick2 l a b F) : Pick2 (c :: l) a b (fun x y => c :: F x y)
def Sep (L : List As) : Prop := L.Pairwise fun a b => ∀ n, n ∈ a.foot → n ∉ b.foot
theorem PickF.mem {L : List As} {a : As} {F : As → List As} (p : PickF L a F) : a ∈ L := (p.pick a).mem
theorem Pick2.mem1 {L : List As} {a b : As} {F : As → As → List As} (p : Pick2 L a b F) : a ∈ L := by
  induction p with
  | h1 a p => exact .head _
  | h2 b p => exact .tail _ p.mem
  | there c p ih => exact .tail _ ih
theorem Pick2.mem2 {L : List As} {a b : As} {F : As → As → List As} (p : Pick2 L a b F) : b ∈ L := by
  induction p with
  | h1 a p => exact .tail _ p.mem
  | h2 b p => exact .head _
  | there c p ih => exact .tail _ ih
theorem Pick2.apart {L : List As} {a b : As} {F : As → As → List As} (p : Pick2 L a b F) : Sep L → ∀ n, n ∈ a.foot → n ∉ b.foot := by
  induction p with
  | h1 a p => exact fun hs n hn => (List.pairwise_cons.1 hs).1 _ p.mem n hn
  | h2 b p => exact fun hs n hn h2 => (List.pairwise_cons.1 hs).1 _ p.mem n h2 hn
  | there c p ih => exact fun hs => ih (List.pairwise_cons.1 hs).2
theorem Pick2.other {L : List As} {a b : As} {F : As → As → List As} (p : Pick2 L a b F) : Sep L → ∀ a' b' x, x ∈ F a' b' → x = a' ∨ x = b' ∨ (x ∈ L ∧ ∀ n, n ∈ x.foot → n ∉ a.foot ∧ n ∉ b.foot) := by
  induction p with
  | h1 a p =>
    intro hs a' b' x hx
    obtain ⟨h1, h2⟩ := List.pairwise_cons.1 hs
    rcases List.mem_cons.1 hx with rfl | hx
    · exact .inl rfl
    · rcases (p.pick b').other h2 x hx with rfl | ⟨h3, h4⟩
      · exact .inr (.inl rfl)
      · exact .inr (.inr ⟨.tail _ h3, fun n hn => ⟨fun h5 => h1 x h3 n h5 hn, h4 n hn⟩⟩)
  | h2 b p =>
    intro hs a' b' x hx
    obtain ⟨h1, h2⟩ := List.pairwise_cons.1 hs
    rcases List.mem_cons.1 hx with rfl | hx
    · exact .inr (.inl rfl)
    · rcases (p.pick a').other h2 x hx with rfl | ⟨h3, h4⟩
      · exact .inl rfl
      · exact .inr (.inr ⟨.tail _ h3, fun n hn => ⟨h4 n hn, fun h5 => h1 x h3 n h5 hn⟩⟩)
  | there c p ih =>
    intro hs a' b' x hx
    obtain ⟨h1, h2⟩ := List.pairwise_cons.1 hs
    rcases List.mem_cons.1 hx with rfl | hx
    · exact .inr (.inr ⟨.head _, fun n hn => ⟨h1 _ p.mem1 n hn, h1 _ p.mem2 n hn⟩⟩)
    · rcases ih h2 a' b' x hx with h3 | h3 | ⟨h3, h4⟩
      · exact .inl h3
      · exact .inr (.inl h3)
      · exact .inr (.inr ⟨.tail _ h3, h4⟩)
theorem Pick2.sep {L : List As} {a b : As} {F : As → As → List As} (p : Pick2 L a b F) : Sep L → ∀ a' b' : As, (∀ n, n ∈ a'.foot → n ∈ a.foot ∨ n ∈ b.foot ∨ ∀ x, x ∈ L → n ∉ x.foot) → (∀ n, n ∈ b'.foot → n ∈ a.foot ∨ n ∈ b.foot ∨ ∀ x, x ∈ L → n ∉ x.foot) → (∀ n, n ∈ a'.foot → n ∉ b'.foot) → Sep (F a' b') := by
  have one : ∀ {l : List As} {b : As} {F : As → List As}, PickF l b F → ∀ (a b' : As), (∀ x, x ∈ l → ∀ n, n ∈ a.foot → n ∉ x.foot) → (∀ n, n ∈ a.foot → n ∉ b'.foot) → ∀ x, x ∈ F b' → ∀ n, n ∈ a.foot → n ∉ x.foot := by
    intro l b F p
    induction p with
    | here b l =>
      intro a b' h1 h2 x hx n hn
      rcases List.mem_cons.1 hx with rfl | hx
      · exact h2 n hn
      · exact h1 x (.tail _ hx) n hn
    | there c p ih =>
      intro a b' h1 h2 x hx n hn
      rcases List.mem_cons.1 hx with rfl | hx
      · exact h1 _ (.head _) n hn
      · exact ih a b' (fun x hx => h1 x (.tail _ hx)) h2 x hx n hn
  have two : ∀ {l : List As} {b : As} {F : As → List As}, PickF l b F → Sep l → ∀ b' : As, (∀ x, x ∈ l → x = b ∨ ∀ n, n ∈ b'.foot → n ∉ x.foot) → (∀ n, n ∈ b'.foot → n ∈ b.foot ∨ ∀ x, x ∈ l → n ∉ x.foot) → Sep (F b') := by
    intro l b F p hs b' h1 h2
    exact (p.pick b').sep hs h2
  induction p with
  | @h1 a b l F p =>
    intro hs a' b' ha hb hab
    obtain ⟨h1, h2⟩ := List.pairwise_cons.1 hs
    refine List.pairwise_cons.2 ⟨fun x hx n hn => ?_, ?_⟩
    · rcases (p.pick b').other h2 x hx with rfl | ⟨h3, h4⟩
      · exact hab n hn
      · intro h5
        rcases ha n hn with h6 | h6 | h6
        · exact h1 x h3 n h6 h5
        · exact h4 n h5 h6
        · exact h6 x (.tail _ h3) h5
    · refine ((p.pick b').sep h2 (fun n hn => ?_))
      rcases hb n hn with h6 | h6 | h6
      · exact .inr fun x hx h5 => h1 x hx n h6 h5
      · exact .inl h6
      · exact .inr fun x hx => h6 x (.tail _ hx)
  | @h2 b a l F p =>
    intro hs a' b' ha hb hab
    obtain ⟨h1, h2⟩ := List.pairwise_cons.1 hs
    refine List.pairwise_cons.2 ⟨fun x hx n hn => ?_, ?_⟩
    · rcases (p.pick a').other h2 x hx with rfl | ⟨h3, h4⟩
      · exact fun h5 => hab n h5 hn
      · intro h5
        rcases hb n hn with h6 | h6 | h6
        · exact h4 n h5 h6
        · exact h1 x h3 n h6 h5
        · exact h6 x (.tail _ h3) h5
    · refine ((p.pick a').sep h2 (fun n hn => ?_))
      rcases ha n hn with h6 | h6 | h6
      · exact .inl h6
      · exact .inr fun x hx h5 => h1 x hx n h6 h5
      · exact .inr fun x hx => h6 x (.tail _ hx)
  | @there c a b l F p ih =>
    intro hs a' b' ha hb hab
    obtain ⟨h1, h2⟩ := List.pairwise_cons.1 hs
    refine List.pairwise_cons.2 ⟨fun x hx n hn h5 => ?_, ih h2 a' b' (fun n hn => ?_) (fun n hn => ?_) hab⟩
    · rcases p.other h2 a' b' x hx with rfl | rfl | ⟨h3, _⟩
      · rcases ha n h5 with h6 | h6 | h6
        · exact h1 _ p.mem1 n hn h6
        · exact h1 _ p.mem2 n hn h6
        · exact h6 c (.head _) hn
      · rcases hb n h5 with h6 | h6 | h6
        · exact h1 _ p.mem1 n hn h6
        · exact h1 _ p.mem2 n hn h6
        · exact h6 c (.head _) hn
      · exact h1 x h3 n hn h5
    · rcases ha n hn with h6 | h6 | h6
      · exact .inl h6
      · exact .inr (.inl h6)
      · exact .inr (.inr fun x hx => h6 x (.tail _ hx))
    · rcases hb n hn with h6 | h6 | h6
      · exact .inl h6
      · exact .inr (.inl h6)
      · exact .inr (.inr fun x hx => h6 x (.tail _ hx))
theorem Hs.upd2 (H : Hs M h0 h L Z) {a b a' b' : As} {F : As → As → List As} (p : Pick2 L a b F) (f : Fr (fun n => n ∈ a.foot ∨ n ∈ b.foot) h h') (q1 : a'.P h') (q2 : b'.P h') (n1 : ∀ n, n ∈ a'.foot → n ∈ a.foot ∨ n ∈ b.foot ∨ h.c ≤ n) (n2 : ∀ n, n ∈ b'.foot → n ∈ a.foot ∨ n ∈ b.foot ∨ h.c ≤ n) (hab : ∀ n, n ∈ a'.foot → n ∉ b'.foot) : Hs M h0 h' (F a' b') Z := by
  have new : ∀ n, h.c ≤ n → ∀ x, x ∈ L → n ∉ x.foot := fun n hn x hx h2 => by have := H.lt hx h2; omega
  have inM : ∀ n, n ∈ a.foot ∨ n ∈ b.foot ∨ h.c ≤ n → h0.c ≤ n ∨ n ∈ M := fun n hn => by
    rcases hn with h1 | h1 | h1
    · exact (H.own a p.mem1).2 n h1
    · exact (H.own b p.mem2).2 n h1
    · exact .inl (Nat.le_trans H.fr.c h1)
  have keyS : ∀ n, (n ∈ a.foot ∨ n ∈ b.foot ∨ h.c ≤ n) → (n ∈ a.foot ∨ n ∈ b.foot ∨ ∀ x, x ∈ L → n ∉ x.foot) := fun n hn => by
    rcases hn with h1 | h1 | h1
    · exact .inl h1
    · exact .inr (.inl h1)
    · exact .inr (.inr (new n h1))
  refine ⟨⟨Nat.le_trans H.fr.c f.c, f.ro.trans H.fr.ro, fun n h1 h2 => (f.m n (Nat.lt_of_lt_of_le h1 H.fr.c) (fun h3 => ?_)).trans (H.fr.m n h1 h2)⟩, fun x hx => ?_, p.sep H.sep a' b' (fun n hn => keyS n (n1 n hn)) (fun n hn => keyS n (n2 n hn)) hab, fun z hz => ⟨z.st _ _ _ (H.std z hz).1 f (fun n h1 h3 => ?_), fun n h1 x hx h2 => ?_⟩⟩
  · rcases inM n (h3.elim .inl (fun h4 => .inr (.inl h4))) with h4 | h4
    · omega
    · exact h2 h4
  · rcases p.other H.sep a' b' x hx with rfl | rfl | ⟨h3, h4⟩
    · exact ⟨q1, fun n hn => inM n (n1 n hn)⟩
    · exact ⟨q2, fun n hn => inM n (n2 n hn)⟩
    · exact ⟨x.st _ _ _ (H.own x h3).1 f (fun n hn h5 => h5.elim (h4 n hn).1 (h4 n hn).2), (H.own x h3).2⟩
  · rcases h3 with h3 | h3
    · exact (H.std z hz).2 n h1 a p.mem1 h3
    · exact (H.std z hz).2 n h1 b p.mem2 h3
  · have hzl := z.lt h (H.std z hz).1 n h1
    rcases p.other H.sep a' b' x hx with rfl | rfl | ⟨h3, _⟩
    · rcases n1 n h2 with h5 | h5 | h5
      · exact (H.std z hz).2 n h1 a p.mem1 h5
      · exact (H.std z hz).2 n h1 b p.mem2 h5
      · omega
    · rcases n2 n h2 with h5 | h5 | h5
      · exact (H.std z hz).2 n h1 a p.mem1 h5
      · exact (H.std z hz).2 n h1 b p.mem2 h5
      · omega
    · exact (H.std z hz).2 n h1 x h3 h2
end
/-! Numbers of 32 bits. -/
section
variable {t : TypeId} {a b : Int}
theorem wrap_u32k {n : Int} (h1 : 0 ≤ n) (h2 : n < 4294967296) : IntKind.wrap .u32 n = n := by
  have : IntKind.u32.wrap n = n % 4294967296 := by simp [IntKind.wrap, IntKind.bits, IntKind.signed]
  rw [this]
  omega
theorem uu_eql : intA .eql t .u32 a .u32 b = some (Bo (decide (a = b))) := by rw [← beq_dec]; rfl
theorem uu_neq : intA .neq t .u32 a .u32 b = some (Bo (!decide (a = b))) := by rw [← beq_dec]; rfl
theorem uu_gtr : intA .gtr t .u32 a .u32 b = some (Bo (decide (b < a))) := rfl
theorem uu_lss : intA .lss t .u32 a .u32 b = some (Bo (decide (a < b))) := rfl
theorem uu_add : intA .add t .u32 a .u32 b = some (.lit (.int .u32 (IntKind.wrap .u32 (a + b)))) := rfl
theorem uu_sub : intA .sub t .u32 a .u32 b = some (.lit (.int .u32 (IntKind.wrap .u32 (a - b)))) := rfl
theorem repl_1 (cs : List AV) : repl cs 1 = cs := List.append_nil cs
end
section
variable {env : Env} {h : Hp} {Q : Env → Hp → Prop}
theorem wo_eq {r r' : Option (Env × Hp)} (h : r = r') (h1 : Wo r' Q) : Wo r Q := by rw [h]; exact h1
end
end Go.Proofs.Abs
