import Derived.Test.YtpioenfglmimgaaS13
namespace Go.Proofs.Abs
open Go Go.RowKit
set_option linter.unusedSimpArgs false
set_option linter.unusedVariables false
/-! Running the evaluator on open values: what a text comes to. -/
section
variable {C : Ctx} {call : CallF} {N n : Nat} {e : Env} {h : Hp}
def Wc (r : Option (AEx × Env × Hp)) (Q : AEx → Env → Hp → Prop) : Prop := ∃ x e h, r = some (x, e, h) ∧ Q x e h
def Wo (r : Option (Env × Hp)) (Q : Env → Hp → Prop) : Prop := ∃ e h, r = some (e, h) ∧ Q e h
def Wv (r : Option (AV × Hp)) (Q : AV → Hp → Prop) : Prop := ∃ v h, r = some (v, h) ∧ Q v h
def Nx (K : Env → Hp → Prop) (Q : AEx → Env → Hp → Prop) : AEx → Env → Hp → Prop
  | .normal, e, h => K e h
  | x, e, h => Q x e h
def Bx (id : Nat) (Q : AEx → Env → Hp → Prop) : AEx → Env → Hp → Prop
  | .exit j, e, h => cond (Nat.beq j id) (Q .normal e h) (Q (.exit j) e h)
  | x, e, h => Q x e h

theorem wc_seq {a b : Code} {Q : AEx → Env → Hp → Prop} (h1 : Wc (codeA C call N n a e h) (Nx (fun e h => Wc (codeA C call N n b e h) Q) Q)) : Wc (codeA C call N (n + 1) (.seq a b) e h) Q := by
  obtain ⟨x, e', h', hr, hq⟩ := h1
  show Wc (thenA (codeA C call N n b) (codeA C call N n a e h)) Q
  rw [hr]
  cases x
  · exact hq
  all_goals exact ⟨_, _, _, rfl, hq⟩
theorem regA_nil {ops : Array Oper} {dr : Bool} (hd : dynOf ops dr = []) : regA C call ops dr e h = opsA C call ops.toList ops.toList e h := by
  unfold regA
  rw [hd]
  rfl
theorem wc_region {id : Nat} {ops : Array Oper} {dr : Bool} {Q : AEx → Env → Hp → Prop} (hd : dynOf ops dr = []) (h1 : Wo (opsA C call ops.toList ops.toList e h) (Q .normal)) : Wc (codeA C call N (n + 1) (.region id ops dr) e h) Q := by
  obtain ⟨e', h', hr, hq⟩ := h1
  refine ⟨.normal, e', h', ?_, hq⟩
  show normalA (regA C call ops dr e h) = _
  rw [regA_nil hd, hr]
  rfl
/-- a region in which reads and changes are not ordered -/
theorem wc_dyn {id : Nat} {ops : Array Oper} {dr : Bool} {Q : AEx → Env → Hp → Prop} {tr : List (Env × Hp)} {p : Nat × Nat} {ps : List (Nat × Nat)} (hd : dynOf ops dr = p :: ps) (ht : trA C call ops.toList ops.toList e h = some tr)
    (hc : checksD C ops.toList tr (p :: ps) = true) {e' : Env} {h' : Hp} (hl : tr[ops.toList.length]? = some (e', h')) (hq : Q .normal e' h') : Wc (codeA C call N (n + 1) (.region id ops dr) e h) Q := by
  refine ⟨.normal, e', h', ?_, hq⟩
  show normalA (regA C call ops dr e h) = _
  unfold regA
  rw [hd]
  show normalA (finD C ops.toList (p :: ps) (trA C call ops.toList ops.toList e h)) = _
  rw [ht]
  show normalA (cond (checksD C ops.toList tr (p :: ps)) tr[ops.toList.length]? none) = _
  rw [hc, hl]
  rfl
theorem wc_cond {c : Operand} {a b : Code} {t : Bool} {Q : AEx → Env → Hp → Prop} (hc : ev e c = some (.lit (.bool t))) (h1 : t = true → Wc (codeA C call N n a e h) Q) (h2 : t = false → Wc (codeA C call N n b e h) Q) :
    Wc (codeA C call N (n + 1) (.cond c a b) e h) Q := by
  show Wc (condA (codeA C call N n a) (codeA C call N n b) e h (ev e c)) Q
  rw [hc]
  cases t
  · exact h2 rfl
  · exact h1 rfl
theorem wc_block {id : Nat} {b : Code} {Q : AEx → Env → Hp → Prop} (h1 : Wc (codeA C call N n b e h) (Bx id Q)) : Wc (codeA C call N (n + 1) (.block id b) e h) Q := by
  obtain ⟨x, e', h', hr, hq⟩ := h1
  show Wc (blockA id (codeA C call N n b e h)) Q
  rw [hr]
  cases x with
  | exit j =>
    show Wc (cond (Nat.beq j id) _ _) Q
    change cond (Nat.beq j id) (Q .normal e' h') (Q (.exit j) e' h') at hq
    cases hj : Nat.beq j id
    · rw [hj] at hq; exact ⟨_, _, _, rfl, hq⟩
    · rw [hj] at hq; exact ⟨_, _, _, rfl, hq⟩
  | normal => exact ⟨_, _, _, rfl, hq⟩
  | goto l => exact ⟨_, _, _, rfl, hq⟩
  | ret => exact ⟨_, _, _, rfl, hq⟩
theorem wc_skip {Q : AEx → Env → Hp → Prop} (h1 : Q .normal e h) : Wc (codeA C call N (n + 1) .skip e h) Q := ⟨_, _, _, rfl, h1⟩
theorem wc_exit {id : Nat} {Q : AEx → Env → Hp → Prop} (h1 : Q (.exit id) e h) : Wc (codeA C call N (n + 1) (.exit id) e h) Q := ⟨_, _, _, rfl, h1⟩
theorem wc_ret {Q : AEx → Env → Hp → Prop} (h1 : Q .ret e h) : Wc (codeA C call N (n + 1) .ret e h) Q := ⟨_, _, _, rfl, h1⟩
theorem wc_label {l : Nat} {Q : AEx → Env → Hp → Prop} (h1 : Q .normal e h) : Wc (codeA C call N (n + 1) (.label l) e h) Q := ⟨_, _, _, rfl, h1⟩
/-- a loop: m bounds the rounds that are left -/
theorem wc_loop {b : Code} {Q : AEx → Env → Hp → Prop} (I : Nat → Env → Hp → Prop) (m : Nat) (hm : m < N) (h0 : I m e h)
    (hs : ∀ m e h, I m e h → Wc (codeA C call N n b e h) (Nx (fun e h => ∃ k, k < m ∧ I k e h) Q)) : Wc (codeA C call N (n + 1) (.loop b) e h) Q := by
  show Wc (loopA (codeA C call N n b) N e h) Q
  suffices H : ∀ f m, m < f → ∀ e h, I m e h → Wc (loopA (codeA C call N n b) f e h) Q from H N m hm e h h0
  intro f
  induction f with
  | zero => intro m hm; omega
  | succ f ih =>
    intro m hm e h hi
    obtain ⟨x, e', h', hr, hq⟩ := hs m e h hi
    show Wc (thenA (loopA (codeA C call N n b) f) (codeA C call N n b e h)) Q
    rw [hr]
    cases x with
    | normal =>
      obtain ⟨k, hk, hi'⟩ := hq
      exact ih k (by omega) e' h' hi'
    | exit j => exact ⟨_, _, _, rfl, hq⟩
    | goto l => exact ⟨_, _, _, rfl, hq⟩
    | ret => exact ⟨_, _, _, rfl, hq⟩
theorem Wc.mono {r : Option (AEx × Env × Hp)} {Q Q' : AEx → Env → Hp → Prop} (h1 : Wc r Q) (h2 : ∀ x e h, Q x e h → Q' x e h) : Wc r Q' := by
  obtain ⟨x, e, h, hr, hq⟩ := h1
  exact ⟨x, e, h, hr, h2 _ _ _ hq⟩
theorem Wv.mono {r : Option (AV × Hp)} {Q Q' : AV → Hp → Prop} (h1 : Wv r Q) (h2 : ∀ v h, Q v h → Q' v h) : Wv r Q' := by
  obtain ⟨v, h, hr, hq⟩ := h1
  exact ⟨v, h, hr, h2 _ _ hq⟩
theorem wv_run {f : FuncId} {fn : Func} {c : Code} {args : List AV} {Q : AV → Hp → Prop} (hf : C.funs.get f = some fn) (hb : fn.body = some c)
    (h1 : Wc (codeA C (runA C N n) N N c (enterEnv args fn.ntmps) h) fun x e h => Wv (returnA C fn.results.toList (some (x, e, h))) Q) : Wv (runA C N (n + 1) f args h) Q := by
  obtain ⟨x, e', h', hr, v, h2, hv, hq⟩ := h1
  refine ⟨v, h2, ?_, hq⟩
  show funA C (runA C N n) N args h (C.funs.get f) = _
  rw [hf]
  show bodyA C (runA C N n) N args h fn fn.body = _
  rw [hb]
  show returnA C fn.results.toList (codeA C (runA C N n) N N c (enterEnv args fn.ntmps) h) = _
  rw [hr]
  exact hv

theorem opsA_nil (all : List Oper) : opsA C call all [] e h = some (e, h) := rfl
end
section
theorem enter_get (args : List AV) (n k : Nat) (h : k < args.length) : (enterEnv args n).get k = args[k]? := by
  unfold enterEnv
  rw [setCells_get, if_pos ⟨Nat.zero_le _, by rw [List.length_append]; omega⟩, Nat.sub_zero, List.getElem?_append_left h]
theorem enter_get1 (a : AV) (as : List AV) (n : Nat) : (enterEnv (a :: as) n).get 0 = some a := by rw [enter_get _ _ _ (by simp)]; rfl
theorem enter_get2 (a b : AV) (as : List AV) (n : Nat) : (enterEnv (a :: b :: as) n).get 1 = some b := by rw [enter_get _ _ _ (by simp)]; rfl

/-- what was there is as it was -/
structure Ext (h h' : Hp) : Prop where
  c : h.c ≤ h'.c
  ro : h'.ro = h.ro
  m : ∀ n, n < h.c → h'.m.get n = h.m.get n
theorem Ext.refl (h : Hp) : Ext h h := ⟨Nat.le_refl _, rfl, fun _ _ => rfl⟩
theorem Ext.trans {h h' h'' : Hp} (a : Ext h h') (b : Ext h' h'') : Ext h h'' :=
  ⟨Nat.le_trans a.c b.c, b.ro.trans a.ro, fun n hn => (b.m n (Nat.lt_of_lt_of_le hn a.c)).trans (a.m n hn)⟩
theorem Ext.put {h h' : Hp} (a : Ext h h') {n : Nat} (hn : h.c ≤ n) (b : Option Blk) {c : Nat} (hc : h'.c ≤ c) : Ext h ⟨h'.m.put n b, c, h'.ro⟩ :=
  ⟨Nat.le_trans a.c hc, a.ro, fun k hk => by
    show (h'.m.put n b).get k = _
    rw [T.get_put, if_neg (by omega)]
    exact a.m k hk⟩
theorem load_ext {h h' : Hp} (a : Ext h h') {n : Nat} (hn : n < h.c) (o k : Nat) : load h' n o k = load h n o k := by
  unfold load
  rw [a.ro, a.m n hn]
theorem load_own (m : T Blk) (n : Nat) (b : Blk) (c : Nat) (ro : Nat → Nat → Option AV) (o k : Nat) : load ⟨m.put n (some b), c, ro⟩ n o k = getCells b.cells o k := by
  unfold load
  rw [show (⟨m.put n (some b), c, ro⟩ : Hp).m.get n = some b from by rw [T.get_put, if_pos rfl]]
theorem load_other {m : T Blk} {n n' : Nat} {b : Option Blk} {c c' : Nat} {ro : Nat → Nat → Option AV} (hn : n' ≠ n) (o k : Nat) : load ⟨m.put n b, c, ro⟩ n' o k = load ⟨m, c', ro⟩ n' o k := by
  unfold load
  rw [show (⟨m.put n b, c, ro⟩ : Hp).m.get n' = (⟨m, c', ro⟩ : Hp).m.get n' from by rw [T.get_put, if_neg hn]]
theorem store_own (m : T Blk) (n : Nat) (b : Blk) (c : Nat) (ro : Nat → Nat → Option AV) (o : Nat) (cs : List AV) : store ⟨m.put n (some b), c, ro⟩ n o cs =
    cond (known b.cells o cs.length && onesA cs) (some ⟨(m.put n (some b)).put n (some ⟨setCells b.cells o cs, b.n, b.elem, b.grow⟩), c, ro⟩) none := by
  unfold store
  rw [show (⟨m.put n (some b), c, ro⟩ : Hp).m.get n = some b from by rw [T.get_put, if_pos rfl]]
theorem inc_nat {k : Nat} (hk : k < 9223372036854775807) : wrapF .i64 (addF (Int.ofNat k) 1) = Int.ofNat (k + 1) := by
  rw [addF_eq, wrapF_eq]
  simp [IntKind.wrap, IntKind.bits]
  omega
end
section
variable {C : Ctx} {e : Env} {h : Hp}
theorem wv_ret {rs : List ResultVar} {vs : List AV} {Q : AV → Hp → Prop} (hr : resA C e h rs = some vs) (hq : Q (tupA vs) h) : Wv (returnA C rs (some (.ret, e, h))) Q :=
  ⟨tupA vs, h, by show tupH h (resA C e h rs) = _; rw [hr]; rfl, hq⟩
theorem wv_end {rs : List ResultVar} {vs : List AV} {Q : AV → Hp → Prop} (hr : resA C e h rs = some vs) (hq : Q (tupA vs) h) : Wv (returnA C rs (some (.normal, e, h))) Q :=
  ⟨tupA vs, h, by show tupH h (resA C e h rs) = _; rw [hr]; rfl, hq⟩
end
section
variable {h : Hp}
theorem nx_next {m : Nat} {I : Nat → Env → Hp → Prop} {e : Env} {Q : AEx → Env → Hp → Prop} (k : Nat) (hk : k < m) (hi : I k e h) : Nx (fun e h => ∃ k, k < m ∧ I k e h) Q .normal e h := ⟨k, hk, hi⟩
theorem known_s {t : T AV} {off n : Nat} {v : AV} (hv : t.get off = some v) : known t off (n + 1) = known t (off + 1) n := by rw [known_succ, hv]
theorem known1 {t : T AV} {off : Nat} {v : AV} (hv : t.get off = some v) : known t off 1 = true := by rw [known_s hv]; rfl
theorem known2 {t : T AV} {off : Nat} {v v' : AV} (hv : t.get off = some v) (hv' : t.get (off + 1) = some v') : known t off 2 = true := by rw [known_s hv, known_s hv']; rfl
theorem getCells1 (t : T AV) (off : Nat) : getCells t off 1 = consOO (some []) (t.get off) := rfl
theorem getCells2 (t : T AV) (off : Nat) : getCells t off 2 = consOO (consOO (some []) (t.get (off + 1))) (t.get off) := rfl
theorem onesA_nil : onesA [] = true := rfl
theorem onesA_cons' (v : AV) (vs : List AV) : onesA (v :: vs) = (oneA v && onesA vs) := by rw [onesA_cons]; cases oneA v <;> rfl
theorem nbeq_self (n : Nat) : Nat.beq n n = true := Nat.beq_refl n
theorem litCells_nil : litCells [] = [] := rfl
theorem litCells_cons (v : Value) (l : List Value) : litCells (v :: l) = .lit v :: litCells l := rfl
theorem tt_beq : (true == true) = true := rfl
theorem tf_beq : (true == false) = false := rfl
theorem ft_beq : (false == true) = false := rfl
theorem ff_beq : (false == false) = true := rfl
end
section
variable {C : Ctx} {call : CallF} {e : Env} {h : Hp}
theorem stepA_t (k : OpsK) (o : Oper) : stepA C call k o e h (some true) = runOp C call k o e h (callA e o.op) := rfl
theorem stepA_f (k : OpsK) (o : Oper) : stepA C call k o e h (some false) = k (putA e uv o.dst) h := rfl
theorem runOp_c (k : OpsK) (o : Oper) (f : FuncId) (vs : List AV) : runOp C call k o e h (some (f, vs)) = afterA k e o.dst (call f vs h) := rfl
theorem runOp_n (k : OpsK) (o : Oper) : runOp C call k o e h none = afterA k e o.dst (opA C e h o.op) := rfl
theorem afterA_s (k : OpsK) (dst : Option Tmp) (v : AV) (h' : Hp) : afterA k e dst (some (v, h')) = k (putA e v dst) h' := rfl
theorem wo_call {k : OpsK} {dst : Option Tmp} {r : Option (AV × Hp)} {Q : Env → Hp → Prop} {Q' : AV → Hp → Prop} (h1 : Wv r Q') (h2 : ∀ v h', Q' v h' → Wo (k (putA e v dst) h') Q) : Wo (afterA k e dst r) Q := by
  obtain ⟨v, h', rfl, hq⟩ := h1
  exact h2 v h' hq
theorem load2 {n o : Nat} {x y : AV} (h1 : load h n o 1 = some [x]) (h2 : load h n (o + 1) 1 = some [y]) : load h n o 2 = some [x, y] := by
  cases hn : h.m.get n with
  | none =>
    rw [load_none hn] at h1 h2 ⊢
    rw [roCells_succ, roCells_zero] at h1 h2
    rw [roCells_succ, roCells_succ, roCells_zero]
    cases hx : h.ro n o with
    | none => rw [hx] at h1; cases h1
    | some x' =>
      cases hy : h.ro n (o + 1) with
      | none => rw [hy] at h2; cases h2
      | some y' => rw [hx] at h1; rw [hy] at h2; cases h1; cases h2; rfl
  | some b =>
    rw [load_some hn] at h1 h2 ⊢
    rw [getCells_succ, getCells_zero] at h1 h2
    rw [getCells_succ, getCells_succ, getCells_zero]
    cases hx : b.cells.get o with
    | none => rw [hx] at h1; cases h1
    | some x' =>
      cases hy : b.cells.get (o + 1) with
      | none => rw [hy] at h2; cases h2
      | some y' => rw [hx] at h1; rw [hy] at h2; cases h1; cases h2; rfl
end
section
variable {C : Ctx} {call : CallF} {N n : Nat} {e : Env} {h : Hp}
/-- a scope out of which nothing jumps back -/
def Gx (Q : AEx → Env → Hp → Prop) : AEx → Env → Hp → Prop
  | .goto _, _, _ => False
  | x, e, h => Q x e h
theorem wc_scope {b : Code} {Q : AEx → Env → Hp → Prop} (hN : 0 < N) (h1 : Wc (codeA C call N n b e h) (Gx Q)) : Wc (codeA C call N (n + 1) (.scope b) e h) Q := by
  obtain ⟨N, rfl⟩ : ∃ M, N = M + 1 := ⟨N - 1, by omega⟩
  obtain ⟨x, e', h', hr, hq⟩ := h1
  show Wc (jumpA (scopeA (codeA C call (N + 1) n) b N) b (codeA C call (N + 1) n b e h)) Q
  rw [hr]
  cases x with
  | goto l => exact hq.elim
  | normal => exact ⟨_, _, _, rfl, hq⟩
  | exit j => exact ⟨_, _, _, rfl, hq⟩
  | ret => exact ⟨_, _, _, rfl, hq⟩
end
theorem dec_nat {k : Nat} (hk : k < 9223372036854775807) : wrapF .i64 (subF (Int.ofNat (k + 1)) 1) = Int.ofNat k := by
  rw [subF_eq, wrapF_eq]
  simp [IntKind.wrap, IntKind.bits]
  omega
section
variable {C : Ctx} {h : Hp}
theorem append_nil {t xt e e' : TypeId} {ti tx te : TI} (ht : C.tys.get t = some ti) (hd : ti.desc = .slice e) (hx : C.tys.get xt = some tx) (hxd : tx.desc = .slice e') (he : C.tys.get e = some te)
    (hs : Nat.blt 0 te.size = true) (hb : Nat.ble te.bytes 65536 = true) {n2 off k cap z : Nat} {rest : Bool} {news : List AV} (hk : Nat.beq k 0 = false) (hk' : Nat.ble k 1048576 = true) (hl : load h n2 off (k * te.size) = some news) :
    appendA C h t xt (.lit (.slice none 0 0)) (.slice n2 off k rest cap z) = some (.slice h.c 0 k true 0 0, newBlk h news e te.size) := by
  unfold appendA
  rw [ht, hx]
  simp only [hd, he, lenA, hs, hb, hk', hxd, elemsA, hk, hl, Bool.and_true, cond_true, cond_false]
theorem append_more {t xt e e' : TypeId} {ti tx te : TI} (ht : C.tys.get t = some ti) (hd : ti.desc = .slice e) (hx : C.tys.get xt = some tx) (hxd : tx.desc = .slice e') (he : C.tys.get e = some te)
    (hs : Nat.blt 0 te.size = true) (hb : Nat.ble te.bytes 65536 = true) {n1 l n2 off k cap z : Nat} {rest : Bool} {news : List AV} {b : Blk} (hk : Nat.beq k 0 = false) (hk' : Nat.ble k 1048576 = true)
    (hl : load h n2 off (k * te.size) = some news) (hg : h.m.get n1 = some b) (hgr : b.grow = te.size) (hn : b.n = l * te.size) (hel : b.elem = e) (hlk : l + k ≤ 1048576) (hone : onesA news = true) :
    appendA C h t xt (.slice n1 0 l true 0 0) (.slice n2 off k rest cap z) = some (.slice h.c 0 (l + k) true 0 0, ⟨(h.m.put n1 none).put h.c (some ⟨setCells b.cells b.n news, b.n + k * te.size, e, te.size⟩), h.c + 1, h.ro⟩) := by
  have hs' : 0 < te.size := Nat.le_of_ble_eq_true hs
  have hk0 : 0 < k := by cases k with
    | zero => cases hk
    | succ k => omega
  have e1 : Nat.beq te.size te.size = true := Nat.beq_refl _
  have e2 : Nat.beq 0 (0 * te.size) = true := by rw [Nat.zero_mul]; rfl
  have e3 : Nat.ble (l + k) 1048576 = true := Nat.ble_eq_true_of_le hlk
  have e4 : Nat.ble ((0 + l + k) * te.size) (l * te.size) = false := by
    cases hb : Nat.ble ((0 + l + k) * te.size) (l * te.size) with
    | false => rfl
    | true =>
      have h1 := Nat.le_of_ble_eq_true hb
      have h2 : l * te.size < (0 + l + k) * te.size := Nat.mul_lt_mul_of_pos_right (by omega) hs'
      omega
  have e5 : Nat.beq (l * te.size) (l * te.size) = true := Nat.beq_refl _
  have e6 : Nat.beq e e = true := Nat.beq_refl _
  have e7 : Nat.beq 0 0 = true := rfl
  unfold appendA
  rw [ht, hx]
  simp only [hd, he, lenA, hs, hb, hk', hxd, elemsA, hk, hl, hg, hgr, hn, hel, e1, e2, e3, e4, e5, e6, e7, hone, Bool.and_true, Bool.false_and, cond_true, cond_false]
theorem load_new2 (x y : AV) (e : TypeId) (g : Nat) : load (newBlk h [x, y] e g) h.c 0 2 = some [x, y] := by
  unfold newBlk
  rw [load_own, getCells2, setCells_cons, setCells_cons, setCells_nil, T.get_put, T.get_put, T.get_put]
  rfl
theorem Ext.newBlk {h h' : Hp} (a : Ext h h') (cs : List AV) (e : TypeId) (g : Nat) : Ext h (newBlk h' cs e g) := a.put a.c _ (Nat.le_succ _)
end
section
variable {e : Env} {h : Hp} {Q : AEx → Env → Hp → Prop}
theorem bx_pass {id j : Nat} (hj : Nat.beq j id = false) (hq : Q (.exit j) e h) : Bx id Q (.exit j) e h := by
  show cond (Nat.beq j id) (Q .normal e h) (Q (.exit j) e h)
  rw [hj]
  exact hq
theorem bx_hit {id j : Nat} (hj : Nat.beq j id = true) (hq : Q .normal e h) : Bx id Q (.exit j) e h := by
  show cond (Nat.beq j id) (Q .normal e h) (Q (.exit j) e h)
  rw [hj]
  exact hq
theorem nx_exit {K : Env → Hp → Prop} {j : Nat} (hq : Q (.exit j) e h) : Nx K Q (.exit j) e h := hq
end
end Go.Proofs.Abs
