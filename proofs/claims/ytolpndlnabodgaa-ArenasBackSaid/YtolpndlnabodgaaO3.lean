import Derived.Test.YtolpndlnabodgaaO2
namespace Go.Proofs.Abs
open Go Go.RowKit
set_option linter.unusedSimpArgs false
set_option linter.unusedVariables false
/-! Lists that are put together by append, each in a block of its own. -/
section
variable {C : Ctx} {t : TypeId} {e : TypeId} {ti te : TI} {M : List Nat} {h0 h h' : Hp} {L L' Z : List As} {k : OpsK} {dst : Option Tmp} {env : Env} {Q : Env → Hp → Prop}
theorem gr_lc' {h : Hp} {v : AV} {xs : List Int} {n : Nat} (g : Gr e 1 h v (xs.map I) n) (hn : xs.length = n) : Lc false h v (xs.map I) := by
  subst hn
  rcases g.is with ⟨rfl, h0⟩ | ⟨nm, r, rfl, h1, h2⟩
  · have : xs = [] := List.eq_nil_of_length_eq_zero h0
    subst this
    exact Lc.nil false h
  · refine ⟨.inr ⟨nm, 0, r, 0, 0, by rw [List.length_map], h1, fun k x hx => ?_⟩, ?_, fun h => by cases h⟩
    · rw [Nat.zero_add]
      exact (g.cell hx).load
    · rcases h2 with ⟨h2, rfl⟩ | ⟨h2, rfl⟩
      · show xs.length ≤ 0
        omega
      · trivial
abbrev nmL (ws : List AV) : List Nat := ws.flatMap fun w => (nmO w).toList
theorem mem_nmL {ws : List AV} {n : Nat} : n ∈ nmL ws ↔ ∃ (i : Nat) (w : AV), ws[i]? = some w ∧ nmO w = some n := by
  unfold nmL
  rw [List.mem_flatMap]
  constructor
  · rintro ⟨w, h1, h2⟩
    obtain ⟨i, hi⟩ := List.getElem?_of_mem h1
    exact ⟨i, w, hi, nmO_mem.1 h2⟩
  · rintro ⟨i, w, h1, h2⟩
    exact ⟨w, List.mem_of_getElem? h1, nmO_mem.2 h2⟩
structure GRs (e : TypeId) (h : Hp) (ws : List AV) (xss : List (List Int)) : Prop where
  len : ws.length = xss.length
  gr : ∀ (i : Nat) (w : AV) (xs : List Int), ws[i]? = some w → xss[i]? = some xs → Gr e 1 h w (xs.map I) xs.length
  sep : ∀ (i j : Nat) (w w' : AV) (n : Nat), i ≠ j → ws[i]? = some w → ws[j]? = some w' → nmO w = some n → nmO w' ≠ some n
theorem GRs.at {ws : List AV} {xss : List (List Int)} (p : GRs e h ws xss) {i : Nat} {w : AV} (hw : ws[i]? = some w) : ∃ xs, xss[i]? = some xs ∧ Gr e 1 h w (xs.map I) xs.length := by
  obtain ⟨xs, hx⟩ := at_some (show i < xss.length by rw [← p.len]; exact (List.getElem?_eq_some_iff.1 hw).1)
  exact ⟨xs, hx, p.gr i w xs hw hx⟩
theorem GRs.fr {ws : List AV} {xss : List (List Int)} {R : Nat → Prop} (p : GRs e h ws xss) (a : Fr R h h') (hn : ∀ n, n ∈ nmL ws → ¬ R n) : GRs e h' ws xss :=
  ⟨p.len, fun i w xs h1 h2 => (p.gr i w xs h1 h2).fr a (fun n hv => hn n (mem_nmL.2 ⟨i, w, h1, hv⟩)), p.sep⟩
theorem GRs.lt {ws : List AV} {xss : List (List Int)} (p : GRs e h ws xss) {n : Nat} (hn : n ∈ nmL ws) : n < h.c := by
  obtain ⟨i, w, h1, h2⟩ := mem_nmL.1 hn
  obtain ⟨xs, _, g⟩ := p.at h1
  exact g.lt h2
def grs (e : TypeId) (ws : List AV) (xss : List (List Int)) : As := ⟨nmL ws, fun h => GRs e h ws xss, fun h h' R p a hn => p.fr a hn, fun h p n hn => p.lt hn⟩
theorem GRs.lls {ws : List AV} {xss : List (List Int)} (p : GRs e h ws xss) : LLs false h ws xss := ⟨p.len, fun i w xs h1 h2 => gr_lc' (p.gr i w xs h1 h2) rfl⟩
/-- the answer of a function that makes lists by append -/
def RPg (e : TypeId) (b h' : Hp) (r : AV) (bs : List Int) (xss : List (List Int)) : Prop :=
  ∃ vB p ws, r = .agg [vB, .slice p 0 ws.length false ws.length 0] ∧ Blks id h' p ws ∧ b.c ≤ p ∧ Lc false h' vB (bs.map I) ∧ GRs e h' ws xss ∧ (∀ n, nmO vB = some n → b.c ≤ n ∧ n ≠ p ∧ n ∉ nmL ws) ∧ ∀ n, n ∈ nmL ws → b.c ≤ n ∧ n ≠ p
/-- the answer of a function of the definition -/
def RP0 (b h' : Hp) (r : AV) (bs : List Int) (xss : List (List Int)) : Prop :=
  ∃ vB vR ws, r = .agg [vB, vR] ∧ PLs false h' vB vR ws bs xss ∧ ∀ n, n ∈ (pls false vB vR ws bs xss).foot → b.c ≤ n
end
section
variable {C : Ctx} {t : TypeId} {e : TypeId} {ti te : TI} {M : List Nat} {h0 h h' : Hp} {L L' Z : List As} {k : OpsK} {dst : Option Tmp} {env : Env} {Q : Env → Hp → Prop}
end
end Go.Proofs.Abs
