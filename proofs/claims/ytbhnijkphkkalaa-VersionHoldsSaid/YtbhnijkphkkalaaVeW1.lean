/- Steps of the game of stage 11's theorem. -/
import Derived.Test.YtbhnijkphkkalaaVeW0
namespace Go.Proofs.Ytbhnijkphkkalaa
open Go.ChangeShapes Go.WideShapes Go.ChangeAt Go.RowKit
set_option linter.unusedVariables false

theorem Gm.newW {f : Int} {ls : List (List Int)} (h4 : Four4 ls) {e begun : Nat} {odd : Bool} {rl : List (Option Prg)} {ws : List Int} (h : Gm f ls e begun odd rl none ws) {l : List Int} (hl : ls[begun]? = some l) {x : Prg} (hx : x.P = ⟨false, 0, 1, l, 0, 1, 0, 0, 0⟩) :
    Gm f ls e (begun + 1) odd rl (some x) ws := by
  obtain ⟨h1, h2, h3⟩ := h.none_ rfl
  subst h1 h2 h3
  exact ⟨(fun h => by cases h), fun y hy => by cases hy; exact ⟨rfl, by rw [hx]; exact .fresh l hl⟩, h.rd, h.base, h.nn, (List.getElem?_eq_some_iff.1 hl).1⟩
theorem Gm.stepW {f : Int} {ls : List (List Int)} (hf : f % 2 = 0) (h4 : Four4 ls) {e begun : Nat} {odd : Bool} {rl : List (Option Prg)} {x : Prg} {ws : List Int} (h : Gm f ls e begun odd rl (some x) ws) :
    ∃ P' ws', stp x.P ws = (false, 0, P', ws') ∧ ((P'.st = 5 ∧ odd = true ∧ e + 1 = begun ∧ Gm f ls (e + 1) begun false rl none ws') ∨ (P'.st ≠ 5 ∧ ∃ odd', Gm f ls e begun odd' rl (some ⟨x.q, x.b, x.c, P'⟩) ws')) := by
  obtain ⟨hb, hW⟩ := h.some_ x rfl
  obtain ⟨hok, hbf, hR⟩ := hW.ok h4
  have hkeep := hok.stp h.nn hbf
  obtain ⟨P', ws', hs, hc⟩ := hW.step hf h4
  rw [hs] at hkeep
  refine ⟨P', ws', hs, ?_⟩
  rcases hc with ⟨h5, ho, rfl⟩ | ⟨h5, odd', hW', ho⟩
  · exact .inl ⟨h5, ho, hb.symm, ⟨fun _ => ⟨rfl, hb, rfl⟩, (fun y hy => by cases hy), fun i y hy => (h.rd i y hy).next, none_base h4 _, hkeep.2.1, h.beg⟩⟩
  · exact .inr ⟨h5, odd', ⟨(fun h => by cases h), fun y hy => by cases hy; exact ⟨hb, hW'⟩, fun i y hy => (h.rd i y hy).up ho, hW'.base h4, hkeep.2.1, h.beg⟩⟩
theorem Gm.newR {f : Int} {ls : List (List Int)} {e begun : Nat} {odd : Bool} {rl : List (Option Prg)} {wo : Option Prg} {ws : List Int} (h : Gm f ls e begun odd rl wo ws) {i : Nat} {x : Prg} {tr : Int} (ht : 1 ≤ tr ∧ tr ≤ 5) (hx : x.P = ⟨true, 0, 1, List.replicate 4 0, 0, 1, 0, 0, tr⟩) :
    Gm f ls e begun odd (rl.set i (some x)) wo ws := by
  refine ⟨h.none_, h.some_, fun j y hy => ?_, h.base, h.nn, h.beg⟩
  rw [List.getElem?_set] at hy
  by_cases e1 : i = j
  · subst e1
    rw [if_pos rfl] at hy
    split at hy
    · cases hy
      rw [hx]; exact .look _ (by simp) (rep0 4) _ _ ht
    · cases hy
  · rw [if_neg e1] at hy
    exact h.rd j y hy
theorem Gm.dropR {f : Int} {ls : List (List Int)} {e begun : Nat} {odd : Bool} {rl : List (Option Prg)} {wo : Option Prg} {ws : List Int} (h : Gm f ls e begun odd rl wo ws) (i : Nat) : Gm f ls e begun odd (rl.set i none) wo ws := by
  refine ⟨h.none_, h.some_, fun j y hy => ?_, h.base, h.nn, h.beg⟩
  rw [List.getElem?_set] at hy
  by_cases e1 : i = j
  · subst e1
    rw [if_pos rfl] at hy
    split at hy <;> simp at hy
  · rw [if_neg e1] at hy
    exact h.rd j y hy
theorem Gm.stepR {f : Int} {ls : List (List Int)} (hf : f % 2 = 0) (h4 : Four4 ls) {e begun : Nat} (he : e ≤ 10) {odd : Bool} {rl : List (Option Prg)} {wo : Option Prg} {ws : List Int} (h : Gm f ls e begun odd rl wo ws) {i : Nat} {x : Prg} (hi : rl[i]? = some (some x)) :
    ∃ b P', stp x.P ws = (b, 0, P', ws) ∧ ((P'.st ≠ 5 ∧ Gm f ls e begun odd (rl.set i (some ⟨x.q, x.b, x.c, P'⟩)) wo ws) ∨ (P'.st = 5 ∧ P'.res = 0) ∨ (∃ k tr, P' = ⟨true, 0, 1, vals ls e, k, 5, ver f e, 1, tr⟩)) := by
  obtain ⟨b, P', hs, hc⟩ := (h.rd i x hi).step hf h4 he h.base h.nn
  refine ⟨b, P', hs, ?_⟩
  rcases hc with ⟨h5, hR⟩ | hc | hc
  · refine .inl ⟨h5, h.none_, h.some_, fun j y hy => ?_, h.base, h.nn, h.beg⟩
    rw [List.getElem?_set] at hy
    by_cases e1 : i = j
    · subst e1
      rw [if_pos rfl] at hy
      split at hy
      · cases hy; exact hR
      · cases hy
    · rw [if_neg e1] at hy
      exact h.rd j y hy
  · exact .inr (.inl hc)
  · exact .inr (.inr hc)
/-- The first step of one that reads does not end it. -/
theorem fresh_step {buf : List Int} {tr : Int} {ws : List Int} {b : Bool} {y : Int} {P' : Pg} {ws' : List Int} (h : stp ⟨true, 0, 1, buf, 0, 1, 0, 0, tr⟩ ws = (b, y, P', ws')) : P'.st ≠ 5 := by
  unfold stp at h
  simp only at h
  rw [if_neg (by decide)] at h
  split at h
  · cases h; show (1 : Int) ≠ 5; decide
  · simp only [if_true] at h
    split at h
    · cases h; show (1 : Int) ≠ 5; decide
    · cases h
      rcases nxt_cases 0 buf.length with h | h <;> (show nxt 0 buf.length ≠ 5; omega)
#print axioms Gm.stepR
end Go.Proofs.Ytbhnijkphkkalaa
