/- Where everything of McsHolds lies, behind a plain access, behind an append; the front of the queue taken off. -/
import Derived.Test.YtoieedlkffmcgaaMcSy
namespace Go.Proofs.Ytoieedlkffmcgaa
open Go.ChangeShapes Go.WideShapes Go.ChangeAt Go.RowKit
set_option linter.unusedVariables false
variable {B B' : Nat} {w w' : World} {n nq p d c bp bh t m cc q1 b tt L k : Nat} {a : Option Addr} {q : List Nat} {ws ws' : List Int} {pg pg2 : Nat → Option Pr} {hs : Nat → Bool} {qa : Nat → Nat} {back e : Bool} {s o : Int}

theorem get0 {n : Nat} {ws : List Int} (h : ws.length = 1 + 6 * n) : ws[0]? = some (mm ws 0) := by
  cases ws with
  | nil => simp at h; omega
  | cons x r => rfl
theorem Ps.put (h : Ps w n (up pg t none) qa) (hR : PgR w (qa t) back 1 n 0 (2 * t) s o false) : Ps w n (up pg t (some (back, s, o))) qa := by
  intro i hi b s1 o1 hv
  by_cases e : i = t
  · subst e; rw [up_eq] at hv; simp only [Option.some.injEq, Prod.mk.injEq] at hv
    obtain ⟨rfl, rfl, rfl⟩ := hv; exact hR
  · rw [up_ne _ _ e] at hv; exact h i hi b s1 o1 (by rw [up_ne _ _ e]; exact hv)
theorem up_sub {v : Option Pr} {i : Nat} (h : up pg t none i ≠ none) : up pg t v i ≠ none := by
  by_cases e : i = t
  · rw [e, up_eq] at h; exact absurd rfl h
  · rw [up_ne _ _ e] at h ⊢; exact h
theorem Sb.load (h : Sb B w n nq p d c bp bh ws pg hs qa) (hf : Frm [d] w w') (hM : MemAt w' p d c ws) : Sb B w' n nq p d c bp bh ws pg hs qa := by
  obtain ⟨e1, e2, e3, e4, e5, e6, e7, e8⟩ := h.ne
  exact ⟨h.nd.frmD hf (by simp; exact e1), hM, h.pos, h.len, hf.heap h.progs (by simp; exact Ne.symm e6), hf.heap h.hass (by simp; exact Ne.symm e7), h.low, h.ne, h.qne, h.qq⟩
theorem Ps.load (hps : Ps w n pg2 qa) (h : Sb B w n nq p d c bp bh ws pg hs qa) (hf : Frm [d] w w') (hn : ∀ i, pg2 i ≠ none → pg i ≠ none) : Ps w' n pg2 qa :=
  hps.frm hf (fun i hi hx => by simp; exact (h.qne i hi (hn i hx)).1)
theorem Qu.load (hq : Qu B' w a m cc q) (h : Sb B w n nq p d c bp bh ws pg hs qa) (hf : Frm [d] w w') : Qu B' w' a m cc q := by
  obtain ⟨cs, hc, _, _⟩ := h.mem.arr
  exact hq.frm hf (fun x hx => by simp; exact hq.ne hc (by decide) x hx)
theorem Qu.neR (hq : Qu B' w a m cc q) (hR : PgR w q1 back b tt L k s o e) : ∀ x ∈ bkQ a, x ≠ q1 := by
  obtain ⟨met, hP, _⟩ := hR
  exact hq.ne hP.obj (by cases back <;> decide)
theorem Qu.step (hq : Qu B' w a m cc q) (h : Sb B w n nq p d c bp bh ws pg hs qa) (hR : PgR w q1 back b tt L k s o e) (hf : Frm [d, q1] w w') : Qu B' w' a m cc q := by
  obtain ⟨cs, hc, _, _⟩ := h.mem.arr
  exact hq.frm hf (fun x hx => by simp; exact ⟨hq.ne hc (by decide) x hx, hq.neR hR x hx⟩)
theorem Sb.grow (h : Sb nq w n nq p d c bp bh ws pg hs qa) (hq : Qu (nq + 1) w a m cc q) (hf : Frm (bkQ a) w w') : Sb nq w' n nq p d c bp bh ws pg hs qa := by
  obtain ⟨cs, hc, _, _⟩ := h.mem.arr
  exact h.frm hf (fun hx => by have := (hq.from_ _ hx).1; omega) (fun hx => hq.ne h.mem.obj (by decide) _ hx rfl) (fun hx => hq.ne hc (by decide) _ hx rfl) (fun hx => hq.ne h.progs (by decide) _ hx rfl) (fun hx => hq.ne h.hass (by decide) _ hx rfl)
theorem PgR.grow (hR : PgR w q1 back b tt L k s o e) (hq : Qu B' w a m cc q) (hf : Frm (bkQ a) w w') : PgR w' q1 back b tt L k s o e :=
  hR.frm hf (fun hx => hq.neR hR _ hx rfl)
theorem Ps.grow (hps : Ps w n pg qa) (hq : Qu B' w a m cc q) (hf : Frm (bkQ a) w w') : Ps w' n pg qa := fun i hi b s o hv => (hps i hi b s o hv).grow hq hf
/-- The front taken off. -/
theorem sl_tail (g off m c : Nat) (h1 : 0 < m) (W : World) : (Instr.sliceAt 72 (.slice (some ⟨g, off, none⟩) m c) (some (.int .i64 1)) none none).run Try.prog W = .ok (.slice (some ⟨g, if c = 1 then off else off + 1, none⟩) (m - 1) (c - 1)) W := by
  have h1' : (1 : Int) ≤ (m : Int) := by omega
  by_cases h : c = 1 <;> simp [go_sem, h1', h, Addr.add]
theorem Qu.tail {x : Nat} (h : Qu B w a m cc (x :: q)) : ∃ g off, a = some ⟨g, off, none⟩ ∧ 0 < m ∧ w.cell? ⟨g, off, none⟩ = some (.int .i64 (x : Int)) ∧ Qu B w (some ⟨g, if cc = 1 then off else off + 1, none⟩) (m - 1) (cc - 1) q := by
  obtain ⟨g, off, ha, hm, hc, h1, h2⟩ := h.front
  refine ⟨g, off, ha, hm, hc, ?_⟩
  by_cases e : cc = 1
  · have hm1 : m = 1 := by
      have := h.2.1; omega
    subst e hm1
    simpa using h2 rfl
  · rw [if_neg e]; exact h1
#print axioms Sb.grow
end Go.Proofs.Ytoieedlkffmcgaa
