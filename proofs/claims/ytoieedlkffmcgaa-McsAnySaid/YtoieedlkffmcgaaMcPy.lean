/- McsPlays: where everything lies: the arena, the programs, the flags, the reference's runs and words. -/
import Derived.Test.YtoieedlkffmcgaaMcSz
import Derived.Test.YtoieedlkffmcgaaMcNw
import Derived.Test.YtoieedlkffmcgaaMcDo
namespace Go.Proofs.Ytoieedlkffmcgaa
open Go.ChangeShapes Go.WideShapes Go.ChangeAt Go.RowKit
set_option linter.unusedVariables false

theorem ty_ne {w : World} {b b' : Nat} {cs cs' : Array Value} {t t' : TypeId} (h : w.heap[b]? = some (.cells cs t (0, 0))) (h' : w.heap[b']? = some (.cells cs' t' (0, 0))) (ht : t ≠ t') : b ≠ b' := by
  intro e; subst e; rw [h] at h'; simp only [Option.some.injEq, Obj.cells.injEq] at h'; exact ht h'.2.1
/-- A run of the reference. -/
def rv (n i : Nat) (back : Bool) (s o : Int) (e : Bool) : List Value := [.int .i64 1, .int .i64 n, .int .i64 0, .int .i64 (2 * i : Nat), .bool back, .int .i64 s, .int .u64 o, .bool e]
/-- The runs lie in a row. -/
def Rn (w : World) (n br : Nat) (pg : Nat → Option Pr) : Prop :=
  ∃ cs : Array Value, w.heap[br]? = some (.cells cs 42 (0, 0)) ∧ cs.size = n * 8 ∧ ∀ i, i < n → ∀ back s o, pg i = some (back, s, o) → ∀ j v, (rv n i back s o false)[j]? = some v → cs[i * 8 + j]? = some v

section
variable {B : Nat} {w w' : World} {n p d c bp bh br bn g oo cg t : Nat} {ws ws' : List Int} {pg : Nat → Option Pr} {hs : Nat → Bool} {qa : Nat → Nat}
theorem Rn.frm {D : List Nat} (h : Rn w n br pg) (hf : Frm D w w') (hb : br ∉ D) : Rn w' n br pg := by
  obtain ⟨cs, h1, h2, h3⟩ := h; exact ⟨cs, hf.heap h1 hb, h2, h3⟩
theorem Rn.frz (h : Rn w n br pg) (i : Nat) : w.frozen? ⟨br, i, none⟩ = false := by
  obtain ⟨cs, h1, _⟩ := h; exact frozen_of_heap h1
theorem Rn.any (h : Rn w n br pg) {i : Nat} (hi : i < n * 8) : ∃ v, w.cell? ⟨br, i, none⟩ = some v := by
  obtain ⟨cs, h1, h2, _⟩ := h; exact ⟨_, by rw [cell_of_heap h1]; exact Array.getElem?_eq_getElem (by omega)⟩
theorem Rn.cells {back : Bool} {s o : Int} (h : Rn w n br pg) (ht : t < n) (hp : pg t = some (back, s, o)) :
    w.cell? ⟨br, t * 8, none⟩ = some (.int .i64 1) ∧ w.cell? ⟨br, t * 8 + 1, none⟩ = some (.int .i64 n) ∧ w.cell? ⟨br, t * 8 + 2, none⟩ = some (.int .i64 0) ∧ w.cell? ⟨br, t * 8 + 3, none⟩ = some (.int .i64 (2 * t : Nat)) ∧
    w.cell? ⟨br, t * 8 + 4, none⟩ = some (.bool back) ∧ w.cell? ⟨br, t * 8 + 5, none⟩ = some (.int .i64 s) ∧ w.cell? ⟨br, t * 8 + 6, none⟩ = some (.int .u64 o) ∧ w.cell? ⟨br, t * 8 + 7, none⟩ = some (.bool false) := by
  obtain ⟨cs, h1, h2, h3⟩ := h
  have k := h3 t ht back s o hp
  refine ⟨?_, ?_, ?_, ?_, ?_, ?_, ?_, ?_⟩ <;> rw [cell_of_heap h1]
  · exact k 0 _ rfl
  · exact k 1 _ rfl
  · exact k 2 _ rfl
  · exact k 3 _ rfl
  · exact k 4 _ rfl
  · exact k 5 _ rfl
  · exact k 6 _ rfl
  · exact k 7 _ rfl
/-- A run is put down. -/
def put8 (w : World) (br k : Nat) (y0 y1 y2 y3 y4 y5 y6 y7 : Value) : World :=
  (((((((w.setCell ⟨br, k, none⟩ y0).setCell ⟨br, k + 1, none⟩ y1).setCell ⟨br, k + 2, none⟩ y2).setCell ⟨br, k + 3, none⟩ y3).setCell ⟨br, k + 4, none⟩ y4).setCell ⟨br, k + 5, none⟩ y5).setCell ⟨br, k + 6, none⟩ y6).setCell ⟨br, k + 7, none⟩ y7
theorem Frm.put8 {D : List Nat} {a w : World} (h : Frm D a w) (b k : Nat) (y0 y1 y2 y3 y4 y5 y6 y7 : Value) (hp : b ∈ D ∨ a.heap.size ≤ b) : Frm D a (put8 w b k y0 y1 y2 y3 y4 y5 y6 y7) :=
  (((((((h.setCell _ y0 hp).setCell _ y1 hp).setCell _ y2 hp).setCell _ y3 hp).setCell _ y4 hp).setCell _ y5 hp).setCell _ y6 hp).setCell _ y7 hp
theorem heap_put8 {w : World} {b k : Nat} {cs : Array Value} {T : TypeId} {f : Nat × Nat} (h : w.heap[b]? = some (.cells cs T f)) (y0 y1 y2 y3 y4 y5 y6 y7 : Value) :
    (put8 w b k y0 y1 y2 y3 y4 y5 y6 y7).heap[b]? = some (.cells ((((((((cs.setIfInBounds k y0).setIfInBounds (k + 1) y1).setIfInBounds (k + 2) y2).setIfInBounds (k + 3) y3).setIfInBounds (k + 4) y4).setIfInBounds (k + 5) y5).setIfInBounds (k + 6) y6).setIfInBounds (k + 7) y7) T f) :=
  heap_setCell_at (i := k + 7) y7 (heap_setCell_at (i := k + 6) y6 (heap_setCell_at (i := k + 5) y5 (heap_setCell_at (i := k + 4) y4 (heap_setCell_at (i := k + 3) y3 (heap_setCell_at (i := k + 2) y2 (heap_setCell_at (i := k + 1) y1 (heap_setCell_at (i := k) y0 h)))))))
/-- Behind a run that is put down: the others are as they were, and this one, if it has not ended. -/
theorem Rn.put {back : Bool} {s o : Int} {e : Bool} (h : Rn w n br pg) (ht : t < n) :
    Rn (put8 w br (t * 8) (.int .i64 1) (.int .i64 n) (.int .i64 0) (.int .i64 (2 * t : Nat)) (.bool back) (.int .i64 s) (.int .u64 o) (.bool e)) n br (up pg t (if e then none else some (back, s, o))) := by
  obtain ⟨cs, h1, h2, h3⟩ := h
  refine ⟨_, heap_put8 h1 _ _ _ _ _ _ _ _, by simp [h2], fun i hi b s1 o1 hv j v hj => ?_⟩
  have hj8 : j < 8 := (List.getElem?_eq_some_iff.1 hj).1
  by_cases e1 : i = t
  · subst e1
    rw [up_eq] at hv
    cases e with
    | true => simp at hv
    | false =>
      simp only [Bool.false_eq_true, if_false, Option.some.injEq, Prod.mk.injEq] at hv
      obtain ⟨rfl, rfl, rfl⟩ := hv
      simp only [Array.getElem?_setIfInBounds, Array.size_setIfInBounds]
      have hh : ∀ m, m < 8 → i * 8 + m < cs.size := fun m hm => by omega
      rcases j with _ | _ | _ | _ | _ | _ | _ | _ | j <;> first | (exfalso; omega) | skip
      all_goals (simp [rv] at hj; subst hj; simp; try omega)
  · rw [up_ne _ _ e1] at hv
    have := h3 i hi b s1 o1 hv j v hj
    simp only [Array.getElem?_setIfInBounds]
    rw [if_neg (by omega), if_neg (by omega), if_neg (by omega), if_neg (by omega), if_neg (by omega), if_neg (by omega), if_neg (by omega), if_neg (by omega)]
    exact this
theorem Rn.sub (h : Rn w n br pg) {v : Option Pr} : Rn w n br (up pg t none) := by
  obtain ⟨cs, h1, h2, h3⟩ := h
  refine ⟨cs, h1, h2, fun i hi b s o hv => ?_⟩
  by_cases e : i = t
  · rw [e, up_eq] at hv; cases hv
  · rw [up_ne _ _ e] at hv; exact h3 i hi b s o hv
#print axioms Rn.put
end
end Go.Proofs.Ytoieedlkffmcgaa
