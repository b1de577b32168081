/- Package latch: Look with nil nodes, and with a nil memory. -/
import Derived.Test.YticbbfcachnkiaaGreatDoorUuS
namespace Go.Proofs.YticbbfcachnkiaaGreatDoor
open Go.ChangeShapes Go.WideShapes Go.ChangeAt Go.RowKit
set_option linter.unusedVariables false
set_option linter.unusedSimpArgs false
section
variable {w : World} {np nb T : Nat}
set_option maxRecDepth 1000000 in
set_option maxHeartbeats 4000000 in
theorem Look_nilm {v m : Value} (h : Zv w v) (at_ : Int) : Calls Tryz.prog 47 #[m, v, .int .i64 at_] w (Ret (.tuple #[.agg #[.slice none 0 0, .int .i64 0, .int .i64 0, .int .i64 0, .int .i64 0, .slice none 0 0], .int .i64 1]) (fun w' => Frm [] w w')) := by
  have hmf : ∀ (fn : Fn) (first cap : Array Value) (w : World), (Instr.makeFunc fn first cap).run Tryz.prog w = .ok (.func fn first cap) w := fun _ _ _ _ => rfl
  obtain ⟨X, hX⟩ : ∃ X, X = (w.alloc (.cells #[.slice none 0 0, .int .i64 0, .int .i64 0, .int .i64 0, .int .i64 0, .slice none 0 0] 118)).alloc (.cells #[.int .i64 0] 64) := ⟨_, rfl⟩
  have hFX : Frm [] w X := by rw [hX]; exact ((Frm.refl _ _).alloc _).alloc _
  have g0 : X.heap[w.heap.size]? = some (.cells #[.slice none 0 0, .int .i64 0, .int .i64 0, .int .i64 0, .int .i64 0, .slice none 0 0] 118 (0, 0)) := by rw [hX]; exact heap_alloc_old _ (heap_alloc_new _ _)
  have g1 : X.heap[w.heap.size + 1]? = some (.cells #[.int .i64 0] 64 (0, 0)) := by rw [hX]; exact heap_alloc_at _ (by simp)
  have HTH := Lib.hid (threads_z (h.frm hFX))
  have HFX := Lib.hid hFX
  obtain ⟨q0, q1, q2, q3, q4, q5⟩ := cells6L g0
  have q6 : X.cell? ⟨w.heap.size + 1, 0, none⟩ = some (.int .i64 0) := by rw [cell_of_heap g1]; rfl
  have z0 : X.frozen? ⟨w.heap.size, 0, none⟩ = false := frozen_of_heap g0
  have z1 : X.frozen? ⟨w.heap.size, 1, none⟩ = false := frozen_of_heap g0
  have z2 : X.frozen? ⟨w.heap.size, 2, none⟩ = false := frozen_of_heap g0
  have z3 : X.frozen? ⟨w.heap.size, 3, none⟩ = false := frozen_of_heap g0
  have z4 : X.frozen? ⟨w.heap.size, 4, none⟩ = false := frozen_of_heap g0
  have z5 : X.frozen? ⟨w.heap.size, 5, none⟩ = false := frozen_of_heap g0
  have z6 : X.frozen? ⟨w.heap.size + 1, 0, none⟩ = false := frozen_of_heap g1
  have hl0 := lt_of_heap g0
  have hl1 := lt_of_heap g1
  have G0 := Lib.hid g0
  have G1 := Lib.hid g1
  clear h hFX g0 g1
  go_enter_defers Tryz.func47, Tryz.ntmps47
  go_wp2_with fail
  rw [← hX]
  clear hX
  refine HTH.out.mono ?_
  rintro e w' ⟨rfl, rfl⟩
  go_wp2
  have hW0 := heap_setCell_far ⟨w.heap.size + 1, 0, none⟩ (.int .i64 1) (by simp) (setCells6 G0.out (.slice none 0 0) (.int .i64 0) (.int .i64 0) (.int .i64 0) (.int .i64 0) (.slice none 0 0))
  have hW1 : ((((((((X.setCell ⟨w.heap.size, 0, none⟩ (.slice none 0 0)).setCell ⟨w.heap.size, 1, none⟩ (.int .i64 0)).setCell ⟨w.heap.size, 2, none⟩ (.int .i64 0)).setCell ⟨w.heap.size, 3, none⟩ (.int .i64 0)).setCell ⟨w.heap.size, 4, none⟩ (.int .i64 0)).setCell ⟨w.heap.size, 5, none⟩ (.slice none 0 0)).setCell ⟨w.heap.size + 1, 0, none⟩ (.int .i64 1))).heap[w.heap.size + 1]? = some (.cells #[.int .i64 1] 64 (0, 0)) := heap_setCell_at _ (heap_setCell_far _ _ (by simp) (heap_setCell_far _ _ (by simp) (heap_setCell_far _ _ (by simp) (heap_setCell_far _ _ (by simp) (heap_setCell_far _ _ (by simp) (heap_setCell_far _ _ (by simp) G1.out))))))
  have hWF := ((HFX.out.set6 w.heap.size (.slice none 0 0) (.int .i64 0) (.int .i64 0) (.int .i64 0) (.int .i64 0) (.slice none 0 0) (.inr (by simp))).setCell ⟨w.heap.size + 1, 0, none⟩ (.int .i64 1) (.inr (by simp)))
  generalize (((((((X.setCell ⟨w.heap.size, 0, none⟩ (.slice none 0 0)).setCell ⟨w.heap.size, 1, none⟩ (.int .i64 0)).setCell ⟨w.heap.size, 2, none⟩ (.int .i64 0)).setCell ⟨w.heap.size, 3, none⟩ (.int .i64 0)).setCell ⟨w.heap.size, 4, none⟩ (.int .i64 0)).setCell ⟨w.heap.size, 5, none⟩ (.slice none 0 0)).setCell ⟨w.heap.size + 1, 0, none⟩ (.int .i64 1)) = W at hW0 hW1 hWF ⊢
  obtain ⟨y0, y1, y2, y3, y4, y5⟩ := cells6L hW0
  have y6 : W.cell? ⟨w.heap.size + 1, 0, none⟩ = some (.int .i64 1) := by rw [cell_of_heap hW1]; rfl
  simp only [bodyPostD, Leaves]
  exact ⟨.tuple #[.agg #[.slice none 0 0, .int .i64 0, .int .i64 0, .int .i64 0, .int .i64 0, .slice none 0 0], .int .i64 1], by simp [results, Tryz.results47, go_sem, y0, y1, y2, y3, y4, y5, y6], rfl, hWF⟩
set_option maxRecDepth 1000000 in
set_option maxHeartbeats 4000000 in
theorem Look_nilmem (h : Nd w np nb T) (hT : 0 < T) (at_ : Int) : Calls Tryz.prog 47 #[.nilIface, .pointer (some ⟨np, 0, none⟩), .int .i64 at_] w (Ret (.tuple #[.agg #[.slice none 0 0, .int .i64 0, .int .i64 0, .int .i64 0, .int .i64 0, .slice none 0 0], .int .i64 1]) (fun w' => Frm [] w w')) := by
  have hmf : ∀ (fn : Fn) (first cap : Array Value) (w : World), (Instr.makeFunc fn first cap).run Tryz.prog w = .ok (.func fn first cap) w := fun _ _ _ _ => rfl
  obtain ⟨X, hX⟩ : ∃ X, X = (w.alloc (.cells #[.slice none 0 0, .int .i64 0, .int .i64 0, .int .i64 0, .int .i64 0, .slice none 0 0] 118)).alloc (.cells #[.int .i64 0] 64) := ⟨_, rfl⟩
  have hFX : Frm [] w X := by rw [hX]; exact ((Frm.refl _ _).alloc _).alloc _
  have g0 : X.heap[w.heap.size]? = some (.cells #[.slice none 0 0, .int .i64 0, .int .i64 0, .int .i64 0, .int .i64 0, .slice none 0 0] 118 (0, 0)) := by rw [hX]; exact heap_alloc_old _ (heap_alloc_new _ _)
  have g1 : X.heap[w.heap.size + 1]? = some (.cells #[.int .i64 0] 64 (0, 0)) := by rw [hX]; exact heap_alloc_at _ (by simp)
  have HTH := Lib.hid (threads_nd (h.frm hFX))
  have e0 : ((T : Int) == 0) = false := by simp; omega
  have HFX := Lib.hid hFX
  obtain ⟨q0, q1, q2, q3, q4, q5⟩ := cells6L g0
  have q6 : X.cell? ⟨w.heap.size + 1, 0, none⟩ = some (.int .i64 0) := by rw [cell_of_heap g1]; rfl
  have z0 : X.frozen? ⟨w.heap.size, 0, none⟩ = false := frozen_of_heap g0
  have z1 : X.frozen? ⟨w.heap.size, 1, none⟩ = false := frozen_of_heap g0
  have z2 : X.frozen? ⟨w.heap.size, 2, none⟩ = false := frozen_of_heap g0
  have z3 : X.frozen? ⟨w.heap.size, 3, none⟩ = false := frozen_of_heap g0
  have z4 : X.frozen? ⟨w.heap.size, 4, none⟩ = false := frozen_of_heap g0
  have z5 : X.frozen? ⟨w.heap.size, 5, none⟩ = false := frozen_of_heap g0
  have z6 : X.frozen? ⟨w.heap.size + 1, 0, none⟩ = false := frozen_of_heap g1
  have hl0 := lt_of_heap g0
  have hl1 := lt_of_heap g1
  have G0 := Lib.hid g0
  have G1 := Lib.hid g1
  clear h hFX g0 g1
  go_enter_defers Tryz.func47, Tryz.ntmps47
  go_wp2_with fail
  rw [← hX]
  clear hX
  refine HTH.out.mono ?_
  rintro e w' ⟨rfl, rfl⟩
  go_wp2
  have hW0 := heap_setCell_far ⟨w.heap.size + 1, 0, none⟩ (.int .i64 1) (by simp) (setCells6 G0.out (.slice none 0 0) (.int .i64 0) (.int .i64 0) (.int .i64 0) (.int .i64 0) (.slice none 0 0))
  have hW1 : ((((((((X.setCell ⟨w.heap.size, 0, none⟩ (.slice none 0 0)).setCell ⟨w.heap.size, 1, none⟩ (.int .i64 0)).setCell ⟨w.heap.size, 2, none⟩ (.int .i64 0)).setCell ⟨w.heap.size, 3, none⟩ (.int .i64 0)).setCell ⟨w.heap.size, 4, none⟩ (.int .i64 0)).setCell ⟨w.heap.size, 5, none⟩ (.slice none 0 0)).setCell ⟨w.heap.size + 1, 0, none⟩ (.int .i64 1))).heap[w.heap.size + 1]? = some (.cells #[.int .i64 1] 64 (0, 0)) := heap_setCell_at _ (heap_setCell_far _ _ (by simp) (heap_setCell_far _ _ (by simp) (heap_setCell_far _ _ (by simp) (heap_setCell_far _ _ (by simp) (heap_setCell_far _ _ (by simp) (heap_setCell_far _ _ (by simp) G1.out))))))
  have hWF := ((HFX.out.set6 w.heap.size (.slice none 0 0) (.int .i64 0) (.int .i64 0) (.int .i64 0) (.int .i64 0) (.slice none 0 0) (.inr (by simp))).setCell ⟨w.heap.size + 1, 0, none⟩ (.int .i64 1) (.inr (by simp)))
  generalize (((((((X.setCell ⟨w.heap.size, 0, none⟩ (.slice none 0 0)).setCell ⟨w.heap.size, 1, none⟩ (.int .i64 0)).setCell ⟨w.heap.size, 2, none⟩ (.int .i64 0)).setCell ⟨w.heap.size, 3, none⟩ (.int .i64 0)).setCell ⟨w.heap.size, 4, none⟩ (.int .i64 0)).setCell ⟨w.heap.size, 5, none⟩ (.slice none 0 0)).setCell ⟨w.heap.size + 1, 0, none⟩ (.int .i64 1)) = W at hW0 hW1 hWF ⊢
  obtain ⟨y0, y1, y2, y3, y4, y5⟩ := cells6L hW0
  have y6 : W.cell? ⟨w.heap.size + 1, 0, none⟩ = some (.int .i64 1) := by rw [cell_of_heap hW1]; rfl
  simp only [bodyPostD, Leaves]
  exact ⟨.tuple #[.agg #[.slice none 0 0, .int .i64 0, .int .i64 0, .int .i64 0, .int .i64 0, .slice none 0 0], .int .i64 1], by simp [results, Tryz.results47, go_sem, y0, y1, y2, y3, y4, y5, y6], rfl, hWF⟩
end
end Go.Proofs.YticbbfcachnkiaaGreatDoor
