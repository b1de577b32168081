/- The reference's New (by gen_mcnw.py). -/
import Derived.Test.YtoieedlkffmcgaaMcH
import Derived.Deep.DeepCutAuto
namespace Go.Proofs.Ytoieedlkffmcgaa
open Go.ChangeShapes Go.WideShapes Go.ChangeAt Go.RowKit
set_option linter.unusedVariables false
set_option linter.unusedSimpArgs false

theorem has_any (w : World) {b t : Nat} (t64 : t ≤ 64) (k : Int) : Calls Try.prog 27 #[.agg #[.int .i64 b, .int .i64 t], .int .i64 k] w (Ret (.bool (decide (0 ≤ k) && decide (k < 2 * (t : Int)))) (fun w' => Frm [] w w')) := by
  have h2 : IntKind.i64.wrap (2 * (t : Int)) = 2 * (t : Int) := IntWalk.i64_in _ (by omega)
  by_cases h1 : 0 ≤ k
  · have d1 : decide (0 ≤ k) = true := by simpa using h1
    go_enter Try.func27, Try.ntmps27
    go_wp2
    all_goals go_ret
    all_goals exact ⟨by simp [h1], by (repeat' (first | exact Frm.refl _ _ | apply Frm.alloc | apply Frm.drew | apply Frm.drewN | assumption))⟩
  · have d1 : decide (0 ≤ k) = false := by simpa using h1
    go_enter Try.func27, Try.ntmps27
    go_wp2
    all_goals go_ret
    all_goals exact ⟨by simp [h1], by (repeat' (first | exact Frm.refl _ _ | apply Frm.alloc | apply Frm.drew | apply Frm.drewN | assumption))⟩

set_option maxRecDepth 100000 in
set_option maxHeartbeats 400000 in
theorem new_run (w : World) {b t : Nat} {L k : Nat} (t64 : t ≤ 64) (fit : b + 6 * t ≤ 65536) (hL : L < 65536) (hL2 : L < b ∨ b + 6 * t ≤ L) (hk : k < 2 * t) (back : Bool) :
    Calls Try.prog 12 #[.agg #[.int .i64 b, .int .i64 t], .int .i64 L, .int .i64 k, .bool back] w (Ret (.tuple #[.agg #[.int .i64 b, .int .i64 t, .int .i64 L, .int .i64 k, .bool back, .int .i64 1, .int .u64 0, .bool false], .int .i64 0]) (fun w' => Frm [] w w')) := by
  have hs : (decide (0 ≤ (k : Int)) && decide ((k : Int) < 2 * (t : Int))) = true := by simp; omega
  have H := Lib.hid (fun w => has_any w (b := b) t64 (k : Int))
  have e3 : IntKind.i64.wrap (6 * (t : Int)) = 6 * (t : Int) := IntWalk.i64_in _ (by omega)
  have e4 : IntKind.i64.wrap ((b : Int) + 6 * (t : Int)) = (b : Int) + 6 * (t : Int) := IntWalk.i64_in _ (by omega)
  have e1 : decide ((L : Int) < 0) = false := by simp <;> omega
  have e2 : decide ((65536 : Int) ≤ (L : Int)) = false := by simp <;> omega
  obtain ⟨X, hX⟩ : ∃ X, X = (w.alloc (.cells #[.int .i64 b, .int .i64 t] 32)).alloc (.cells #[.int .i64 0, .int .i64 0, .int .i64 0, .int .i64 0, .bool false, .int .i64 0, .int .u64 0, .bool false] 42) := ⟨_, rfl⟩
  have hFX : Frm [] w X := by rw [hX]; exact ((Frm.refl _ _).alloc _).alloc _
  have hb0 : X.heap[w.heap.size]? = some (.cells #[.int .i64 b, .int .i64 t] 32 (0, 0)) := by rw [hX]; exact heap_alloc_old _ (heap_alloc_new _ _)
  have hb1 : X.heap[w.heap.size + 1]? = some (.cells #[.int .i64 0, .int .i64 0, .int .i64 0, .int .i64 0, .bool false, .int .i64 0, .int .u64 0, .bool false] 42 (0, 0)) := by rw [hX]; exact heap_alloc_at _ (by simp)
  obtain ⟨c0, c1⟩ := cells2 hb0
  have HFX := Lib.hid hFX
  have HB0 := Lib.hid hb0
  have HB1 := Lib.hid hb1
  clear hFX hb0 hb1
  by_cases hb : (b : Int) ≤ (L : Int)
  · have e5 : decide ((b : Int) ≤ (L : Int)) = true := by simpa using hb
    have e6 : decide ((L : Int) < (b : Int) + 6 * (t : Int)) = false := by simp <;> omega
    go_enter Try.func12, Try.ntmps12
    go_wp2_with fail
    rw [← hX]
    clear hX
    refine (H.out X).mono ?_
    rintro e w1 ⟨rfl, g1⟩
    rw [hs]
    have hb0 := g1.heap HB0.out (by simp)
    have hb1 := g1.heap HB1.out (by simp)
    clear c0 c1
    obtain ⟨c0, c1⟩ := cells2 hb0
    obtain ⟨r0, r1, r2, r3, r4, r5, r6, r7⟩ := cells8 hb1
    have fz := fun i => frozen_of_heap (i := i) hb1
    have hR := setCells8 hb1 (.int .i64 b) (.int .i64 t) (.int .i64 L) (.int .i64 k) (.bool back) (.int .i64 1) (.int .u64 0) (.bool false)
    have hFr := Frm.set8 (HFX.out.trans g1) (w.heap.size + 1) (.int .i64 b) (.int .i64 t) (.int .i64 L) (.int .i64 k) (.bool back) (.int .i64 1) (.int .u64 0) (.bool false) (.inr (by omega))
    obtain ⟨k0, k1, k2, k3, k4, k5, k6, k7⟩ := cells8 hR
    have HK := Lib.hid (And.intro k0 (And.intro k1 (And.intro k2 (And.intro k3 (And.intro k4 (And.intro k5 (And.intro k6 (And.intro k7 hFr))))))))
    clear hb1 g1 HFX HB0 HB1 hR hFr k0 k1 k2 k3 k4 k5 k6 k7
    go_wp2
    obtain ⟨k0, k1, k2, k3, k4, k5, k6, k7, hFr⟩ := HK.out
    exact bodyPost_ret (v := .tuple #[.agg #[.int .i64 b, .int .i64 t, .int .i64 L, .int .i64 k, .bool back, .int .i64 1, .int .u64 0, .bool false], .int .i64 0]) (by simp [results, Try.results12, go_sem, k0, k1, k2, k3, k4, k5, k6, k7]) rfl ⟨rfl, hFr⟩
  · have e5 : decide ((b : Int) ≤ (L : Int)) = false := by simpa using hb
    go_enter Try.func12, Try.ntmps12
    go_wp2_with fail
    rw [← hX]
    clear hX
    refine (H.out X).mono ?_
    rintro e w1 ⟨rfl, g1⟩
    rw [hs]
    have hb0 := g1.heap HB0.out (by simp)
    have hb1 := g1.heap HB1.out (by simp)
    clear c0 c1
    obtain ⟨c0, c1⟩ := cells2 hb0
    obtain ⟨r0, r1, r2, r3, r4, r5, r6, r7⟩ := cells8 hb1
    have fz := fun i => frozen_of_heap (i := i) hb1
    have hR := setCells8 hb1 (.int .i64 b) (.int .i64 t) (.int .i64 L) (.int .i64 k) (.bool back) (.int .i64 1) (.int .u64 0) (.bool false)
    have hFr := Frm.set8 (HFX.out.trans g1) (w.heap.size + 1) (.int .i64 b) (.int .i64 t) (.int .i64 L) (.int .i64 k) (.bool back) (.int .i64 1) (.int .u64 0) (.bool false) (.inr (by omega))
    obtain ⟨k0, k1, k2, k3, k4, k5, k6, k7⟩ := cells8 hR
    have HK := Lib.hid (And.intro k0 (And.intro k1 (And.intro k2 (And.intro k3 (And.intro k4 (And.intro k5 (And.intro k6 (And.intro k7 hFr))))))))
    clear hb1 g1 HFX HB0 HB1 hR hFr k0 k1 k2 k3 k4 k5 k6 k7
    go_wp2
    obtain ⟨k0, k1, k2, k3, k4, k5, k6, k7, hFr⟩ := HK.out
    exact bodyPost_ret (v := .tuple #[.agg #[.int .i64 b, .int .i64 t, .int .i64 L, .int .i64 k, .bool back, .int .i64 1, .int .u64 0, .bool false], .int .i64 0]) (by simp [results, Try.results12, go_sem, k0, k1, k2, k3, k4, k5, k6, k7]) rfl ⟨rfl, hFr⟩

set_option maxRecDepth 100000 in
set_option maxHeartbeats 400000 in
theorem new_node (w : World) {b t : Nat} {L k : Int} (t64 : t ≤ 64) (fit : b + 6 * t ≤ 65536) (hL : lockOk b t L) (hk : k < 0 ∨ 2 * (t : Int) ≤ k) (back : Bool) :
    Calls Try.prog 12 #[.agg #[.int .i64 b, .int .i64 t], .int .i64 L, .int .i64 k, .bool back] w (Ret (.tuple #[.agg #[.int .i64 0, .int .i64 0, .int .i64 0, .int .i64 0, .bool false, .int .i64 0, .int .u64 0, .bool false], .int .i64 2]) (fun w' => Frm [] w w')) := by
  have hs : (decide (0 ≤ (k : Int)) && decide ((k : Int) < 2 * (t : Int))) = false := by simp; omega
  have H := Lib.hid (fun w => has_any w (b := b) t64 (k : Int))
  have e3 : IntKind.i64.wrap (6 * (t : Int)) = 6 * (t : Int) := IntWalk.i64_in _ (by omega)
  have e4 : IntKind.i64.wrap ((b : Int) + 6 * (t : Int)) = (b : Int) + 6 * (t : Int) := IntWalk.i64_in _ (by omega)
  obtain ⟨hL0, hL1, hL2⟩ := hL
  have e1 : decide ((L : Int) < 0) = false := by simp <;> omega
  have e2 : decide ((65536 : Int) ≤ (L : Int)) = false := by simp <;> omega
  obtain ⟨X, hX⟩ : ∃ X, X = (w.alloc (.cells #[.int .i64 b, .int .i64 t] 32)).alloc (.cells #[.int .i64 0, .int .i64 0, .int .i64 0, .int .i64 0, .bool false, .int .i64 0, .int .u64 0, .bool false] 42) := ⟨_, rfl⟩
  have hFX : Frm [] w X := by rw [hX]; exact ((Frm.refl _ _).alloc _).alloc _
  have hb0 : X.heap[w.heap.size]? = some (.cells #[.int .i64 b, .int .i64 t] 32 (0, 0)) := by rw [hX]; exact heap_alloc_old _ (heap_alloc_new _ _)
  have hb1 : X.heap[w.heap.size + 1]? = some (.cells #[.int .i64 0, .int .i64 0, .int .i64 0, .int .i64 0, .bool false, .int .i64 0, .int .u64 0, .bool false] 42 (0, 0)) := by rw [hX]; exact heap_alloc_at _ (by simp)
  obtain ⟨c0, c1⟩ := cells2 hb0
  have HFX := Lib.hid hFX
  have HB0 := Lib.hid hb0
  have HB1 := Lib.hid hb1
  clear hFX hb0 hb1
  by_cases hb : (b : Int) ≤ (L : Int)
  · have e5 : decide ((b : Int) ≤ (L : Int)) = true := by simpa using hb
    have e6 : decide ((L : Int) < (b : Int) + 6 * (t : Int)) = false := by simp <;> omega
    go_enter Try.func12, Try.ntmps12
    go_wp2_with fail
    rw [← hX]
    clear hX
    refine (H.out X).mono ?_
    rintro e w1 ⟨rfl, g1⟩
    rw [hs]
    have hb0 := g1.heap HB0.out (by simp)
    have hb1 := g1.heap HB1.out (by simp)
    clear c0 c1
    obtain ⟨c0, c1⟩ := cells2 hb0
    obtain ⟨r0, r1, r2, r3, r4, r5, r6, r7⟩ := cells8 hb1
    have fz := fun i => frozen_of_heap (i := i) hb1
    have hR := setCells8 hb1 (.int .i64 0) (.int .i64 0) (.int .i64 0) (.int .i64 0) (.bool false) (.int .i64 0) (.int .u64 0) (.bool false)
    have hFr := Frm.set8 (HFX.out.trans g1) (w.heap.size + 1) (.int .i64 0) (.int .i64 0) (.int .i64 0) (.int .i64 0) (.bool false) (.int .i64 0) (.int .u64 0) (.bool false) (.inr (by omega))
    obtain ⟨k0, k1, k2, k3, k4, k5, k6, k7⟩ := cells8 hR
    have HK := Lib.hid (And.intro k0 (And.intro k1 (And.intro k2 (And.intro k3 (And.intro k4 (And.intro k5 (And.intro k6 (And.intro k7 hFr))))))))
    clear hb1 g1 HFX HB0 HB1 hR hFr k0 k1 k2 k3 k4 k5 k6 k7
    go_wp2
    obtain ⟨k0, k1, k2, k3, k4, k5, k6, k7, hFr⟩ := HK.out
    exact bodyPost_ret (v := .tuple #[.agg #[.int .i64 0, .int .i64 0, .int .i64 0, .int .i64 0, .bool false, .int .i64 0, .int .u64 0, .bool false], .int .i64 2]) (by simp [results, Try.results12, go_sem, k0, k1, k2, k3, k4, k5, k6, k7]) rfl ⟨rfl, hFr⟩
  · have e5 : decide ((b : Int) ≤ (L : Int)) = false := by simpa using hb
    go_enter Try.func12, Try.ntmps12
    go_wp2_with fail
    rw [← hX]
    clear hX
    refine (H.out X).mono ?_
    rintro e w1 ⟨rfl, g1⟩
    rw [hs]
    have hb0 := g1.heap HB0.out (by simp)
    have hb1 := g1.heap HB1.out (by simp)
    clear c0 c1
    obtain ⟨c0, c1⟩ := cells2 hb0
    obtain ⟨r0, r1, r2, r3, r4, r5, r6, r7⟩ := cells8 hb1
    have fz := fun i => frozen_of_heap (i := i) hb1
    have hR := setCells8 hb1 (.int .i64 0) (.int .i64 0) (.int .i64 0) (.int .i64 0) (.bool false) (.int .i64 0) (.int .u64 0) (.bool false)
    have hFr := Frm.set8 (HFX.out.trans g1) (w.heap.size + 1) (.int .i64 0) (.int .i64 0) (.int .i64 0) (.int .i64 0) (.bool false) (.int .i64 0) (.int .u64 0) (.bool false) (.inr (by omega))
    obtain ⟨k0, k1, k2, k3, k4, k5, k6, k7⟩ := cells8 hR
    have HK := Lib.hid (And.intro k0 (And.intro k1 (And.intro k2 (And.intro k3 (And.intro k4 (And.intro k5 (And.intro k6 (And.intro k7 hFr))))))))
    clear hb1 g1 HFX HB0 HB1 hR hFr k0 k1 k2 k3 k4 k5 k6 k7
    go_wp2
    obtain ⟨k0, k1, k2, k3, k4, k5, k6, k7, hFr⟩ := HK.out
    exact bodyPost_ret (v := .tuple #[.agg #[.int .i64 0, .int .i64 0, .int .i64 0, .int .i64 0, .bool false, .int .i64 0, .int .u64 0, .bool false], .int .i64 2]) (by simp [results, Try.results12, go_sem, k0, k1, k2, k3, k4, k5, k6, k7]) rfl ⟨rfl, hFr⟩

set_option maxRecDepth 100000 in
set_option maxHeartbeats 400000 in
theorem new_lock (w : World) {b t : Nat} {L k : Int} (t64 : t ≤ 64) (fit : b + 6 * t ≤ 65536) (hL : ¬ lockOk b t L) (back : Bool) :
    Calls Try.prog 12 #[.agg #[.int .i64 b, .int .i64 t], .int .i64 L, .int .i64 k, .bool back] w (Ret (.tuple #[.agg #[.int .i64 0, .int .i64 0, .int .i64 0, .int .i64 0, .bool false, .int .i64 0, .int .u64 0, .bool false], .int .i64 2]) (fun w' => Frm [] w w')) := by
  have e3 : IntKind.i64.wrap (6 * (t : Int)) = 6 * (t : Int) := IntWalk.i64_in _ (by omega)
  have e4 : IntKind.i64.wrap ((b : Int) + 6 * (t : Int)) = (b : Int) + 6 * (t : Int) := IntWalk.i64_in _ (by omega)
  obtain ⟨X, hX⟩ : ∃ X, X = (w.alloc (.cells #[.int .i64 b, .int .i64 t] 32)).alloc (.cells #[.int .i64 0, .int .i64 0, .int .i64 0, .int .i64 0, .bool false, .int .i64 0, .int .u64 0, .bool false] 42) := ⟨_, rfl⟩
  have hFX : Frm [] w X := by rw [hX]; exact ((Frm.refl _ _).alloc _).alloc _
  have hb0 : X.heap[w.heap.size]? = some (.cells #[.int .i64 b, .int .i64 t] 32 (0, 0)) := by rw [hX]; exact heap_alloc_old _ (heap_alloc_new _ _)
  have hb1 : X.heap[w.heap.size + 1]? = some (.cells #[.int .i64 0, .int .i64 0, .int .i64 0, .int .i64 0, .bool false, .int .i64 0, .int .u64 0, .bool false] 42 (0, 0)) := by rw [hX]; exact heap_alloc_at _ (by simp)
  obtain ⟨c0, c1⟩ := cells2 hb0
  have HFX := Lib.hid hFX
  have HB0 := Lib.hid hb0
  have HB1 := Lib.hid hb1
  clear hFX hb0 hb1
  by_cases h0 : L < 0
  · have e1 : decide (L < 0) = true := by simpa using h0
    go_enter Try.func12, Try.ntmps12
    go_upto_region 2 with fail
    rw [← hX]
    clear hX
    have hb1 := HB1.out
    have g1 := Frm.refl [] X
    obtain ⟨r0, r1, r2, r3, r4, r5, r6, r7⟩ := cells8 hb1
    have fz := fun i => frozen_of_heap (i := i) hb1
    have hR := setCells8 hb1 (.int .i64 0) (.int .i64 0) (.int .i64 0) (.int .i64 0) (.bool false) (.int .i64 0) (.int .u64 0) (.bool false)
    have hFr := Frm.set8 (HFX.out.trans g1) (w.heap.size + 1) (.int .i64 0) (.int .i64 0) (.int .i64 0) (.int .i64 0) (.bool false) (.int .i64 0) (.int .u64 0) (.bool false) (.inr (by omega))
    obtain ⟨k0, k1, k2, k3, k4, k5, k6, k7⟩ := cells8 hR
    have HK := Lib.hid (And.intro k0 (And.intro k1 (And.intro k2 (And.intro k3 (And.intro k4 (And.intro k5 (And.intro k6 (And.intro k7 hFr))))))))
    clear hb1 g1 HFX HB0 HB1 hR hFr k0 k1 k2 k3 k4 k5 k6 k7
    go_wp2
    obtain ⟨k0, k1, k2, k3, k4, k5, k6, k7, hFr⟩ := HK.out
    exact bodyPost_ret (v := .tuple #[.agg #[.int .i64 0, .int .i64 0, .int .i64 0, .int .i64 0, .bool false, .int .i64 0, .int .u64 0, .bool false], .int .i64 2]) (by simp [results, Try.results12, go_sem, k0, k1, k2, k3, k4, k5, k6, k7]) rfl ⟨rfl, hFr⟩
  · have e1 : decide (L < 0) = false := by simpa using h0
    by_cases h1 : 65536 ≤ L
    · have e2 : decide ((65536 : Int) ≤ L) = true := by simpa using h1
      go_enter Try.func12, Try.ntmps12
      go_upto_region 2 with fail
      rw [← hX]
      clear hX
      have hb1 := HB1.out
      have g1 := Frm.refl [] X
      obtain ⟨r0, r1, r2, r3, r4, r5, r6, r7⟩ := cells8 hb1
      have fz := fun i => frozen_of_heap (i := i) hb1
      have hR := setCells8 hb1 (.int .i64 0) (.int .i64 0) (.int .i64 0) (.int .i64 0) (.bool false) (.int .i64 0) (.int .u64 0) (.bool false)
      have hFr := Frm.set8 (HFX.out.trans g1) (w.heap.size + 1) (.int .i64 0) (.int .i64 0) (.int .i64 0) (.int .i64 0) (.bool false) (.int .i64 0) (.int .u64 0) (.bool false) (.inr (by omega))
      obtain ⟨k0, k1, k2, k3, k4, k5, k6, k7⟩ := cells8 hR
      have HK := Lib.hid (And.intro k0 (And.intro k1 (And.intro k2 (And.intro k3 (And.intro k4 (And.intro k5 (And.intro k6 (And.intro k7 hFr))))))))
      clear hb1 g1 HFX HB0 HB1 hR hFr k0 k1 k2 k3 k4 k5 k6 k7
      go_wp2
      obtain ⟨k0, k1, k2, k3, k4, k5, k6, k7, hFr⟩ := HK.out
      exact bodyPost_ret (v := .tuple #[.agg #[.int .i64 0, .int .i64 0, .int .i64 0, .int .i64 0, .bool false, .int .i64 0, .int .u64 0, .bool false], .int .i64 2]) (by simp [results, Try.results12, go_sem, k0, k1, k2, k3, k4, k5, k6, k7]) rfl ⟨rfl, hFr⟩
    · have e2 : decide ((65536 : Int) ≤ L) = false := by simpa using h1
      have h5 : (b : Int) ≤ L ∧ L < (b : Int) + 6 * t := by unfold lockOk at hL; omega
      have e5 : decide ((b : Int) ≤ L) = true := by simpa using h5.1
      have e6 : decide (L < (b : Int) + 6 * (t : Int)) = true := by simpa using h5.2
      go_enter Try.func12, Try.ntmps12
      go_upto_region 2 with fail
      rw [← hX]
      clear hX
      have hb1 := HB1.out
      have g1 := Frm.refl [] X
      obtain ⟨r0, r1, r2, r3, r4, r5, r6, r7⟩ := cells8 hb1
      have fz := fun i => frozen_of_heap (i := i) hb1
      have hR := setCells8 hb1 (.int .i64 0) (.int .i64 0) (.int .i64 0) (.int .i64 0) (.bool false) (.int .i64 0) (.int .u64 0) (.bool false)
      have hFr := Frm.set8 (HFX.out.trans g1) (w.heap.size + 1) (.int .i64 0) (.int .i64 0) (.int .i64 0) (.int .i64 0) (.bool false) (.int .i64 0) (.int .u64 0) (.bool false) (.inr (by omega))
      obtain ⟨k0, k1, k2, k3, k4, k5, k6, k7⟩ := cells8 hR
      have HK := Lib.hid (And.intro k0 (And.intro k1 (And.intro k2 (And.intro k3 (And.intro k4 (And.intro k5 (And.intro k6 (And.intro k7 hFr))))))))
      clear hb1 g1 HFX HB0 HB1 hR hFr k0 k1 k2 k3 k4 k5 k6 k7
      go_wp2
      obtain ⟨k0, k1, k2, k3, k4, k5, k6, k7, hFr⟩ := HK.out
      exact bodyPost_ret (v := .tuple #[.agg #[.int .i64 0, .int .i64 0, .int .i64 0, .int .i64 0, .bool false, .int .i64 0, .int .u64 0, .bool false], .int .i64 2]) (by simp [results, Try.results12, go_sem, k0, k1, k2, k3, k4, k5, k6, k7]) rfl ⟨rfl, hFr⟩
#print axioms new_run
end Go.Proofs.Ytoieedlkffmcgaa
