/- The reference's programs: New, ref, Access, after (by gen_mcd.py). -/
import Derived.Test.YtoieedlkffmcgaaMcW
import Derived.Test.YtoieedlkffmcgaaMcD
import Derived.Deep.RegionHeld3
namespace Go.Proofs.Ytoieedlkffmcgaa
open Go.ChangeShapes Go.WideShapes Go.ChangeAt Go.RowKit
set_option linter.unusedVariables false

theorem cells8 {w : World} {b : Nat} {x0 x1 x2 x3 x4 x5 x6 x7 : Value} {t : TypeId} (h : w.heap[b]? = some (.cells #[x0, x1, x2, x3, x4, x5, x6, x7] t (0, 0))) :
    w.cell? ⟨b, 0, none⟩ = some x0 ∧ w.cell? ⟨b, 1, none⟩ = some x1 ∧ w.cell? ⟨b, 2, none⟩ = some x2 ∧ w.cell? ⟨b, 3, none⟩ = some x3 ∧ w.cell? ⟨b, 4, none⟩ = some x4 ∧ w.cell? ⟨b, 5, none⟩ = some x5 ∧ w.cell? ⟨b, 6, none⟩ = some x6 ∧ w.cell? ⟨b, 7, none⟩ = some x7 := by
  refine ⟨?_, ?_, ?_, ?_, ?_, ?_, ?_, ?_⟩ <;> rw [cell_of_heap h] <;> rfl
theorem rnextx (w : World) {b t k : Nat} (t64 : t ≤ 64) (fit : b + 6 * t ≤ 65536) (hk : k < 2 * t) : Calls Try.prog 49 #[.agg #[.int .i64 b, .int .i64 t], .int .i64 k] w (Ret (.int .i64 (nxW b k : Nat)) (fun w' => Frm [] w w')) := by
  refine (rnext_yes w b t k t64 fit hk).mono fun e w' hh => ?_
  have : ((b : Int) + (k : Int) * 3 + 0) = ((nxW b k : Nat) : Int) := by unfold nxW; omega
  rw [this] at hh; exact hh
theorem rwaitx (w : World) {b t k : Nat} (t64 : t ≤ 64) (fit : b + 6 * t ≤ 65536) (hk : k < 2 * t) : Calls Try.prog 50 #[.agg #[.int .i64 b, .int .i64 t], .int .i64 k] w (Ret (.int .i64 (wtW b k : Nat)) (fun w' => Frm [] w w')) := by
  refine (rwait_yes w b t k t64 fit hk).mono fun e w' hh => ?_
  have : ((b : Int) + (k : Int) * 3 + 1) = ((wtW b k : Nat) : Int) := by unfold wtW; omega
  rw [this] at hh; exact hh
theorem rref (w : World) (b t L k : Nat) (back : Bool) (s o : Int) (e : Bool) (hk : k < 1000) : Calls Try.prog 51 #[.agg #[.int .i64 b, .int .i64 t, .int .i64 L, .int .i64 k, .bool back, .int .i64 s, .int .u64 o, .bool e]] w (Ret (.int .u64 ((k : Int) + 1)) (fun w' => Frm [] w w')) := by
  have hu := u64_nat k (by omega)
  have hu1 := u64_nat1 k (by omega)
  go_enter Try.func51, Try.ntmps51
  go_wp2
  go_ret
  exact ⟨rfl, by (repeat' (first | exact Frm.refl _ _ | apply Frm.alloc | apply Frm.drew | apply Frm.drewN | assumption))⟩

set_option maxRecDepth 100000 in
set_option maxHeartbeats 1000000 in
theorem acc_end (w : World) {b t L k : Nat} {s o : Int} {back : Bool} (h4 : s ≠ 4) (t64 : t ≤ 64) (fit : b + 6 * t ≤ 65536) (hk : k < 2 * t) :
    Calls Try.prog 37 #[.agg #[.int .i64 b, .int .i64 t, .int .i64 L, .int .i64 k, .bool back, .int .i64 s, .int .u64 o, .bool true]] w (Ret (.tuple #[.agg #[.int .i64 0, .int .i64 0, .int .u64 0, .int .u64 0], .int .i64 17]) (fun w' => Frm [] w w')) := by
  have hs4 : (s == 4) = false := by simpa using h4
  clear h4
  obtain ⟨X, hX⟩ : ∃ X, X = (w.alloc (.cells #[.int .i64 b, .int .i64 t, .int .i64 L, .int .i64 k, .bool back, .int .i64 s, .int .u64 o, .bool true] 42)).alloc (.cells #[.int .i64 0, .int .i64 0, .int .u64 0, .int .u64 0] 99) := ⟨_, rfl⟩
  have hFX : Frm [] w X := by rw [hX]; exact ((Frm.refl _ _).alloc _).alloc _
  have hb0 : X.heap[w.heap.size]? = some (.cells #[.int .i64 b, .int .i64 t, .int .i64 L, .int .i64 k, .bool back, .int .i64 s, .int .u64 o, .bool true] 42 (0, 0)) := by rw [hX]; exact heap_alloc_old _ (heap_alloc_new _ _)
  have hb1 : X.heap[w.heap.size + 1]? = some (.cells #[.int .i64 0, .int .i64 0, .int .u64 0, .int .u64 0] 99 (0, 0)) := by rw [hX]; exact heap_alloc_at _ (by simp)
  obtain ⟨c0, c1, c2, c3, c4, c5, c6, c7⟩ := cells8 hb0
  have hwx : w.heap.size + 1 < X.heap.size := lt_of_heap hb1
  have HFX := Lib.hid hFX
  have HB0 := Lib.hid hb0
  have HB1 := Lib.hid hb1
  clear hFX hb0 hb1
  go_enter Try.func37, Try.ntmps37
  go_wp2_with fail
  rw [← hX]
  clear hX
  refine (rnextx X t64 fit hk).mono ?_
  rintro e w1 ⟨rfl, g1⟩
  have HG := Lib.hid g1
  have hb0 := g1.heap HB0.out (by simp)
  clear c0 c1 c2 c3 c4 c5 c6 c7
  obtain ⟨c0, c1, c2, c3, c4, c5, c6, c7⟩ := cells8 hb0
  clear hb0 g1
  go_wp2_with fail
  refine (rwaitx w1 t64 fit hk).mono ?_
  rintro e w2 ⟨rfl, g1⟩
  replace HG := Lib.hid (HG.out.trans g1)
  have hb0 := HG.out.heap HB0.out (by simp)
  have hb1 := HG.out.heap HB1.out (by simp)
  clear c0 c1 c2 c3 c4 c5 c6 c7
  obtain ⟨c0, c1, c2, c3, c4, c5, c6, c7⟩ := cells8 hb0
  obtain ⟨r0, r1, r2, r3⟩ := cells4 hb1
  obtain ⟨f0, f1, f2, f3⟩ := frozen4 hb1
  have hws := HG.out.size
  have HC0 := Lib.hid hb0
  have HC1 := Lib.hid hb1
  clear hb0 hb1 g1
  go_wp2
  have hR3 := setCells4 HC1.out (.int .i64 0) (.int .i64 0) (.int .u64 0) (.int .u64 0)
  have hF3 := (HFX.out.trans HG.out).set4 (w.heap.size + 1) 0 1 2 3 (.int .i64 0) (.int .i64 0) (.int .u64 0) (.int .u64 0) (.inr (Nat.le_succ _))
  obtain ⟨k0, k1, k2, k3⟩ := cells4 hR3
  refine bodyPost_ret (v := .tuple #[.agg #[.int .i64 0, .int .i64 0, .int .u64 0, .int .u64 0], .int .i64 17]) (by simp [results, Try.results37, go_sem, k0, k1, k2, k3]) rfl ⟨rfl, ?_⟩
  exact hF3

set_option maxRecDepth 100000 in
set_option maxHeartbeats 1000000 in
theorem acc_a1 (w : World) {b t L k : Nat} {o : Int} (t64 : t ≤ 64) (fit : b + 6 * t ≤ 65536) (hk : k < 2 * t) :
    Calls Try.prog 37 #[.agg #[.int .i64 b, .int .i64 t, .int .i64 L, .int .i64 k, .bool false, .int .i64 1, .int .u64 o, .bool false]] w (Ret (.tuple #[.agg #[.int .i64 2, .int .i64 (nxW b k : Nat), .int .u64 0, .int .u64 0], .int .i64 0]) (fun w' => Frm [] w w')) := by
  obtain ⟨X, hX⟩ : ∃ X, X = (w.alloc (.cells #[.int .i64 b, .int .i64 t, .int .i64 L, .int .i64 k, .bool false, .int .i64 1, .int .u64 o, .bool false] 42)).alloc (.cells #[.int .i64 0, .int .i64 0, .int .u64 0, .int .u64 0] 99) := ⟨_, rfl⟩
  have hFX : Frm [] w X := by rw [hX]; exact ((Frm.refl _ _).alloc _).alloc _
  have hb0 : X.heap[w.heap.size]? = some (.cells #[.int .i64 b, .int .i64 t, .int .i64 L, .int .i64 k, .bool false, .int .i64 1, .int .u64 o, .bool false] 42 (0, 0)) := by rw [hX]; exact heap_alloc_old _ (heap_alloc_new _ _)
  have hb1 : X.heap[w.heap.size + 1]? = some (.cells #[.int .i64 0, .int .i64 0, .int .u64 0, .int .u64 0] 99 (0, 0)) := by rw [hX]; exact heap_alloc_at _ (by simp)
  obtain ⟨c0, c1, c2, c3, c4, c5, c6, c7⟩ := cells8 hb0
  have hwx : w.heap.size + 1 < X.heap.size := lt_of_heap hb1
  have HFX := Lib.hid hFX
  have HB0 := Lib.hid hb0
  have HB1 := Lib.hid hb1
  clear hFX hb0 hb1
  go_enter Try.func37, Try.ntmps37
  go_wp2_with fail
  rw [← hX]
  clear hX
  refine (rnextx X t64 fit hk).mono ?_
  rintro e w1 ⟨rfl, g1⟩
  have HG := Lib.hid g1
  have hb0 := g1.heap HB0.out (by simp)
  clear c0 c1 c2 c3 c4 c5 c6 c7
  obtain ⟨c0, c1, c2, c3, c4, c5, c6, c7⟩ := cells8 hb0
  clear hb0 g1
  go_wp2_with fail
  refine (rwaitx w1 t64 fit hk).mono ?_
  rintro e w2 ⟨rfl, g1⟩
  replace HG := Lib.hid (HG.out.trans g1)
  have hb0 := HG.out.heap HB0.out (by simp)
  have hb1 := HG.out.heap HB1.out (by simp)
  clear c0 c1 c2 c3 c4 c5 c6 c7
  obtain ⟨c0, c1, c2, c3, c4, c5, c6, c7⟩ := cells8 hb0
  obtain ⟨r0, r1, r2, r3⟩ := cells4 hb1
  obtain ⟨f0, f1, f2, f3⟩ := frozen4 hb1
  have hws := HG.out.size
  have HC0 := Lib.hid hb0
  have HC1 := Lib.hid hb1
  clear hb0 hb1 g1
  go_wp2
  have hR3 := setCells4 HC1.out (.int .i64 2) (.int .i64 (nxW b k : Nat)) (.int .u64 0) (.int .u64 0)
  have hF3 := (HFX.out.trans HG.out).set4 (w.heap.size + 1) 0 1 2 3 (.int .i64 2) (.int .i64 (nxW b k : Nat)) (.int .u64 0) (.int .u64 0) (.inr (Nat.le_succ _))
  obtain ⟨k0, k1, k2, k3⟩ := cells4 hR3
  refine bodyPost_ret (v := .tuple #[.agg #[.int .i64 2, .int .i64 (nxW b k : Nat), .int .u64 0, .int .u64 0], .int .i64 0]) (by simp [results, Try.results37, go_sem, k0, k1, k2, k3]) rfl ⟨rfl, ?_⟩
  exact hF3

set_option maxRecDepth 100000 in
set_option maxHeartbeats 1000000 in
theorem acc_a2 (w : World) {b t L k : Nat} {o : Int} (t64 : t ≤ 64) (fit : b + 6 * t ≤ 65536) (hk : k < 2 * t) :
    Calls Try.prog 37 #[.agg #[.int .i64 b, .int .i64 t, .int .i64 L, .int .i64 k, .bool false, .int .i64 2, .int .u64 o, .bool false]] w (Ret (.tuple #[.agg #[.int .i64 2, .int .i64 (wtW b k : Nat), .int .u64 0, .int .u64 1], .int .i64 0]) (fun w' => Frm [] w w')) := by
  obtain ⟨X, hX⟩ : ∃ X, X = (w.alloc (.cells #[.int .i64 b, .int .i64 t, .int .i64 L, .int .i64 k, .bool false, .int .i64 2, .int .u64 o, .bool false] 42)).alloc (.cells #[.int .i64 0, .int .i64 0, .int .u64 0, .int .u64 0] 99) := ⟨_, rfl⟩
  have hFX : Frm [] w X := by rw [hX]; exact ((Frm.refl _ _).alloc _).alloc _
  have hb0 : X.heap[w.heap.size]? = some (.cells #[.int .i64 b, .int .i64 t, .int .i64 L, .int .i64 k, .bool false, .int .i64 2, .int .u64 o, .bool false] 42 (0, 0)) := by rw [hX]; exact heap_alloc_old _ (heap_alloc_new _ _)
  have hb1 : X.heap[w.heap.size + 1]? = some (.cells #[.int .i64 0, .int .i64 0, .int .u64 0, .int .u64 0] 99 (0, 0)) := by rw [hX]; exact heap_alloc_at _ (by simp)
  obtain ⟨c0, c1, c2, c3, c4, c5, c6, c7⟩ := cells8 hb0
  have hwx : w.heap.size + 1 < X.heap.size := lt_of_heap hb1
  have HFX := Lib.hid hFX
  have HB0 := Lib.hid hb0
  have HB1 := Lib.hid hb1
  clear hFX hb0 hb1
  go_enter Try.func37, Try.ntmps37
  go_wp2_with fail
  rw [← hX]
  clear hX
  refine (rnextx X t64 fit hk).mono ?_
  rintro e w1 ⟨rfl, g1⟩
  have HG := Lib.hid g1
  have hb0 := g1.heap HB0.out (by simp)
  clear c0 c1 c2 c3 c4 c5 c6 c7
  obtain ⟨c0, c1, c2, c3, c4, c5, c6, c7⟩ := cells8 hb0
  clear hb0 g1
  go_wp2_with fail
  refine (rwaitx w1 t64 fit hk).mono ?_
  rintro e w2 ⟨rfl, g1⟩
  replace HG := Lib.hid (HG.out.trans g1)
  have hb0 := HG.out.heap HB0.out (by simp)
  have hb1 := HG.out.heap HB1.out (by simp)
  clear c0 c1 c2 c3 c4 c5 c6 c7
  obtain ⟨c0, c1, c2, c3, c4, c5, c6, c7⟩ := cells8 hb0
  obtain ⟨r0, r1, r2, r3⟩ := cells4 hb1
  obtain ⟨f0, f1, f2, f3⟩ := frozen4 hb1
  have hws := HG.out.size
  have HC0 := Lib.hid hb0
  have HC1 := Lib.hid hb1
  clear hb0 hb1 g1
  go_wp2
  have hR3 := setCells4 HC1.out (.int .i64 2) (.int .i64 (wtW b k : Nat)) (.int .u64 0) (.int .u64 1)
  have hF3 := (HFX.out.trans HG.out).set4 (w.heap.size + 1) 0 1 2 3 (.int .i64 2) (.int .i64 (wtW b k : Nat)) (.int .u64 0) (.int .u64 1) (.inr (Nat.le_succ _))
  obtain ⟨k0, k1, k2, k3⟩ := cells4 hR3
  refine bodyPost_ret (v := .tuple #[.agg #[.int .i64 2, .int .i64 (wtW b k : Nat), .int .u64 0, .int .u64 1], .int .i64 0]) (by simp [results, Try.results37, go_sem, k0, k1, k2, k3]) rfl ⟨rfl, ?_⟩
  exact hF3

set_option maxRecDepth 100000 in
set_option maxHeartbeats 1000000 in
theorem acc_a5 (w : World) {b t L k : Nat} {o : Int} (t64 : t ≤ 64) (fit : b + 6 * t ≤ 65536) (hk : k < 2 * t) :
    Calls Try.prog 37 #[.agg #[.int .i64 b, .int .i64 t, .int .i64 L, .int .i64 k, .bool false, .int .i64 5, .int .u64 o, .bool false]] w (Ret (.tuple #[.agg #[.int .i64 1, .int .i64 (wtW b k : Nat), .int .u64 0, .int .u64 0], .int .i64 0]) (fun w' => Frm [] w w')) := by
  obtain ⟨X, hX⟩ : ∃ X, X = (w.alloc (.cells #[.int .i64 b, .int .i64 t, .int .i64 L, .int .i64 k, .bool false, .int .i64 5, .int .u64 o, .bool false] 42)).alloc (.cells #[.int .i64 0, .int .i64 0, .int .u64 0, .int .u64 0] 99) := ⟨_, rfl⟩
  have hFX : Frm [] w X := by rw [hX]; exact ((Frm.refl _ _).alloc _).alloc _
  have hb0 : X.heap[w.heap.size]? = some (.cells #[.int .i64 b, .int .i64 t, .int .i64 L, .int .i64 k, .bool false, .int .i64 5, .int .u64 o, .bool false] 42 (0, 0)) := by rw [hX]; exact heap_alloc_old _ (heap_alloc_new _ _)
  have hb1 : X.heap[w.heap.size + 1]? = some (.cells #[.int .i64 0, .int .i64 0, .int .u64 0, .int .u64 0] 99 (0, 0)) := by rw [hX]; exact heap_alloc_at _ (by simp)
  obtain ⟨c0, c1, c2, c3, c4, c5, c6, c7⟩ := cells8 hb0
  have hwx : w.heap.size + 1 < X.heap.size := lt_of_heap hb1
  have HFX := Lib.hid hFX
  have HB0 := Lib.hid hb0
  have HB1 := Lib.hid hb1
  clear hFX hb0 hb1
  go_enter Try.func37, Try.ntmps37
  go_wp2_with fail
  rw [← hX]
  clear hX
  refine (rnextx X t64 fit hk).mono ?_
  rintro e w1 ⟨rfl, g1⟩
  have HG := Lib.hid g1
  have hb0 := g1.heap HB0.out (by simp)
  clear c0 c1 c2 c3 c4 c5 c6 c7
  obtain ⟨c0, c1, c2, c3, c4, c5, c6, c7⟩ := cells8 hb0
  clear hb0 g1
  go_wp2_with fail
  refine (rwaitx w1 t64 fit hk).mono ?_
  rintro e w2 ⟨rfl, g1⟩
  replace HG := Lib.hid (HG.out.trans g1)
  have hb0 := HG.out.heap HB0.out (by simp)
  have hb1 := HG.out.heap HB1.out (by simp)
  clear c0 c1 c2 c3 c4 c5 c6 c7
  obtain ⟨c0, c1, c2, c3, c4, c5, c6, c7⟩ := cells8 hb0
  obtain ⟨r0, r1, r2, r3⟩ := cells4 hb1
  obtain ⟨f0, f1, f2, f3⟩ := frozen4 hb1
  have hws := HG.out.size
  have HC0 := Lib.hid hb0
  have HC1 := Lib.hid hb1
  clear hb0 hb1 g1
  go_wp2
  have hR3 := setCells4 HC1.out (.int .i64 1) (.int .i64 (wtW b k : Nat)) (.int .u64 0) (.int .u64 0)
  have hF3 := (HFX.out.trans HG.out).set4 (w.heap.size + 1) 0 1 2 3 (.int .i64 1) (.int .i64 (wtW b k : Nat)) (.int .u64 0) (.int .u64 0) (.inr (Nat.le_succ _))
  obtain ⟨k0, k1, k2, k3⟩ := cells4 hR3
  refine bodyPost_ret (v := .tuple #[.agg #[.int .i64 1, .int .i64 (wtW b k : Nat), .int .u64 0, .int .u64 0], .int .i64 0]) (by simp [results, Try.results37, go_sem, k0, k1, k2, k3]) rfl ⟨rfl, ?_⟩
  exact hF3

set_option maxRecDepth 100000 in
set_option maxHeartbeats 1000000 in
theorem acc_r1 (w : World) {b t L k : Nat} {o : Int} (t64 : t ≤ 64) (fit : b + 6 * t ≤ 65536) (hk : k < 2 * t) :
    Calls Try.prog 37 #[.agg #[.int .i64 b, .int .i64 t, .int .i64 L, .int .i64 k, .bool true, .int .i64 1, .int .u64 o, .bool false]] w (Ret (.tuple #[.agg #[.int .i64 1, .int .i64 (nxW b k : Nat), .int .u64 0, .int .u64 0], .int .i64 0]) (fun w' => Frm [] w w')) := by
  obtain ⟨X, hX⟩ : ∃ X, X = (w.alloc (.cells #[.int .i64 b, .int .i64 t, .int .i64 L, .int .i64 k, .bool true, .int .i64 1, .int .u64 o, .bool false] 42)).alloc (.cells #[.int .i64 0, .int .i64 0, .int .u64 0, .int .u64 0] 99) := ⟨_, rfl⟩
  have hFX : Frm [] w X := by rw [hX]; exact ((Frm.refl _ _).alloc _).alloc _
  have hb0 : X.heap[w.heap.size]? = some (.cells #[.int .i64 b, .int .i64 t, .int .i64 L, .int .i64 k, .bool true, .int .i64 1, .int .u64 o, .bool false] 42 (0, 0)) := by rw [hX]; exact heap_alloc_old _ (heap_alloc_new _ _)
  have hb1 : X.heap[w.heap.size + 1]? = some (.cells #[.int .i64 0, .int .i64 0, .int .u64 0, .int .u64 0] 99 (0, 0)) := by rw [hX]; exact heap_alloc_at _ (by simp)
  obtain ⟨c0, c1, c2, c3, c4, c5, c6, c7⟩ := cells8 hb0
  have hwx : w.heap.size + 1 < X.heap.size := lt_of_heap hb1
  have HFX := Lib.hid hFX
  have HB0 := Lib.hid hb0
  have HB1 := Lib.hid hb1
  clear hFX hb0 hb1
  go_enter Try.func37, Try.ntmps37
  go_wp2_with fail
  rw [← hX]
  clear hX
  refine (rnextx X t64 fit hk).mono ?_
  rintro e w1 ⟨rfl, g1⟩
  have HG := Lib.hid g1
  have hb0 := g1.heap HB0.out (by simp)
  clear c0 c1 c2 c3 c4 c5 c6 c7
  obtain ⟨c0, c1, c2, c3, c4, c5, c6, c7⟩ := cells8 hb0
  clear hb0 g1
  go_wp2_with fail
  refine (rwaitx w1 t64 fit hk).mono ?_
  rintro e w2 ⟨rfl, g1⟩
  replace HG := Lib.hid (HG.out.trans g1)
  have hb0 := HG.out.heap HB0.out (by simp)
  have hb1 := HG.out.heap HB1.out (by simp)
  clear c0 c1 c2 c3 c4 c5 c6 c7
  obtain ⟨c0, c1, c2, c3, c4, c5, c6, c7⟩ := cells8 hb0
  obtain ⟨r0, r1, r2, r3⟩ := cells4 hb1
  obtain ⟨f0, f1, f2, f3⟩ := frozen4 hb1
  have hws := HG.out.size
  have HC0 := Lib.hid hb0
  have HC1 := Lib.hid hb1
  clear hb0 hb1 g1
  go_wp2
  have hR3 := setCells4 HC1.out (.int .i64 1) (.int .i64 (nxW b k : Nat)) (.int .u64 0) (.int .u64 0)
  have hF3 := (HFX.out.trans HG.out).set4 (w.heap.size + 1) 0 1 2 3 (.int .i64 1) (.int .i64 (nxW b k : Nat)) (.int .u64 0) (.int .u64 0) (.inr (Nat.le_succ _))
  obtain ⟨k0, k1, k2, k3⟩ := cells4 hR3
  refine bodyPost_ret (v := .tuple #[.agg #[.int .i64 1, .int .i64 (nxW b k : Nat), .int .u64 0, .int .u64 0], .int .i64 0]) (by simp [results, Try.results37, go_sem, k0, k1, k2, k3]) rfl ⟨rfl, ?_⟩
  exact hF3

set_option maxRecDepth 100000 in
set_option maxHeartbeats 1000000 in
theorem acc_r3 (w : World) {b t L k : Nat} {o : Int} (t64 : t ≤ 64) (fit : b + 6 * t ≤ 65536) (hk : k < 2 * t) :
    Calls Try.prog 37 #[.agg #[.int .i64 b, .int .i64 t, .int .i64 L, .int .i64 k, .bool true, .int .i64 3, .int .u64 o, .bool false]] w (Ret (.tuple #[.agg #[.int .i64 1, .int .i64 (nxW b k : Nat), .int .u64 0, .int .u64 0], .int .i64 0]) (fun w' => Frm [] w w')) := by
  obtain ⟨X, hX⟩ : ∃ X, X = (w.alloc (.cells #[.int .i64 b, .int .i64 t, .int .i64 L, .int .i64 k, .bool true, .int .i64 3, .int .u64 o, .bool false] 42)).alloc (.cells #[.int .i64 0, .int .i64 0, .int .u64 0, .int .u64 0] 99) := ⟨_, rfl⟩
  have hFX : Frm [] w X := by rw [hX]; exact ((Frm.refl _ _).alloc _).alloc _
  have hb0 : X.heap[w.heap.size]? = some (.cells #[.int .i64 b, .int .i64 t, .int .i64 L, .int .i64 k, .bool true, .int .i64 3, .int .u64 o, .bool false] 42 (0, 0)) := by rw [hX]; exact heap_alloc_old _ (heap_alloc_new _ _)
  have hb1 : X.heap[w.heap.size + 1]? = some (.cells #[.int .i64 0, .int .i64 0, .int .u64 0, .int .u64 0] 99 (0, 0)) := by rw [hX]; exact heap_alloc_at _ (by simp)
  obtain ⟨c0, c1, c2, c3, c4, c5, c6, c7⟩ := cells8 hb0
  have hwx : w.heap.size + 1 < X.heap.size := lt_of_heap hb1
  have HFX := Lib.hid hFX
  have HB0 := Lib.hid hb0
  have HB1 := Lib.hid hb1
  clear hFX hb0 hb1
  go_enter Try.func37, Try.ntmps37
  go_wp2_with fail
  rw [← hX]
  clear hX
  refine (rnextx X t64 fit hk).mono ?_
  rintro e w1 ⟨rfl, g1⟩
  have HG := Lib.hid g1
  have hb0 := g1.heap HB0.out (by simp)
  clear c0 c1 c2 c3 c4 c5 c6 c7
  obtain ⟨c0, c1, c2, c3, c4, c5, c6, c7⟩ := cells8 hb0
  clear hb0 g1
  go_wp2_with fail
  refine (rwaitx w1 t64 fit hk).mono ?_
  rintro e w2 ⟨rfl, g1⟩
  replace HG := Lib.hid (HG.out.trans g1)
  have hb0 := HG.out.heap HB0.out (by simp)
  have hb1 := HG.out.heap HB1.out (by simp)
  clear c0 c1 c2 c3 c4 c5 c6 c7
  obtain ⟨c0, c1, c2, c3, c4, c5, c6, c7⟩ := cells8 hb0
  obtain ⟨r0, r1, r2, r3⟩ := cells4 hb1
  obtain ⟨f0, f1, f2, f3⟩ := frozen4 hb1
  have hws := HG.out.size
  have HC0 := Lib.hid hb0
  have HC1 := Lib.hid hb1
  clear hb0 hb1 g1
  go_wp2
  have hR3 := setCells4 HC1.out (.int .i64 1) (.int .i64 (nxW b k : Nat)) (.int .u64 0) (.int .u64 0)
  have hF3 := (HFX.out.trans HG.out).set4 (w.heap.size + 1) 0 1 2 3 (.int .i64 1) (.int .i64 (nxW b k : Nat)) (.int .u64 0) (.int .u64 0) (.inr (Nat.le_succ _))
  obtain ⟨k0, k1, k2, k3⟩ := cells4 hR3
  refine bodyPost_ret (v := .tuple #[.agg #[.int .i64 1, .int .i64 (nxW b k : Nat), .int .u64 0, .int .u64 0], .int .i64 0]) (by simp [results, Try.results37, go_sem, k0, k1, k2, k3]) rfl ⟨rfl, ?_⟩
  exact hF3

#print axioms acc_r3
end Go.Proofs.Ytoieedlkffmcgaa
