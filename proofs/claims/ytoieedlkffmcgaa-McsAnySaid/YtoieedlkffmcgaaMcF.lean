/- The reference's Access: a bad reference, and the states with a region that draws its order (by gen_mcd.py). -/
import Derived.Test.YtoieedlkffmcgaaMcE
namespace Go.Proofs.Ytoieedlkffmcgaa
open Go.ChangeShapes Go.WideShapes Go.ChangeAt Go.RowKit
set_option linter.unusedVariables false

theorem wrap_met (x : Nat) (h : x < 1000) : IntKind.i64.wrap (x : Int) = (x : Int) := IntWalk.i64_in _ (by omega)
theorem wrap_two (t : Nat) (h : t ≤ 64) : IntKind.u64.wrap ((t : Int) * 2) = (t : Int) * 2 ∧ IntKind.u64.wrap (2 * (t : Int)) = 2 * (t : Int) := by
  constructor <;> rw [IntKind.wrap_u64] <;> omega

set_option maxRecDepth 100000 in
set_option maxHeartbeats 1000000 in
theorem acc_bad (w : World) {b t L k : Nat} {o : Int} {back : Bool} (h4 : 2 * (t : Int) < o) (t64 : t ≤ 64) (fit : b + 6 * t ≤ 65536) (hk : k < 2 * t) :
    Calls Try.prog 37 #[.agg #[.int .i64 b, .int .i64 t, .int .i64 L, .int .i64 k, .bool back, .int .i64 4, .int .u64 o, .bool false]] w (Ret (.tuple #[.agg #[.int .i64 0, .int .i64 0, .int .u64 0, .int .u64 0], .int .i64 12]) (fun w' => Frm [] w w')) := by
  obtain ⟨y1, y2⟩ := wrap_two t t64
  have y3 : decide (2 * (t : Int) < o) = true := by simpa using h4
  have y4 : decide ((t : Int) * 2 < o) = true := by simp; omega
  clear h4
  obtain ⟨X, hX⟩ : ∃ X, X = (w.alloc (.cells #[.int .i64 b, .int .i64 t, .int .i64 L, .int .i64 k, .bool back, .int .i64 4, .int .u64 o, .bool false] 42)).alloc (.cells #[.int .i64 0, .int .i64 0, .int .u64 0, .int .u64 0] 99) := ⟨_, rfl⟩
  have hFX : Frm [] w X := by rw [hX]; exact ((Frm.refl _ _).alloc _).alloc _
  have hb0 : X.heap[w.heap.size]? = some (.cells #[.int .i64 b, .int .i64 t, .int .i64 L, .int .i64 k, .bool back, .int .i64 4, .int .u64 o, .bool false] 42 (0, 0)) := by rw [hX]; exact heap_alloc_old _ (heap_alloc_new _ _)
  have hb1 : X.heap[w.heap.size + 1]? = some (.cells #[.int .i64 0, .int .i64 0, .int .u64 0, .int .u64 0] 99 (0, 0)) := by rw [hX]; exact heap_alloc_at _ (by simp)
  obtain ⟨c0, c1, c2, c3, c4, c5, c6, c7⟩ := cells8 hb0
  have hwx : w.heap.size + 1 < X.heap.size := lt_of_heap hb1
  have HFX := Lib.hid hFX
  have HB0 := Lib.hid hb0
  have HB1 := Lib.hid hb1
  clear hFX hb0 hb1
  go_enter Try.func37, Try.ntmps37
  go_wp2_with fail
  rw [← hX]
  clear hX
  refine (rnextx X t64 fit hk).mono ?_
  rintro e w1 ⟨rfl, g1⟩
  have HG := Lib.hid g1
  have hb0 := g1.heap HB0.out (by simp)
  clear c0 c1 c2 c3 c4 c5 c6 c7
  obtain ⟨c0, c1, c2, c3, c4, c5, c6, c7⟩ := cells8 hb0
  clear hb0 g1
  go_wp2_with fail
  refine (rwaitx w1 t64 fit hk).mono ?_
  rintro e w2 ⟨rfl, g1⟩
  replace HG := Lib.hid (HG.out.trans g1)
  have hb0 := HG.out.heap HB0.out (by simp)
  have hb1 := HG.out.heap HB1.out (by simp)
  clear c0 c1 c2 c3 c4 c5 c6 c7
  obtain ⟨c0, c1, c2, c3, c4, c5, c6, c7⟩ := cells8 hb0
  obtain ⟨r0, r1, r2, r3⟩ := cells4 hb1
  obtain ⟨f0, f1, f2, f3⟩ := frozen4 hb1
  have hws := HG.out.size
  have HC0 := Lib.hid hb0
  have HC1 := Lib.hid hb1
  clear hb0 hb1 g1
  go_wp2
  have hR3 := setCells4 HC1.out (.int .i64 0) (.int .i64 0) (.int .u64 0) (.int .u64 0)
  have hF3 := (HFX.out.trans HG.out).set4 (w.heap.size + 1) 0 1 2 3 (.int .i64 0) (.int .i64 0) (.int .u64 0) (.int .u64 0) (.inr (Nat.le_succ _))
  obtain ⟨k0, k1, k2, k3⟩ := cells4 hR3
  refine bodyPost_ret (v := .tuple #[.agg #[.int .i64 0, .int .i64 0, .int .u64 0, .int .u64 0], .int .i64 12]) (by simp [results, Try.results37, go_sem, k0, k1, k2, k3]) rfl ⟨rfl, ?_⟩
  exact hF3

set_option maxRecDepth 100000 in
set_option maxHeartbeats 1000000 in
theorem acc_r2 (w : World) {b t L k : Nat} {o : Int} (t64 : t ≤ 64) (fit : b + 6 * t ≤ 65536) (hk : k < 2 * t) :
    Calls Try.prog 37 #[.agg #[.int .i64 b, .int .i64 t, .int .i64 L, .int .i64 k, .bool true, .int .i64 2, .int .u64 o, .bool false]] w (Ret (.tuple #[.agg #[.int .i64 3, .int .i64 L, .int .u64 ((k : Int) + 1), .int .u64 0], .int .i64 0]) (fun w' => Frm [] w w')) := by
  obtain ⟨X, hX⟩ : ∃ X, X = (w.alloc (.cells #[.int .i64 b, .int .i64 t, .int .i64 L, .int .i64 k, .bool true, .int .i64 2, .int .u64 o, .bool false] 42)).alloc (.cells #[.int .i64 0, .int .i64 0, .int .u64 0, .int .u64 0] 99) := ⟨_, rfl⟩
  have hFX : Frm [] w X := by rw [hX]; exact ((Frm.refl _ _).alloc _).alloc _
  have hb0 : X.heap[w.heap.size]? = some (.cells #[.int .i64 b, .int .i64 t, .int .i64 L, .int .i64 k, .bool true, .int .i64 2, .int .u64 o, .bool false] 42 (0, 0)) := by rw [hX]; exact heap_alloc_old _ (heap_alloc_new _ _)
  have hb1 : X.heap[w.heap.size + 1]? = some (.cells #[.int .i64 0, .int .i64 0, .int .u64 0, .int .u64 0] 99 (0, 0)) := by rw [hX]; exact heap_alloc_at _ (by simp)
  obtain ⟨c0, c1, c2, c3, c4, c5, c6, c7⟩ := cells8 hb0
  have hwx : w.heap.size + 1 < X.heap.size := lt_of_heap hb1
  have HFX := Lib.hid hFX
  have HB0 := Lib.hid hb0
  have HB1 := Lib.hid hb1
  clear hFX hb0 hb1
  go_enter Try.func37, Try.ntmps37
  go_wp2_with fail
  rw [← hX]
  clear hX
  refine (rnextx X t64 fit hk).mono ?_
  rintro e w1 ⟨rfl, g1⟩
  have HG := Lib.hid g1
  have hb0 := g1.heap HB0.out (by simp)
  clear c0 c1 c2 c3 c4 c5 c6 c7
  obtain ⟨c0, c1, c2, c3, c4, c5, c6, c7⟩ := cells8 hb0
  clear hb0 g1
  go_wp2_with fail
  refine (rwaitx w1 t64 fit hk).mono ?_
  rintro e w2 ⟨rfl, g1⟩
  replace HG := Lib.hid (HG.out.trans g1)
  have hb0 := HG.out.heap HB0.out (by simp)
  have hb1 := HG.out.heap HB1.out (by simp)
  clear c0 c1 c2 c3 c4 c5 c6 c7
  obtain ⟨c0, c1, c2, c3, c4, c5, c6, c7⟩ := cells8 hb0
  obtain ⟨r0, r1, r2, r3⟩ := cells4 hb1
  obtain ⟨f0, f1, f2, f3⟩ := frozen4 hb1
  have hws := HG.out.size
  have HC0 := Lib.hid hb0
  have HC1 := Lib.hid hb1
  clear hb0 hb1 g1
  go_wp2_with fail
  have hKL : ∀ w', Frm [w.heap.size + 1] w2 w' → w'.heap[w.heap.size]? = _ := fun w' hf => hf.heap HC0.out (by simp)
  have hq0 := fun w' hf => (cells8 (hKL w' hf)).1
  have hq1 := fun w' hf => (cells8 (hKL w' hf)).2.1
  have hq2 := fun w' hf => (cells8 (hKL w' hf)).2.2.1
  have hq3 := fun w' hf => (cells8 (hKL w' hf)).2.2.2.1
  have hq4 := fun w' hf => (cells8 (hKL w' hf)).2.2.2.2.1
  have hq5 := fun w' hf => (cells8 (hKL w' hf)).2.2.2.2.2.1
  have hq6 := fun w' hf => (cells8 (hKL w' hf)).2.2.2.2.2.2.1
  have hq7 := fun w' hf => (cells8 (hKL w' hf)).2.2.2.2.2.2.2
  clear hKL c0 c1 c2 c3 c4 c5 c6 c7
  go_region_held3 (fun w' => Frm [w.heap.size + 1] w2 w') (repeat' (first | assumption | exact Frm.refl _ _ | apply Frm.drew | apply Frm.drewN | (refine Frm.set4 ?_ _ _ _ _ _ _ _ _ _ (.inl (by simp))))) (first
    | (go_at_call 51; (with_reducible refine (rref _ b t L k true 2 o false (by omega)).mono ?_); rintro e x1 ⟨rfl, g1⟩; have g0 : Frm [] w2 x1 := Frm.trans (by (repeat' (first | exact Frm.refl _ _ | apply Frm.drew | apply Frm.drewN))) g1; have g2 : Frm [w.heap.size + 1] w2 x1 := g0.nil; have hb1 := g0.heap HC1.out (by simp); obtain ⟨r0, r1, r2, r3⟩ := cells4 hb1; obtain ⟨f0, f1, f2, f3⟩ := frozen4 hb1; have HD1 := Lib.hid hb1; have HG0 := Lib.hid g0; clear hb1 g0 g1))
  all_goals
    have hR3 := setCells4 HD1.out (.int .i64 3) (.int .i64 L) (.int .u64 ((k : Int) + 1)) (.int .u64 0)
    have hF3 := ((HFX.out.trans HG.out).trans HG0.out).set4 (w.heap.size + 1) 0 1 2 3 (.int .i64 3) (.int .i64 L) (.int .u64 ((k : Int) + 1)) (.int .u64 0) (.inr (Nat.le_succ _))
    obtain ⟨k0, k1, k2, k3⟩ := cells4 hR3
    clear hq0 hq1 hq2 hq3 hq4 hq5 hq6 hq7 r0 r1 r2 r3 f0 f1 f2 f3 g2
    go_wp2
    refine bodyPost_ret (v := .tuple #[.agg #[.int .i64 3, .int .i64 L, .int .u64 ((k : Int) + 1), .int .u64 0], .int .i64 0]) (by simp [results, Try.results37, go_sem, k0, k1, k2, k3]) rfl ⟨rfl, ?_⟩
    exact hF3

set_option maxRecDepth 100000 in
set_option maxHeartbeats 1000000 in
theorem acc_a3 (w : World) {b t L k : Nat} {o : Int} (t64 : t ≤ 64) (fit : b + 6 * t ≤ 65536) (hk : k < 2 * t) :
    Calls Try.prog 37 #[.agg #[.int .i64 b, .int .i64 t, .int .i64 L, .int .i64 k, .bool false, .int .i64 3, .int .u64 o, .bool false]] w (Ret (.tuple #[.agg #[.int .i64 4, .int .i64 L, .int .u64 0, .int .u64 ((k : Int) + 1)], .int .i64 0]) (fun w' => Frm [] w w')) := by
  obtain ⟨X, hX⟩ : ∃ X, X = (w.alloc (.cells #[.int .i64 b, .int .i64 t, .int .i64 L, .int .i64 k, .bool false, .int .i64 3, .int .u64 o, .bool false] 42)).alloc (.cells #[.int .i64 0, .int .i64 0, .int .u64 0, .int .u64 0] 99) := ⟨_, rfl⟩
  have hFX : Frm [] w X := by rw [hX]; exact ((Frm.refl _ _).alloc _).alloc _
  have hb0 : X.heap[w.heap.size]? = some (.cells #[.int .i64 b, .int .i64 t, .int .i64 L, .int .i64 k, .bool false, .int .i64 3, .int .u64 o, .bool false] 42 (0, 0)) := by rw [hX]; exact heap_alloc_old _ (heap_alloc_new _ _)
  have hb1 : X.heap[w.heap.size + 1]? = some (.cells #[.int .i64 0, .int .i64 0, .int .u64 0, .int .u64 0] 99 (0, 0)) := by rw [hX]; exact heap_alloc_at _ (by simp)
  obtain ⟨c0, c1, c2, c3, c4, c5, c6, c7⟩ := cells8 hb0
  have hwx : w.heap.size + 1 < X.heap.size := lt_of_heap hb1
  have HFX := Lib.hid hFX
  have HB0 := Lib.hid hb0
  have HB1 := Lib.hid hb1
  clear hFX hb0 hb1
  go_enter Try.func37, Try.ntmps37
  go_wp2_with fail
  rw [← hX]
  clear hX
  refine (rnextx X t64 fit hk).mono ?_
  rintro e w1 ⟨rfl, g1⟩
  have HG := Lib.hid g1
  have hb0 := g1.heap HB0.out (by simp)
  clear c0 c1 c2 c3 c4 c5 c6 c7
  obtain ⟨c0, c1, c2, c3, c4, c5, c6, c7⟩ := cells8 hb0
  clear hb0 g1
  go_wp2_with fail
  refine (rwaitx w1 t64 fit hk).mono ?_
  rintro e w2 ⟨rfl, g1⟩
  replace HG := Lib.hid (HG.out.trans g1)
  have hb0 := HG.out.heap HB0.out (by simp)
  have hb1 := HG.out.heap HB1.out (by simp)
  clear c0 c1 c2 c3 c4 c5 c6 c7
  obtain ⟨c0, c1, c2, c3, c4, c5, c6, c7⟩ := cells8 hb0
  obtain ⟨r0, r1, r2, r3⟩ := cells4 hb1
  obtain ⟨f0, f1, f2, f3⟩ := frozen4 hb1
  have hws := HG.out.size
  have HC0 := Lib.hid hb0
  have HC1 := Lib.hid hb1
  clear hb0 hb1 g1
  go_wp2_with fail
  have hKL : ∀ w', Frm [w.heap.size + 1] w2 w' → w'.heap[w.heap.size]? = _ := fun w' hf => hf.heap HC0.out (by simp)
  have hq0 := fun w' hf => (cells8 (hKL w' hf)).1
  have hq1 := fun w' hf => (cells8 (hKL w' hf)).2.1
  have hq2 := fun w' hf => (cells8 (hKL w' hf)).2.2.1
  have hq3 := fun w' hf => (cells8 (hKL w' hf)).2.2.2.1
  have hq4 := fun w' hf => (cells8 (hKL w' hf)).2.2.2.2.1
  have hq5 := fun w' hf => (cells8 (hKL w' hf)).2.2.2.2.2.1
  have hq6 := fun w' hf => (cells8 (hKL w' hf)).2.2.2.2.2.2.1
  have hq7 := fun w' hf => (cells8 (hKL w' hf)).2.2.2.2.2.2.2
  clear hKL c0 c1 c2 c3 c4 c5 c6 c7
  go_region_held3 (fun w' => Frm [w.heap.size + 1] w2 w') (repeat' (first | assumption | exact Frm.refl _ _ | apply Frm.drew | apply Frm.drewN | (refine Frm.set4 ?_ _ _ _ _ _ _ _ _ _ (.inl (by simp))))) (first
    | (go_at_call 51; (with_reducible refine (rref _ b t L k false 3 o false (by omega)).mono ?_); rintro e x1 ⟨rfl, g1⟩; have g0 : Frm [] w2 x1 := Frm.trans (by (repeat' (first | exact Frm.refl _ _ | apply Frm.drew | apply Frm.drewN))) g1; have g2 : Frm [w.heap.size + 1] w2 x1 := g0.nil; have hb1 := g0.heap HC1.out (by simp); obtain ⟨r0, r1, r2, r3⟩ := cells4 hb1; obtain ⟨f0, f1, f2, f3⟩ := frozen4 hb1; have HD1 := Lib.hid hb1; have HG0 := Lib.hid g0; clear hb1 g0 g1))
  all_goals
    have hR3 := setCells4 HD1.out (.int .i64 4) (.int .i64 L) (.int .u64 0) (.int .u64 ((k : Int) + 1))
    have hF3 := ((HFX.out.trans HG.out).trans HG0.out).set4 (w.heap.size + 1) 0 1 2 3 (.int .i64 4) (.int .i64 L) (.int .u64 0) (.int .u64 ((k : Int) + 1)) (.inr (Nat.le_succ _))
    obtain ⟨k0, k1, k2, k3⟩ := cells4 hR3
    clear hq0 hq1 hq2 hq3 hq4 hq5 hq6 hq7 r0 r1 r2 r3 f0 f1 f2 f3 g2
    go_wp2
    refine bodyPost_ret (v := .tuple #[.agg #[.int .i64 4, .int .i64 L, .int .u64 0, .int .u64 ((k : Int) + 1)], .int .i64 0]) (by simp [results, Try.results37, go_sem, k0, k1, k2, k3]) rfl ⟨rfl, ?_⟩
    exact hF3

theorem rnextxx (w : World) {b t x : Nat} (t64 : t ≤ 64) (fit : b + 6 * t ≤ 65536) (h1 : 1 ≤ x) (h2 : x ≤ 2 * t) : Calls Try.prog 49 #[.agg #[.int .i64 b, .int .i64 t], .int .i64 ((x : Int) - 1)] w (Ret (.int .i64 (nxW b (x - 1) : Nat)) (fun w' => Frm [] w w')) := by
  have e : ((x : Int) - 1) = ((x - 1 : Nat) : Int) := by omega
  rw [e]; exact rnextx w t64 fit (by omega)
theorem rwaitxx (w : World) {b t x : Nat} (t64 : t ≤ 64) (fit : b + 6 * t ≤ 65536) (h1 : 1 ≤ x) (h2 : x ≤ 2 * t) : Calls Try.prog 50 #[.agg #[.int .i64 b, .int .i64 t], .int .i64 ((x : Int) - 1)] w (Ret (.int .i64 (wtW b (x - 1) : Nat)) (fun w' => Frm [] w w')) := by
  have e : ((x : Int) - 1) = ((x - 1 : Nat) : Int) := by omega
  rw [e]; exact rwaitx w t64 fit (by omega)

set_option maxRecDepth 100000 in
set_option maxHeartbeats 1000000 in
theorem acc_a4 (w : World) {b t L k : Nat} {x : Nat} (h1 : 1 ≤ x) (h2 : x ≤ 2 * t) (t64 : t ≤ 64) (fit : b + 6 * t ≤ 65536) (hk : k < 2 * t) :
    Calls Try.prog 37 #[.agg #[.int .i64 b, .int .i64 t, .int .i64 L, .int .i64 k, .bool false, .int .i64 4, .int .u64 x, .bool false]] w (Ret (.tuple #[.agg #[.int .i64 2, .int .i64 (nxW b (x - 1) : Nat), .int .u64 0, .int .u64 ((k : Int) + 1)], .int .i64 0]) (fun w' => Frm [] w w')) := by
  obtain ⟨y1, y2⟩ := wrap_two t t64
  have y3 : decide (2 * (t : Int) < (x : Int)) = false := decide_eq_false (by omega)
  have y4 : decide ((t : Int) * 2 < (x : Int)) = false := decide_eq_false (by omega)
  have y5 : decide (2 * t < x) = false := decide_eq_false (by omega)
  have y6 : decide (t * 2 < x) = false := decide_eq_false (by omega)
  have y7 : ((x : Int) == 0) = false := by simp; omega
  have y8 := wrap_met x (by omega)
  have y9 : IntKind.i64.wrap ((x : Int) - 1) = (x : Int) - 1 := IntWalk.i64_in _ (by omega)
  obtain ⟨X, hX⟩ : ∃ X, X = (w.alloc (.cells #[.int .i64 b, .int .i64 t, .int .i64 L, .int .i64 k, .bool false, .int .i64 4, .int .u64 x, .bool false] 42)).alloc (.cells #[.int .i64 0, .int .i64 0, .int .u64 0, .int .u64 0] 99) := ⟨_, rfl⟩
  have hFX : Frm [] w X := by rw [hX]; exact ((Frm.refl _ _).alloc _).alloc _
  have hb0 : X.heap[w.heap.size]? = some (.cells #[.int .i64 b, .int .i64 t, .int .i64 L, .int .i64 k, .bool false, .int .i64 4, .int .u64 x, .bool false] 42 (0, 0)) := by rw [hX]; exact heap_alloc_old _ (heap_alloc_new _ _)
  have hb1 : X.heap[w.heap.size + 1]? = some (.cells #[.int .i64 0, .int .i64 0, .int .u64 0, .int .u64 0] 99 (0, 0)) := by rw [hX]; exact heap_alloc_at _ (by simp)
  obtain ⟨c0, c1, c2, c3, c4, c5, c6, c7⟩ := cells8 hb0
  have hwx : w.heap.size + 1 < X.heap.size := lt_of_heap hb1
  have HFX := Lib.hid hFX
  have HB0 := Lib.hid hb0
  have HB1 := Lib.hid hb1
  clear hFX hb0 hb1
  go_enter Try.func37, Try.ntmps37
  go_wp2_with fail
  rw [← hX]
  clear hX
  refine (rnextx X t64 fit hk).mono ?_
  rintro e w1 ⟨rfl, g1⟩
  have HG := Lib.hid g1
  have hb0 := g1.heap HB0.out (by simp)
  clear c0 c1 c2 c3 c4 c5 c6 c7
  obtain ⟨c0, c1, c2, c3, c4, c5, c6, c7⟩ := cells8 hb0
  clear hb0 g1
  go_wp2_with fail
  refine (rwaitx w1 t64 fit hk).mono ?_
  rintro e w2 ⟨rfl, g1⟩
  replace HG := Lib.hid (HG.out.trans g1)
  have hb0 := HG.out.heap HB0.out (by simp)
  have hb1 := HG.out.heap HB1.out (by simp)
  clear c0 c1 c2 c3 c4 c5 c6 c7
  obtain ⟨c0, c1, c2, c3, c4, c5, c6, c7⟩ := cells8 hb0
  obtain ⟨r0, r1, r2, r3⟩ := cells4 hb1
  obtain ⟨f0, f1, f2, f3⟩ := frozen4 hb1
  have hws := HG.out.size
  have HC0 := Lib.hid hb0
  have HC1 := Lib.hid hb1
  clear hb0 hb1 g1
  go_wp2_with fail
  have hKL : ∀ w', Frm [w.heap.size + 1] w2 w' → w'.heap[w.heap.size]? = _ := fun w' hf => hf.heap HC0.out (by simp)
  have hq0 := fun w' hf => (cells8 (hKL w' hf)).1
  have hq1 := fun w' hf => (cells8 (hKL w' hf)).2.1
  have hq2 := fun w' hf => (cells8 (hKL w' hf)).2.2.1
  have hq3 := fun w' hf => (cells8 (hKL w' hf)).2.2.2.1
  have hq4 := fun w' hf => (cells8 (hKL w' hf)).2.2.2.2.1
  have hq5 := fun w' hf => (cells8 (hKL w' hf)).2.2.2.2.2.1
  have hq6 := fun w' hf => (cells8 (hKL w' hf)).2.2.2.2.2.2.1
  have hq7 := fun w' hf => (cells8 (hKL w' hf)).2.2.2.2.2.2.2
  clear hKL c0 c1 c2 c3 c4 c5 c6 c7
  go_region_held3 (fun w' => Frm [w.heap.size + 1] w2 w') (repeat' (first | assumption | exact Frm.refl _ _ | apply Frm.drew | apply Frm.drewN | (refine Frm.set4 ?_ _ _ _ _ _ _ _ _ _ (.inl (by simp))))) (first
    | (go_at_call 49; (with_reducible refine (rnextxx _ t64 fit h1 h2).mono ?_); rintro e x0 ⟨rfl, g1⟩; have gN : Frm [] w2 x0 := Frm.trans (by (repeat' (first | assumption | exact Frm.refl _ _ | apply Frm.drew | apply Frm.drewN))) g1; have gM : Frm [w.heap.size + 1] w2 x0 := gN.nil; clear g1)
    | (go_at_call 51; (with_reducible refine (rref _ b t L k false 4 x false (by omega)).mono ?_); rintro e x1 ⟨rfl, g1⟩; have g0 : Frm [] w2 x1 := Frm.trans (by (repeat' (first | assumption | exact Frm.refl _ _ | apply Frm.drew | apply Frm.drewN))) g1; have g2 : Frm [w.heap.size + 1] w2 x1 := g0.nil; have hb1 := g0.heap HC1.out (by simp); obtain ⟨r0, r1, r2, r3⟩ := cells4 hb1; obtain ⟨f0, f1, f2, f3⟩ := frozen4 hb1; have HD1 := Lib.hid hb1; have HG0 := Lib.hid g0; clear hb1 g0 g1))
  all_goals
    have hR3 := setCells4 HD1.out (.int .i64 2) (.int .i64 (nxW b (x - 1) : Nat)) (.int .u64 0) (.int .u64 ((k : Int) + 1))
    have hF3 := ((HFX.out.trans HG.out).trans HG0.out).set4 (w.heap.size + 1) 0 1 2 3 (.int .i64 2) (.int .i64 (nxW b (x - 1) : Nat)) (.int .u64 0) (.int .u64 ((k : Int) + 1)) (.inr (Nat.le_succ _))
    obtain ⟨k0, k1, k2, k3⟩ := cells4 hR3
    clear hq0 hq1 hq2 hq3 hq4 hq5 hq6 hq7 r0 r1 r2 r3 f0 f1 f2 f3 g2
    go_wp2
    refine bodyPost_ret (v := .tuple #[.agg #[.int .i64 2, .int .i64 (nxW b (x - 1) : Nat), .int .u64 0, .int .u64 ((k : Int) + 1)], .int .i64 0]) (by simp [results, Try.results37, go_sem, k0, k1, k2, k3]) rfl ⟨rfl, ?_⟩
    exact hF3

set_option maxRecDepth 100000 in
set_option maxHeartbeats 1000000 in
theorem acc_r4 (w : World) {b t L k : Nat} {x : Nat} (h1 : 1 ≤ x) (h2 : x ≤ 2 * t) (t64 : t ≤ 64) (fit : b + 6 * t ≤ 65536) (hk : k < 2 * t) :
    Calls Try.prog 37 #[.agg #[.int .i64 b, .int .i64 t, .int .i64 L, .int .i64 k, .bool true, .int .i64 4, .int .u64 x, .bool false]] w (Ret (.tuple #[.agg #[.int .i64 2, .int .i64 (wtW b (x - 1) : Nat), .int .u64 0, .int .u64 0], .int .i64 0]) (fun w' => Frm [] w w')) := by
  obtain ⟨y1, y2⟩ := wrap_two t t64
  have y3 : decide (2 * (t : Int) < (x : Int)) = false := decide_eq_false (by omega)
  have y4 : decide ((t : Int) * 2 < (x : Int)) = false := decide_eq_false (by omega)
  have y5 : decide (2 * t < x) = false := decide_eq_false (by omega)
  have y6 : decide (t * 2 < x) = false := decide_eq_false (by omega)
  have y7 : ((x : Int) == 0) = false := by simp; omega
  have y8 := wrap_met x (by omega)
  have y9 : IntKind.i64.wrap ((x : Int) - 1) = (x : Int) - 1 := IntWalk.i64_in _ (by omega)
  obtain ⟨X, hX⟩ : ∃ X, X = (w.alloc (.cells #[.int .i64 b, .int .i64 t, .int .i64 L, .int .i64 k, .bool true, .int .i64 4, .int .u64 x, .bool false] 42)).alloc (.cells #[.int .i64 0, .int .i64 0, .int .u64 0, .int .u64 0] 99) := ⟨_, rfl⟩
  have hFX : Frm [] w X := by rw [hX]; exact ((Frm.refl _ _).alloc _).alloc _
  have hb0 : X.heap[w.heap.size]? = some (.cells #[.int .i64 b, .int .i64 t, .int .i64 L, .int .i64 k, .bool true, .int .i64 4, .int .u64 x, .bool false] 42 (0, 0)) := by rw [hX]; exact heap_alloc_old _ (heap_alloc_new _ _)
  have hb1 : X.heap[w.heap.size + 1]? = some (.cells #[.int .i64 0, .int .i64 0, .int .u64 0, .int .u64 0] 99 (0, 0)) := by rw [hX]; exact heap_alloc_at _ (by simp)
  obtain ⟨c0, c1, c2, c3, c4, c5, c6, c7⟩ := cells8 hb0
  have hwx : w.heap.size + 1 < X.heap.size := lt_of_heap hb1
  have HFX := Lib.hid hFX
  have HB0 := Lib.hid hb0
  have HB1 := Lib.hid hb1
  clear hFX hb0 hb1
  go_enter Try.func37, Try.ntmps37
  go_wp2_with fail
  rw [← hX]
  clear hX
  refine (rnextx X t64 fit hk).mono ?_
  rintro e w1 ⟨rfl, g1⟩
  have HG := Lib.hid g1
  have hb0 := g1.heap HB0.out (by simp)
  clear c0 c1 c2 c3 c4 c5 c6 c7
  obtain ⟨c0, c1, c2, c3, c4, c5, c6, c7⟩ := cells8 hb0
  clear hb0 g1
  go_wp2_with fail
  refine (rwaitx w1 t64 fit hk).mono ?_
  rintro e w2 ⟨rfl, g1⟩
  replace HG := Lib.hid (HG.out.trans g1)
  have hb0 := HG.out.heap HB0.out (by simp)
  have hb1 := HG.out.heap HB1.out (by simp)
  clear c0 c1 c2 c3 c4 c5 c6 c7
  obtain ⟨c0, c1, c2, c3, c4, c5, c6, c7⟩ := cells8 hb0
  obtain ⟨r0, r1, r2, r3⟩ := cells4 hb1
  obtain ⟨f0, f1, f2, f3⟩ := frozen4 hb1
  have hws := HG.out.size
  have HC0 := Lib.hid hb0
  have HC1 := Lib.hid hb1
  clear hb0 hb1 g1
  go_wp2_with fail
  refine (rwaitxx _ t64 fit h1 h2).mono ?_
  rintro e x1 ⟨rfl, g0⟩
  have hb1 := g0.heap HC1.out (by simp)
  clear r0 r1 r2 r3 f0 f1 f2 f3 c0 c1 c2 c3 c4 c5 c6 c7
  obtain ⟨r0, r1, r2, r3⟩ := cells4 hb1
  obtain ⟨f0, f1, f2, f3⟩ := frozen4 hb1
  have HD1 := Lib.hid hb1
  have HG0 := Lib.hid g0
  clear hb1 g0
  go_wp2
  have hR3 := setCells4 HD1.out (.int .i64 2) (.int .i64 (wtW b (x - 1) : Nat)) (.int .u64 0) (.int .u64 0)
  have hF3 := ((HFX.out.trans HG.out).trans HG0.out).set4 (w.heap.size + 1) 0 1 2 3 (.int .i64 2) (.int .i64 (wtW b (x - 1) : Nat)) (.int .u64 0) (.int .u64 0) (.inr (Nat.le_succ _))
  obtain ⟨k0, k1, k2, k3⟩ := cells4 hR3
  refine bodyPost_ret (v := .tuple #[.agg #[.int .i64 2, .int .i64 (wtW b (x - 1) : Nat), .int .u64 0, .int .u64 0], .int .i64 0]) (by simp [results, Try.results37, go_sem, k0, k1, k2, k3]) rfl ⟨rfl, ?_⟩
  exact hF3

end Go.Proofs.Ytoieedlkffmcgaa
