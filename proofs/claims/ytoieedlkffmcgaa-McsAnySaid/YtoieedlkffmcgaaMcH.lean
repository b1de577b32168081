/- The reference: after, behind the CAS (by gen_mcg.py). -/
import Derived.Test.YtoieedlkffmcgaaMcE
import Derived.Deep.RegionHeld3
namespace Go.Proofs.Ytoieedlkffmcgaa
open Go.ChangeShapes Go.WideShapes Go.ChangeAt Go.RowKit
set_option linter.unusedVariables false
set_option linter.unusedSimpArgs false

theorem setCells8 {w : World} {b : Nat} {x0 x1 x2 x3 x4 x5 x6 x7 : Value} {t : TypeId} {f : Nat × Nat} (h : w.heap[b]? = some (.cells #[x0, x1, x2, x3, x4, x5, x6, x7] t f)) (y0 y1 y2 y3 y4 y5 y6 y7 : Value) :
    ((((((((w.setCell ⟨b, 0, none⟩ y0).setCell ⟨b, 1, none⟩ y1).setCell ⟨b, 2, none⟩ y2).setCell ⟨b, 3, none⟩ y3).setCell ⟨b, 4, none⟩ y4).setCell ⟨b, 5, none⟩ y5).setCell ⟨b, 6, none⟩ y6).setCell ⟨b, 7, none⟩ y7).heap[b]? = some (.cells #[y0, y1, y2, y3, y4, y5, y6, y7] t f) := by
  have := heap_setCell_at (i := 7) y7 (heap_setCell_at (i := 6) y6 (heap_setCell_at (i := 5) y5 (heap_setCell_at (i := 4) y4 (heap_setCell_at (i := 3) y3 (heap_setCell_at (i := 2) y2 (heap_setCell_at (i := 1) y1 (heap_setCell_at (i := 0) y0 h)))))))
  simpa using this
theorem Frm.set8 {D : List Nat} {a w : World} (h : Frm D a w) (b : Nat) (y0 y1 y2 y3 y4 y5 y6 y7 : Value) (hp : b ∈ D ∨ a.heap.size ≤ b) :
    Frm D a ((((((((w.setCell ⟨b, 0, none⟩ y0).setCell ⟨b, 1, none⟩ y1).setCell ⟨b, 2, none⟩ y2).setCell ⟨b, 3, none⟩ y3).setCell ⟨b, 4, none⟩ y4).setCell ⟨b, 5, none⟩ y5).setCell ⟨b, 6, none⟩ y6).setCell ⟨b, 7, none⟩ y7) :=
  (((((((h.setCell _ y0 hp).setCell _ y1 hp).setCell _ y2 hp).setCell _ y3 hp).setCell _ y4 hp).setCell _ y5 hp).setCell _ y6 hp).setCell _ y7 hp
/-- An operation of a region that comes first. -/
theorem take_in {P : Program} {ops : Array Oper} {Q : Exit → Act → World → Prop} {md : Region.Mode} {S : World → Prop} {i d : Nat} {oi : Oper} {v : Value} {fuel : Nat} {listed : Array Bool} {a : Act} {w : World} (hi : ops[i]? = some oi) (hd : oi.dst = some d)
    (hs : Region.noSelect ops = true) (hf : Region.free md ops listed i = true) (hr : (Region.ready md ops listed).contains i = true) (hQ : ∀ c a w, Q (.panic c) (a.put oi.dst v) w → Q (.panic c) a w)
    (hw : Region.wanted oi (yielded ops a.tmps) = true) (hy : ∀ w, S w → (execOp a.eval oi).run P w = .ok (.value v) w) (hS : S w) (h : wpAnyH P md ops Q S fuel (listed.setIfInBounds i true) (a.put (some d) v) w) : wpAnyH P md ops Q S (fuel + 1) listed a w :=
  wpAnyH_take hi hs hf hr hQ (.inl ⟨hw, hy⟩) hS (by rw [hd]; exact h)

set_option maxRecDepth 100000 in
set_option maxHeartbeats 1000000 in
theorem aft_r2y (w : World) {b t L k : Nat} {o : Int} (hk : k < 1000) (ak aw aa : Int) :
    Calls Try.prog 39 #[.agg #[.int .i64 b, .int .i64 t, .int .i64 L, .int .i64 k, .bool true, .int .i64 2, .int .u64 o, .bool false], .agg #[.int .i64 ak, .int .i64 aw, .int .u64 ((k : Int) + 1), .int .u64 aa]] w (Ret (.tuple #[.agg #[.int .i64 b, .int .i64 t, .int .i64 L, .int .i64 k, .bool true, .int .i64 3, .int .u64 o, .bool true], .bool false]) (fun w' => Frm [] w w')) := by
  have hx0 : (((k : Int) + 1) == ((k : Int) + 1)) = true := by simp
  go_enter Try.func39, Try.ntmps39
  go_wp2_with fail
  obtain ⟨X, hX⟩ : ∃ X, X = ((w.alloc (.cells #[.int .i64 b, .int .i64 t, .int .i64 L, .int .i64 k, .bool true, .int .i64 2, .int .u64 o, .bool false] 42)).alloc (.cells #[.int .i64 ak, .int .i64 aw, .int .u64 ((k : Int) + 1), .int .u64 aa] 99)).alloc (.cells #[.int .i64 0, .int .i64 0, .int .i64 0, .int .i64 0, .bool false, .int .i64 0, .int .u64 0, .bool false] 42) := ⟨_, rfl⟩
  have hFX : Frm [] w X := by rw [hX]; exact (((Frm.refl _ _).alloc _).alloc _).alloc _
  have hb0 : X.heap[w.heap.size]? = some (.cells #[.int .i64 b, .int .i64 t, .int .i64 L, .int .i64 k, .bool true, .int .i64 2, .int .u64 o, .bool false] 42 (0, 0)) := by rw [hX]; exact heap_alloc_old _ (heap_alloc_old _ (heap_alloc_new _ _))
  have hb1 : X.heap[w.heap.size + 1]? = some (.cells #[.int .i64 ak, .int .i64 aw, .int .u64 ((k : Int) + 1), .int .u64 aa] 99 (0, 0)) := by rw [hX]; exact heap_alloc_old _ (heap_alloc_at _ (by simp))
  have hb2 : X.heap[w.heap.size + 1 + 1]? = some (.cells #[.int .i64 0, .int .i64 0, .int .i64 0, .int .i64 0, .bool false, .int .i64 0, .int .u64 0, .bool false] 42 (0, 0)) := by rw [hX]; exact heap_alloc_at _ (by simp)
  rw [← hX]
  clear hX
  have HFX := Lib.hid hFX
  have HB0 := Lib.hid hb0
  have HB1 := Lib.hid hb1
  have HB2 := Lib.hid hb2
  obtain ⟨c0, c1, c2, c3, c4, c5, c6, c7⟩ := cells8 hb0
  obtain ⟨a0, a1, a2, a3⟩ := cells4 hb1
  clear hFX hb0 hb1 hb2
  refine wp_region_noPanic ?_
  refine wp_region_held_drew (S := fun w' => Frm [w.heap.size] X w') (by kernel_rfl) ((Frm.refl _ _).drew) (fun hHeld => ?_)
  refine take_in (i := 0) (d := 44) (v := .pointer (some ⟨w.heap.size + 1, 2, none⟩)) rfl rfl (by kernel_rfl) (by kernel_rfl) (by kernel_rfl) (fun _ _ _ h => h) (by kernel_rfl) (fun _ _ => rfl) (by assumption) ?_
  try simp only [Act.put, List.setIfInBounds_toArray, List.set_cons_zero, List.set_cons_succ]
  refine take_in (i := 1) (d := 45) (v := .int .u64 ((k : Int) + 1)) rfl rfl (by kernel_rfl) (by kernel_rfl) (by kernel_rfl) (fun _ _ _ h => h) (by kernel_rfl) (fun w' hS => by have hS' : Frm [w.heap.size] X w' := hS; have hcc := (cells4 (hS'.heap HB1.out (by simp))).2.2.1; go_simp) (by assumption) ?_
  try simp only [Act.put, List.setIfInBounds_toArray, List.set_cons_zero, List.set_cons_succ]
  refine wpAnyH_ready (rs := [2]) (by kernel_rfl) (by simp) ?_
  refine AllReadyH.cons rfl (fun K hK => ?_) AllReadyH.nil
  go_simp
  refine hK.out _ _ (by assumption) (fun hHeld => ?_)
  clear hK K
  try change wpAnyH _ _ _ _ _ _ _ (Act.put _ (some 46) _) _
  try simp only [Act.put, List.setIfInBounds_toArray, List.set_cons_zero, List.set_cons_succ]
  refine wpAnyH_ready (rs := [3]) (by kernel_rfl) (by simp) ?_
  refine AllReadyH.cons rfl (fun K hK => ?_) AllReadyH.nil
  go_simp
  go_at_call 51
  refine (rref _ b t L k true 2 o false (by omega)).mono ?_
  rintro e x1 ⟨rfl, g1⟩
  have g0 : Frm [] X x1 := Frm.trans (by (repeat' (first | exact Frm.refl _ _ | apply Frm.drew | apply Frm.drewN))) g1
  have hb0 := g0.heap HB0.out (by simp)
  have hb2 := g0.heap HB2.out (by simp)
  clear c0 c1 c2 c3 c4 c5 c6 c7 a0 a1 a2 a3
  obtain ⟨e0, e1, e2, e3, e4, e5, e6, e7⟩ := cells8 hb0
  obtain ⟨d0, d1, d2, d3, d4, d5, d6, d7⟩ := cells8 hb2
  have f0 : ∀ i, x1.frozen? ⟨w.heap.size, i, none⟩ = false := fun i => frozen_of_heap hb0
  have f2 : ∀ i, x1.frozen? ⟨w.heap.size + 1 + 1, i, none⟩ = false := fun i => frozen_of_heap hb2
  have HG0 := Lib.hid g0
  refine hK.out _ _ (g0.nil) (fun hHeld => ?_)
  have HD2 := Lib.hid hb2
  clear hK K hb0 hb2 g0 g1
  try change wpAnyH _ _ _ _ _ _ _ (Act.put _ (some 47) _) _
  try simp only [Act.put, List.setIfInBounds_toArray, List.set_cons_zero, List.set_cons_succ]
  refine take_in (i := 4) (d := 48) (v := .bool (((k : Int) + 1) == ((k : Int) + 1))) rfl rfl (by kernel_rfl) (by kernel_rfl) (by kernel_rfl) (fun _ _ _ h => h) (by kernel_rfl) (fun _ _ => rfl) (by assumption) ?_
  try simp only [Act.put, List.setIfInBounds_toArray, List.set_cons_zero, List.set_cons_succ, hx0]
  refine take_in (i := 5) (d := 49) (v := .pointer (some ⟨w.heap.size, 7, none⟩)) rfl rfl (by kernel_rfl) (by kernel_rfl) (by kernel_rfl) (fun _ _ _ h => h) (by kernel_rfl) (fun _ _ => rfl) (by assumption) ?_
  try simp only [Act.put, List.setIfInBounds_toArray, List.set_cons_zero, List.set_cons_succ]
  refine wpAnyH_ready (rs := [6]) (by kernel_rfl) (by simp) ?_
  refine AllReadyH.cons rfl (fun K hK => ?_) AllReadyH.nil
  go_simp
  refine hK.out _ _ (by refine Frm.setCell ?_ _ _ (.inl (by simp)); assumption) (fun hHeld => ?_)
  clear hK K
  refine wpAnyH_done (by kernel_rfl) ?_ _
  refine NoPanic.normal ?_
  go_wp2
  have hR := setCells8 (heap_setCell_far ⟨w.heap.size, 5, none⟩ (.int .i64 3) (by show w.heap.size ≠ _; omega) (heap_setCell_far ⟨w.heap.size, 7, none⟩ (.bool true) (by show w.heap.size ≠ _; omega) HD2.out)) (.int .i64 b) (.int .i64 t) (.int .i64 L) (.int .i64 k) (.bool true) (.int .i64 3) (.int .u64 o) (.bool true)
  have hFr := Frm.set8 (((HFX.out.trans HG0.out).setCell ⟨w.heap.size, 7, none⟩ (.bool true) (.inr (Nat.le_refl _))).setCell ⟨w.heap.size, 5, none⟩ (.int .i64 3) (.inr (Nat.le_refl _))) (w.heap.size + 1 + 1) (.int .i64 b) (.int .i64 t) (.int .i64 L) (.int .i64 k) (.bool true) (.int .i64 3) (.int .u64 o) (.bool true) (.inr (by omega))
  obtain ⟨k0, k1, k2, k3, k4, k5, k6, k7⟩ := cells8 hR
  clear hR e0 e1 e2 e3 e4 e5 e6 e7 d0 d1 d2 d3 d4 d5 d6 d7 f0 f2
  exact bodyPost_ret (v := .tuple #[.agg #[.int .i64 b, .int .i64 t, .int .i64 L, .int .i64 k, .bool true, .int .i64 3, .int .u64 o, .bool true], .bool false]) (by simp [results, Try.results39, go_sem, k0, k1, k2, k3, k4, k5, k6, k7]) rfl ⟨rfl, hFr⟩

set_option maxRecDepth 100000 in
set_option maxHeartbeats 1000000 in
theorem aft_r2n (w : World) {b t L k : Nat} {o x : Int} (hk : k < 1000) (hx : x ≠ (k : Int) + 1) (ak aw aa : Int) :
    Calls Try.prog 39 #[.agg #[.int .i64 b, .int .i64 t, .int .i64 L, .int .i64 k, .bool true, .int .i64 2, .int .u64 o, .bool false], .agg #[.int .i64 ak, .int .i64 aw, .int .u64 x, .int .u64 aa]] w (Ret (.tuple #[.agg #[.int .i64 b, .int .i64 t, .int .i64 L, .int .i64 k, .bool true, .int .i64 3, .int .u64 o, .bool false], .bool false]) (fun w' => Frm [] w w')) := by
  have hx0 : (x == ((k : Int) + 1)) = false := by simpa using hx
  clear hx
  go_enter Try.func39, Try.ntmps39
  go_wp2_with fail
  obtain ⟨X, hX⟩ : ∃ X, X = ((w.alloc (.cells #[.int .i64 b, .int .i64 t, .int .i64 L, .int .i64 k, .bool true, .int .i64 2, .int .u64 o, .bool false] 42)).alloc (.cells #[.int .i64 ak, .int .i64 aw, .int .u64 x, .int .u64 aa] 99)).alloc (.cells #[.int .i64 0, .int .i64 0, .int .i64 0, .int .i64 0, .bool false, .int .i64 0, .int .u64 0, .bool false] 42) := ⟨_, rfl⟩
  have hFX : Frm [] w X := by rw [hX]; exact (((Frm.refl _ _).alloc _).alloc _).alloc _
  have hb0 : X.heap[w.heap.size]? = some (.cells #[.int .i64 b, .int .i64 t, .int .i64 L, .int .i64 k, .bool true, .int .i64 2, .int .u64 o, .bool false] 42 (0, 0)) := by rw [hX]; exact heap_alloc_old _ (heap_alloc_old _ (heap_alloc_new _ _))
  have hb1 : X.heap[w.heap.size + 1]? = some (.cells #[.int .i64 ak, .int .i64 aw, .int .u64 x, .int .u64 aa] 99 (0, 0)) := by rw [hX]; exact heap_alloc_old _ (heap_alloc_at _ (by simp))
  have hb2 : X.heap[w.heap.size + 1 + 1]? = some (.cells #[.int .i64 0, .int .i64 0, .int .i64 0, .int .i64 0, .bool false, .int .i64 0, .int .u64 0, .bool false] 42 (0, 0)) := by rw [hX]; exact heap_alloc_at _ (by simp)
  rw [← hX]
  clear hX
  have HFX := Lib.hid hFX
  have HB0 := Lib.hid hb0
  have HB1 := Lib.hid hb1
  have HB2 := Lib.hid hb2
  obtain ⟨c0, c1, c2, c3, c4, c5, c6, c7⟩ := cells8 hb0
  obtain ⟨a0, a1, a2, a3⟩ := cells4 hb1
  clear hFX hb0 hb1 hb2
  refine wp_region_noPanic ?_
  refine wp_region_held_drew (S := fun w' => Frm [w.heap.size] X w') (by kernel_rfl) ((Frm.refl _ _).drew) (fun hHeld => ?_)
  refine take_in (i := 0) (d := 44) (v := .pointer (some ⟨w.heap.size + 1, 2, none⟩)) rfl rfl (by kernel_rfl) (by kernel_rfl) (by kernel_rfl) (fun _ _ _ h => h) (by kernel_rfl) (fun _ _ => rfl) (by assumption) ?_
  try simp only [Act.put, List.setIfInBounds_toArray, List.set_cons_zero, List.set_cons_succ]
  refine take_in (i := 1) (d := 45) (v := .int .u64 x) rfl rfl (by kernel_rfl) (by kernel_rfl) (by kernel_rfl) (fun _ _ _ h => h) (by kernel_rfl) (fun w' hS => by have hS' : Frm [w.heap.size] X w' := hS; have hcc := (cells4 (hS'.heap HB1.out (by simp))).2.2.1; go_simp) (by assumption) ?_
  try simp only [Act.put, List.setIfInBounds_toArray, List.set_cons_zero, List.set_cons_succ]
  refine wpAnyH_ready (rs := [2]) (by kernel_rfl) (by simp) ?_
  refine AllReadyH.cons rfl (fun K hK => ?_) AllReadyH.nil
  go_simp
  refine hK.out _ _ (by assumption) (fun hHeld => ?_)
  clear hK K
  try change wpAnyH _ _ _ _ _ _ _ (Act.put _ (some 46) _) _
  try simp only [Act.put, List.setIfInBounds_toArray, List.set_cons_zero, List.set_cons_succ]
  refine wpAnyH_ready (rs := [3]) (by kernel_rfl) (by simp) ?_
  refine AllReadyH.cons rfl (fun K hK => ?_) AllReadyH.nil
  go_simp
  go_at_call 51
  refine (rref _ b t L k true 2 o false (by omega)).mono ?_
  rintro e x1 ⟨rfl, g1⟩
  have g0 : Frm [] X x1 := Frm.trans (by (repeat' (first | exact Frm.refl _ _ | apply Frm.drew | apply Frm.drewN))) g1
  have hb0 := g0.heap HB0.out (by simp)
  have hb2 := g0.heap HB2.out (by simp)
  clear c0 c1 c2 c3 c4 c5 c6 c7 a0 a1 a2 a3
  obtain ⟨e0, e1, e2, e3, e4, e5, e6, e7⟩ := cells8 hb0
  obtain ⟨d0, d1, d2, d3, d4, d5, d6, d7⟩ := cells8 hb2
  have f0 : ∀ i, x1.frozen? ⟨w.heap.size, i, none⟩ = false := fun i => frozen_of_heap hb0
  have f2 : ∀ i, x1.frozen? ⟨w.heap.size + 1 + 1, i, none⟩ = false := fun i => frozen_of_heap hb2
  have HG0 := Lib.hid g0
  refine hK.out _ _ (g0.nil) (fun hHeld => ?_)
  have HD2 := Lib.hid hb2
  clear hK K hb0 hb2 g0 g1
  try change wpAnyH _ _ _ _ _ _ _ (Act.put _ (some 47) _) _
  try simp only [Act.put, List.setIfInBounds_toArray, List.set_cons_zero, List.set_cons_succ]
  refine take_in (i := 4) (d := 48) (v := .bool (x == ((k : Int) + 1))) rfl rfl (by kernel_rfl) (by kernel_rfl) (by kernel_rfl) (fun _ _ _ h => h) (by kernel_rfl) (fun _ _ => rfl) (by assumption) ?_
  try simp only [Act.put, List.setIfInBounds_toArray, List.set_cons_zero, List.set_cons_succ, hx0]
  refine take_in (i := 5) (d := 49) (v := .pointer (some ⟨w.heap.size, 7, none⟩)) rfl rfl (by kernel_rfl) (by kernel_rfl) (by kernel_rfl) (fun _ _ _ h => h) (by kernel_rfl) (fun _ _ => rfl) (by assumption) ?_
  try simp only [Act.put, List.setIfInBounds_toArray, List.set_cons_zero, List.set_cons_succ]
  refine wpAnyH_ready (rs := [6]) (by kernel_rfl) (by simp) ?_
  refine AllReadyH.cons rfl (fun K hK => ?_) AllReadyH.nil
  go_simp
  refine hK.out _ _ (by refine Frm.setCell ?_ _ _ (.inl (by simp)); assumption) (fun hHeld => ?_)
  clear hK K
  refine wpAnyH_done (by kernel_rfl) ?_ _
  refine NoPanic.normal ?_
  go_wp2
  have hR := setCells8 (heap_setCell_far ⟨w.heap.size, 5, none⟩ (.int .i64 3) (by show w.heap.size ≠ _; omega) (heap_setCell_far ⟨w.heap.size, 7, none⟩ (.bool false) (by show w.heap.size ≠ _; omega) HD2.out)) (.int .i64 b) (.int .i64 t) (.int .i64 L) (.int .i64 k) (.bool true) (.int .i64 3) (.int .u64 o) (.bool false)
  have hFr := Frm.set8 (((HFX.out.trans HG0.out).setCell ⟨w.heap.size, 7, none⟩ (.bool false) (.inr (Nat.le_refl _))).setCell ⟨w.heap.size, 5, none⟩ (.int .i64 3) (.inr (Nat.le_refl _))) (w.heap.size + 1 + 1) (.int .i64 b) (.int .i64 t) (.int .i64 L) (.int .i64 k) (.bool true) (.int .i64 3) (.int .u64 o) (.bool false) (.inr (by omega))
  obtain ⟨k0, k1, k2, k3, k4, k5, k6, k7⟩ := cells8 hR
  clear hR e0 e1 e2 e3 e4 e5 e6 e7 d0 d1 d2 d3 d4 d5 d6 d7 f0 f2
  exact bodyPost_ret (v := .tuple #[.agg #[.int .i64 b, .int .i64 t, .int .i64 L, .int .i64 k, .bool true, .int .i64 3, .int .u64 o, .bool false], .bool false]) (by simp [results, Try.results39, go_sem, k0, k1, k2, k3, k4, k5, k6, k7]) rfl ⟨rfl, hFr⟩

end Go.Proofs.Ytoieedlkffmcgaa
