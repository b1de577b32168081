/- The reference: Next (by gen_mcj.py). -/
import Derived.Test.YtoieedlkffmcgaaMcF
import Derived.Test.YtoieedlkffmcgaaMcG
import Derived.Test.YtoieedlkffmcgaaMcH
namespace Go.Proofs.Ytoieedlkffmcgaa
open Go.ChangeShapes Go.WideShapes Go.ChangeAt Go.RowKit
set_option linter.unusedVariables false
set_option linter.unusedSimpArgs false

section
variable {w : World} {b t L k : Nat} {back e : Bool} {s o : Int} {ws : List Int} {g oo c : Nat}

set_option maxRecDepth 100000 in
set_option maxHeartbeats 400000 in
/-- A step of which the access is none. -/
theorem next_err1 {n : Nat} {er : Int} (HA : Hid (∀ w, Calls Try.prog 37 #[.agg #[.int .i64 b, .int .i64 t, .int .i64 L, .int .i64 k, .bool back, .int .i64 s, .int .u64 o, .bool e]] w (Ret (.tuple #[.agg #[.int .i64 0, .int .i64 0, .int .u64 0, .int .u64 0], .int .i64 er]) (fun w' => Frm [] w w')))) (her : er ≠ 0) :
    Calls Try.prog 28 #[.agg #[.int .i64 b, .int .i64 t, .int .i64 L, .int .i64 k, .bool back, .int .i64 s, .int .u64 o, .bool e], .slice (some ⟨g, oo, none⟩) n c] w (Ret (.tuple #[.agg #[.int .i64 b, .int .i64 t, .int .i64 L, .int .i64 k, .bool back, .int .i64 s, .int .u64 o, .bool e], .slice (some ⟨g, oo, none⟩) n c, .bool false, .int .i64 er]) (fun w' => Frm [] w w')) := by
  have hz : (er != 0) = true := by simpa using her
  clear her
  obtain ⟨X, hX⟩ : ∃ X, X = (w.alloc (.cells #[.int .i64 b, .int .i64 t, .int .i64 L, .int .i64 k, .bool back, .int .i64 s, .int .u64 o, .bool e] 42)).alloc (.cells #[.int .i64 0, .int .i64 0, .int .i64 0, .int .i64 0, .bool false, .int .i64 0, .int .u64 0, .bool false] 42) := ⟨_, rfl⟩
  have hFX : Frm [] w X := by rw [hX]; exact ((Frm.refl _ _).alloc _).alloc _
  have hb0 : X.heap[w.heap.size]? = some (.cells #[.int .i64 b, .int .i64 t, .int .i64 L, .int .i64 k, .bool back, .int .i64 s, .int .u64 o, .bool e] 42 (0, 0)) := by rw [hX]; exact heap_alloc_old _ (heap_alloc_new _ _)
  have hb1 : X.heap[w.heap.size + 1]? = some (.cells #[.int .i64 0, .int .i64 0, .int .i64 0, .int .i64 0, .bool false, .int .i64 0, .int .u64 0, .bool false] 42 (0, 0)) := by rw [hX]; exact heap_alloc_at _ (by simp)
  obtain ⟨c0, c1, c2, c3, c4, c5, c6, c7⟩ := cells8 hb0
  have HFX := Lib.hid hFX
  have HB0 := Lib.hid hb0
  have HB1 := Lib.hid hb1
  clear hFX hb0 hb1
  go_enter Try.func28, Try.ntmps28
  go_wp2_with fail
  rw [← hX]
  clear hX
  refine (HA.out _).mono ?_
  rintro e w1 ⟨rfl, g1⟩
  have HG := Lib.hid g1
  have hb0 := g1.heap HB0.out (by simp)
  have hb1 := g1.heap HB1.out (by simp)
  clear c0 c1 c2 c3 c4 c5 c6 c7 g1
  obtain ⟨c0, c1, c2, c3, c4, c5, c6, c7⟩ := cells8 hb0
  have l0w1 := lt_of_heap hb0
  have l1w1 := lt_of_heap hb1
  obtain ⟨d0, d1, d2, d3, d4, d5, d6, d7⟩ := cells8 hb1
  have f2 : ∀ i, w1.frozen? ⟨w.heap.size + 1, i, none⟩ = false := fun i => frozen_of_heap hb1
  have HD := Lib.hid hb1
  clear hb0 hb1
  go_wp2
  have hR := heap_alloc_old (.cells #[.int .i64 0, .int .i64 0, .int .u64 0, .int .u64 0] 99) (setCells8 (b := w.heap.size + 1) HD.out (.int .i64 b) (.int .i64 t) (.int .i64 L) (.int .i64 k) (.bool back) (.int .i64 s) (.int .u64 o) (.bool e))
  have hFr := (Frm.set8 (HFX.out.trans HG.out) (w.heap.size + 1) (.int .i64 b) (.int .i64 t) (.int .i64 L) (.int .i64 k) (.bool back) (.int .i64 s) (.int .u64 o) (.bool e) (.inr (Nat.le_succ _))).alloc (.cells #[.int .i64 0, .int .i64 0, .int .u64 0, .int .u64 0] 99)
  obtain ⟨k0, k1, k2, k3, k4, k5, k6, k7⟩ := cells8 hR
  exact bodyPost_ret (v := .tuple #[.agg #[.int .i64 b, .int .i64 t, .int .i64 L, .int .i64 k, .bool back, .int .i64 s, .int .u64 o, .bool e], .slice (some ⟨g, oo, none⟩) n c, .bool false, .int .i64 er]) (by simp [results, Try.results28, go_sem, k0, k1, k2, k3, k4, k5, k6, k7]) rfl ⟨rfl, hFr⟩

set_option maxRecDepth 100000 in
set_option maxHeartbeats 400000 in
/-- A step of which the word is out of range. -/
theorem next_err2 {n : Nat} {ak ab aa : Int} {aw : Nat} (hn : Hid (ws.length = n)) (h0 : 0 < n) (HRD : Hid (Rd w (.slice (some ⟨g, oo, none⟩) n c) (u64s ws))) (hle : n ≤ 65536) (HA : Hid (∀ w, Calls Try.prog 37 #[.agg #[.int .i64 b, .int .i64 t, .int .i64 L, .int .i64 k, .bool back, .int .i64 s, .int .u64 o, .bool e]] w (Ret (.tuple #[.agg #[.int .i64 ak, .int .i64 (aw : Nat), .int .u64 ab, .int .u64 aa], .int .i64 0]) (fun w' => Frm [] w w')))) (he : mErr n ak aw = 3) :
    Calls Try.prog 28 #[.agg #[.int .i64 b, .int .i64 t, .int .i64 L, .int .i64 k, .bool back, .int .i64 s, .int .u64 o, .bool e], .slice (some ⟨g, oo, none⟩) n c] w (Ret (.tuple #[.agg #[.int .i64 b, .int .i64 t, .int .i64 L, .int .i64 k, .bool back, .int .i64 s, .int .u64 o, .bool e], .slice (some ⟨g, oo, none⟩) n c, .bool false, .int .i64 3]) (fun w' => Frm [] w w')) := by
  have HE := Lib.hid he
  have hr0 : mRes ws ⟨ak, aw, ab, aa⟩ = ⟨0, 0, 0, 0⟩ := by simp [mRes, hn.out, he]
  have HR0 := Lib.hid hr0
  clear he hr0
  obtain ⟨X, hX⟩ : ∃ X, X = (w.alloc (.cells #[.int .i64 b, .int .i64 t, .int .i64 L, .int .i64 k, .bool back, .int .i64 s, .int .u64 o, .bool e] 42)).alloc (.cells #[.int .i64 0, .int .i64 0, .int .i64 0, .int .i64 0, .bool false, .int .i64 0, .int .u64 0, .bool false] 42) := ⟨_, rfl⟩
  have hFX : Frm [] w X := by rw [hX]; exact ((Frm.refl _ _).alloc _).alloc _
  have hb0 : X.heap[w.heap.size]? = some (.cells #[.int .i64 b, .int .i64 t, .int .i64 L, .int .i64 k, .bool back, .int .i64 s, .int .u64 o, .bool e] 42 (0, 0)) := by rw [hX]; exact heap_alloc_old _ (heap_alloc_new _ _)
  have hb1 : X.heap[w.heap.size + 1]? = some (.cells #[.int .i64 0, .int .i64 0, .int .i64 0, .int .i64 0, .bool false, .int .i64 0, .int .u64 0, .bool false] 42 (0, 0)) := by rw [hX]; exact heap_alloc_at _ (by simp)
  obtain ⟨c0, c1, c2, c3, c4, c5, c6, c7⟩ := cells8 hb0
  have HFX := Lib.hid hFX
  have HB0 := Lib.hid hb0
  have HB1 := Lib.hid hb1
  clear hFX hb0 hb1
  go_enter Try.func28, Try.ntmps28
  go_wp2_with fail
  rw [← hX]
  clear hX
  refine (HA.out _).mono ?_
  rintro e w1 ⟨rfl, g1⟩
  have HG := Lib.hid g1
  have hb0 := g1.heap HB0.out (by simp)
  have hb1 := g1.heap HB1.out (by simp)
  clear c0 c1 c2 c3 c4 c5 c6 c7 g1
  obtain ⟨c0, c1, c2, c3, c4, c5, c6, c7⟩ := cells8 hb0
  have l0w1 := lt_of_heap hb0
  have l1w1 := lt_of_heap hb1
  obtain ⟨d0, d1, d2, d3, d4, d5, d6, d7⟩ := cells8 hb1
  have f2 : ∀ i, w1.frozen? ⟨w.heap.size + 1, i, none⟩ = false := fun i => frozen_of_heap hb1
  have HD := Lib.hid hb1
  have HC := Lib.hid hb0
  clear hb0 hb1
  go_wp2_with fail
  refine (refdo_n hn.out h0 (HRD.out.frm (((HFX.out.trans HG.out).alloc _)) (by simp)) hle ⟨ak, aw, ab, aa⟩).mono ?_
  rintro e w2 ⟨g', o', c', rfl, g2, hrd2, hv⟩
  have hF2 : Frm [] w w2 := ((HFX.out.trans HG.out).alloc _).trans g2
  have hb0 := g2.heap (heap_alloc_old (.cells #[.int .i64 ak, .int .i64 (aw : Nat), .int .u64 ab, .int .u64 aa] 99) HC.out) (by simp)
  have hb1 := g2.heap (heap_alloc_old (.cells #[.int .i64 ak, .int .i64 (aw : Nat), .int .u64 ab, .int .u64 aa] 99) HD.out) (by simp)
  have HG2 := Lib.hid hF2
  have HR2 := Lib.hid hrd2
  have hgg : g' = g ∨ w.heap.size ≤ g' := by
    rcases hv with h | h
    · exact .inl h
    · have := (((HFX.out.trans HG.out).alloc (.cells #[.int .i64 ak, .int .i64 (aw : Nat), .int .u64 ab, .int .u64 aa] 99)).size); omega
  have hgn : g' ≠ w.heap.size + 1 := by
    rcases hv with h | h
    · have := HRD.out.cells.1; omega
    · have := lt_of_heap HD.out; simp at h; omega
  clear c0 c1 c2 c3 c4 c5 c6 c7 d0 d1 d2 d3 d4 d5 d6 d7 f2 g2 hrd2 hv hF2
  rw [HR0.out, HE.out]
  obtain ⟨c0, c1, c2, c3, c4, c5, c6, c7⟩ := cells8 hb0
  have l0w2 := lt_of_heap hb0
  have l1w2 := lt_of_heap hb1
  obtain ⟨d0, d1, d2, d3, d4, d5, d6, d7⟩ := cells8 hb1
  have f2 : ∀ i, w2.frozen? ⟨w.heap.size + 1, i, none⟩ = false := fun i => frozen_of_heap hb1
  have HD := Lib.hid hb1
  clear hb0 hb1
  go_wp2
  have hR := heap_alloc_old (.cells #[.int .i64 0, .int .i64 0, .int .u64 0, .int .u64 0] 99) (setCells8 (b := w.heap.size + 1) HD.out (.int .i64 b) (.int .i64 t) (.int .i64 L) (.int .i64 k) (.bool back) (.int .i64 s) (.int .u64 o) (.bool e))
  have hFr := (Frm.set8 (HG2.out) (w.heap.size + 1) (.int .i64 b) (.int .i64 t) (.int .i64 L) (.int .i64 k) (.bool back) (.int .i64 s) (.int .u64 o) (.bool e) (.inr (Nat.le_succ _))).alloc (.cells #[.int .i64 0, .int .i64 0, .int .u64 0, .int .u64 0] 99)
  obtain ⟨k0, k1, k2, k3, k4, k5, k6, k7⟩ := cells8 hR
  exact bodyPost_ret (v := .tuple #[.agg #[.int .i64 b, .int .i64 t, .int .i64 L, .int .i64 k, .bool back, .int .i64 s, .int .u64 o, .bool e], .slice (some ⟨g, oo, none⟩) n c, .bool false, .int .i64 3]) (by simp [results, Try.results28, go_sem, k0, k1, k2, k3, k4, k5, k6, k7]) rfl ⟨rfl, hFr⟩

set_option maxRecDepth 100000 in
set_option maxHeartbeats 400000 in
/-- A step of which the access is made. -/
theorem next_ok {n : Nat} {ak ab aa x y : Int} {aw : Nat} {ws' : List Int} {e' wait : Bool} {s' oq : Int} (hn : Hid (ws.length = n)) (h0 : 0 < n) (HRD : Hid (Rd w (.slice (some ⟨g, oo, none⟩) n c) (u64s ws))) (hle : n ≤ 65536) (HA : Hid (∀ w, Calls Try.prog 37 #[.agg #[.int .i64 b, .int .i64 t, .int .i64 L, .int .i64 k, .bool back, .int .i64 s, .int .u64 o, .bool e]] w (Ret (.tuple #[.agg #[.int .i64 ak, .int .i64 (aw : Nat), .int .u64 ab, .int .u64 aa], .int .i64 0]) (fun w' => Frm [] w w')))) (he : mErr n ak aw = 0) (hr0 : mRes ws ⟨ak, aw, ab, aa⟩ = ⟨ak, aw, x, y⟩) (hw0 : mWs ws ⟨ak, aw, ab, aa⟩ = ws')
    (HB : Hid (∀ w, Calls Try.prog 39 #[.agg #[.int .i64 b, .int .i64 t, .int .i64 L, .int .i64 k, .bool back, .int .i64 s, .int .u64 o, .bool e], .agg #[.int .i64 ak, .int .i64 (aw : Nat), .int .u64 x, .int .u64 y]] w (Ret (.tuple #[.agg #[.int .i64 b, .int .i64 t, .int .i64 L, .int .i64 k, .bool back, .int .i64 s', .int .u64 oq, .bool e'], .bool wait]) (fun w' => Frm [] w w')))) :
    Calls Try.prog 28 #[.agg #[.int .i64 b, .int .i64 t, .int .i64 L, .int .i64 k, .bool back, .int .i64 s, .int .u64 o, .bool e], .slice (some ⟨g, oo, none⟩) n c] w (fun e w' => ∃ g' o' c', Ret (.tuple #[.agg #[.int .i64 b, .int .i64 t, .int .i64 L, .int .i64 k, .bool back, .int .i64 s', .int .u64 oq, .bool e'], .slice (some ⟨g', o', none⟩) n c', .bool wait, .int .i64 0]) (fun w' => Frm [] w w' ∧ Rd w' (.slice (some ⟨g', o', none⟩) n c') (u64s ws') ∧ (g' = g ∨ w.heap.size ≤ g')) e w') := by
  have HE := Lib.hid he
  have HR0 := Lib.hid hr0
  have HW0 := Lib.hid hw0
  clear he hr0 hw0
  obtain ⟨X, hX⟩ : ∃ X, X = (w.alloc (.cells #[.int .i64 b, .int .i64 t, .int .i64 L, .int .i64 k, .bool back, .int .i64 s, .int .u64 o, .bool e] 42)).alloc (.cells #[.int .i64 0, .int .i64 0, .int .i64 0, .int .i64 0, .bool false, .int .i64 0, .int .u64 0, .bool false] 42) := ⟨_, rfl⟩
  have hFX : Frm [] w X := by rw [hX]; exact ((Frm.refl _ _).alloc _).alloc _
  have hb0 : X.heap[w.heap.size]? = some (.cells #[.int .i64 b, .int .i64 t, .int .i64 L, .int .i64 k, .bool back, .int .i64 s, .int .u64 o, .bool e] 42 (0, 0)) := by rw [hX]; exact heap_alloc_old _ (heap_alloc_new _ _)
  have hb1 : X.heap[w.heap.size + 1]? = some (.cells #[.int .i64 0, .int .i64 0, .int .i64 0, .int .i64 0, .bool false, .int .i64 0, .int .u64 0, .bool false] 42 (0, 0)) := by rw [hX]; exact heap_alloc_at _ (by simp)
  obtain ⟨c0, c1, c2, c3, c4, c5, c6, c7⟩ := cells8 hb0
  have HFX := Lib.hid hFX
  have HB0 := Lib.hid hb0
  have HB1 := Lib.hid hb1
  clear hFX hb0 hb1
  go_enter Try.func28, Try.ntmps28
  go_wp2_with fail
  rw [← hX]
  clear hX
  refine (HA.out _).mono ?_
  rintro e w1 ⟨rfl, g1⟩
  have HG := Lib.hid g1
  have hb0 := g1.heap HB0.out (by simp)
  have hb1 := g1.heap HB1.out (by simp)
  clear c0 c1 c2 c3 c4 c5 c6 c7 g1
  obtain ⟨c0, c1, c2, c3, c4, c5, c6, c7⟩ := cells8 hb0
  have l0w1 := lt_of_heap hb0
  have l1w1 := lt_of_heap hb1
  obtain ⟨d0, d1, d2, d3, d4, d5, d6, d7⟩ := cells8 hb1
  have f2 : ∀ i, w1.frozen? ⟨w.heap.size + 1, i, none⟩ = false := fun i => frozen_of_heap hb1
  have HD := Lib.hid hb1
  have HC := Lib.hid hb0
  clear hb0 hb1
  go_wp2_with fail
  refine (refdo_n hn.out h0 (HRD.out.frm (((HFX.out.trans HG.out).alloc _)) (by simp)) hle ⟨ak, aw, ab, aa⟩).mono ?_
  rintro e w2 ⟨g', o', c', rfl, g2, hrd2, hv⟩
  have hF2 : Frm [] w w2 := ((HFX.out.trans HG.out).alloc _).trans g2
  have hb0 := g2.heap (heap_alloc_old (.cells #[.int .i64 ak, .int .i64 (aw : Nat), .int .u64 ab, .int .u64 aa] 99) HC.out) (by simp)
  have hb1 := g2.heap (heap_alloc_old (.cells #[.int .i64 ak, .int .i64 (aw : Nat), .int .u64 ab, .int .u64 aa] 99) HD.out) (by simp)
  have HG2 := Lib.hid hF2
  have HR2 := Lib.hid hrd2
  have hgg : g' = g ∨ w.heap.size ≤ g' := by
    rcases hv with h | h
    · exact .inl h
    · have := (((HFX.out.trans HG.out).alloc (.cells #[.int .i64 ak, .int .i64 (aw : Nat), .int .u64 ab, .int .u64 aa] 99)).size); omega
  have hgn : g' ≠ w.heap.size + 1 := by
    rcases hv with h | h
    · have := HRD.out.cells.1; omega
    · have := lt_of_heap HD.out; simp at h; omega
  clear c0 c1 c2 c3 c4 c5 c6 c7 d0 d1 d2 d3 d4 d5 d6 d7 f2 g2 hrd2 hv hF2
  rw [HR0.out, HE.out]
  rw [HW0.out] at HR2
  obtain ⟨c0, c1, c2, c3, c4, c5, c6, c7⟩ := cells8 hb0
  have l0w2 := lt_of_heap hb0
  have l1w2 := lt_of_heap hb1
  obtain ⟨d0, d1, d2, d3, d4, d5, d6, d7⟩ := cells8 hb1
  have f2 : ∀ i, w2.frozen? ⟨w.heap.size + 1, i, none⟩ = false := fun i => frozen_of_heap hb1
  have HD := Lib.hid hb1
  have HC := Lib.hid hb0
  clear hb0 hb1
  go_wp2_with fail
  refine (HB.out _).mono ?_
  rintro e w3 ⟨rfl, g3⟩
  have hb1 := g3.heap (heap_alloc_old (.cells #[.int .i64 ak, .int .i64 (aw : Nat), .int .u64 x, .int .u64 y] 99) HD.out) (by simp)
  have hF3 : Frm [] w w3 := (HG2.out.alloc _).trans g3
  have hR3 := HR2.out.frm (((Frm.refl [] w2).alloc (.cells #[.int .i64 ak, .int .i64 (aw : Nat), .int .u64 x, .int .u64 y] 99)).trans g3) (by simp)
  have HG3 := Lib.hid hF3
  have HR3 := Lib.hid hR3
  have hg3 := hR3.cells.1
  have hn3 := hF3.size
  clear c0 c1 c2 c3 c4 c5 c6 c7 d0 d1 d2 d3 d4 d5 d6 d7 f2 g3 hF3 hR3
  have l1w3 := lt_of_heap hb1
  obtain ⟨d0, d1, d2, d3, d4, d5, d6, d7⟩ := cells8 hb1
  have f2 : ∀ i, w3.frozen? ⟨w.heap.size + 1, i, none⟩ = false := fun i => frozen_of_heap hb1
  have HD := Lib.hid hb1
  clear hb1
  go_wp2
  have hRR := HR3.out.frm ((Frm.set8 (Frm.refl [w.heap.size + 1] w3) (w.heap.size + 1) (.int .i64 b) (.int .i64 t) (.int .i64 L) (.int .i64 k) (.bool back) (.int .i64 s') (.int .u64 oq) (.bool e') (.inl (by simp))).alloc (.cells #[.int .i64 b, .int .i64 t, .int .i64 L, .int .i64 k, .bool back, .int .i64 s', .int .u64 oq, .bool e'] 42)) (by
    intro z hz; simp [Value.ownBlock] at hz; subst hz; simp; exact hgn)
  have hR := heap_alloc_old (.cells #[.int .i64 b, .int .i64 t, .int .i64 L, .int .i64 k, .bool back, .int .i64 s', .int .u64 oq, .bool e'] 42) (setCells8 (b := w.heap.size + 1) HD.out (.int .i64 b) (.int .i64 t) (.int .i64 L) (.int .i64 k) (.bool back) (.int .i64 s') (.int .u64 oq) (.bool e'))
  have hFr := (Frm.set8 (HG3.out) (w.heap.size + 1) (.int .i64 b) (.int .i64 t) (.int .i64 L) (.int .i64 k) (.bool back) (.int .i64 s') (.int .u64 oq) (.bool e') (.inr (Nat.le_succ _))).alloc (.cells #[.int .i64 b, .int .i64 t, .int .i64 L, .int .i64 k, .bool back, .int .i64 s', .int .u64 oq, .bool e'] 42)
  obtain ⟨k0, k1, k2, k3, k4, k5, k6, k7⟩ := cells8 hR
  exact bodyPost_ret (v := .tuple #[.agg #[.int .i64 b, .int .i64 t, .int .i64 L, .int .i64 k, .bool back, .int .i64 s', .int .u64 oq, .bool e'], .slice (some ⟨g', o', none⟩) n c', .bool wait, .int .i64 0]) (by simp [results, Try.results28, go_sem, k0, k1, k2, k3, k4, k5, k6, k7]) rfl ⟨g', o', c', rfl, hFr, hRR, hgg⟩

end
end Go.Proofs.Ytoieedlkffmcgaa
