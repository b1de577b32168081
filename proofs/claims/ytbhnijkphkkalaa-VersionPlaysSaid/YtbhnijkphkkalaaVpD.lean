/- The reference's Next: one that has ended; errors; waiting. (By gen_vpd.py.) -/
import Derived.Test.YtbhnijkphkkalaaVpC
import Derived.Deep.DeepCutAuto
namespace Go.Proofs.Ytbhnijkphkkalaa
open Go.ChangeShapes Go.WideShapes Go.ChangeAt Go.RowKit
set_option linter.unusedVariables false

theorem setCells11 {w : World} {b : Nat} {x0 x1 x2 x3 x4 x5 x6 x7 x8 x9 x10 : Value} {t : TypeId} {f : Nat × Nat} (h : w.heap[b]? = some (.cells #[x0, x1, x2, x3, x4, x5, x6, x7, x8, x9, x10] t f)) (y0 y1 y2 y3 y4 y5 y6 y7 y8 y9 y10 : Value) :
    (((((((((((w.setCell ⟨b, 0, none⟩ y0).setCell ⟨b, 1, none⟩ y1).setCell ⟨b, 2, none⟩ y2).setCell ⟨b, 3, none⟩ y3).setCell ⟨b, 4, none⟩ y4).setCell ⟨b, 5, none⟩ y5).setCell ⟨b, 6, none⟩ y6).setCell ⟨b, 7, none⟩ y7).setCell ⟨b, 8, none⟩ y8).setCell ⟨b, 9, none⟩ y9).setCell ⟨b, 10, none⟩ y10).heap[b]? = some (.cells #[y0, y1, y2, y3, y4, y5, y6, y7, y8, y9, y10] t f) := by
  have := heap_setCell_at (i := 10) y10 (heap_setCell_at (i := 9) y9 (heap_setCell_at (i := 8) y8 (heap_setCell_at (i := 7) y7 (heap_setCell_at (i := 6) y6 (heap_setCell_at (i := 5) y5 (heap_setCell_at (i := 4) y4 (heap_setCell_at (i := 3) y3 (heap_setCell_at (i := 2) y2 (heap_setCell_at (i := 1) y1 (heap_setCell_at (i := 0) y0 (h)))))))))))
  simpa using this
theorem Frm.set11 {D : List Nat} {a b : World} (h : Frm D a b) (p : Nat) (v0 v1 v2 v3 v4 v5 v6 v7 v8 v9 v10 : Value) (hp : p ∈ D ∨ a.heap.size ≤ p) :
    Frm D a (((((((((((b.setCell ⟨p, 0, none⟩ v0).setCell ⟨p, 1, none⟩ v1).setCell ⟨p, 2, none⟩ v2).setCell ⟨p, 3, none⟩ v3).setCell ⟨p, 4, none⟩ v4).setCell ⟨p, 5, none⟩ v5).setCell ⟨p, 6, none⟩ v6).setCell ⟨p, 7, none⟩ v7).setCell ⟨p, 8, none⟩ v8).setCell ⟨p, 9, none⟩ v9).setCell ⟨p, 10, none⟩ v10) := (((((((((((h.setCell ⟨p, 0, none⟩ v0 hp).setCell ⟨p, 1, none⟩ v1 hp).setCell ⟨p, 2, none⟩ v2 hp).setCell ⟨p, 3, none⟩ v3 hp).setCell ⟨p, 4, none⟩ v4 hp).setCell ⟨p, 5, none⟩ v5 hp).setCell ⟨p, 6, none⟩ v6 hp).setCell ⟨p, 7, none⟩ v7 hp).setCell ⟨p, 8, none⟩ v8 hp).setCell ⟨p, 9, none⟩ v9 hp).setCell ⟨p, 10, none⟩ v10 hp)
theorem heap_set11_far {w : World} {k : Nat} {o : Obj} (p : Nat) (v0 v1 v2 v3 v4 v5 v6 v7 v8 v9 v10 : Value) (hp : p ≠ k) (h : w.heap[k]? = some o) :
    (((((((((((w.setCell ⟨p, 0, none⟩ v0).setCell ⟨p, 1, none⟩ v1).setCell ⟨p, 2, none⟩ v2).setCell ⟨p, 3, none⟩ v3).setCell ⟨p, 4, none⟩ v4).setCell ⟨p, 5, none⟩ v5).setCell ⟨p, 6, none⟩ v6).setCell ⟨p, 7, none⟩ v7).setCell ⟨p, 8, none⟩ v8).setCell ⟨p, 9, none⟩ v9).setCell ⟨p, 10, none⟩ v10).heap[k]? = some o := (heap_setCell_far _ _ hp (heap_setCell_far _ _ hp (heap_setCell_far _ _ hp (heap_setCell_far _ _ hp (heap_setCell_far _ _ hp (heap_setCell_far _ _ hp (heap_setCell_far _ _ hp (heap_setCell_far _ _ hp (heap_setCell_far _ _ hp (heap_setCell_far _ _ hp (heap_setCell_far _ _ hp h)))))))))))
theorem cells11 {w : World} {b : Nat} {x0 x1 x2 x3 x4 x5 x6 x7 x8 x9 x10 : Value} {t : TypeId} (h : w.heap[b]? = some (.cells #[x0, x1, x2, x3, x4, x5, x6, x7, x8, x9, x10] t (0, 0))) :
    w.cell? ⟨b, 0, none⟩ = some x0 ∧ w.cell? ⟨b, 1, none⟩ = some x1 ∧ w.cell? ⟨b, 2, none⟩ = some x2 ∧ w.cell? ⟨b, 3, none⟩ = some x3 ∧ w.cell? ⟨b, 4, none⟩ = some x4 ∧ w.cell? ⟨b, 5, none⟩ = some x5 ∧ w.cell? ⟨b, 6, none⟩ = some x6 ∧ w.cell? ⟨b, 7, none⟩ = some x7 ∧ w.cell? ⟨b, 8, none⟩ = some x8 ∧ w.cell? ⟨b, 9, none⟩ = some x9 ∧ w.cell? ⟨b, 10, none⟩ = some x10 := by
  refine ⟨?_, ?_, ?_, ?_, ?_, ?_, ?_, ?_, ?_, ?_, ?_⟩ <;> rw [cell_of_heap h] <;> rfl
theorem frozen11 {w : World} {b : Nat} {cs : Array Value} {t : TypeId} (h : w.heap[b]? = some (.cells cs t (0, 0))) :
    w.frozen? ⟨b, 0, none⟩ = false ∧ w.frozen? ⟨b, 1, none⟩ = false ∧ w.frozen? ⟨b, 2, none⟩ = false ∧ w.frozen? ⟨b, 3, none⟩ = false ∧ w.frozen? ⟨b, 4, none⟩ = false ∧ w.frozen? ⟨b, 5, none⟩ = false ∧ w.frozen? ⟨b, 6, none⟩ = false ∧ w.frozen? ⟨b, 7, none⟩ = false ∧ w.frozen? ⟨b, 8, none⟩ = false ∧ w.frozen? ⟨b, 9, none⟩ = false ∧ w.frozen? ⟨b, 10, none⟩ = false :=
  ⟨frozen_of_heap h, frozen_of_heap h, frozen_of_heap h, frozen_of_heap h, frozen_of_heap h, frozen_of_heap h, frozen_of_heap h, frozen_of_heap h, frozen_of_heap h, frozen_of_heap h, frozen_of_heap h⟩
/-- What the reference's Do comes to. -/
def DoQ (w : World) (n : Nat) (g : Nat) (ws' : List Int) (k wd v y er : Int) (e : Ending) (w' : World) : Prop :=
  ∃ b' o' c', Ret (.tuple #[.slice (some ⟨b', o', none⟩) n c', .agg #[.int .i64 k, .int .i64 wd, .int .u64 v, .int .u64 y], .int .i64 er]) (fun w' => Frm [] w w' ∧ Rd w' (.slice (some ⟨b', o', none⟩) n c') (u64s ws') ∧ (b' = g ∨ w.heap.size ≤ b')) e w'
/-- What is returned beside the program. -/
def NxQ (w : World) (n : Nat) (g : Nat) (ws' : List Int) (cs : Array Value) (wait : Bool) (no : Int) (e : Ending) (w' : World) : Prop :=
  ∃ b' o' c', Ret (.tuple #[.agg cs, .slice (some ⟨b', o', none⟩) n c', .bool wait, .int .i64 no]) (fun w' => Frm [] w w' ∧ Rd w' (.slice (some ⟨b', o', none⟩) n c') (u64s ws') ∧ (b' = g ∨ w.heap.size ≤ b')) e w'
section
variable {w : World} {W : Bool} {V F : Int} {la : Option Addr} {ln lc : Nat} {many tries steps first : Int} {ra : Option Addr} {rn rcap : Nat} {res : Int} {ended : Bool} {n g oo c : Nat} {ws ws' : List Int}
set_option maxRecDepth 100000 in
set_option maxHeartbeats 2000000 in
theorem next_end (hrd : Rd w (.slice (some ⟨g, oo, none⟩) n c) (u64s ws)) :
    Calls Try.prog 23 #[.agg #[.bool W, .int .i64 V, .int .i64 F, .slice la ln lc, .int .i64 many, .int .i64 tries, .int .i64 steps, .int .u64 first, .slice ra rn rcap, .int .u64 res, .bool true], .slice (some ⟨g, oo, none⟩) n c] w (NxQ w n g ws #[.bool W, .int .i64 V, .int .i64 F, .slice la ln lc, .int .i64 many, .int .i64 tries, .int .i64 steps, .int .u64 first, .slice ra rn rcap, .int .u64 res, .bool true] false 17) := by
  have HRD := Lib.hid hrd
  clear hrd
  go_enter Try.func23, Try.ntmps23
  go_wp2
  refine bodyPost_ret (v := .tuple #[.agg #[.bool W, .int .i64 V, .int .i64 F, .slice la ln lc, .int .i64 many, .int .i64 tries, .int .i64 steps, .int .u64 first, .slice ra rn rcap, .int .u64 res, .bool true], .slice (some ⟨g, oo, none⟩) n c, .bool false, .int .i64 17]) ?_ rfl ?_
  · simp [results, Try.results23, go_sem]
  have hF : Frm [] w ((w.alloc (.cells #[.bool W, .int .i64 V, .int .i64 F, .slice la ln lc, .int .i64 many, .int .i64 tries, .int .i64 steps, .int .u64 first, .slice ra rn rcap, .int .u64 res, .bool true] 48)).alloc (.cells #[.bool W, .int .i64 V, .int .i64 F, .slice la ln lc, .int .i64 many, .int .i64 tries, .int .i64 steps, .int .u64 first, .slice ra rn rcap, .int .u64 res, .bool true] 48)) := ((Frm.refl _ _).alloc _).alloc _
  exact ⟨g, oo, c, rfl, hF, HRD.out.frm hF (by simp), .inl rfl⟩

set_option maxRecDepth 100000 in
set_option maxHeartbeats 8000000 in
theorem next_err {ak wd af k2 d2 v y : Int} (hg : g < w.heap.size)
    (HA : Hid (∀ w', Frm [] w w' → Calls Try.prog 40 #[.agg #[.bool W, .int .i64 V, .int .i64 F, .slice la ln lc, .int .i64 many, .int .i64 tries, .int .i64 steps, .int .u64 first, .slice ra rn rcap, .int .u64 res, .bool false]] w' (Ret (.agg #[.int .i64 ak, .int .i64 wd, .int .u64 0, .int .u64 af]) (fun w'' => Frm [] w' w''))))
    (HD : Hid (∀ w', Frm [] w w' → Calls Try.prog 39 #[.slice (some ⟨g, oo, none⟩) n c, .agg #[.int .i64 ak, .int .i64 wd, .int .u64 0, .int .u64 af]] w' (DoQ w' n g ws' k2 d2 v y 3))) (hrd : Rd w (.slice (some ⟨g, oo, none⟩) n c) (u64s ws))  :
    Calls Try.prog 23 #[.agg #[.bool W, .int .i64 V, .int .i64 F, .slice la ln lc, .int .i64 many, .int .i64 tries, .int .i64 steps, .int .u64 first, .slice ra rn rcap, .int .u64 res, .bool false], .slice (some ⟨g, oo, none⟩) n c] w (NxQ w n g ws #[.bool W, .int .i64 V, .int .i64 F, .slice la ln lc, .int .i64 many, .int .i64 tries, .int .i64 steps, .int .u64 first, .slice ra rn rcap, .int .u64 res, .bool false] false 3) := by
  have HG := Lib.hid hg
  have HRD := Lib.hid hrd
  clear hrd
  have h1 := HA.out _ (((Frm.refl [] w).alloc (.cells #[.bool W, .int .i64 V, .int .i64 F, .slice la ln lc, .int .i64 many, .int .i64 tries, .int .i64 steps, .int .u64 first, .slice ra rn rcap, .int .u64 res, .bool false] 48)).alloc (.cells #[.bool false, .int .i64 0, .int .i64 0, .slice none 0 0, .int .i64 0, .int .i64 0, .int .i64 0, .int .u64 0, .slice none 0 0, .int .u64 0, .bool false] 48))
  have HA1 := Lib.hid h1
  clear h1
  go_enter Try.func23, Try.ntmps23
  go_wp2_with fail
  refine HA1.out.mono ?_
  rintro e w1 ⟨rfl, hF1⟩
  have hFa : Frm [] w w1 := (((Frm.refl [] w).alloc _).alloc _).trans hF1
  have hB2 : w1.heap[w.heap.size]? = some (.cells #[.bool W, .int .i64 V, .int .i64 F, .slice la ln lc, .int .i64 many, .int .i64 tries, .int .i64 steps, .int .u64 first, .slice ra rn rcap, .int .u64 res, .bool false] 48 (0, 0)) := hF1.heap (heap_alloc_old _ (heap_alloc_new _ _)) (by simp)
  have hB4 : w1.heap[w.heap.size + 1]? = some (.cells #[.bool false, .int .i64 0, .int .i64 0, .slice none 0 0, .int .i64 0, .int .i64 0, .int .i64 0, .int .u64 0, .slice none 0 0, .int .u64 0, .bool false] 48 (0, 0)) := hF1.heap (heap_alloc_at _ (by simp)) (by simp)
  have HD1 := Lib.hid (HD.out w1 hFa)
  have HFA := Lib.hid hFa
  have HB2 := Lib.hid hB2
  have HB4 := Lib.hid hB4
  clear hF1 hFa hB2 hB4 HA1 HA HD
  go_wp2_with fail
  refine HD1.out.mono ?_
  rintro e w2 ⟨b', o', c', rfl, hF2, hR2, hb2⟩
  have hFb : Frm [] w w2 := HFA.out.trans hF2
  obtain ⟨X, hX⟩ : ∃ X, X = w2.alloc (.cells #[.int .i64 k2, .int .i64 d2, .int .u64 v, .int .u64 y] 91) := ⟨_, rfl⟩
  have hFX : Frm [] w X := by rw [hX]; exact hFb.alloc _
  have hX2 : X.heap[w.heap.size]? = some (.cells #[.bool W, .int .i64 V, .int .i64 F, .slice la ln lc, .int .i64 many, .int .i64 tries, .int .i64 steps, .int .u64 first, .slice ra rn rcap, .int .u64 res, .bool false] 48 (0, 0)) := by rw [hX]; exact heap_alloc_old _ (hF2.heap HB2.out (by simp))
  have hX4 : X.heap[w.heap.size + 1]? = some (.cells #[.bool false, .int .i64 0, .int .i64 0, .slice none 0 0, .int .i64 0, .int .i64 0, .int .i64 0, .int .u64 0, .slice none 0 0, .int .u64 0, .bool false] 48 (0, 0)) := by rw [hX]; exact heap_alloc_old _ (hF2.heap HB4.out (by simp))
  have hXa : X.heap[w2.heap.size]? = some (.cells #[.int .i64 k2, .int .i64 d2, .int .u64 v, .int .u64 y] 91 (0, 0)) := by rw [hX]; exact heap_alloc_new _ _
  have hXr : Rd X (.slice (some ⟨b', o', none⟩) n c') (u64s ws') := by rw [hX]; exact hR2.frm ((Frm.refl [] w2).alloc _) (by simp)
  have hXb : b' = g ∨ w.heap.size + 2 ≤ b' := by rcases hb2 with h | h; exact .inl h; exact .inr (by have := lt_of_heap HB4.out; omega)
  have hne : w.heap.size ≠ w2.heap.size ∧ w.heap.size + 1 ≠ w2.heap.size := by have h1 := lt_of_heap HB4.out; have h2 := hF2.size; omega
  obtain ⟨q0, q1, q2, q3, q4, q5, q6, q7, q8, q9, q10⟩ := cells11 hX2
  obtain ⟨t0, t1, t2, t3, t4, t5, t6, t7, t8, t9, t10⟩ := cells11 hX4
  obtain ⟨f0, f1, f2, f3, f4, f5, f6, f7, f8, f9, f10⟩ := frozen11 hX2
  obtain ⟨g0, g1, g2, g3, g4, g5, g6, g7, g8, g9, g10⟩ := frozen11 hX4
  obtain ⟨a0, a1, a2, a3⟩ := cells4 hXa
  have HX := Lib.hid hX
  have HFX := Lib.hid hFX
  have HX2 := Lib.hid hX2
  have HX4 := Lib.hid hX4
  have HXR := Lib.hid hXr
  have HXB := Lib.hid hXb
  generalize ha9 : w2.heap.size = na at *
  obtain ⟨hn1, hn2⟩ := hne
  clear hX hFX hX2 hX4 hXa hXr hXb hF2 hR2 hb2 hFb HD1 HFA HB2 HB4
  go_upto_region 4 with fail
  rw [← HX.out]
  go_wp2
  have hR4 := setCells11 HX4.out (.bool W) (.int .i64 V) (.int .i64 F) (.slice la ln lc) (.int .i64 many) (.int .i64 tries) (.int .i64 steps) (.int .u64 first) (.slice ra rn rcap) (.int .u64 res) (.bool false)
  have hF4 := HFX.out.set11 (w.heap.size + 1) (.bool W) (.int .i64 V) (.int .i64 F) (.slice la ln lc) (.int .i64 many) (.int .i64 tries) (.int .i64 steps) (.int .u64 first) (.slice ra rn rcap) (.int .u64 res) (.bool false) (.inr (Nat.le_succ _))
  generalize (((((((((((X.setCell ⟨w.heap.size + 1, 0, none⟩ (.bool W)).setCell ⟨w.heap.size + 1, 1, none⟩ (.int .i64 V)).setCell ⟨w.heap.size + 1, 2, none⟩ (.int .i64 F)).setCell ⟨w.heap.size + 1, 3, none⟩ (.slice la ln lc)).setCell ⟨w.heap.size + 1, 4, none⟩ (.int .i64 many)).setCell ⟨w.heap.size + 1, 5, none⟩ (.int .i64 tries)).setCell ⟨w.heap.size + 1, 6, none⟩ (.int .i64 steps)).setCell ⟨w.heap.size + 1, 7, none⟩ (.int .u64 first)).setCell ⟨w.heap.size + 1, 8, none⟩ (.slice ra rn rcap)).setCell ⟨w.heap.size + 1, 9, none⟩ (.int .u64 res)).setCell ⟨w.heap.size + 1, 10, none⟩ (.bool false)) = w9 at hR4 hF4 ⊢
  clear t0 t1 t2 t3 t4 t5 t6 t7 t8 t9 t10
  obtain ⟨t0, t1, t2, t3, t4, t5, t6, t7, t8, t9, t10⟩ := cells11 hR4
  refine bodyPost_ret (v := .tuple #[.agg #[.bool W, .int .i64 V, .int .i64 F, .slice la ln lc, .int .i64 many, .int .i64 tries, .int .i64 steps, .int .u64 first, .slice ra rn rcap, .int .u64 res, .bool false], .slice (some ⟨g, oo, none⟩) n c, .bool false, .int .i64 3]) ?_ rfl ?_
  · simp [results, Try.results23, go_sem, t0, t1, t2, t3, t4, t5, t6, t7, t8, t9, t10]
  exact ⟨g, oo, c, rfl, hF4, HRD.out.frm hF4 (by simp), .inl rfl⟩

set_option maxRecDepth 100000 in
set_option maxHeartbeats 8000000 in
theorem next_wait {ak wd af k2 d2 v y : Int} (hg : g < w.heap.size)
    (HA : Hid (∀ w', Frm [] w w' → Calls Try.prog 40 #[.agg #[.bool false, .int .i64 V, .int .i64 F, .slice la ln lc, .int .i64 many, .int .i64 tries, .int .i64 0, .int .u64 first, .slice ra rn rcap, .int .u64 res, .bool false]] w' (Ret (.agg #[.int .i64 ak, .int .i64 wd, .int .u64 0, .int .u64 af]) (fun w'' => Frm [] w' w''))))
    (HD : Hid (∀ w', Frm [] w w' → Calls Try.prog 39 #[.slice (some ⟨g, oo, none⟩) n c, .agg #[.int .i64 ak, .int .i64 wd, .int .u64 0, .int .u64 af]] w' (DoQ w' n g ws' k2 d2 v y 0))) (hrd : Rd w (.slice (some ⟨g, oo, none⟩) n c) (u64s ws)) (hev : v % 2 = 1) (hv0 : 0 ≤ v) :
    Calls Try.prog 23 #[.agg #[.bool false, .int .i64 V, .int .i64 F, .slice la ln lc, .int .i64 many, .int .i64 tries, .int .i64 0, .int .u64 first, .slice ra rn rcap, .int .u64 res, .bool false], .slice (some ⟨g, oo, none⟩) n c] w (NxQ w n g ws #[.bool false, .int .i64 V, .int .i64 F, .slice la ln lc, .int .i64 many, .int .i64 tries, .int .i64 0, .int .u64 first, .slice ra rn rcap, .int .u64 res, .bool false] true 0) := by
  have HG := Lib.hid hg
  have HRD := Lib.hid hrd
  clear hrd
  have hb1 : (v % 2 == 1) = true := by simp; omega
  clear hev
  have h1 := HA.out _ (((Frm.refl [] w).alloc (.cells #[.bool false, .int .i64 V, .int .i64 F, .slice la ln lc, .int .i64 many, .int .i64 tries, .int .i64 0, .int .u64 first, .slice ra rn rcap, .int .u64 res, .bool false] 48)).alloc (.cells #[.bool false, .int .i64 0, .int .i64 0, .slice none 0 0, .int .i64 0, .int .i64 0, .int .i64 0, .int .u64 0, .slice none 0 0, .int .u64 0, .bool false] 48))
  have HA1 := Lib.hid h1
  clear h1
  go_enter Try.func23, Try.ntmps23
  go_wp2_with fail
  refine HA1.out.mono ?_
  rintro e w1 ⟨rfl, hF1⟩
  have hFa : Frm [] w w1 := (((Frm.refl [] w).alloc _).alloc _).trans hF1
  have hB2 : w1.heap[w.heap.size]? = some (.cells #[.bool false, .int .i64 V, .int .i64 F, .slice la ln lc, .int .i64 many, .int .i64 tries, .int .i64 0, .int .u64 first, .slice ra rn rcap, .int .u64 res, .bool false] 48 (0, 0)) := hF1.heap (heap_alloc_old _ (heap_alloc_new _ _)) (by simp)
  have hB4 : w1.heap[w.heap.size + 1]? = some (.cells #[.bool false, .int .i64 0, .int .i64 0, .slice none 0 0, .int .i64 0, .int .i64 0, .int .i64 0, .int .u64 0, .slice none 0 0, .int .u64 0, .bool false] 48 (0, 0)) := hF1.heap (heap_alloc_at _ (by simp)) (by simp)
  have HD1 := Lib.hid (HD.out w1 hFa)
  have HFA := Lib.hid hFa
  have HB2 := Lib.hid hB2
  have HB4 := Lib.hid hB4
  clear hF1 hFa hB2 hB4 HA1 HA HD
  go_wp2_with fail
  refine HD1.out.mono ?_
  rintro e w2 ⟨b', o', c', rfl, hF2, hR2, hb2⟩
  have hFb : Frm [] w w2 := HFA.out.trans hF2
  obtain ⟨X, hX⟩ : ∃ X, X = w2.alloc (.cells #[.int .i64 k2, .int .i64 d2, .int .u64 v, .int .u64 y] 91) := ⟨_, rfl⟩
  have hFX : Frm [] w X := by rw [hX]; exact hFb.alloc _
  have hX2 : X.heap[w.heap.size]? = some (.cells #[.bool false, .int .i64 V, .int .i64 F, .slice la ln lc, .int .i64 many, .int .i64 tries, .int .i64 0, .int .u64 first, .slice ra rn rcap, .int .u64 res, .bool false] 48 (0, 0)) := by rw [hX]; exact heap_alloc_old _ (hF2.heap HB2.out (by simp))
  have hX4 : X.heap[w.heap.size + 1]? = some (.cells #[.bool false, .int .i64 0, .int .i64 0, .slice none 0 0, .int .i64 0, .int .i64 0, .int .i64 0, .int .u64 0, .slice none 0 0, .int .u64 0, .bool false] 48 (0, 0)) := by rw [hX]; exact heap_alloc_old _ (hF2.heap HB4.out (by simp))
  have hXa : X.heap[w2.heap.size]? = some (.cells #[.int .i64 k2, .int .i64 d2, .int .u64 v, .int .u64 y] 91 (0, 0)) := by rw [hX]; exact heap_alloc_new _ _
  have hXr : Rd X (.slice (some ⟨b', o', none⟩) n c') (u64s ws') := by rw [hX]; exact hR2.frm ((Frm.refl [] w2).alloc _) (by simp)
  have hXb : b' = g ∨ w.heap.size + 2 ≤ b' := by rcases hb2 with h | h; exact .inl h; exact .inr (by have := lt_of_heap HB4.out; omega)
  have hne : w.heap.size ≠ w2.heap.size ∧ w.heap.size + 1 ≠ w2.heap.size := by have h1 := lt_of_heap HB4.out; have h2 := hF2.size; omega
  obtain ⟨q0, q1, q2, q3, q4, q5, q6, q7, q8, q9, q10⟩ := cells11 hX2
  obtain ⟨t0, t1, t2, t3, t4, t5, t6, t7, t8, t9, t10⟩ := cells11 hX4
  obtain ⟨f0, f1, f2, f3, f4, f5, f6, f7, f8, f9, f10⟩ := frozen11 hX2
  obtain ⟨g0, g1, g2, g3, g4, g5, g6, g7, g8, g9, g10⟩ := frozen11 hX4
  obtain ⟨a0, a1, a2, a3⟩ := cells4 hXa
  have HX := Lib.hid hX
  have HFX := Lib.hid hFX
  have HX2 := Lib.hid hX2
  have HX4 := Lib.hid hX4
  have HXR := Lib.hid hXr
  have HXB := Lib.hid hXb
  generalize ha9 : w2.heap.size = na at *
  obtain ⟨hn1, hn2⟩ := hne
  clear hX hFX hX2 hX4 hXa hXr hXb hF2 hR2 hb2 hFb HD1 HFA HB2 HB4
  go_upto_region 4 with fail
  rw [← HX.out]
  go_wp2
  have hR4 := setCells11 HX4.out (.bool false) (.int .i64 V) (.int .i64 F) (.slice la ln lc) (.int .i64 many) (.int .i64 tries) (.int .i64 0) (.int .u64 first) (.slice ra rn rcap) (.int .u64 res) (.bool false)
  have hF4 := HFX.out.set11 (w.heap.size + 1) (.bool false) (.int .i64 V) (.int .i64 F) (.slice la ln lc) (.int .i64 many) (.int .i64 tries) (.int .i64 0) (.int .u64 first) (.slice ra rn rcap) (.int .u64 res) (.bool false) (.inr (Nat.le_succ _))
  generalize (((((((((((X.setCell ⟨w.heap.size + 1, 0, none⟩ (.bool false)).setCell ⟨w.heap.size + 1, 1, none⟩ (.int .i64 V)).setCell ⟨w.heap.size + 1, 2, none⟩ (.int .i64 F)).setCell ⟨w.heap.size + 1, 3, none⟩ (.slice la ln lc)).setCell ⟨w.heap.size + 1, 4, none⟩ (.int .i64 many)).setCell ⟨w.heap.size + 1, 5, none⟩ (.int .i64 tries)).setCell ⟨w.heap.size + 1, 6, none⟩ (.int .i64 0)).setCell ⟨w.heap.size + 1, 7, none⟩ (.int .u64 first)).setCell ⟨w.heap.size + 1, 8, none⟩ (.slice ra rn rcap)).setCell ⟨w.heap.size + 1, 9, none⟩ (.int .u64 res)).setCell ⟨w.heap.size + 1, 10, none⟩ (.bool false)) = w9 at hR4 hF4 ⊢
  clear t0 t1 t2 t3 t4 t5 t6 t7 t8 t9 t10
  obtain ⟨t0, t1, t2, t3, t4, t5, t6, t7, t8, t9, t10⟩ := cells11 hR4
  refine bodyPost_ret (v := .tuple #[.agg #[.bool false, .int .i64 V, .int .i64 F, .slice la ln lc, .int .i64 many, .int .i64 tries, .int .i64 0, .int .u64 first, .slice ra rn rcap, .int .u64 res, .bool false], .slice (some ⟨g, oo, none⟩) n c, .bool true, .int .i64 0]) ?_ rfl ?_
  · simp [results, Try.results23, go_sem, t0, t1, t2, t3, t4, t5, t6, t7, t8, t9, t10]
  exact ⟨g, oo, c, rfl, hF4, HRD.out.frm hF4 (by simp), .inl rfl⟩

set_option maxRecDepth 100000 in
set_option maxHeartbeats 8000000 in
theorem next_state {ak wd af k2 d2 v y : Int} (hg : g < w.heap.size)
    (HA : Hid (∀ w', Frm [] w w' → Calls Try.prog 40 #[.agg #[.bool true, .int .i64 V, .int .i64 F, .slice la ln lc, .int .i64 many, .int .i64 tries, .int .i64 0, .int .u64 first, .slice ra rn rcap, .int .u64 res, .bool false]] w' (Ret (.agg #[.int .i64 ak, .int .i64 wd, .int .u64 0, .int .u64 af]) (fun w'' => Frm [] w' w''))))
    (HD : Hid (∀ w', Frm [] w w' → Calls Try.prog 39 #[.slice (some ⟨g, oo, none⟩) n c, .agg #[.int .i64 ak, .int .i64 wd, .int .u64 0, .int .u64 af]] w' (DoQ w' n g ws' k2 d2 v y 0))) (hrd : Rd w (.slice (some ⟨g, oo, none⟩) n c) (u64s ws)) (hev : v % 2 = 1) (hv0 : 0 ≤ v) :
    Calls Try.prog 23 #[.agg #[.bool true, .int .i64 V, .int .i64 F, .slice la ln lc, .int .i64 many, .int .i64 tries, .int .i64 0, .int .u64 first, .slice ra rn rcap, .int .u64 res, .bool false], .slice (some ⟨g, oo, none⟩) n c] w (NxQ w n g ws #[.bool true, .int .i64 V, .int .i64 F, .slice la ln lc, .int .i64 many, .int .i64 tries, .int .i64 0, .int .u64 first, .slice ra rn rcap, .int .u64 res, .bool false] false 8) := by
  have HG := Lib.hid hg
  have HRD := Lib.hid hrd
  clear hrd
  have hb1 : (v % 2 == 1) = true := by simp; omega
  clear hev
  have h1 := HA.out _ (((Frm.refl [] w).alloc (.cells #[.bool true, .int .i64 V, .int .i64 F, .slice la ln lc, .int .i64 many, .int .i64 tries, .int .i64 0, .int .u64 first, .slice ra rn rcap, .int .u64 res, .bool false] 48)).alloc (.cells #[.bool false, .int .i64 0, .int .i64 0, .slice none 0 0, .int .i64 0, .int .i64 0, .int .i64 0, .int .u64 0, .slice none 0 0, .int .u64 0, .bool false] 48))
  have HA1 := Lib.hid h1
  clear h1
  go_enter Try.func23, Try.ntmps23
  go_wp2_with fail
  refine HA1.out.mono ?_
  rintro e w1 ⟨rfl, hF1⟩
  have hFa : Frm [] w w1 := (((Frm.refl [] w).alloc _).alloc _).trans hF1
  have hB2 : w1.heap[w.heap.size]? = some (.cells #[.bool true, .int .i64 V, .int .i64 F, .slice la ln lc, .int .i64 many, .int .i64 tries, .int .i64 0, .int .u64 first, .slice ra rn rcap, .int .u64 res, .bool false] 48 (0, 0)) := hF1.heap (heap_alloc_old _ (heap_alloc_new _ _)) (by simp)
  have hB4 : w1.heap[w.heap.size + 1]? = some (.cells #[.bool false, .int .i64 0, .int .i64 0, .slice none 0 0, .int .i64 0, .int .i64 0, .int .i64 0, .int .u64 0, .slice none 0 0, .int .u64 0, .bool false] 48 (0, 0)) := hF1.heap (heap_alloc_at _ (by simp)) (by simp)
  have HD1 := Lib.hid (HD.out w1 hFa)
  have HFA := Lib.hid hFa
  have HB2 := Lib.hid hB2
  have HB4 := Lib.hid hB4
  clear hF1 hFa hB2 hB4 HA1 HA HD
  go_wp2_with fail
  refine HD1.out.mono ?_
  rintro e w2 ⟨b', o', c', rfl, hF2, hR2, hb2⟩
  have hFb : Frm [] w w2 := HFA.out.trans hF2
  obtain ⟨X, hX⟩ : ∃ X, X = w2.alloc (.cells #[.int .i64 k2, .int .i64 d2, .int .u64 v, .int .u64 y] 91) := ⟨_, rfl⟩
  have hFX : Frm [] w X := by rw [hX]; exact hFb.alloc _
  have hX2 : X.heap[w.heap.size]? = some (.cells #[.bool true, .int .i64 V, .int .i64 F, .slice la ln lc, .int .i64 many, .int .i64 tries, .int .i64 0, .int .u64 first, .slice ra rn rcap, .int .u64 res, .bool false] 48 (0, 0)) := by rw [hX]; exact heap_alloc_old _ (hF2.heap HB2.out (by simp))
  have hX4 : X.heap[w.heap.size + 1]? = some (.cells #[.bool false, .int .i64 0, .int .i64 0, .slice none 0 0, .int .i64 0, .int .i64 0, .int .i64 0, .int .u64 0, .slice none 0 0, .int .u64 0, .bool false] 48 (0, 0)) := by rw [hX]; exact heap_alloc_old _ (hF2.heap HB4.out (by simp))
  have hXa : X.heap[w2.heap.size]? = some (.cells #[.int .i64 k2, .int .i64 d2, .int .u64 v, .int .u64 y] 91 (0, 0)) := by rw [hX]; exact heap_alloc_new _ _
  have hXr : Rd X (.slice (some ⟨b', o', none⟩) n c') (u64s ws') := by rw [hX]; exact hR2.frm ((Frm.refl [] w2).alloc _) (by simp)
  have hXb : b' = g ∨ w.heap.size + 2 ≤ b' := by rcases hb2 with h | h; exact .inl h; exact .inr (by have := lt_of_heap HB4.out; omega)
  have hne : w.heap.size ≠ w2.heap.size ∧ w.heap.size + 1 ≠ w2.heap.size := by have h1 := lt_of_heap HB4.out; have h2 := hF2.size; omega
  obtain ⟨q0, q1, q2, q3, q4, q5, q6, q7, q8, q9, q10⟩ := cells11 hX2
  obtain ⟨t0, t1, t2, t3, t4, t5, t6, t7, t8, t9, t10⟩ := cells11 hX4
  obtain ⟨f0, f1, f2, f3, f4, f5, f6, f7, f8, f9, f10⟩ := frozen11 hX2
  obtain ⟨g0, g1, g2, g3, g4, g5, g6, g7, g8, g9, g10⟩ := frozen11 hX4
  obtain ⟨a0, a1, a2, a3⟩ := cells4 hXa
  have HX := Lib.hid hX
  have HFX := Lib.hid hFX
  have HX2 := Lib.hid hX2
  have HX4 := Lib.hid hX4
  have HXR := Lib.hid hXr
  have HXB := Lib.hid hXb
  generalize ha9 : w2.heap.size = na at *
  obtain ⟨hn1, hn2⟩ := hne
  clear hX hFX hX2 hX4 hXa hXr hXb hF2 hR2 hb2 hFb HD1 HFA HB2 HB4
  go_upto_region 4 with fail
  rw [← HX.out]
  go_wp2
  have hR4 := setCells11 HX4.out (.bool true) (.int .i64 V) (.int .i64 F) (.slice la ln lc) (.int .i64 many) (.int .i64 tries) (.int .i64 0) (.int .u64 first) (.slice ra rn rcap) (.int .u64 res) (.bool false)
  have hF4 := HFX.out.set11 (w.heap.size + 1) (.bool true) (.int .i64 V) (.int .i64 F) (.slice la ln lc) (.int .i64 many) (.int .i64 tries) (.int .i64 0) (.int .u64 first) (.slice ra rn rcap) (.int .u64 res) (.bool false) (.inr (Nat.le_succ _))
  generalize (((((((((((X.setCell ⟨w.heap.size + 1, 0, none⟩ (.bool true)).setCell ⟨w.heap.size + 1, 1, none⟩ (.int .i64 V)).setCell ⟨w.heap.size + 1, 2, none⟩ (.int .i64 F)).setCell ⟨w.heap.size + 1, 3, none⟩ (.slice la ln lc)).setCell ⟨w.heap.size + 1, 4, none⟩ (.int .i64 many)).setCell ⟨w.heap.size + 1, 5, none⟩ (.int .i64 tries)).setCell ⟨w.heap.size + 1, 6, none⟩ (.int .i64 0)).setCell ⟨w.heap.size + 1, 7, none⟩ (.int .u64 first)).setCell ⟨w.heap.size + 1, 8, none⟩ (.slice ra rn rcap)).setCell ⟨w.heap.size + 1, 9, none⟩ (.int .u64 res)).setCell ⟨w.heap.size + 1, 10, none⟩ (.bool false)) = w9 at hR4 hF4 ⊢
  clear t0 t1 t2 t3 t4 t5 t6 t7 t8 t9 t10
  obtain ⟨t0, t1, t2, t3, t4, t5, t6, t7, t8, t9, t10⟩ := cells11 hR4
  refine bodyPost_ret (v := .tuple #[.agg #[.bool true, .int .i64 V, .int .i64 F, .slice la ln lc, .int .i64 many, .int .i64 tries, .int .i64 0, .int .u64 first, .slice ra rn rcap, .int .u64 res, .bool false], .slice (some ⟨g, oo, none⟩) n c, .bool false, .int .i64 8]) ?_ rfl ?_
  · simp [results, Try.results23, go_sem, t0, t1, t2, t3, t4, t5, t6, t7, t8, t9, t10]
  exact ⟨g, oo, c, rfl, hF4, HRD.out.frm hF4 (by simp), .inl rfl⟩

set_option maxRecDepth 100000 in
set_option maxHeartbeats 8000000 in
theorem next_look {ak wd af k2 d2 v y : Int} (hg : g < w.heap.size)
    (HA : Hid (∀ w', Frm [] w w' → Calls Try.prog 40 #[.agg #[.bool W, .int .i64 V, .int .i64 F, .slice la ln lc, .int .i64 many, .int .i64 tries, .int .i64 0, .int .u64 first, .slice ra rn rcap, .int .u64 res, .bool false]] w' (Ret (.agg #[.int .i64 ak, .int .i64 wd, .int .u64 0, .int .u64 af]) (fun w'' => Frm [] w' w''))))
    (HD : Hid (∀ w', Frm [] w w' → Calls Try.prog 39 #[.slice (some ⟨g, oo, none⟩) n c, .agg #[.int .i64 ak, .int .i64 wd, .int .u64 0, .int .u64 af]] w' (DoQ w' n g ws' k2 d2 v y 0))) (hev : v % 2 = 0) (hv0 : 0 ≤ v) :
    Calls Try.prog 23 #[.agg #[.bool W, .int .i64 V, .int .i64 F, .slice la ln lc, .int .i64 many, .int .i64 tries, .int .i64 0, .int .u64 first, .slice ra rn rcap, .int .u64 res, .bool false], .slice (some ⟨g, oo, none⟩) n c] w (NxQ w n g ws' #[.bool W, .int .i64 V, .int .i64 F, .slice la ln lc, .int .i64 many, .int .i64 tries, .int .i64 1, .int .u64 v, .slice ra rn rcap, .int .u64 res, .bool false] false 0) := by
  have HG := Lib.hid hg
  have hb1 : (v % 2 == 1) = false := by simp; omega
  clear hev
  have h1 := HA.out _ (((Frm.refl [] w).alloc (.cells #[.bool W, .int .i64 V, .int .i64 F, .slice la ln lc, .int .i64 many, .int .i64 tries, .int .i64 0, .int .u64 first, .slice ra rn rcap, .int .u64 res, .bool false] 48)).alloc (.cells #[.bool false, .int .i64 0, .int .i64 0, .slice none 0 0, .int .i64 0, .int .i64 0, .int .i64 0, .int .u64 0, .slice none 0 0, .int .u64 0, .bool false] 48))
  have HA1 := Lib.hid h1
  clear h1
  go_enter Try.func23, Try.ntmps23
  go_wp2_with fail
  refine HA1.out.mono ?_
  rintro e w1 ⟨rfl, hF1⟩
  have hFa : Frm [] w w1 := (((Frm.refl [] w).alloc _).alloc _).trans hF1
  have hB2 : w1.heap[w.heap.size]? = some (.cells #[.bool W, .int .i64 V, .int .i64 F, .slice la ln lc, .int .i64 many, .int .i64 tries, .int .i64 0, .int .u64 first, .slice ra rn rcap, .int .u64 res, .bool false] 48 (0, 0)) := hF1.heap (heap_alloc_old _ (heap_alloc_new _ _)) (by simp)
  have hB4 : w1.heap[w.heap.size + 1]? = some (.cells #[.bool false, .int .i64 0, .int .i64 0, .slice none 0 0, .int .i64 0, .int .i64 0, .int .i64 0, .int .u64 0, .slice none 0 0, .int .u64 0, .bool false] 48 (0, 0)) := hF1.heap (heap_alloc_at _ (by simp)) (by simp)
  have HD1 := Lib.hid (HD.out w1 hFa)
  have HFA := Lib.hid hFa
  have HB2 := Lib.hid hB2
  have HB4 := Lib.hid hB4
  clear hF1 hFa hB2 hB4 HA1 HA HD
  go_wp2_with fail
  refine HD1.out.mono ?_
  rintro e w2 ⟨b', o', c', rfl, hF2, hR2, hb2⟩
  have hFb : Frm [] w w2 := HFA.out.trans hF2
  obtain ⟨X, hX⟩ : ∃ X, X = w2.alloc (.cells #[.int .i64 k2, .int .i64 d2, .int .u64 v, .int .u64 y] 91) := ⟨_, rfl⟩
  have hFX : Frm [] w X := by rw [hX]; exact hFb.alloc _
  have hX2 : X.heap[w.heap.size]? = some (.cells #[.bool W, .int .i64 V, .int .i64 F, .slice la ln lc, .int .i64 many, .int .i64 tries, .int .i64 0, .int .u64 first, .slice ra rn rcap, .int .u64 res, .bool false] 48 (0, 0)) := by rw [hX]; exact heap_alloc_old _ (hF2.heap HB2.out (by simp))
  have hX4 : X.heap[w.heap.size + 1]? = some (.cells #[.bool false, .int .i64 0, .int .i64 0, .slice none 0 0, .int .i64 0, .int .i64 0, .int .i64 0, .int .u64 0, .slice none 0 0, .int .u64 0, .bool false] 48 (0, 0)) := by rw [hX]; exact heap_alloc_old _ (hF2.heap HB4.out (by simp))
  have hXa : X.heap[w2.heap.size]? = some (.cells #[.int .i64 k2, .int .i64 d2, .int .u64 v, .int .u64 y] 91 (0, 0)) := by rw [hX]; exact heap_alloc_new _ _
  have hXr : Rd X (.slice (some ⟨b', o', none⟩) n c') (u64s ws') := by rw [hX]; exact hR2.frm ((Frm.refl [] w2).alloc _) (by simp)
  have hXb : b' = g ∨ w.heap.size + 2 ≤ b' := by rcases hb2 with h | h; exact .inl h; exact .inr (by have := lt_of_heap HB4.out; omega)
  have hne : w.heap.size ≠ w2.heap.size ∧ w.heap.size + 1 ≠ w2.heap.size := by have h1 := lt_of_heap HB4.out; have h2 := hF2.size; omega
  obtain ⟨q0, q1, q2, q3, q4, q5, q6, q7, q8, q9, q10⟩ := cells11 hX2
  obtain ⟨t0, t1, t2, t3, t4, t5, t6, t7, t8, t9, t10⟩ := cells11 hX4
  obtain ⟨f0, f1, f2, f3, f4, f5, f6, f7, f8, f9, f10⟩ := frozen11 hX2
  obtain ⟨g0, g1, g2, g3, g4, g5, g6, g7, g8, g9, g10⟩ := frozen11 hX4
  obtain ⟨a0, a1, a2, a3⟩ := cells4 hXa
  have HX := Lib.hid hX
  have HFX := Lib.hid hFX
  have HX2 := Lib.hid hX2
  have HX4 := Lib.hid hX4
  have HXR := Lib.hid hXr
  have HXB := Lib.hid hXb
  generalize ha9 : w2.heap.size = na at *
  obtain ⟨hn1, hn2⟩ := hne
  clear hX hFX hX2 hX4 hXa hXr hXb hF2 hR2 hb2 hFb HD1 HFA HB2 HB4
  go_upto_region 4 with fail
  rw [← HX.out]
  go_wp2
  have hR4 := setCells11 (heap_setCell_far ⟨w.heap.size, 6, none⟩ (.int .i64 1) (by show w.heap.size ≠ w.heap.size + 1; omega) (heap_setCell_far ⟨w.heap.size, 7, none⟩ (.int .u64 v) (by show w.heap.size ≠ w.heap.size + 1; omega) HX4.out)) (.bool W) (.int .i64 V) (.int .i64 F) (.slice la ln lc) (.int .i64 many) (.int .i64 tries) (.int .i64 1) (.int .u64 v) (.slice ra rn rcap) (.int .u64 res) (.bool false)
  have hF4 := ((HFX.out.setCell ⟨w.heap.size, 7, none⟩ (.int .u64 v) (.inr (Nat.le_refl _))).setCell ⟨w.heap.size, 6, none⟩ (.int .i64 1) (.inr (Nat.le_refl _))).set11 (w.heap.size + 1) (.bool W) (.int .i64 V) (.int .i64 F) (.slice la ln lc) (.int .i64 many) (.int .i64 tries) (.int .i64 1) (.int .u64 v) (.slice ra rn rcap) (.int .u64 res) (.bool false) (.inr (Nat.le_succ _))
  have hR5 : Rd (((((((((((((X.setCell ⟨w.heap.size, 7, none⟩ (.int .u64 v)).setCell ⟨w.heap.size, 6, none⟩ (.int .i64 1)).setCell ⟨w.heap.size + 1, 0, none⟩ (.bool W)).setCell ⟨w.heap.size + 1, 1, none⟩ (.int .i64 V)).setCell ⟨w.heap.size + 1, 2, none⟩ (.int .i64 F)).setCell ⟨w.heap.size + 1, 3, none⟩ (.slice la ln lc)).setCell ⟨w.heap.size + 1, 4, none⟩ (.int .i64 many)).setCell ⟨w.heap.size + 1, 5, none⟩ (.int .i64 tries)).setCell ⟨w.heap.size + 1, 6, none⟩ (.int .i64 1)).setCell ⟨w.heap.size + 1, 7, none⟩ (.int .u64 v)).setCell ⟨w.heap.size + 1, 8, none⟩ (.slice ra rn rcap)).setCell ⟨w.heap.size + 1, 9, none⟩ (.int .u64 res)).setCell ⟨w.heap.size + 1, 10, none⟩ (.bool false)) (.slice (some ⟨b', o', none⟩) n c') (u64s ws') := HXR.out.frm ((((Frm.refl [w.heap.size, w.heap.size + 1] X).setCell ⟨w.heap.size, 7, none⟩ (.int .u64 v) (.inl (by simp))).setCell ⟨w.heap.size, 6, none⟩ (.int .i64 1) (.inl (by simp))).set11 (w.heap.size + 1) (.bool W) (.int .i64 V) (.int .i64 F) (.slice la ln lc) (.int .i64 many) (.int .i64 tries) (.int .i64 1) (.int .u64 v) (.slice ra rn rcap) (.int .u64 res) (.bool false) (.inl (by simp))) (by intro y hy; cases hy; have hg := HG.out; rcases HXB.out with h | h <;> simp <;> omega)
  generalize (((((((((((((X.setCell ⟨w.heap.size, 7, none⟩ (.int .u64 v)).setCell ⟨w.heap.size, 6, none⟩ (.int .i64 1)).setCell ⟨w.heap.size + 1, 0, none⟩ (.bool W)).setCell ⟨w.heap.size + 1, 1, none⟩ (.int .i64 V)).setCell ⟨w.heap.size + 1, 2, none⟩ (.int .i64 F)).setCell ⟨w.heap.size + 1, 3, none⟩ (.slice la ln lc)).setCell ⟨w.heap.size + 1, 4, none⟩ (.int .i64 many)).setCell ⟨w.heap.size + 1, 5, none⟩ (.int .i64 tries)).setCell ⟨w.heap.size + 1, 6, none⟩ (.int .i64 1)).setCell ⟨w.heap.size + 1, 7, none⟩ (.int .u64 v)).setCell ⟨w.heap.size + 1, 8, none⟩ (.slice ra rn rcap)).setCell ⟨w.heap.size + 1, 9, none⟩ (.int .u64 res)).setCell ⟨w.heap.size + 1, 10, none⟩ (.bool false)) = w9 at hR4 hF4 hR5 ⊢
  clear t0 t1 t2 t3 t4 t5 t6 t7 t8 t9 t10
  obtain ⟨t0, t1, t2, t3, t4, t5, t6, t7, t8, t9, t10⟩ := cells11 hR4
  refine bodyPost_ret (v := .tuple #[.agg #[.bool W, .int .i64 V, .int .i64 F, .slice la ln lc, .int .i64 many, .int .i64 tries, .int .i64 1, .int .u64 v, .slice ra rn rcap, .int .u64 res, .bool false], .slice (some ⟨b', o', none⟩) n c', .bool false, .int .i64 0]) ?_ rfl ?_
  · simp [results, Try.results23, go_sem, t0, t1, t2, t3, t4, t5, t6, t7, t8, t9, t10]
  exact ⟨b', o', c', rfl, hF4, hR5, by rcases HXB.out with h | h; exact .inl h; exact .inr (by omega)⟩
end
#print axioms next_end
end Go.Proofs.Ytbhnijkphkkalaa
