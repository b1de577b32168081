/- The reference's Next: the steps behind the first one. (By gen_vpd.py.) -/
import Derived.Test.YtbhnijkphkkalaaVpD
namespace Go.Proofs.Ytbhnijkphkkalaa
open Go.ChangeShapes Go.WideShapes Go.ChangeAt Go.RowKit
set_option linter.unusedVariables false
section
variable {w : World} {W : Bool} {V F : Int} {la : Option Addr} {ln lc : Nat} {many tries steps first : Int} {ra : Option Addr} {rn rcap : Nat} {res : Int} {ended : Bool} {n g oo c : Nat} {ws ws' : List Int}

set_option maxRecDepth 100000 in
set_option maxHeartbeats 8000000 in
theorem next_wend {ak wd af k2 d2 v y : Int} (hg : g < w.heap.size)
    (HA : Hid (∀ w', Frm [] w w' → Calls Try.prog 40 #[.agg #[.bool true, .int .i64 V, .int .i64 F, .slice la ln lc, .int .i64 many, .int .i64 tries, .int .i64 steps, .int .u64 first, .slice ra rn rcap, .int .u64 res, .bool false]] w' (Ret (.agg #[.int .i64 ak, .int .i64 wd, .int .u64 0, .int .u64 af]) (fun w'' => Frm [] w' w''))))
    (HD : Hid (∀ w', Frm [] w w' → Calls Try.prog 39 #[.slice (some ⟨g, oo, none⟩) n c, .agg #[.int .i64 ak, .int .i64 wd, .int .u64 0, .int .u64 af]] w' (DoQ w' n g ws' k2 d2 v y 0))) (hv0 : 0 ≤ v) (hsl : steps = 2 + ln) (hl : ln ≤ 256) :
    Calls Try.prog 23 #[.agg #[.bool true, .int .i64 V, .int .i64 F, .slice la ln lc, .int .i64 many, .int .i64 tries, .int .i64 steps, .int .u64 first, .slice ra rn rcap, .int .u64 res, .bool false], .slice (some ⟨g, oo, none⟩) n c] w (NxQ w n g ws' #[.bool true, .int .i64 V, .int .i64 F, .slice la ln lc, .int .i64 many, .int .i64 tries, .int .i64 (steps + 1), .int .u64 first, .slice ra rn rcap, .int .u64 1, .bool true] false 0) := by
  have HG := Lib.hid hg
  have hs0 : (steps == 0) = false := by simp; omega
  have hs1 : IntKind.i64.wrap (steps + 1) = steps + 1 := by rw [IntWalk.i64_in _ (by omega)]
  have hs2 : (steps == 2 + (ln : Int)) = true := by simp; omega
  have hs3 : 0 ≤ steps := by omega
  have hs4 : steps ≤ 300 := by omega
  clear hsl
  have h1 := HA.out _ (((Frm.refl [] w).alloc (.cells #[.bool true, .int .i64 V, .int .i64 F, .slice la ln lc, .int .i64 many, .int .i64 tries, .int .i64 steps, .int .u64 first, .slice ra rn rcap, .int .u64 res, .bool false] 48)).alloc (.cells #[.bool false, .int .i64 0, .int .i64 0, .slice none 0 0, .int .i64 0, .int .i64 0, .int .i64 0, .int .u64 0, .slice none 0 0, .int .u64 0, .bool false] 48))
  have HA1 := Lib.hid h1
  clear h1
  go_enter Try.func23, Try.ntmps23
  go_wp2_with fail
  refine HA1.out.mono ?_
  rintro e w1 ⟨rfl, hF1⟩
  have hFa : Frm [] w w1 := (((Frm.refl [] w).alloc _).alloc _).trans hF1
  have hB2 : w1.heap[w.heap.size]? = some (.cells #[.bool true, .int .i64 V, .int .i64 F, .slice la ln lc, .int .i64 many, .int .i64 tries, .int .i64 steps, .int .u64 first, .slice ra rn rcap, .int .u64 res, .bool false] 48 (0, 0)) := hF1.heap (heap_alloc_old _ (heap_alloc_new _ _)) (by simp)
  have hB4 : w1.heap[w.heap.size + 1]? = some (.cells #[.bool false, .int .i64 0, .int .i64 0, .slice none 0 0, .int .i64 0, .int .i64 0, .int .i64 0, .int .u64 0, .slice none 0 0, .int .u64 0, .bool false] 48 (0, 0)) := hF1.heap (heap_alloc_at _ (by simp)) (by simp)
  have HD1 := Lib.hid (HD.out w1 hFa)
  have HFA := Lib.hid hFa
  have HB2 := Lib.hid hB2
  have HB4 := Lib.hid hB4
  clear hF1 hFa hB2 hB4 HA1 HA HD
  go_wp2_with fail
  refine HD1.out.mono ?_
  rintro e w2 ⟨b', o', c', rfl, hF2, hR2, hb2⟩
  have hFb : Frm [] w w2 := HFA.out.trans hF2
  obtain ⟨X, hX⟩ : ∃ X, X = w2.alloc (.cells #[.int .i64 k2, .int .i64 d2, .int .u64 v, .int .u64 y] 91) := ⟨_, rfl⟩
  have hFX : Frm [] w X := by rw [hX]; exact hFb.alloc _
  have hX2 : X.heap[w.heap.size]? = some (.cells #[.bool true, .int .i64 V, .int .i64 F, .slice la ln lc, .int .i64 many, .int .i64 tries, .int .i64 steps, .int .u64 first, .slice ra rn rcap, .int .u64 res, .bool false] 48 (0, 0)) := by rw [hX]; exact heap_alloc_old _ (hF2.heap HB2.out (by simp))
  have hX4 : X.heap[w.heap.size + 1]? = some (.cells #[.bool false, .int .i64 0, .int .i64 0, .slice none 0 0, .int .i64 0, .int .i64 0, .int .i64 0, .int .u64 0, .slice none 0 0, .int .u64 0, .bool false] 48 (0, 0)) := by rw [hX]; exact heap_alloc_old _ (hF2.heap HB4.out (by simp))
  have hXa : X.heap[w2.heap.size]? = some (.cells #[.int .i64 k2, .int .i64 d2, .int .u64 v, .int .u64 y] 91 (0, 0)) := by rw [hX]; exact heap_alloc_new _ _
  have hXr : Rd X (.slice (some ⟨b', o', none⟩) n c') (u64s ws') := by rw [hX]; exact hR2.frm ((Frm.refl [] w2).alloc _) (by simp)
  have hXb : b' = g ∨ w.heap.size + 2 ≤ b' := by rcases hb2 with h | h; exact .inl h; exact .inr (by have := lt_of_heap HB4.out; omega)
  have hne : w.heap.size ≠ w2.heap.size ∧ w.heap.size + 1 ≠ w2.heap.size := by have h1 := lt_of_heap HB4.out; have h2 := hF2.size; omega
  obtain ⟨q0, q1, q2, q3, q4, q5, q6, q7, q8, q9, q10⟩ := cells11 hX2
  obtain ⟨t0, t1, t2, t3, t4, t5, t6, t7, t8, t9, t10⟩ := cells11 hX4
  obtain ⟨f0, f1, f2, f3, f4, f5, f6, f7, f8, f9, f10⟩ := frozen11 hX2
  obtain ⟨g0, g1, g2, g3, g4, g5, g6, g7, g8, g9, g10⟩ := frozen11 hX4
  obtain ⟨a0, a1, a2, a3⟩ := cells4 hXa
  have HX := Lib.hid hX
  have HFX := Lib.hid hFX
  have HX2 := Lib.hid hX2
  have HX4 := Lib.hid hX4
  have HXR := Lib.hid hXr
  have HXB := Lib.hid hXb
  generalize ha9 : w2.heap.size = na at *
  obtain ⟨hn1, hn2⟩ := hne
  clear hX hFX hX2 hX4 hXa hXr hXb hF2 hR2 hb2 hFb HD1 HFA HB2 HB4
  go_upto_region 4 with fail
  rw [← HX.out]
  go_wp2
  have hR4 := setCells11 (heap_setCell_far ⟨w.heap.size, 6, none⟩ (.int .i64 (steps + 1)) (by show w.heap.size ≠ w.heap.size + 1; omega) (heap_setCell_far ⟨w.heap.size, 9, none⟩ (.int .u64 1) (by show w.heap.size ≠ w.heap.size + 1; omega) (heap_setCell_far ⟨w.heap.size, 10, none⟩ (.bool true) (by show w.heap.size ≠ w.heap.size + 1; omega) HX4.out))) (.bool true) (.int .i64 V) (.int .i64 F) (.slice la ln lc) (.int .i64 many) (.int .i64 tries) (.int .i64 (steps + 1)) (.int .u64 first) (.slice ra rn rcap) (.int .u64 1) (.bool true)
  have hF4 := (((HFX.out.setCell ⟨w.heap.size, 10, none⟩ (.bool true) (.inr (Nat.le_refl _))).setCell ⟨w.heap.size, 9, none⟩ (.int .u64 1) (.inr (Nat.le_refl _))).setCell ⟨w.heap.size, 6, none⟩ (.int .i64 (steps + 1)) (.inr (Nat.le_refl _))).set11 (w.heap.size + 1) (.bool true) (.int .i64 V) (.int .i64 F) (.slice la ln lc) (.int .i64 many) (.int .i64 tries) (.int .i64 (steps + 1)) (.int .u64 first) (.slice ra rn rcap) (.int .u64 1) (.bool true) (.inr (Nat.le_succ _))
  have hR5 : Rd ((((((((((((((X.setCell ⟨w.heap.size, 10, none⟩ (.bool true)).setCell ⟨w.heap.size, 9, none⟩ (.int .u64 1)).setCell ⟨w.heap.size, 6, none⟩ (.int .i64 (steps + 1))).setCell ⟨w.heap.size + 1, 0, none⟩ (.bool true)).setCell ⟨w.heap.size + 1, 1, none⟩ (.int .i64 V)).setCell ⟨w.heap.size + 1, 2, none⟩ (.int .i64 F)).setCell ⟨w.heap.size + 1, 3, none⟩ (.slice la ln lc)).setCell ⟨w.heap.size + 1, 4, none⟩ (.int .i64 many)).setCell ⟨w.heap.size + 1, 5, none⟩ (.int .i64 tries)).setCell ⟨w.heap.size + 1, 6, none⟩ (.int .i64 (steps + 1))).setCell ⟨w.heap.size + 1, 7, none⟩ (.int .u64 first)).setCell ⟨w.heap.size + 1, 8, none⟩ (.slice ra rn rcap)).setCell ⟨w.heap.size + 1, 9, none⟩ (.int .u64 1)).setCell ⟨w.heap.size + 1, 10, none⟩ (.bool true)) (.slice (some ⟨b', o', none⟩) n c') (u64s ws') := HXR.out.frm (((((Frm.refl [w.heap.size, w.heap.size + 1] X).setCell ⟨w.heap.size, 10, none⟩ (.bool true) (.inl (by simp))).setCell ⟨w.heap.size, 9, none⟩ (.int .u64 1) (.inl (by simp))).setCell ⟨w.heap.size, 6, none⟩ (.int .i64 (steps + 1)) (.inl (by simp))).set11 (w.heap.size + 1) (.bool true) (.int .i64 V) (.int .i64 F) (.slice la ln lc) (.int .i64 many) (.int .i64 tries) (.int .i64 (steps + 1)) (.int .u64 first) (.slice ra rn rcap) (.int .u64 1) (.bool true) (.inl (by simp))) (by intro y hy; cases hy; have hg := HG.out; rcases HXB.out with h | h <;> simp <;> omega)
  generalize ((((((((((((((X.setCell ⟨w.heap.size, 10, none⟩ (.bool true)).setCell ⟨w.heap.size, 9, none⟩ (.int .u64 1)).setCell ⟨w.heap.size, 6, none⟩ (.int .i64 (steps + 1))).setCell ⟨w.heap.size + 1, 0, none⟩ (.bool true)).setCell ⟨w.heap.size + 1, 1, none⟩ (.int .i64 V)).setCell ⟨w.heap.size + 1, 2, none⟩ (.int .i64 F)).setCell ⟨w.heap.size + 1, 3, none⟩ (.slice la ln lc)).setCell ⟨w.heap.size + 1, 4, none⟩ (.int .i64 many)).setCell ⟨w.heap.size + 1, 5, none⟩ (.int .i64 tries)).setCell ⟨w.heap.size + 1, 6, none⟩ (.int .i64 (steps + 1))).setCell ⟨w.heap.size + 1, 7, none⟩ (.int .u64 first)).setCell ⟨w.heap.size + 1, 8, none⟩ (.slice ra rn rcap)).setCell ⟨w.heap.size + 1, 9, none⟩ (.int .u64 1)).setCell ⟨w.heap.size + 1, 10, none⟩ (.bool true)) = w9 at hR4 hF4 hR5 ⊢
  clear t0 t1 t2 t3 t4 t5 t6 t7 t8 t9 t10
  obtain ⟨t0, t1, t2, t3, t4, t5, t6, t7, t8, t9, t10⟩ := cells11 hR4
  refine bodyPost_ret (v := .tuple #[.agg #[.bool true, .int .i64 V, .int .i64 F, .slice la ln lc, .int .i64 many, .int .i64 tries, .int .i64 (steps + 1), .int .u64 first, .slice ra rn rcap, .int .u64 1, .bool true], .slice (some ⟨b', o', none⟩) n c', .bool false, .int .i64 0]) ?_ rfl ?_
  · simp [results, Try.results23, go_sem, t0, t1, t2, t3, t4, t5, t6, t7, t8, t9, t10]
  exact ⟨b', o', c', rfl, hF4, hR5, by rcases HXB.out with h | h; exact .inl h; exact .inr (by omega)⟩

set_option maxRecDepth 100000 in
set_option maxHeartbeats 8000000 in
theorem next_wmid {ak wd af k2 d2 v y : Int} (hg : g < w.heap.size)
    (HA : Hid (∀ w', Frm [] w w' → Calls Try.prog 40 #[.agg #[.bool true, .int .i64 V, .int .i64 F, .slice la ln lc, .int .i64 many, .int .i64 tries, .int .i64 steps, .int .u64 first, .slice ra rn rcap, .int .u64 res, .bool false]] w' (Ret (.agg #[.int .i64 ak, .int .i64 wd, .int .u64 0, .int .u64 af]) (fun w'' => Frm [] w' w''))))
    (HD : Hid (∀ w', Frm [] w w' → Calls Try.prog 39 #[.slice (some ⟨g, oo, none⟩) n c, .agg #[.int .i64 ak, .int .i64 wd, .int .u64 0, .int .u64 af]] w' (DoQ w' n g ws' k2 d2 v y 0))) (hv0 : 0 ≤ v) (h1 : 1 ≤ steps) (hsl : steps < 2 + ln) (hl : ln ≤ 256) :
    Calls Try.prog 23 #[.agg #[.bool true, .int .i64 V, .int .i64 F, .slice la ln lc, .int .i64 many, .int .i64 tries, .int .i64 steps, .int .u64 first, .slice ra rn rcap, .int .u64 res, .bool false], .slice (some ⟨g, oo, none⟩) n c] w (NxQ w n g ws' #[.bool true, .int .i64 V, .int .i64 F, .slice la ln lc, .int .i64 many, .int .i64 tries, .int .i64 (steps + 1), .int .u64 first, .slice ra rn rcap, .int .u64 res, .bool false] false 0) := by
  have HG := Lib.hid hg
  have hs0 : (steps == 0) = false := by simp; omega
  have hs1 : IntKind.i64.wrap (steps + 1) = steps + 1 := by rw [IntWalk.i64_in _ (by omega)]
  have hs2 : (steps == 2 + (ln : Int)) = false := by simp; omega
  have hs3 : 0 ≤ steps := by omega
  have hs4 : steps ≤ 300 := by omega
  clear hsl
  have h1 := HA.out _ (((Frm.refl [] w).alloc (.cells #[.bool true, .int .i64 V, .int .i64 F, .slice la ln lc, .int .i64 many, .int .i64 tries, .int .i64 steps, .int .u64 first, .slice ra rn rcap, .int .u64 res, .bool false] 48)).alloc (.cells #[.bool false, .int .i64 0, .int .i64 0, .slice none 0 0, .int .i64 0, .int .i64 0, .int .i64 0, .int .u64 0, .slice none 0 0, .int .u64 0, .bool false] 48))
  have HA1 := Lib.hid h1
  clear h1
  go_enter Try.func23, Try.ntmps23
  go_wp2_with fail
  refine HA1.out.mono ?_
  rintro e w1 ⟨rfl, hF1⟩
  have hFa : Frm [] w w1 := (((Frm.refl [] w).alloc _).alloc _).trans hF1
  have hB2 : w1.heap[w.heap.size]? = some (.cells #[.bool true, .int .i64 V, .int .i64 F, .slice la ln lc, .int .i64 many, .int .i64 tries, .int .i64 steps, .int .u64 first, .slice ra rn rcap, .int .u64 res, .bool false] 48 (0, 0)) := hF1.heap (heap_alloc_old _ (heap_alloc_new _ _)) (by simp)
  have hB4 : w1.heap[w.heap.size + 1]? = some (.cells #[.bool false, .int .i64 0, .int .i64 0, .slice none 0 0, .int .i64 0, .int .i64 0, .int .i64 0, .int .u64 0, .slice none 0 0, .int .u64 0, .bool false] 48 (0, 0)) := hF1.heap (heap_alloc_at _ (by simp)) (by simp)
  have HD1 := Lib.hid (HD.out w1 hFa)
  have HFA := Lib.hid hFa
  have HB2 := Lib.hid hB2
  have HB4 := Lib.hid hB4
  clear hF1 hFa hB2 hB4 HA1 HA HD
  go_wp2_with fail
  refine HD1.out.mono ?_
  rintro e w2 ⟨b', o', c', rfl, hF2, hR2, hb2⟩
  have hFb : Frm [] w w2 := HFA.out.trans hF2
  obtain ⟨X, hX⟩ : ∃ X, X = w2.alloc (.cells #[.int .i64 k2, .int .i64 d2, .int .u64 v, .int .u64 y] 91) := ⟨_, rfl⟩
  have hFX : Frm [] w X := by rw [hX]; exact hFb.alloc _
  have hX2 : X.heap[w.heap.size]? = some (.cells #[.bool true, .int .i64 V, .int .i64 F, .slice la ln lc, .int .i64 many, .int .i64 tries, .int .i64 steps, .int .u64 first, .slice ra rn rcap, .int .u64 res, .bool false] 48 (0, 0)) := by rw [hX]; exact heap_alloc_old _ (hF2.heap HB2.out (by simp))
  have hX4 : X.heap[w.heap.size + 1]? = some (.cells #[.bool false, .int .i64 0, .int .i64 0, .slice none 0 0, .int .i64 0, .int .i64 0, .int .i64 0, .int .u64 0, .slice none 0 0, .int .u64 0, .bool false] 48 (0, 0)) := by rw [hX]; exact heap_alloc_old _ (hF2.heap HB4.out (by simp))
  have hXa : X.heap[w2.heap.size]? = some (.cells #[.int .i64 k2, .int .i64 d2, .int .u64 v, .int .u64 y] 91 (0, 0)) := by rw [hX]; exact heap_alloc_new _ _
  have hXr : Rd X (.slice (some ⟨b', o', none⟩) n c') (u64s ws') := by rw [hX]; exact hR2.frm ((Frm.refl [] w2).alloc _) (by simp)
  have hXb : b' = g ∨ w.heap.size + 2 ≤ b' := by rcases hb2 with h | h; exact .inl h; exact .inr (by have := lt_of_heap HB4.out; omega)
  have hne : w.heap.size ≠ w2.heap.size ∧ w.heap.size + 1 ≠ w2.heap.size := by have h1 := lt_of_heap HB4.out; have h2 := hF2.size; omega
  obtain ⟨q0, q1, q2, q3, q4, q5, q6, q7, q8, q9, q10⟩ := cells11 hX2
  obtain ⟨t0, t1, t2, t3, t4, t5, t6, t7, t8, t9, t10⟩ := cells11 hX4
  obtain ⟨f0, f1, f2, f3, f4, f5, f6, f7, f8, f9, f10⟩ := frozen11 hX2
  obtain ⟨g0, g1, g2, g3, g4, g5, g6, g7, g8, g9, g10⟩ := frozen11 hX4
  obtain ⟨a0, a1, a2, a3⟩ := cells4 hXa
  have HX := Lib.hid hX
  have HFX := Lib.hid hFX
  have HX2 := Lib.hid hX2
  have HX4 := Lib.hid hX4
  have HXR := Lib.hid hXr
  have HXB := Lib.hid hXb
  generalize ha9 : w2.heap.size = na at *
  obtain ⟨hn1, hn2⟩ := hne
  clear hX hFX hX2 hX4 hXa hXr hXb hF2 hR2 hb2 hFb HD1 HFA HB2 HB4
  go_upto_region 4 with fail
  rw [← HX.out]
  go_wp2
  have hR4 := setCells11 (heap_setCell_far ⟨w.heap.size, 6, none⟩ (.int .i64 (steps + 1)) (by show w.heap.size ≠ w.heap.size + 1; omega) HX4.out) (.bool true) (.int .i64 V) (.int .i64 F) (.slice la ln lc) (.int .i64 many) (.int .i64 tries) (.int .i64 (steps + 1)) (.int .u64 first) (.slice ra rn rcap) (.int .u64 res) (.bool false)
  have hF4 := (HFX.out.setCell ⟨w.heap.size, 6, none⟩ (.int .i64 (steps + 1)) (.inr (Nat.le_refl _))).set11 (w.heap.size + 1) (.bool true) (.int .i64 V) (.int .i64 F) (.slice la ln lc) (.int .i64 many) (.int .i64 tries) (.int .i64 (steps + 1)) (.int .u64 first) (.slice ra rn rcap) (.int .u64 res) (.bool false) (.inr (Nat.le_succ _))
  have hR5 : Rd ((((((((((((X.setCell ⟨w.heap.size, 6, none⟩ (.int .i64 (steps + 1))).setCell ⟨w.heap.size + 1, 0, none⟩ (.bool true)).setCell ⟨w.heap.size + 1, 1, none⟩ (.int .i64 V)).setCell ⟨w.heap.size + 1, 2, none⟩ (.int .i64 F)).setCell ⟨w.heap.size + 1, 3, none⟩ (.slice la ln lc)).setCell ⟨w.heap.size + 1, 4, none⟩ (.int .i64 many)).setCell ⟨w.heap.size + 1, 5, none⟩ (.int .i64 tries)).setCell ⟨w.heap.size + 1, 6, none⟩ (.int .i64 (steps + 1))).setCell ⟨w.heap.size + 1, 7, none⟩ (.int .u64 first)).setCell ⟨w.heap.size + 1, 8, none⟩ (.slice ra rn rcap)).setCell ⟨w.heap.size + 1, 9, none⟩ (.int .u64 res)).setCell ⟨w.heap.size + 1, 10, none⟩ (.bool false)) (.slice (some ⟨b', o', none⟩) n c') (u64s ws') := HXR.out.frm (((Frm.refl [w.heap.size, w.heap.size + 1] X).setCell ⟨w.heap.size, 6, none⟩ (.int .i64 (steps + 1)) (.inl (by simp))).set11 (w.heap.size + 1) (.bool true) (.int .i64 V) (.int .i64 F) (.slice la ln lc) (.int .i64 many) (.int .i64 tries) (.int .i64 (steps + 1)) (.int .u64 first) (.slice ra rn rcap) (.int .u64 res) (.bool false) (.inl (by simp))) (by intro y hy; cases hy; have hg := HG.out; rcases HXB.out with h | h <;> simp <;> omega)
  generalize ((((((((((((X.setCell ⟨w.heap.size, 6, none⟩ (.int .i64 (steps + 1))).setCell ⟨w.heap.size + 1, 0, none⟩ (.bool true)).setCell ⟨w.heap.size + 1, 1, none⟩ (.int .i64 V)).setCell ⟨w.heap.size + 1, 2, none⟩ (.int .i64 F)).setCell ⟨w.heap.size + 1, 3, none⟩ (.slice la ln lc)).setCell ⟨w.heap.size + 1, 4, none⟩ (.int .i64 many)).setCell ⟨w.heap.size + 1, 5, none⟩ (.int .i64 tries)).setCell ⟨w.heap.size + 1, 6, none⟩ (.int .i64 (steps + 1))).setCell ⟨w.heap.size + 1, 7, none⟩ (.int .u64 first)).setCell ⟨w.heap.size + 1, 8, none⟩ (.slice ra rn rcap)).setCell ⟨w.heap.size + 1, 9, none⟩ (.int .u64 res)).setCell ⟨w.heap.size + 1, 10, none⟩ (.bool false)) = w9 at hR4 hF4 hR5 ⊢
  clear t0 t1 t2 t3 t4 t5 t6 t7 t8 t9 t10
  obtain ⟨t0, t1, t2, t3, t4, t5, t6, t7, t8, t9, t10⟩ := cells11 hR4
  refine bodyPost_ret (v := .tuple #[.agg #[.bool true, .int .i64 V, .int .i64 F, .slice la ln lc, .int .i64 many, .int .i64 tries, .int .i64 (steps + 1), .int .u64 first, .slice ra rn rcap, .int .u64 res, .bool false], .slice (some ⟨b', o', none⟩) n c', .bool false, .int .i64 0]) ?_ rfl ?_
  · simp [results, Try.results23, go_sem, t0, t1, t2, t3, t4, t5, t6, t7, t8, t9, t10]
  exact ⟨b', o', c', rfl, hF4, hR5, by rcases HXB.out with h | h; exact .inl h; exact .inr (by omega)⟩

set_option maxRecDepth 100000 in
set_option maxHeartbeats 8000000 in
theorem next_same {ak wd af k2 d2 v y : Int} (hg : g < w.heap.size)
    (HA : Hid (∀ w', Frm [] w w' → Calls Try.prog 40 #[.agg #[.bool false, .int .i64 V, .int .i64 F, .slice la ln lc, .int .i64 many, .int .i64 tries, .int .i64 steps, .int .u64 first, .slice ra rn rcap, .int .u64 res, .bool false]] w' (Ret (.agg #[.int .i64 ak, .int .i64 wd, .int .u64 0, .int .u64 af]) (fun w'' => Frm [] w' w''))))
    (HD : Hid (∀ w', Frm [] w w' → Calls Try.prog 39 #[.slice (some ⟨g, oo, none⟩) n c, .agg #[.int .i64 ak, .int .i64 wd, .int .u64 0, .int .u64 af]] w' (DoQ w' n g ws' k2 d2 v y 0))) (hv0 : 0 ≤ v) (h1 : 1 ≤ steps) (h2 : steps ≤ 300) (hsl : many < steps) (hvf : v = first) :
    Calls Try.prog 23 #[.agg #[.bool false, .int .i64 V, .int .i64 F, .slice la ln lc, .int .i64 many, .int .i64 tries, .int .i64 steps, .int .u64 first, .slice ra rn rcap, .int .u64 res, .bool false], .slice (some ⟨g, oo, none⟩) n c] w (NxQ w n g ws' #[.bool false, .int .i64 V, .int .i64 F, .slice la ln lc, .int .i64 many, .int .i64 tries, .int .i64 (steps + 1), .int .u64 first, .slice ra rn rcap, .int .u64 1, .bool true] false 0) := by
  have HG := Lib.hid hg
  have hs0 : (steps == 0) = false := by simp; omega
  have hs1 : IntKind.i64.wrap (steps + 1) = steps + 1 := by rw [IntWalk.i64_in _ (by omega)]
  have hs2 : decide (steps ≤ many) = false := by simp; omega
  have hs3 : 0 ≤ steps := by omega
  have hs5 : (v == first) = true := by simpa using hvf
  clear hsl hvf
  have h1 := HA.out _ (((Frm.refl [] w).alloc (.cells #[.bool false, .int .i64 V, .int .i64 F, .slice la ln lc, .int .i64 many, .int .i64 tries, .int .i64 steps, .int .u64 first, .slice ra rn rcap, .int .u64 res, .bool false] 48)).alloc (.cells #[.bool false, .int .i64 0, .int .i64 0, .slice none 0 0, .int .i64 0, .int .i64 0, .int .i64 0, .int .u64 0, .slice none 0 0, .int .u64 0, .bool false] 48))
  have HA1 := Lib.hid h1
  clear h1
  go_enter Try.func23, Try.ntmps23
  go_wp2_with fail
  refine HA1.out.mono ?_
  rintro e w1 ⟨rfl, hF1⟩
  have hFa : Frm [] w w1 := (((Frm.refl [] w).alloc _).alloc _).trans hF1
  have hB2 : w1.heap[w.heap.size]? = some (.cells #[.bool false, .int .i64 V, .int .i64 F, .slice la ln lc, .int .i64 many, .int .i64 tries, .int .i64 steps, .int .u64 first, .slice ra rn rcap, .int .u64 res, .bool false] 48 (0, 0)) := hF1.heap (heap_alloc_old _ (heap_alloc_new _ _)) (by simp)
  have hB4 : w1.heap[w.heap.size + 1]? = some (.cells #[.bool false, .int .i64 0, .int .i64 0, .slice none 0 0, .int .i64 0, .int .i64 0, .int .i64 0, .int .u64 0, .slice none 0 0, .int .u64 0, .bool false] 48 (0, 0)) := hF1.heap (heap_alloc_at _ (by simp)) (by simp)
  have HD1 := Lib.hid (HD.out w1 hFa)
  have HFA := Lib.hid hFa
  have HB2 := Lib.hid hB2
  have HB4 := Lib.hid hB4
  clear hF1 hFa hB2 hB4 HA1 HA HD
  go_wp2_with fail
  refine HD1.out.mono ?_
  rintro e w2 ⟨b', o', c', rfl, hF2, hR2, hb2⟩
  have hFb : Frm [] w w2 := HFA.out.trans hF2
  obtain ⟨X, hX⟩ : ∃ X, X = w2.alloc (.cells #[.int .i64 k2, .int .i64 d2, .int .u64 v, .int .u64 y] 91) := ⟨_, rfl⟩
  have hFX : Frm [] w X := by rw [hX]; exact hFb.alloc _
  have hX2 : X.heap[w.heap.size]? = some (.cells #[.bool false, .int .i64 V, .int .i64 F, .slice la ln lc, .int .i64 many, .int .i64 tries, .int .i64 steps, .int .u64 first, .slice ra rn rcap, .int .u64 res, .bool false] 48 (0, 0)) := by rw [hX]; exact heap_alloc_old _ (hF2.heap HB2.out (by simp))
  have hX4 : X.heap[w.heap.size + 1]? = some (.cells #[.bool false, .int .i64 0, .int .i64 0, .slice none 0 0, .int .i64 0, .int .i64 0, .int .i64 0, .int .u64 0, .slice none 0 0, .int .u64 0, .bool false] 48 (0, 0)) := by rw [hX]; exact heap_alloc_old _ (hF2.heap HB4.out (by simp))
  have hXa : X.heap[w2.heap.size]? = some (.cells #[.int .i64 k2, .int .i64 d2, .int .u64 v, .int .u64 y] 91 (0, 0)) := by rw [hX]; exact heap_alloc_new _ _
  have hXr : Rd X (.slice (some ⟨b', o', none⟩) n c') (u64s ws') := by rw [hX]; exact hR2.frm ((Frm.refl [] w2).alloc _) (by simp)
  have hXb : b' = g ∨ w.heap.size + 2 ≤ b' := by rcases hb2 with h | h; exact .inl h; exact .inr (by have := lt_of_heap HB4.out; omega)
  have hne : w.heap.size ≠ w2.heap.size ∧ w.heap.size + 1 ≠ w2.heap.size := by have h1 := lt_of_heap HB4.out; have h2 := hF2.size; omega
  obtain ⟨q0, q1, q2, q3, q4, q5, q6, q7, q8, q9, q10⟩ := cells11 hX2
  obtain ⟨t0, t1, t2, t3, t4, t5, t6, t7, t8, t9, t10⟩ := cells11 hX4
  obtain ⟨f0, f1, f2, f3, f4, f5, f6, f7, f8, f9, f10⟩ := frozen11 hX2
  obtain ⟨g0, g1, g2, g3, g4, g5, g6, g7, g8, g9, g10⟩ := frozen11 hX4
  obtain ⟨a0, a1, a2, a3⟩ := cells4 hXa
  have HX := Lib.hid hX
  have HFX := Lib.hid hFX
  have HX2 := Lib.hid hX2
  have HX4 := Lib.hid hX4
  have HXR := Lib.hid hXr
  have HXB := Lib.hid hXb
  generalize ha9 : w2.heap.size = na at *
  obtain ⟨hn1, hn2⟩ := hne
  clear hX hFX hX2 hX4 hXa hXr hXb hF2 hR2 hb2 hFb HD1 HFA HB2 HB4
  go_upto_region 4 with fail
  rw [← HX.out]
  go_wp2
  have hR4 := setCells11 (heap_setCell_far ⟨w.heap.size, 6, none⟩ (.int .i64 (steps + 1)) (by show w.heap.size ≠ w.heap.size + 1; omega) (heap_setCell_far ⟨w.heap.size, 9, none⟩ (.int .u64 1) (by show w.heap.size ≠ w.heap.size + 1; omega) (heap_setCell_far ⟨w.heap.size, 10, none⟩ (.bool true) (by show w.heap.size ≠ w.heap.size + 1; omega) HX4.out))) (.bool false) (.int .i64 V) (.int .i64 F) (.slice la ln lc) (.int .i64 many) (.int .i64 tries) (.int .i64 (steps + 1)) (.int .u64 first) (.slice ra rn rcap) (.int .u64 1) (.bool true)
  have hF4 := (((HFX.out.setCell ⟨w.heap.size, 10, none⟩ (.bool true) (.inr (Nat.le_refl _))).setCell ⟨w.heap.size, 9, none⟩ (.int .u64 1) (.inr (Nat.le_refl _))).setCell ⟨w.heap.size, 6, none⟩ (.int .i64 (steps + 1)) (.inr (Nat.le_refl _))).set11 (w.heap.size + 1) (.bool false) (.int .i64 V) (.int .i64 F) (.slice la ln lc) (.int .i64 many) (.int .i64 tries) (.int .i64 (steps + 1)) (.int .u64 first) (.slice ra rn rcap) (.int .u64 1) (.bool true) (.inr (Nat.le_succ _))
  have hR5 : Rd ((((((((((((((X.setCell ⟨w.heap.size, 10, none⟩ (.bool true)).setCell ⟨w.heap.size, 9, none⟩ (.int .u64 1)).setCell ⟨w.heap.size, 6, none⟩ (.int .i64 (steps + 1))).setCell ⟨w.heap.size + 1, 0, none⟩ (.bool false)).setCell ⟨w.heap.size + 1, 1, none⟩ (.int .i64 V)).setCell ⟨w.heap.size + 1, 2, none⟩ (.int .i64 F)).setCell ⟨w.heap.size + 1, 3, none⟩ (.slice la ln lc)).setCell ⟨w.heap.size + 1, 4, none⟩ (.int .i64 many)).setCell ⟨w.heap.size + 1, 5, none⟩ (.int .i64 tries)).setCell ⟨w.heap.size + 1, 6, none⟩ (.int .i64 (steps + 1))).setCell ⟨w.heap.size + 1, 7, none⟩ (.int .u64 first)).setCell ⟨w.heap.size + 1, 8, none⟩ (.slice ra rn rcap)).setCell ⟨w.heap.size + 1, 9, none⟩ (.int .u64 1)).setCell ⟨w.heap.size + 1, 10, none⟩ (.bool true)) (.slice (some ⟨b', o', none⟩) n c') (u64s ws') := HXR.out.frm (((((Frm.refl [w.heap.size, w.heap.size + 1] X).setCell ⟨w.heap.size, 10, none⟩ (.bool true) (.inl (by simp))).setCell ⟨w.heap.size, 9, none⟩ (.int .u64 1) (.inl (by simp))).setCell ⟨w.heap.size, 6, none⟩ (.int .i64 (steps + 1)) (.inl (by simp))).set11 (w.heap.size + 1) (.bool false) (.int .i64 V) (.int .i64 F) (.slice la ln lc) (.int .i64 many) (.int .i64 tries) (.int .i64 (steps + 1)) (.int .u64 first) (.slice ra rn rcap) (.int .u64 1) (.bool true) (.inl (by simp))) (by intro y hy; cases hy; have hg := HG.out; rcases HXB.out with h | h <;> simp <;> omega)
  generalize ((((((((((((((X.setCell ⟨w.heap.size, 10, none⟩ (.bool true)).setCell ⟨w.heap.size, 9, none⟩ (.int .u64 1)).setCell ⟨w.heap.size, 6, none⟩ (.int .i64 (steps + 1))).setCell ⟨w.heap.size + 1, 0, none⟩ (.bool false)).setCell ⟨w.heap.size + 1, 1, none⟩ (.int .i64 V)).setCell ⟨w.heap.size + 1, 2, none⟩ (.int .i64 F)).setCell ⟨w.heap.size + 1, 3, none⟩ (.slice la ln lc)).setCell ⟨w.heap.size + 1, 4, none⟩ (.int .i64 many)).setCell ⟨w.heap.size + 1, 5, none⟩ (.int .i64 tries)).setCell ⟨w.heap.size + 1, 6, none⟩ (.int .i64 (steps + 1))).setCell ⟨w.heap.size + 1, 7, none⟩ (.int .u64 first)).setCell ⟨w.heap.size + 1, 8, none⟩ (.slice ra rn rcap)).setCell ⟨w.heap.size + 1, 9, none⟩ (.int .u64 1)).setCell ⟨w.heap.size + 1, 10, none⟩ (.bool true)) = w9 at hR4 hF4 hR5 ⊢
  clear t0 t1 t2 t3 t4 t5 t6 t7 t8 t9 t10
  obtain ⟨t0, t1, t2, t3, t4, t5, t6, t7, t8, t9, t10⟩ := cells11 hR4
  refine bodyPost_ret (v := .tuple #[.agg #[.bool false, .int .i64 V, .int .i64 F, .slice la ln lc, .int .i64 many, .int .i64 tries, .int .i64 (steps + 1), .int .u64 first, .slice ra rn rcap, .int .u64 1, .bool true], .slice (some ⟨b', o', none⟩) n c', .bool false, .int .i64 0]) ?_ rfl ?_
  · simp [results, Try.results23, go_sem, t0, t1, t2, t3, t4, t5, t6, t7, t8, t9, t10]
  exact ⟨b', o', c', rfl, hF4, hR5, by rcases HXB.out with h | h; exact .inl h; exact .inr (by omega)⟩
end
#print axioms next_same
end Go.Proofs.Ytbhnijkphkkalaa
