/- The law's holds (by gen_udj.py). -/
import Derived.Test.YticbbfcachnkiaaGreatDoorUdI
import Derived.Test.YticbbfcachnkiaaGreatDoorUuZ
namespace Go.Proofs.YticbbfcachnkiaaGreatDoor
open Go.ChangeShapes Go.WideShapes Go.ChangeAt Go.RowKit
set_option linter.unusedVariables false
set_option linter.unusedSimpArgs false
section
variable {w : World} {B T np p d cc : Nat} {ws : List Int}
set_option maxRecDepth 1000000 in
set_option maxHeartbeats 4000000 in
theorem holds_0 (h : Sc T w B np p d cc ws) (o : Int) (hT : 0 < T) (hT4 : T ≤ 4) {wd : Nat} (wdf : wd + 3 ≤ 65536) (wdo : wd + 3 ≤ 4 ∨ 4 + 6 * T ≤ wd) {w0 w1 : Nat} (h0 : ws[wd + 1]? = some (w0 : Int)) (h1 : ws[wd + 2]? = some (w1 : Int)) {s : LS} (hl : lkR T 4 ws w0 w1 = some (s, []))
    (hs : bitsL s.sh = []) (hu : s.up = -1 ∧ s.ex = -1 ∧ s.wa = -1 ∧ s.gr = 0) :
    Calls Tryz.prog 23 #[.agg #[.pointer (some ⟨p, 0, none⟩), .pointer (some ⟨np, 0, none⟩), .int .i64 o], .int .i64 (wd : Int), .int .i64 (-1), .int .i64 0] w
      (Ret (.bool true) (fun w' => Frm [d] w w' ∧ Sc T w' B np p d cc ws)) := by
  obtain ⟨hu, hex, hwa, hgr⟩ := hu
  have hlo := h.lo
  have hhi := h.hi
  obtain ⟨X, hX⟩ : ∃ X, X = w.alloc (.cells #[.pointer (some ⟨p, 0, none⟩), .pointer (some ⟨np, 0, none⟩), .int .i64 o] 27) := ⟨_, rfl⟩
  have hFX : Frm [] w X := by rw [hX]; exact (Frm.refl _ _).alloc _
  have hXs : X.heap.size = w.heap.size + 1 := by rw [hX]; simp
  have hb0 : X.heap[w.heap.size]? = some (.cells #[.pointer (some ⟨p, 0, none⟩), .pointer (some ⟨np, 0, none⟩), .int .i64 o] 27 (0, 0)) := by rw [hX]; exact heap_alloc_new _ _
  obtain ⟨Z, hZ⟩ : ∃ Z, Z = X.alloc (.cells #[.slice none 0 0, .int .i64 (-1), .int .i64 (-1), .int .i64 (-1), .int .i64 0, .slice none 0 0] 118) := ⟨_, rfl⟩
  have hFZ : Frm [] X Z := by rw [hZ]; exact (Frm.refl _ _).alloc _
  have hz0 : Z.heap[w.heap.size + 1]? = some (.cells #[.slice none 0 0, .int .i64 (-1), .int .i64 (-1), .int .i64 (-1), .int .i64 0, .slice none 0 0] 118 (0, 0)) := by rw [hZ, ← hXs]; exact heap_alloc_new _ _
  have hS := (h.frm0 hFX).frm0 hFZ
  have H := Look_any hS.mem hS.nd hS.laid (by omega) (by omega) (by rw [h.len]; omega) wdf wdo (by rw [h.len]; omega) h.bnd.i w0 w1 h0 h1 hT
  rw [hl] at H
  have H := Lib.hid H
  have HS := Lib.hid hS
  have HFX := Lib.hid hFX
  have HFZ := Lib.hid hFZ
  have HB0 := Lib.hid (hFZ.heap hb0 (by simp))
  have HZ0 := Lib.hid hz0
  obtain ⟨c0, c1, c2⟩ := cells3 HB0.out
  have hZl := lt_of_heap hz0
  have hBl := lt_of_heap HB0.out
  have hdl := hS.mem.dlt

  have HSH := Lib.hid hs
  clear h hFX hb0 hFZ hz0 hS h0 h1 hl hs
  go_enter Tryz.func23, Tryz.ntmps23
  go_wp2_with fail
  rw [← hX]
  rw [← hZ]
  clear hX hZ
  go_wp2_with fail
  refine H.out.mono ?_
  rintro e w1 ⟨a, n', k, a3, n3, k3, rfl, hF1, hM1, hR1, hR2⟩
  obtain ⟨gb, hL1⟩ := hR1.li
  obtain ⟨gb2, hL2⟩ := hR2.li
  rw [HSH.out] at hL1
  have hnn : n' = 0 := hL1.len.symm
  have hmm : n3 = 0 := hL2.len.symm
  subst hnn hmm
  rw [hu, hex, hwa, hgr]
  have HF1 := Lib.hid hF1
  have HL1 := Lib.hid hL1
  have HL2 := Lib.hid hL2
  have HM1 := Lib.hid hM1
  have hbx := hF1.heap HZ0.out (by simp; omega)
  obtain ⟨d0, d1, d2, d3, d4, d5⟩ := cells6L hbx
  have hbl := lt_of_heap hbx
  have HBX := Lib.hid hbx
  clear hF1 hL1 hL2 hM1 hR1 hR2 hbx c0 c1 c2
  obtain ⟨Y, hY⟩ : ∃ Y, Y = w1.alloc (.cells #[.slice a 0 k, .int .i64 (-1), .int .i64 (-1), .int .i64 (-1), .int .i64 0, .slice a3 0 k3] 118) := ⟨_, rfl⟩
  have hFY : Frm [] w1 Y := by rw [hY]; exact (Frm.refl _ _).alloc _
  have hy : Y.heap[w1.heap.size]? = some (.cells #[.slice a 0 k, .int .i64 (-1), .int .i64 (-1), .int .i64 (-1), .int .i64 0, .slice a3 0 k3] 118 (0, 0)) := by rw [hY]; exact heap_alloc_new _ _
  have hyx := hFY.heap HBX.out (by simp)
  obtain ⟨d0, d1, d2, d3, d4, d5⟩ := cells6L hyx
  obtain ⟨y0, y1, y2, y3, y4, y5⟩ := cells6L hy
  have hyl := lt_of_heap hyx
  have hyl2 := lt_of_heap hy
  go_wp2_with fail
  try rw [← hY]
  try clear hY
  go_wp2_with fail
  refine (lsame_any (HL1.out.frm0 hFY) (Li.nil _ 0 0) (HL2.out.frm0 hFY) (Li2.nil _ 0 0) (by decide) (by decide) (-1) (-1) (-1) 0).mono ?_
  rintro e w2 ⟨rfl, hF2⟩
  have HF2 := Lib.hid (hFY.trans hF2)
  clear hF2 hFY
  go_wp2
  go_ret
  have hF := HF1.out.trans HF2.out.nil
  refine ⟨rfl, (HFX.out.trans HFZ.out).nil.trans hF, HM1.out.frm HF2.out (by simp) (by simp), HS.out.nd.frmD hF (by simp; omega), HS.out.laid.frm hF (by simp; omega), HS.out.bnd, HS.out.lo, ?_, HS.out.len⟩
  have := hF.size
  have := HFX.out.size
  have := HFZ.out.size
  omega
set_option maxRecDepth 1000000 in
set_option maxHeartbeats 4000000 in
theorem holds_1 (h : Sc T w B np p d cc ws) (o : Int) (hT : 0 < T) (hT4 : T ≤ 4) {wd : Nat} (wdf : wd + 3 ≤ 65536) (wdo : wd + 3 ≤ 4 ∨ 4 + 6 * T ≤ wd) {w0 w1 : Nat} (h0 : ws[wd + 1]? = some (w0 : Int)) (h1 : ws[wd + 2]? = some (w1 : Int)) {s : LS} (hl : lkR T 4 ws w0 w1 = some (s, []))
    (hs : bitsL s.sh = [0]) (hu : s.up = -1 ∧ s.ex = -1 ∧ s.wa = -1 ∧ s.gr = 1) :
    Calls Tryz.prog 23 #[.agg #[.pointer (some ⟨p, 0, none⟩), .pointer (some ⟨np, 0, none⟩), .int .i64 o], .int .i64 (wd : Int), .int .i64 0, .int .i64 1] w
      (Ret (.bool true) (fun w' => Frm [d] w w' ∧ Sc T w' B np p d cc ws)) := by
  obtain ⟨hu, hex, hwa, hgr⟩ := hu
  have hlo := h.lo
  have hhi := h.hi
  obtain ⟨X, hX⟩ : ∃ X, X = w.alloc (.cells #[.pointer (some ⟨p, 0, none⟩), .pointer (some ⟨np, 0, none⟩), .int .i64 o] 27) := ⟨_, rfl⟩
  have hFX : Frm [] w X := by rw [hX]; exact (Frm.refl _ _).alloc _
  have hXs : X.heap.size = w.heap.size + 1 := by rw [hX]; simp
  have hb0 : X.heap[w.heap.size]? = some (.cells #[.pointer (some ⟨p, 0, none⟩), .pointer (some ⟨np, 0, none⟩), .int .i64 o] 27 (0, 0)) := by rw [hX]; exact heap_alloc_new _ _
  obtain ⟨Z, hZ⟩ : ∃ Z, Z = ((X.alloc (.cells #[.slice (some ⟨w.heap.size + 1 + 1, 0, none⟩) 1 1, .int .i64 (-1), .int .i64 (-1), .int .i64 (-1), .int .i64 1, .slice none 0 0] 118)).alloc (.cells #[.int .i64 0] 3)) := ⟨_, rfl⟩
  have hFZ : Frm [] X Z := by rw [hZ]; exact ((Frm.refl _ _).alloc _).alloc _
  have hz0 : Z.heap[w.heap.size + 1]? = some (.cells #[.slice (some ⟨w.heap.size + 1 + 1, 0, none⟩) 1 1, .int .i64 (-1), .int .i64 (-1), .int .i64 (-1), .int .i64 1, .slice none 0 0] 118 (0, 0)) := by rw [hZ, ← hXs]; exact heap_alloc_old _ (heap_alloc_new _ _)
  have hz1 : Z.heap[w.heap.size + 1 + 1]? = some (.cells #[.int .i64 0] 3 (0, 0)) := by rw [hZ]; exact heap_alloc_at _ (by simp [hXs])
  have hLi : Li .i64 Z (some ⟨w.heap.size + 1 + 1, 0, none⟩) 1 1 (w.heap.size + 1 + 1) 0 [0] := ⟨rfl, fun _ => rfl, fun i x hx => by
    cases i with
    | zero => simp at hx; subst hx; rw [cell_of_heap hz1]; rfl
    | succ i => simp at hx, Nat.le_refl _⟩
  have hS := (h.frm0 hFX).frm0 hFZ
  have H := Look_any hS.mem hS.nd hS.laid (by omega) (by omega) (by rw [h.len]; omega) wdf wdo (by rw [h.len]; omega) h.bnd.i w0 w1 h0 h1 hT
  rw [hl] at H
  have H := Lib.hid H
  have HS := Lib.hid hS
  have HFX := Lib.hid hFX
  have HFZ := Lib.hid hFZ
  have HB0 := Lib.hid (hFZ.heap hb0 (by simp))
  have HZ0 := Lib.hid hz0
  obtain ⟨c0, c1, c2⟩ := cells3 HB0.out
  have hZl := lt_of_heap hz0
  have hBl := lt_of_heap HB0.out
  have hdl := hS.mem.dlt
  have HLI := Lib.hid hLi
  have HSH := Lib.hid hs
  clear h hFX hb0 hFZ hz0 hS h0 h1 hl hs hLi hz1
  go_enter Tryz.func23, Tryz.ntmps23
  go_wp2_with fail
  rw [← hX]
  rw [← hZ]
  clear hX hZ
  go_wp2_with fail
  refine H.out.mono ?_
  rintro e w1 ⟨a, n', k, a3, n3, k3, rfl, hF1, hM1, hR1, hR2⟩
  obtain ⟨gb, hL1⟩ := hR1.li
  obtain ⟨gb2, hL2⟩ := hR2.li
  rw [HSH.out] at hL1
  have hnn : n' = 1 := hL1.len.symm
  have hmm : n3 = 0 := hL2.len.symm
  subst hnn hmm
  rw [hu, hex, hwa, hgr]
  have HF1 := Lib.hid hF1
  have HL1 := Lib.hid hL1
  have HL2 := Lib.hid hL2
  have HM1 := Lib.hid hM1
  have hbx := hF1.heap HZ0.out (by simp; omega)
  obtain ⟨d0, d1, d2, d3, d4, d5⟩ := cells6L hbx
  have hbl := lt_of_heap hbx
  have HBX := Lib.hid hbx
  clear hF1 hL1 hL2 hM1 hR1 hR2 hbx c0 c1 c2
  obtain ⟨Y, hY⟩ : ∃ Y, Y = w1.alloc (.cells #[.slice a 1 k, .int .i64 (-1), .int .i64 (-1), .int .i64 (-1), .int .i64 1, .slice a3 0 k3] 118) := ⟨_, rfl⟩
  have hFY : Frm [] w1 Y := by rw [hY]; exact (Frm.refl _ _).alloc _
  have hy : Y.heap[w1.heap.size]? = some (.cells #[.slice a 1 k, .int .i64 (-1), .int .i64 (-1), .int .i64 (-1), .int .i64 1, .slice a3 0 k3] 118 (0, 0)) := by rw [hY]; exact heap_alloc_new _ _
  have hyx := hFY.heap HBX.out (by simp)
  obtain ⟨d0, d1, d2, d3, d4, d5⟩ := cells6L hyx
  obtain ⟨y0, y1, y2, y3, y4, y5⟩ := cells6L hy
  have hyl := lt_of_heap hyx
  have hyl2 := lt_of_heap hy
  go_wp2_with fail
  try rw [← hY]
  try clear hY
  go_wp2_with fail
  refine (lsame_any (HL1.out.frm0 hFY) ((HLI.out.frm HF1.out (by simp; omega)).frm0 hFY) (HL2.out.frm0 hFY) (Li2.nil _ 0 0) (by decide) (by decide) (-1) (-1) (-1) 1).mono ?_
  rintro e w2 ⟨rfl, hF2⟩
  have HF2 := Lib.hid (hFY.trans hF2)
  clear hF2 hFY
  go_wp2
  go_ret
  have hF := HF1.out.trans HF2.out.nil
  refine ⟨rfl, (HFX.out.trans HFZ.out).nil.trans hF, HM1.out.frm HF2.out (by simp) (by simp), HS.out.nd.frmD hF (by simp; omega), HS.out.laid.frm hF (by simp; omega), HS.out.bnd, HS.out.lo, ?_, HS.out.len⟩
  have := hF.size
  have := HFX.out.size
  have := HFZ.out.size
  omega
end
end Go.Proofs.YticbbfcachnkiaaGreatDoor
