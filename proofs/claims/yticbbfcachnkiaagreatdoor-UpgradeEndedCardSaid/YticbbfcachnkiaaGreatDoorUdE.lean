/- The law's helpers: made, move, decide (by gen_ude.py). -/
import Derived.Test.YticbbfcachnkiaaGreatDoorUdH
namespace Go.Proofs.YticbbfcachnkiaaGreatDoor
open Go.ChangeShapes Go.WideShapes Go.ChangeAt Go.RowKit
set_option linter.unusedVariables false
set_option linter.unusedSimpArgs false
/-- An arena with a latch at its word 0, the nodes of T threads from the word 4 on, and three words behind them. All of it lies in blocks before B. -/
structure Sc (T : Nat) (w : World) (B np p d cc : Nat) (ws : List Int) : Prop where
  mem : MemAt w p d cc ws
  nd : Nd w np 4 T
  laid : Laid w
  bnd : Bnd ws
  lo : 2 ≤ d ∧ 2 ≤ p ∧ 2 ≤ np ∧ np ≠ d
  hi : d < B ∧ p < B ∧ np < B ∧ B ≤ w.heap.size
  len : ws.length = 7 + 6 * T
theorem cells3 {w : World} {b : Nat} {x0 x1 x2 : Value} {t : TypeId} (h : w.heap[b]? = some (.cells #[x0, x1, x2] t (0, 0))) :
    w.cell? ⟨b, 0, none⟩ = some x0 ∧ w.cell? ⟨b, 1, none⟩ = some x1 ∧ w.cell? ⟨b, 2, none⟩ = some x2 := by
  refine ⟨?_, ?_, ?_⟩ <;> rw [cell_of_heap h] <;> rfl
theorem setCells3 {w : World} {b : Nat} {x0 x1 x2 : Value} {t : TypeId} {f : Nat × Nat} (h : w.heap[b]? = some (.cells #[x0, x1, x2] t f)) (y0 y1 y2 : Value) :
    (((w.setCell ⟨b, 0, none⟩ y0).setCell ⟨b, 1, none⟩ y1).setCell ⟨b, 2, none⟩ y2).heap[b]? = some (.cells #[y0, y1, y2] t f) := by
  have := heap_setCell_at (i := 2) y2 (heap_setCell_at (i := 1) y1 (heap_setCell_at (i := 0) y0 h))
  simpa using this
section
variable {w : World} {B T np p d cc : Nat} {ws : List Int}
theorem Sc.frm {D : List Nat} {w' : World} (h : Sc T w B np p d cc ws) (hf : Frm D w w') (hp : p ∉ D) (hd : d ∉ D) (hn : np ∉ D) (h2 : ∀ x ∈ D, 2 ≤ x) : Sc T w' B np p d cc ws :=
  ⟨h.mem.frm hf hp hd, h.nd.frmD hf hn, h.laid.frm hf h2, h.bnd, h.lo, by have := h.hi; have := hf.size; omega, h.len⟩
theorem Sc.frm0 {w' : World} (h : Sc T w B np p d cc ws) (hf : Frm [] w w') : Sc T w' B np p d cc ws := h.frm hf (by simp) (by simp) (by simp) (by simp)
/-- New words, and other blocks from B on. -/
theorem Sc.step {D : List Nat} {w' : World} {ws' : List Int} (h : Sc T w B np p d cc ws) (hf : Frm (d :: D) w w') (hD : ∀ x ∈ D, B ≤ x) (hM : MemAt w' p d cc ws') (hL : Laid w') (hb : Bnd ws') (hl : ws'.length = ws.length) : Sc T w' B np p d cc ws' :=
  ⟨hM, h.nd.frmD hf (by
    intro hx
    rcases List.mem_cons.1 hx with hx | hx
    · exact h.lo.2.2.2 hx
    · have := hD _ hx; have := h.hi; omega), hL, hb, h.lo, by have := h.hi; have := hf.size; omega, hl.trans h.len⟩
set_option maxRecDepth 1000000 in
set_option maxHeartbeats 4000000 in
theorem made_1 (hL : Laid w) :
    Calls Tryz.prog 8 #[.int .i64 1] w (fun e w' => ∃ np p d, Ret (.tuple #[.agg #[.pointer (some ⟨p, 0, none⟩), .pointer (some ⟨np, 0, none⟩), .int .i64 10], .bool true]) (fun w' => Frm [] w w' ∧ Sc 1 w' w'.heap.size np p d 13 (List.replicate 13 0) ∧ w.heap.size ≤ d) e w') := by
  obtain ⟨X, hX⟩ : ∃ X, X = w.alloc (.cells #[.pointer none, .pointer none, .int .i64 0] 27) := ⟨_, rfl⟩
  have hFX : Frm [] w X := by rw [hX]; exact (Frm.refl _ _).alloc _
  have g0 : X.heap[w.heap.size]? = some (.cells #[.pointer none, .pointer none, .int .i64 0] 27 (0, 0)) := by rw [hX]; exact heap_alloc_new _ _
  have HL := Lib.hid hL
  have HFX := Lib.hid hFX
  have G0 := Lib.hid g0
  have HNw : Hid (Calls Tryz.prog 28 #[.int .i64 4, .int .i64 1] X (Ret (.tuple #[.pointer (some ⟨X.heap.size, 0, none⟩), .int .i64 0]) (fun w' => Frm [] X w' ∧ Nd w' X.heap.size 4 1))) := Lib.hid (nodes_new X 4 1 (by decide) (by decide) (by decide))
  have HMw : Hid (∀ w', Calls Tryz.prog 29 #[.int .i64 13] w' (fun e w2 => ∃ p d, Ret (.tuple #[.pointer (some ⟨p, 0, none⟩), .int .i64 0]) (fun w2 => Frm [] w' w2 ∧ MemAt w2 p d 13 (List.replicate 13 0) ∧ w'.heap.size ≤ p ∧ w'.heap.size ≤ d) e w2)) := Lib.hid fun w' => new_ok w' 13 (by decide) (by decide)
  have hs := hL.size
  clear hL hFX g0
  go_enter Tryz.func8, Tryz.ntmps8
  go_wp2_with fail
  rw [← hX]
  clear hX
  refine HNw.out.mono ?_
  rintro e w1 ⟨rfl, hF1, hN1⟩
  have HF1 := Lib.hid hF1
  have HN1 := Lib.hid hN1
  clear hF1 hN1 HNw
  go_wp2_with fail
  refine (HMw.out w1).mono ?_
  rintro e w2 ⟨p, d, rfl, hF, hM, hp, hd⟩
  have hg := (HF1.out.trans hF).heap G0.out (by simp)
  obtain ⟨q0, q1, q2⟩ := cells3 hg
  have z0 : w2.frozen? ⟨w.heap.size, 0, none⟩ = false := frozen_of_heap hg
  have z1 : w2.frozen? ⟨w.heap.size, 1, none⟩ = false := frozen_of_heap hg
  have z2 : w2.frozen? ⟨w.heap.size, 2, none⟩ = false := frozen_of_heap hg
  have hl := lt_of_heap hg
  have HM := Lib.hid hM
  have HF := Lib.hid hF
  have HG := Lib.hid hg
  have hs1 := HFX.out.size
  have hs2 := HF1.out.size
  have hs0 := lt_of_heap G0.out
  clear hM hF hg HMw
  go_wp2_with fail
  have hW0 := setCells3 HG.out (.pointer (some ⟨p, 0, none⟩)) (.pointer (some ⟨X.heap.size, 0, none⟩)) (.int .i64 10)
  have hWF := (((Frm.refl [w.heap.size] w2).setCell ⟨w.heap.size, 0, none⟩ (.pointer (some ⟨p, 0, none⟩)) (.inl (by simp))).setCell ⟨w.heap.size, 1, none⟩ (.pointer (some ⟨X.heap.size, 0, none⟩)) (.inl (by simp))).setCell ⟨w.heap.size, 2, none⟩ (.int .i64 10) (.inl (by simp))
  generalize (((w2.setCell ⟨w.heap.size, 0, none⟩ (.pointer (some ⟨p, 0, none⟩))).setCell ⟨w.heap.size, 1, none⟩ (.pointer (some ⟨X.heap.size, 0, none⟩))).setCell ⟨w.heap.size, 2, none⟩ (.int .i64 10)) = Y at hW0 hWF ⊢
  obtain ⟨y0, y1, y2⟩ := cells3 hW0
  have hFW := HFX.out.trans (HF1.out.trans HF.out)
  have hFY : Frm [] w Y := hFW.trans_new hWF (fun x hx => .inr (by simp at hx; omega))
  have hNl := HN1.out.lt
  have hpl := HM.out.plt
  have hdl := HM.out.dlt
  have hYs := hWF.size
  have hFs := HF.out.size
  refine bodyPost_ret (v := .tuple #[.agg #[.pointer (some ⟨p, 0, none⟩), .pointer (some ⟨X.heap.size, 0, none⟩), .int .i64 10], .bool true]) (by simp [results, Tryz.results8, go_sem, y0, y1, y2]) rfl ⟨X.heap.size, p, d, rfl, hFY, ⟨HM.out.frm hWF (by simp; omega) (by simp; omega), (HN1.out.frm HF.out).frmD hWF (by simp; omega), HL.out.frm0 hFY, ?_, by omega, by omega, by simp⟩, by omega⟩
  intro x hx
  obtain rfl := List.eq_of_mem_replicate hx
  decide
set_option maxRecDepth 1000000 in
set_option maxHeartbeats 4000000 in
theorem made_2 (hL : Laid w) :
    Calls Tryz.prog 8 #[.int .i64 2] w (fun e w' => ∃ np p d, Ret (.tuple #[.agg #[.pointer (some ⟨p, 0, none⟩), .pointer (some ⟨np, 0, none⟩), .int .i64 16], .bool true]) (fun w' => Frm [] w w' ∧ Sc 2 w' w'.heap.size np p d 19 (List.replicate 19 0) ∧ w.heap.size ≤ d) e w') := by
  obtain ⟨X, hX⟩ : ∃ X, X = w.alloc (.cells #[.pointer none, .pointer none, .int .i64 0] 27) := ⟨_, rfl⟩
  have hFX : Frm [] w X := by rw [hX]; exact (Frm.refl _ _).alloc _
  have g0 : X.heap[w.heap.size]? = some (.cells #[.pointer none, .pointer none, .int .i64 0] 27 (0, 0)) := by rw [hX]; exact heap_alloc_new _ _
  have HL := Lib.hid hL
  have HFX := Lib.hid hFX
  have G0 := Lib.hid g0
  have HNw : Hid (Calls Tryz.prog 28 #[.int .i64 4, .int .i64 2] X (Ret (.tuple #[.pointer (some ⟨X.heap.size, 0, none⟩), .int .i64 0]) (fun w' => Frm [] X w' ∧ Nd w' X.heap.size 4 2))) := Lib.hid (nodes_new X 4 2 (by decide) (by decide) (by decide))
  have HMw : Hid (∀ w', Calls Tryz.prog 29 #[.int .i64 19] w' (fun e w2 => ∃ p d, Ret (.tuple #[.pointer (some ⟨p, 0, none⟩), .int .i64 0]) (fun w2 => Frm [] w' w2 ∧ MemAt w2 p d 19 (List.replicate 19 0) ∧ w'.heap.size ≤ p ∧ w'.heap.size ≤ d) e w2)) := Lib.hid fun w' => new_ok w' 19 (by decide) (by decide)
  have hs := hL.size
  clear hL hFX g0
  go_enter Tryz.func8, Tryz.ntmps8
  go_wp2_with fail
  rw [← hX]
  clear hX
  refine HNw.out.mono ?_
  rintro e w1 ⟨rfl, hF1, hN1⟩
  have HF1 := Lib.hid hF1
  have HN1 := Lib.hid hN1
  clear hF1 hN1 HNw
  go_wp2_with fail
  refine (HMw.out w1).mono ?_
  rintro e w2 ⟨p, d, rfl, hF, hM, hp, hd⟩
  have hg := (HF1.out.trans hF).heap G0.out (by simp)
  obtain ⟨q0, q1, q2⟩ := cells3 hg
  have z0 : w2.frozen? ⟨w.heap.size, 0, none⟩ = false := frozen_of_heap hg
  have z1 : w2.frozen? ⟨w.heap.size, 1, none⟩ = false := frozen_of_heap hg
  have z2 : w2.frozen? ⟨w.heap.size, 2, none⟩ = false := frozen_of_heap hg
  have hl := lt_of_heap hg
  have HM := Lib.hid hM
  have HF := Lib.hid hF
  have HG := Lib.hid hg
  have hs1 := HFX.out.size
  have hs2 := HF1.out.size
  have hs0 := lt_of_heap G0.out
  clear hM hF hg HMw
  go_wp2_with fail
  have hW0 := setCells3 HG.out (.pointer (some ⟨p, 0, none⟩)) (.pointer (some ⟨X.heap.size, 0, none⟩)) (.int .i64 16)
  have hWF := (((Frm.refl [w.heap.size] w2).setCell ⟨w.heap.size, 0, none⟩ (.pointer (some ⟨p, 0, none⟩)) (.inl (by simp))).setCell ⟨w.heap.size, 1, none⟩ (.pointer (some ⟨X.heap.size, 0, none⟩)) (.inl (by simp))).setCell ⟨w.heap.size, 2, none⟩ (.int .i64 16) (.inl (by simp))
  generalize (((w2.setCell ⟨w.heap.size, 0, none⟩ (.pointer (some ⟨p, 0, none⟩))).setCell ⟨w.heap.size, 1, none⟩ (.pointer (some ⟨X.heap.size, 0, none⟩))).setCell ⟨w.heap.size, 2, none⟩ (.int .i64 16)) = Y at hW0 hWF ⊢
  obtain ⟨y0, y1, y2⟩ := cells3 hW0
  have hFW := HFX.out.trans (HF1.out.trans HF.out)
  have hFY : Frm [] w Y := hFW.trans_new hWF (fun x hx => .inr (by simp at hx; omega))
  have hNl := HN1.out.lt
  have hpl := HM.out.plt
  have hdl := HM.out.dlt
  have hYs := hWF.size
  have hFs := HF.out.size
  refine bodyPost_ret (v := .tuple #[.agg #[.pointer (some ⟨p, 0, none⟩), .pointer (some ⟨X.heap.size, 0, none⟩), .int .i64 16], .bool true]) (by simp [results, Tryz.results8, go_sem, y0, y1, y2]) rfl ⟨X.heap.size, p, d, rfl, hFY, ⟨HM.out.frm hWF (by simp; omega) (by simp; omega), (HN1.out.frm HF.out).frmD hWF (by simp; omega), HL.out.frm0 hFY, ?_, by omega, by omega, by simp⟩, by omega⟩
  intro x hx
  obtain rfl := List.eq_of_mem_replicate hx
  decide
end
section
variable {w : World} {B T np p d cc : Nat} {ws : List Int}
set_option maxRecDepth 1000000 in
set_option maxHeartbeats 4000000 in
theorem move_any (h : Nd w np 4 T) (o : Int) (hB : B ≤ w.heap.size) {wd : Nat} (wdf : wd + 3 ≤ 65536) (wdo : wd + 3 ≤ 4 ∨ 4 + 6 * T ≤ wd) (t : Nat) (ht : t < T) (k md : Int) (hk : k = 1 ∨ k = 2) (hmd : k = 2 ∨ md = 1 ∨ md = 2 ∨ md = 3) :
    Calls Tryz.prog 11 #[.agg #[.pointer (some ⟨p, 0, none⟩), .pointer (some ⟨np, 0, none⟩), .int .i64 o], .int .i64 (wd : Int), .int .i64 (t : Int), .int .i64 k, .int .i64 md] w
      (fun e w' => ∃ P, Ret (.iface 76 (.pointer (some ⟨(Part.q P), 0, none⟩))) (fun w' => Frm [] w w' ∧ PartAt w' B T 0 P ∧ P.m = Mv.new 4 wd t (k - 1) (if k = 2 then 0 else md) ∧ P.g = Gs.new ∧ ∀ x ∈ P.bl, w.heap.size ≤ x) e w') := by
  have T64 := h.t64
  obtain ⟨X, hX⟩ : ∃ X, X = w.alloc (.cells #[.pointer (some ⟨p, 0, none⟩), .pointer (some ⟨np, 0, none⟩), .int .i64 o] 27) := ⟨_, rfl⟩
  have hFX : Frm [] w X := by rw [hX]; exact (Frm.refl _ _).alloc _
  have hb0 : X.heap[w.heap.size]? = some (.cells #[.pointer (some ⟨p, 0, none⟩), .pointer (some ⟨np, 0, none⟩), .int .i64 o] 27 (0, 0)) := by rw [hX]; exact heap_alloc_new _ _
  have HFX := Lib.hid hFX
  have HN := Lib.hid (h.frm hFX)
  obtain ⟨c0, c1, c2⟩ := cells3 hb0
  have hXl := lt_of_heap hb0
  have hsX := hFX.size
  clear h hFX hb0
  rcases hk with rfl | rfl
  · have H := Lib.hid (newGet HN.out (by omega) wdf wdo t ht md (by omega))
    go_enter Tryz.func11, Tryz.ntmps11
    go_wp2_with fail
    rw [← hX]
    clear hX
    go_wp2_with fail
    refine H.out.mono ?_
    rintro e w1 ⟨q, qe, ql, rfl, hF1, hG1, hG2, hG3, hG4, hG5, hG6⟩
    have HP := Lib.hid (part_new (B := B) hF1 (Nat.le_trans hB hsX) ht (by decide) (by omega) hG1 hG2 hG3 hG4 hG5 hG6)
    have HF1 := Lib.hid hF1
    clear hF1 hG1 hG2 hG3 hG4 hG5 hG6
    go_wp2
    go_ret
    exact ⟨_, rfl, HFX.out.trans HF1.out, HP.out.1, rfl, rfl, fun x hx => Nat.le_trans hsX (HP.out.2 x hx)⟩
  · have H := Lib.hid (newBack HN.out (by omega) wdf wdo t ht)
    go_enter Tryz.func11, Tryz.ntmps11
    go_wp2_with fail
    rw [← hX]
    clear hX
    go_wp2_with fail
    refine H.out.mono ?_
    rintro e w1 ⟨q, qe, ql, rfl, hF1, hG1, hG2, hG3, hG4, hG5, hG6⟩
    have HP := Lib.hid (part_new (B := B) hF1 (Nat.le_trans hB hsX) ht (by decide) (by decide) hG1 hG2 hG3 hG4 hG5 hG6)
    have HF1 := Lib.hid hF1
    clear hF1 hG1 hG2 hG3 hG4 hG5 hG6
    go_wp2
    go_ret
    exact ⟨_, rfl, HFX.out.trans HF1.out, HP.out.1, rfl, rfl, fun x hx => Nat.le_trans hsX (HP.out.2 x hx)⟩
set_option maxRecDepth 1000000 in
set_option maxHeartbeats 4000000 in
theorem ldecide {N : Nat} {L C : Part} (h : Nd w np 4 T) (o : Int) (t : Nat) (ht : t < T) (hL : PartAt w B T N L) (hC : PartAt w B T N C) (hlw : L.m.wk = []) (hcw : C.m.wk = []) (hB : B ≤ w.heap.size) :
    Calls Tryz.prog 13 #[.agg #[.pointer (some ⟨p, 0, none⟩), .pointer (some ⟨np, 0, none⟩), .int .i64 o], .int .i64 (t : Int), .iface 76 (.pointer (some ⟨L.q, 0, none⟩)), .iface 76 (.pointer (some ⟨C.q, 0, none⟩))] w
      (fun e w' => ∃ D P, Ret (.pointer (some ⟨D, 0, none⟩)) (fun w' => Frm [] w w' ∧ DAt w' B T N D P (Ds.new t (L.m, L.g) (C.m, C.g)) ∧ w.heap.size ≤ D ∧ ∀ i, i < 5 → ∀ x ∈ (P i).bl, w.heap.size ≤ x) e w') := by
  obtain ⟨X, hX⟩ : ∃ X, X = w.alloc (.cells #[.pointer (some ⟨p, 0, none⟩), .pointer (some ⟨np, 0, none⟩), .int .i64 o] 27) := ⟨_, rfl⟩
  have hFX : Frm [] w X := by rw [hX]; exact (Frm.refl _ _).alloc _
  have hb0 : X.heap[w.heap.size]? = some (.cells #[.pointer (some ⟨p, 0, none⟩), .pointer (some ⟨np, 0, none⟩), .int .i64 o] 27 (0, 0)) := by rw [hX]; exact heap_alloc_new _ _
  have HFX := Lib.hid hFX
  have H := Lib.hid (decide_ok (h.frm hFX) t ht (hL.frm0 hFX) (hC.frm0 hFX) hlw hcw (Nat.le_trans hB hFX.size))
  obtain ⟨c0, c1, c2⟩ := cells3 hb0
  have hXl := lt_of_heap hb0
  have hsX := hFX.size
  clear h hFX hb0 hL hC
  go_enter Tryz.func13, Tryz.ntmps13
  go_wp2_with fail
  rw [← hX]
  clear hX
  go_wp2_with fail
  refine H.out.mono ?_
  rintro e w1 ⟨D, P, rfl, hF1, hD, h1, h2⟩
  have HF1 := Lib.hid hF1
  have HD := Lib.hid hD
  have HH1 := Lib.hid h1
  have HH2 := Lib.hid h2
  clear hF1 hD h1 h2
  go_wp2
  go_ret
  exact ⟨D, P, rfl, HFX.out.trans HF1.out, HD.out, Nat.le_trans hsX HH1.out, fun i hi x hx => Nat.le_trans hsX (HH2.out i hi x hx)⟩
end
end Go.Proofs.YticbbfcachnkiaaGreatDoor
