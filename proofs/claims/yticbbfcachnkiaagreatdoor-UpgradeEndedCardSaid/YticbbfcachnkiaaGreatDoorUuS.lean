/- Package latch: Look. -/
import Derived.Test.YticbbfcachnkiaaGreatDoorUuQ
namespace Go.Proofs.YticbbfcachnkiaaGreatDoor
open Go.ChangeShapes Go.WideShapes Go.ChangeAt Go.RowKit
set_option linter.unusedVariables false
set_option linter.unusedSimpArgs false

theorem catch_idle3 (a1 a2 : Value) (w : World) :
    CallsD Tryz.prog 64 #[a1, a2] .returning w fun e u' w' => e = .returned (.tuple #[]) ∧ u' = .returning ∧ w' = w := by
  refine callsD_of_wpS Tryz.func64 rfl fun c₀ cs hu => ?_
  apply wpS_seq
  apply wpS_region
  simp [wpOpsS, go_sem, recoverD, hu, Tryz.ntmps64, Exit.thenS]
  refine wpS_cond (t := false) (by simp [Act.eval, Array.replicate]) ?_
  simp only [Bool.false_eq_true, if_false]
  refine wpS_of_wp (wp_skip ?_)
  cases c₀
  simp_all [bodyPostS, results, Tryz.results64]
section
variable {w : World} {p d c np nb wd T : Nat} {ws : List Int}
set_option maxRecDepth 1000000 in
set_option maxHeartbeats 4000000 in
theorem Look_any (hM : MemAt w p d c ws) (hN : Nd w np nb T) (hL : Laid w) (hd2 : 2 ≤ d) (hnd : np ≠ d) (fit : nb + 6 * T ≤ ws.length) (wdf : wd + 3 ≤ 65536) (wdo : wd + 3 ≤ nb ∨ nb + 6 * T ≤ wd) (hwl : ws.length ≤ 65536) (hws : ∀ (i : Nat) (x : Int), ws[i]? = some x → 0 ≤ x ∧ x < 18446744073709551616) (w0 w1 : Nat) (h0 : ws[wd + 1]? = some (w0 : Int)) (h1 : ws[wd + 2]? = some (w1 : Int)) (hT : 0 < T) :
    Calls Tryz.prog 47 #[.iface 24 (.pointer (some ⟨p, 0, none⟩)), .pointer (some ⟨np, 0, none⟩), .int .i64 (wd : Int)] w (lkRes (lkR T nb ws w0 w1) w.heap.size d p c ws w) := by
  have hmf : ∀ (fn : Fn) (first cap : Array Value) (w : World), (Instr.makeFunc fn first cap).run Tryz.prog w = .ok (.func fn first cap) w := fun _ _ _ _ => rfl
  have hd := hM.dlt
  have hp := hM.plt
  obtain ⟨X, hX⟩ : ∃ X, X = (w.alloc (.cells #[.slice none 0 0, .int .i64 0, .int .i64 0, .int .i64 0, .int .i64 0, .slice none 0 0] 118)).alloc (.cells #[.int .i64 0] 64) := ⟨_, rfl⟩
  have hFX : Frm [] w X := by rw [hX]; exact ((Frm.refl _ _).alloc _).alloc _
  have hb0 : X.heap[w.heap.size]? = some (.cells #[.slice none 0 0, .int .i64 0, .int .i64 0, .int .i64 0, .int .i64 0, .slice none 0 0] 118 (0, 0)) := by rw [hX]; exact heap_alloc_old _ (heap_alloc_new _ _)
  have hb1 : X.heap[w.heap.size + 1]? = some (.cells #[.int .i64 0] 64 (0, 0)) := by rw [hX]; exact heap_alloc_at _ (by simp)
  have HTH := Lib.hid (threads_nd (hN.frm hFX))
  have HMB := Lib.hid (mayBe_0 (hN.frm hFX) (by omega) wdf wdo)
  have HLK := Lib.hid (look_any (hM.frm hFX (by simp) (by simp)) (hN.frm hFX) (hL.frm0 hFX) hd2 hnd fit hws w0 w1 wdf h0 h1)
  have e0 : ((T : Int) == 0) = false := by simp; omega
  have HFX := Lib.hid hFX
  have HB0 := Lib.hid hb0
  have HB1 := Lib.hid hb1
  clear hM hN hL hws h0 h1 hFX hb0 hb1
  go_enter_defers Tryz.func47, Tryz.ntmps47
  go_wp2_with fail
  rw [← hX]
  clear hX
  refine HTH.out.mono ?_
  rintro e w' ⟨rfl, rfl⟩
  go_wp2_with fail
  refine HMB.out.mono ?_
  rintro e w' ⟨rfl, rfl⟩
  go_wp2_with fail
  refine HLK.out.mono ?_
  generalize hr : lkR T nb ws w0 w1 = r
  have HR := Lib.hid hr
  clear hr
  cases r with
  | some sl =>
    obtain ⟨s, l⟩ := sl
    rintro e w3 ⟨a, n, k, a2, n2, k2, rfl, hF3, hM3, hR1, hR2⟩
    have hdX : ∀ x, w.heap.size ≤ x → x ∉ [d] := fun x hx => by simp; omega
    have g0 := (hF3.block w.heap.size (lt_of_heap HB0.out) (hdX _ (by omega))).trans HB0.out
    have g1 := (hF3.block (w.heap.size + 1) (lt_of_heap HB1.out) (hdX _ (by omega))).trans HB1.out
    obtain ⟨q0, q1, q2, q3, q4, q5⟩ := cells6L g0
    have q6 : w3.cell? ⟨w.heap.size + 1, 0, none⟩ = some (.int .i64 0) := by rw [cell_of_heap g1]; rfl
    have z0 : w3.frozen? ⟨w.heap.size, 0, none⟩ = false := frozen_of_heap g0
    have z1 : w3.frozen? ⟨w.heap.size, 1, none⟩ = false := frozen_of_heap g0
    have z2 : w3.frozen? ⟨w.heap.size, 2, none⟩ = false := frozen_of_heap g0
    have z3 : w3.frozen? ⟨w.heap.size, 3, none⟩ = false := frozen_of_heap g0
    have z4 : w3.frozen? ⟨w.heap.size, 4, none⟩ = false := frozen_of_heap g0
    have z5 : w3.frozen? ⟨w.heap.size, 5, none⟩ = false := frozen_of_heap g0
    have z6 : w3.frozen? ⟨w.heap.size + 1, 0, none⟩ = false := frozen_of_heap g1
    have hl0 := lt_of_heap g0
    have hl1 := lt_of_heap g1
    have G0 := Lib.hid g0
    have G1 := Lib.hid g1
    have HF3 := Lib.hid hF3
    have HM3 := Lib.hid hM3
    have hX2 : w.heap.size + 1 < X.heap.size := lt_of_heap HB1.out
    clear g0 g1 hF3 hM3
    have HR1 := Lib.hid hR1
    have HR2 := Lib.hid hR2
    clear hR1 hR2
    go_wp2
    have hW0 := heap_setCell_far ⟨w.heap.size + 1, 0, none⟩ (.int .i64 0) (by simp) (setCells6 G0.out (.slice a n k) (.int .i64 s.up) (.int .i64 s.ex) (.int .i64 s.wa) (.int .i64 s.gr) (.slice a2 n2 k2))
    have hW1 : ((((((((w3.setCell ⟨w.heap.size, 0, none⟩ (.slice a n k)).setCell ⟨w.heap.size, 1, none⟩ (.int .i64 s.up)).setCell ⟨w.heap.size, 2, none⟩ (.int .i64 s.ex)).setCell ⟨w.heap.size, 3, none⟩ (.int .i64 s.wa)).setCell ⟨w.heap.size, 4, none⟩ (.int .i64 s.gr)).setCell ⟨w.heap.size, 5, none⟩ (.slice a2 n2 k2)).setCell ⟨w.heap.size + 1, 0, none⟩ (.int .i64 0))).heap[w.heap.size + 1]? = some (.cells #[.int .i64 0] 64 (0, 0)) := heap_setCell_at _ (heap_setCell_far _ _ (by simp) (heap_setCell_far _ _ (by simp) (heap_setCell_far _ _ (by simp) (heap_setCell_far _ _ (by simp) (heap_setCell_far _ _ (by simp) (heap_setCell_far _ _ (by simp) G1.out))))))
    have hWF := (((Frm.refl [w.heap.size, w.heap.size + 1] w3).set6 w.heap.size (.slice a n k) (.int .i64 s.up) (.int .i64 s.ex) (.int .i64 s.wa) (.int .i64 s.gr) (.slice a2 n2 k2) (.inl (by simp))).setCell ⟨w.heap.size + 1, 0, none⟩ (.int .i64 0) (.inl (by simp)))
    generalize (((((((w3.setCell ⟨w.heap.size, 0, none⟩ (.slice a n k)).setCell ⟨w.heap.size, 1, none⟩ (.int .i64 s.up)).setCell ⟨w.heap.size, 2, none⟩ (.int .i64 s.ex)).setCell ⟨w.heap.size, 3, none⟩ (.int .i64 s.wa)).setCell ⟨w.heap.size, 4, none⟩ (.int .i64 s.gr)).setCell ⟨w.heap.size, 5, none⟩ (.slice a2 n2 k2)).setCell ⟨w.heap.size + 1, 0, none⟩ (.int .i64 0)) = W at hW0 hW1 hWF ⊢
    obtain ⟨y0, y1, y2, y3, y4, y5⟩ := cells6L hW0
    have y6 : W.cell? ⟨w.heap.size + 1, 0, none⟩ = some (.int .i64 0) := by rw [cell_of_heap hW1]; rfl
    have hFW : Frm [d] w W := (HFX.out.nil.trans HF3.out).trans_new hWF (fun x hx => .inr (by simp at hx; omega))
    have hMW := HM3.out.frm hWF (by simp; omega) (by simp; omega)
    refine leaves_cons (f := 64) (args := #[.pointer (some ⟨w.heap.size, 0, none⟩), .pointer (some ⟨w.heap.size + 1, 0, none⟩)]) (by simp) (by simp [go_sem]) ?_
    refine (catch_idle3 _ _ _).mono ?_
    rintro e u' w'' ⟨rfl, rfl, rfl⟩
    simp [Leaves, settle, results, Tryz.results47, go_sem, y0, y1, y2, y3, y4, y5, y6]
    rw [HR.out]
    have hR1 := HR1.out.frm hWF (fun x hx => by have := HR1.out.blk x hx; simp; omega)
    have hR2 := HR2.out.frm hWF (fun x hx => by have := HR2.out.blk x hx; simp; omega)
    exact ⟨a, n, k, a2, n2, k2, rfl, hFW, hMW, ⟨own_low hR1.1 (by omega), hR1.2⟩, ⟨own_low hR2.1 (by omega), hR2.2⟩⟩
  | none =>
    rintro e w3 ⟨rfl, hF3, hM3⟩
    have hdX : ∀ x, w.heap.size ≤ x → x ∉ [d] := fun x hx => by simp; omega
    have g0 := (hF3.block w.heap.size (lt_of_heap HB0.out) (hdX _ (by omega))).trans HB0.out
    have g1 := (hF3.block (w.heap.size + 1) (lt_of_heap HB1.out) (hdX _ (by omega))).trans HB1.out
    obtain ⟨q0, q1, q2, q3, q4, q5⟩ := cells6L g0
    have q6 : w3.cell? ⟨w.heap.size + 1, 0, none⟩ = some (.int .i64 0) := by rw [cell_of_heap g1]; rfl
    have z0 : w3.frozen? ⟨w.heap.size, 0, none⟩ = false := frozen_of_heap g0
    have z1 : w3.frozen? ⟨w.heap.size, 1, none⟩ = false := frozen_of_heap g0
    have z2 : w3.frozen? ⟨w.heap.size, 2, none⟩ = false := frozen_of_heap g0
    have z3 : w3.frozen? ⟨w.heap.size, 3, none⟩ = false := frozen_of_heap g0
    have z4 : w3.frozen? ⟨w.heap.size, 4, none⟩ = false := frozen_of_heap g0
    have z5 : w3.frozen? ⟨w.heap.size, 5, none⟩ = false := frozen_of_heap g0
    have z6 : w3.frozen? ⟨w.heap.size + 1, 0, none⟩ = false := frozen_of_heap g1
    have hl0 := lt_of_heap g0
    have hl1 := lt_of_heap g1
    have G0 := Lib.hid g0
    have G1 := Lib.hid g1
    have HF3 := Lib.hid hF3
    have HM3 := Lib.hid hM3
    have hX2 : w.heap.size + 1 < X.heap.size := lt_of_heap HB1.out
    clear g0 g1 hF3 hM3
    go_wp2
    have hW0 := heap_setCell_far ⟨w.heap.size + 1, 0, none⟩ (.int .i64 12) (by simp) (setCells6 G0.out (.slice none 0 0) (.int .i64 0) (.int .i64 0) (.int .i64 0) (.int .i64 0) (.slice none 0 0))
    have hW1 : ((((((((w3.setCell ⟨w.heap.size, 0, none⟩ (.slice none 0 0)).setCell ⟨w.heap.size, 1, none⟩ (.int .i64 0)).setCell ⟨w.heap.size, 2, none⟩ (.int .i64 0)).setCell ⟨w.heap.size, 3, none⟩ (.int .i64 0)).setCell ⟨w.heap.size, 4, none⟩ (.int .i64 0)).setCell ⟨w.heap.size, 5, none⟩ (.slice none 0 0)).setCell ⟨w.heap.size + 1, 0, none⟩ (.int .i64 12))).heap[w.heap.size + 1]? = some (.cells #[.int .i64 12] 64 (0, 0)) := heap_setCell_at _ (heap_setCell_far _ _ (by simp) (heap_setCell_far _ _ (by simp) (heap_setCell_far _ _ (by simp) (heap_setCell_far _ _ (by simp) (heap_setCell_far _ _ (by simp) (heap_setCell_far _ _ (by simp) G1.out))))))
    have hWF := (((Frm.refl [w.heap.size, w.heap.size + 1] w3).set6 w.heap.size (.slice none 0 0) (.int .i64 0) (.int .i64 0) (.int .i64 0) (.int .i64 0) (.slice none 0 0) (.inl (by simp))).setCell ⟨w.heap.size + 1, 0, none⟩ (.int .i64 12) (.inl (by simp)))
    generalize (((((((w3.setCell ⟨w.heap.size, 0, none⟩ (.slice none 0 0)).setCell ⟨w.heap.size, 1, none⟩ (.int .i64 0)).setCell ⟨w.heap.size, 2, none⟩ (.int .i64 0)).setCell ⟨w.heap.size, 3, none⟩ (.int .i64 0)).setCell ⟨w.heap.size, 4, none⟩ (.int .i64 0)).setCell ⟨w.heap.size, 5, none⟩ (.slice none 0 0)).setCell ⟨w.heap.size + 1, 0, none⟩ (.int .i64 12)) = W at hW0 hW1 hWF ⊢
    obtain ⟨y0, y1, y2, y3, y4, y5⟩ := cells6L hW0
    have y6 : W.cell? ⟨w.heap.size + 1, 0, none⟩ = some (.int .i64 12) := by rw [cell_of_heap hW1]; rfl
    have hFW : Frm [d] w W := (HFX.out.nil.trans HF3.out).trans_new hWF (fun x hx => .inr (by simp at hx; omega))
    have hMW := HM3.out.frm hWF (by simp; omega) (by simp; omega)
    refine leaves_cons (f := 64) (args := #[.pointer (some ⟨w.heap.size, 0, none⟩), .pointer (some ⟨w.heap.size + 1, 0, none⟩)]) (by simp) (by simp [go_sem]) ?_
    refine (catch_idle3 _ _ _).mono ?_
    rintro e u' w'' ⟨rfl, rfl, rfl⟩
    simp [Leaves, settle, results, Tryz.results47, go_sem, y0, y1, y2, y3, y4, y5, y6]
    rw [HR.out]
    exact ⟨rfl, hFW, hMW⟩
end
end Go.Proofs.YticbbfcachnkiaaGreatDoor
