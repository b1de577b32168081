/- Package latch: look. -/
import Derived.Test.YticbbfcachnkiaaGreatDoorUuP
import Derived.Test.YticbbfcachnkiaaGreatDoorUuW
namespace Go.Proofs.YticbbfcachnkiaaGreatDoor
open Go.ChangeShapes Go.WideShapes Go.ChangeAt Go.RowKit
set_option linter.unusedVariables false
set_option linter.unusedSimpArgs false

theorem own_low {B B' t sz m : Nat} {w : World} {v : Value} {xs : List Value} (h : w.ownsRow B t sz v m xs) (hb : B' ≤ B) : w.ownsRow B' t sz v m xs := by
  obtain ⟨h0, hh⟩ := h
  refine ⟨h0, ?_⟩
  rcases hh with hh | ⟨g, cap, cur, hv, hg, r⟩
  · exact .inl hh
  · exact .inr ⟨g, cap, cur, hv, Nat.le_trans hb hg, r⟩
theorem queue_none {w : World} {m n : Value} {la : Int} : Calls Tryz.prog 92 #[m, n, .int .i64 (-1), .int .i64 la] w (Ret (.tuple #[.slice none 0 0, .int .i64 0]) (fun w' => w = w')) := by
  go_enter Tryz.func92, Tryz.ntmps92
  go_wp2
  go_ret2
  exact ⟨rfl, rfl⟩
/-- What two words and the queue say. -/
def lkR (T nb : Nat) (ws : List Int) (w0 w1 : Nat) : Option (LS × List (Int × Int)) :=
  if rdB T w0 w1 = true then
    if (rdLS w0 w1).fi = -1 then some (rdLS w0 w1, [])
    else (qL T nb ws (rdLS w0 w1).la T (rdLS w0 w1).fi).map (fun l => (rdLS w0 w1, l))
  else none
/-- What look returns. -/
def lkRes (r : Option (LS × List (Int × Int))) (B d p c : Nat) (ws : List Int) (w : World) (e : Ending) (w' : World) : Prop :=
  match r with
  | some (s, l) => ∃ a n k a2 n2 k2, Ret (.tuple #[.agg #[.slice a n k, .int .i64 s.up, .int .i64 s.ex, .int .i64 s.wa, .int .i64 s.gr, .slice a2 n2 k2], .int .i64 0]) (fun w' => Frm [d] w w' ∧ MemAt w' p d c ws ∧ Row .i64 3 B w' a n k (bitsL s.sh) ∧ Row2 B w' a2 n2 k2 l) e w'
  | none => Ret (.tuple #[.agg #[.slice none 0 0, .int .i64 0, .int .i64 0, .int .i64 0, .int .i64 0, .slice none 0 0], .int .i64 12]) (fun w' => Frm [d] w w' ∧ MemAt w' p d c ws) e w'
section
variable {w : World} {p d c np nb T wd : Nat} {ws : List Int}
theorem queue_all (hM : MemAt w p d c ws) (hN : Nd w np nb T) (hnd : np ≠ d) (fit : nb + 6 * T ≤ ws.length) (hws : ∀ (i : Nat) (x : Int), ws[i]? = some x → 0 ≤ x ∧ x < 18446744073709551616) (fi la : Int) (hfl : (fi = -1 ∧ la = -1) ∨ (isL T fi = true ∧ isL T la = true)) :
    Calls Tryz.prog 92 #[.iface 24 (.pointer (some ⟨p, 0, none⟩)), .pointer (some ⟨np, 0, none⟩), .int .i64 fi, .int .i64 la] w (qRes (if fi = -1 then some [] else qL T nb ws la T fi) w.heap.size d p c ws w) := by
  rcases hfl with ⟨rfl, -⟩ | ⟨h, -⟩
  · rw [if_pos rfl]
    refine queue_none.mono ?_
    rintro e w' ⟨rfl, rfl⟩
    exact ⟨none, 0, 0, rfl, Frm.refl _ _, hM, Row2.nil _ _⟩
  · have := isL_le h
    rw [if_neg (by omega)]
    exact queue_any hM hN hnd fit hws fi la h
set_option maxRecDepth 1000000 in
set_option maxHeartbeats 4000000 in
theorem look_any (hM : MemAt w p d c ws) (hN : Nd w np nb T) (hL : Laid w) (hd2 : 2 ≤ d) (hnd : np ≠ d) (fit : nb + 6 * T ≤ ws.length) (hws : ∀ (i : Nat) (x : Int), ws[i]? = some x → 0 ≤ x ∧ x < 18446744073709551616) (w0 w1 : Nat) (wdf : wd + 3 ≤ 65536) (h0 : ws[wd + 1]? = some (w0 : Int)) (h1 : ws[wd + 2]? = some (w1 : Int)) :
    Calls Tryz.prog 65 #[.iface 24 (.pointer (some ⟨p, 0, none⟩)), .pointer (some ⟨np, 0, none⟩), .int .i64 (wd : Int)] w (lkRes (lkR T nb ws w0 w1) w.heap.size d p c ws w) := by
  have hd := hM.dlt
  have hp := hM.plt
  have hm := m_load p
  have hn := n_load p
  have HM := Lib.hid hM
  have HN := Lib.hid hN
  have HL := Lib.hid hL
  have HWS := Lib.hid hws
  obtain ⟨x1, hx1⟩ : ∃ x, x = wd + 1 := ⟨_, rfl⟩
  obtain ⟨x2, hx2⟩ : ∃ x, x = wd + 2 := ⟨_, rfl⟩
  rw [← hx1] at h0
  rw [← hx2] at h1
  have HX0 := Lib.hid h0
  have HX1 := Lib.hid h1
  obtain ⟨ha1, hb1, hc1⟩ := wr_wd (n := wd) (x := x1) 1 (by omega) (by omega)
  obtain ⟨ha2, hb2, hc2⟩ := wr_wd (n := x1) (x := x2) 1 (by omega) (by omega)
  clear hx1 hx2
  clear hM hN hL hws h0 h1
  go_enter Tryz.func65, Tryz.ntmps65
  go_wp2_with fail
  have f0 : Frm [] w ((w.alloc (.cells #[.slice none 0 0, .int .i64 0, .int .i64 0, .int .i64 0, .int .i64 0, .slice none 0 0] 118)).alloc (.cells #[.int .u64 0, .int .u64 0] 128)) := ((Frm.refl _ _).alloc _).alloc _
  have b0 : ((w.alloc (.cells #[.slice none 0 0, .int .i64 0, .int .i64 0, .int .i64 0, .int .i64 0, .slice none 0 0] 118)).alloc (.cells #[.int .u64 0, .int .u64 0] 128)).heap[w.heap.size]? = some (.cells #[.slice none 0 0, .int .i64 0, .int .i64 0, .int .i64 0, .int .i64 0, .slice none 0 0] 118 (0, 0)) := heap_alloc_old _ (heap_alloc_new _ _)
  have b1 : ((w.alloc (.cells #[.slice none 0 0, .int .i64 0, .int .i64 0, .int .i64 0, .int .i64 0, .slice none 0 0] 118)).alloc (.cells #[.int .u64 0, .int .u64 0] 128)).heap[w.heap.size + 1]? = some (.cells #[.int .u64 0, .int .u64 0] 128 (0, 0)) := heap_alloc_at _ (by simp)
  generalize ((w.alloc (.cells #[.slice none 0 0, .int .i64 0, .int .i64 0, .int .i64 0, .int .i64 0, .slice none 0 0] 118)).alloc (.cells #[.int .u64 0, .int .u64 0] 128)) = X at f0 b0 b1 ⊢
  have HF := Lib.hid f0
  have HB0 := Lib.hid b0
  have HB1 := Lib.hid b1
  clear f0 b0 b1
  go_loopw [15] (fun i wr => ∃ (k : Nat) (z0 z1 : Int), Frm [d] w wr ∧ Hid (MemAt wr p d c ws) ∧ Hid (wr.heap[w.heap.size]? = some (.cells #[.slice none 0 0, .int .i64 0, .int .i64 0, .int .i64 0, .int .i64 0, .slice none 0 0] 118 (0, 0))) ∧ Hid (wr.heap[w.heap.size + 1]? = some (.cells #[.int .u64 z0, .int .u64 z1] 128 (0, 0))) ∧ ((k = 0 ∧ i = .int .i64 0 ∧ z0 = 0 ∧ z1 = 0) ∨ (k = 1 ∧ i = .int .i64 1 ∧ z0 = w0 ∧ z1 = 0) ∨ (k = 2 ∧ i = .int .i64 2 ∧ z0 = w0 ∧ z1 = w1))) (fun i _ => 2 - (intOf i).toNat)
  case atStart => exact ⟨0, 0, 0, HF.out.nil, Lib.hid (HM.out.frm HF.out (by simp) (by simp)), HB0, HB1, .inl ⟨rfl, rfl, rfl, rfl⟩⟩
  case round =>
    clear HB0 HB1 HF
    obtain ⟨k, z0, z1, hF, HMr, HB0, HB1, hk⟩ := hrel
    obtain ⟨s0, s1⟩ := cells2L HB1.out
    have y0 : wr.frozen? ⟨w.heap.size + 1, 0, none⟩ = false := frozen_of_heap HB1.out
    have y1 : wr.frozen? ⟨w.heap.size + 1, 1, none⟩ = false := frozen_of_heap HB1.out
    have hbl1 := lt_of_heap HB1.out
    rcases hk with ⟨rfl, rfl, rfl, rfl⟩ | ⟨rfl, rfl, rfl, rfl⟩ | ⟨rfl, rfl, rfl, rfl⟩
    · go_wp2_with fail
      refine (Load_ok HMr.out x1 (w0 : Int) HX0.out).mono ?_
      rintro e wa ⟨rfl, hF1, hM1⟩
      have HF1 := Lib.hid hF1
      have HM1 := Lib.hid hM1
      have HA0 := Lib.hid ((hF1.block w.heap.size (by omega) (by simp; omega)).trans HB0.out)
      have HA1 := Lib.hid ((hF1.block (w.heap.size + 1) hbl1 (by simp; omega)).trans HB1.out)
      have hF2 := hF.trans hF1
      have HF2 := Lib.hid hF2
      obtain ⟨t0, t1⟩ := cells2L HA1.out
      have v0 : wa.frozen? ⟨w.heap.size + 1, 0, none⟩ = false := frozen_of_heap HA1.out
      have v1 : wa.frozen? ⟨w.heap.size + 1, 1, none⟩ = false := frozen_of_heap HA1.out
      have hbla := lt_of_heap HA1.out
      clear hF1 hM1 hF hF2 s0 s1 y0 y1
      go_wp2_with fail
      go_roundw
      case rel => exact ⟨1, _, _, HF2.out.setCell _ _ (.inr (by simp)), Lib.hid (HM1.out.frm ((Frm.refl [w.heap.size + 1] _).setCell _ _ (.inl (by simp))) (by simp; omega) (by simp; omega)), Lib.hid (heap_setCell_far _ _ (by simp) HA0.out), Lib.hid (heap_setCell_at _ HA1.out), .inr (.inl ⟨rfl, rfl, rfl, rfl⟩)⟩
      case measure => simp [intOf]
    · go_wp2_with fail
      refine (Load_ok HMr.out x2 (w1 : Int) HX1.out).mono ?_
      rintro e wa ⟨rfl, hF1, hM1⟩
      have HF1 := Lib.hid hF1
      have HM1 := Lib.hid hM1
      have HA0 := Lib.hid ((hF1.block w.heap.size (by omega) (by simp; omega)).trans HB0.out)
      have HA1 := Lib.hid ((hF1.block (w.heap.size + 1) hbl1 (by simp; omega)).trans HB1.out)
      have hF2 := hF.trans hF1
      have HF2 := Lib.hid hF2
      obtain ⟨t0, t1⟩ := cells2L HA1.out
      have v0 : wa.frozen? ⟨w.heap.size + 1, 0, none⟩ = false := frozen_of_heap HA1.out
      have v1 : wa.frozen? ⟨w.heap.size + 1, 1, none⟩ = false := frozen_of_heap HA1.out
      have hbla := lt_of_heap HA1.out
      clear hF1 hM1 hF hF2 s0 s1 y0 y1
      go_wp2_with fail
      go_roundw
      case rel => exact ⟨2, _, _, HF2.out.setCell _ _ (.inr (by simp)), Lib.hid (HM1.out.frm ((Frm.refl [w.heap.size + 1] _).setCell _ _ (.inl (by simp))) (by simp; omega) (by simp; omega)), Lib.hid (heap_setCell_far _ _ (by simp) HA0.out), Lib.hid (heap_setCell_at _ HA1.out), .inr (.inr ⟨rfl, rfl, rfl, rfl⟩)⟩
      case measure => simp [intOf]
    · have h0b := HWS.out _ _ HX0.out
      have h1b := HWS.out _ _ HX1.out
      have HNr := Lib.hid (HN.out.frmD hF (by simpa using hnd))
      have HLr := Lib.hid (HL.out.frm hF (by intro x hx; simp at hx; omega))
      have HFr := Lib.hid hF
      have RD := read_any HNr.out HLr.out (w0 := w0) (w1 := w1) (by omega) (by omega)
      clear hF s0 s1 y0 y1
      cases hr : rdB T w0 w1 with
      | true =>
        rw [rdV_yes hr] at RD
        have HRD := Lib.hid RD
        have hmay : (rdLS w0 w1).may T = true := by simp [rdB] at hr; exact hr.2
        have hsh : (rdLS w0 w1).sh < 18446744073709551616 := by show w0 < _; omega
        clear RD
        generalize hs : rdLS w0 w1 = s at HRD hmay hsh
        have HMY := Lib.hid (may_fi hmay)
        obtain ⟨y0, y1⟩ := cells2L HB1.out
        have HRES : Hid (lkR T nb ws w0 w1 = if s.fi = -1 then some (s, []) else (qL T nb ws s.la T s.fi).map (fun l => (s, l))) := Lib.hid (by rw [← hs]; simp [lkR, hr])
        clear hr hmay hs
        go_wp2_with fail
        refine HRD.out.mono ?_
        rintro e wb ⟨rfl, hFb⟩
        have HFb := Lib.hid hFb
        clear hFb
        go_wp2_with fail
        have hFY : Frm [] wb (wb.alloc (.cells #[.int .u64 s.sh, .int .i64 s.up, .int .i64 s.ex, .int .i64 s.wa, .int .i64 s.gr, .int .i64 s.fi, .int .i64 s.la] 130)) := (Frm.refl _ _).alloc _
        have hSY : (wb.alloc (.cells #[.int .u64 s.sh, .int .i64 s.up, .int .i64 s.ex, .int .i64 s.wa, .int .i64 s.gr, .int .i64 s.fi, .int .i64 s.la] 130)).heap[wb.heap.size]? = some (.cells #[.int .u64 s.sh, .int .i64 s.up, .int .i64 s.ex, .int .i64 s.wa, .int .i64 s.gr, .int .i64 s.fi, .int .i64 s.la] 130 (0, 0)) := heap_alloc_new _ _
        generalize (wb.alloc (.cells #[.int .u64 s.sh, .int .i64 s.up, .int .i64 s.ex, .int .i64 s.wa, .int .i64 s.gr, .int .i64 s.fi, .int .i64 s.la] 130)) = Y at hFY hSY ⊢
        have HFY := Lib.hid hFY
        have HSY := Lib.hid hSY
        clear hFY hSY
        refine (latch_any (o := 0) (cells7 HSY.out) (HLr.out.frm0 (HFb.out.trans HFY.out)) hsh).mono ?_
        rintro e wc ⟨a, n, k, rfl, hFc, hRc⟩
        have HFc := Lib.hid hFc
        have HRc := Lib.hid hRc
        have HSc := Lib.hid (hFc.heap HSY.out (by simp))
        clear hFc hRc
        obtain ⟨d0, d1, d2, d3, d4, d5, d6⟩ := cells7 HSc.out
        have hSl := lt_of_heap HSc.out
        go_wp2_with fail
        have hFZ : Frm [] wc (wc.alloc (.cells #[.slice a n k, .int .i64 s.up, .int .i64 s.ex, .int .i64 s.wa, .int .i64 s.gr, .slice none 0 0] 118)) := (Frm.refl _ _).alloc _
        have hLZ : (wc.alloc (.cells #[.slice a n k, .int .i64 s.up, .int .i64 s.ex, .int .i64 s.wa, .int .i64 s.gr, .slice none 0 0] 118)).heap[wc.heap.size]? = some (.cells #[.slice a n k, .int .i64 s.up, .int .i64 s.ex, .int .i64 s.wa, .int .i64 s.gr, .slice none 0 0] 118 (0, 0)) := heap_alloc_new _ _
        generalize (wc.alloc (.cells #[.slice a n k, .int .i64 s.up, .int .i64 s.ex, .int .i64 s.wa, .int .i64 s.gr, .slice none 0 0] 118)) = Z at hFZ hLZ ⊢
        have hFR := HFb.out.trans (HFY.out.trans (HFc.out.trans hFZ))
        have hQ := queue_all (HMr.out.frm hFR (by simp) (by simp)) (HNr.out.frm hFR) hnd fit HWS.out s.fi s.la HMY.out
        have HRZ := Lib.hid (HRc.out.frm0 hFZ)
        have HBZ := Lib.hid (hFR.heap HB0.out (by simp))
        have HLZ := Lib.hid hLZ
        have HFR := Lib.hid hFR
        have hwY : w.heap.size ≤ Y.heap.size := by have := HFr.out.size; have := HFb.out.size; have := HFY.out.size; omega
        have hYc := HFc.out.size
        have hcZ := hFZ.size
        generalize hr : (if s.fi = -1 then some [] else qL T nb ws s.la T s.fi) = r at hQ
        have HRES2 : Hid (lkR T nb ws w0 w1 = r.map (fun l => (s, l))) := Lib.hid (by rw [HRES.out, ← hr]; split <;> rfl)
        have hdY : ∀ x, w.heap.size ≤ x → x ∉ [d] := fun x hx => by simp; omega
        clear hr hFZ hLZ hFR
        have HQ := Lib.hid hQ
        clear hQ
        cases r with
        | some l =>
          refine HQ.out.mono ?_
          rintro e wd ⟨a2, n2, k2, rfl, hFd, hMd, hRd⟩
          have HFd := Lib.hid hFd
          have HMd := Lib.hid hMd
          have HRd := Lib.hid hRd
          have HLd := Lib.hid ((hFd.block wc.heap.size (lt_of_heap HLZ.out) (hdY _ (by omega))).trans HLZ.out)
          have HBd := Lib.hid ((hFd.block w.heap.size (lt_of_heap HBZ.out) (hdY _ (by omega))).trans HBZ.out)
          have HRl := Lib.hid (HRZ.out.frm hFd (fun x hx => hdY x (by have := (HRZ.out.blk x hx).1; omega)))
          clear hFd hMd hRd
          obtain ⟨l0, l1, l2, l3, l4, l5⟩ := cells6L HLd.out
          obtain ⟨m0, m1, m2, m3, m4, m5⟩ := cells6L HBd.out
          have lL := lt_of_heap HLd.out
          have lB := lt_of_heap HBd.out
          have hne : wc.heap.size ≠ w.heap.size := by have := lt_of_heap HSY.out; have := HFr.out.size; have := HFb.out.size; omega
          have p5 : wd.frozen? ⟨wc.heap.size, 5, none⟩ = false := frozen_of_heap HLd.out
          have v0 : wd.frozen? ⟨w.heap.size, 0, none⟩ = false := frozen_of_heap HBd.out
          have v1 : wd.frozen? ⟨w.heap.size, 1, none⟩ = false := frozen_of_heap HBd.out
          have v2 : wd.frozen? ⟨w.heap.size, 2, none⟩ = false := frozen_of_heap HBd.out
          have v3 : wd.frozen? ⟨w.heap.size, 3, none⟩ = false := frozen_of_heap HBd.out
          have v4 : wd.frozen? ⟨w.heap.size, 4, none⟩ = false := frozen_of_heap HBd.out
          have v5 : wd.frozen? ⟨w.heap.size, 5, none⟩ = false := frozen_of_heap HBd.out
          go_wp2_with fail
          have hW0 := setCells6 (heap_setCell_far ⟨wc.heap.size, 5, none⟩ (.slice a2 n2 k2) hne HBd.out) (.slice a n k) (.int .i64 s.up) (.int .i64 s.ex) (.int .i64 s.wa) (.int .i64 s.gr) (.slice a2 n2 k2)
          have hWF := (((Frm.refl [wc.heap.size, w.heap.size] wd).setCell ⟨wc.heap.size, 5, none⟩ (.slice a2 n2 k2) (.inl (by simp))).set6 w.heap.size (.slice a n k) (.int .i64 s.up) (.int .i64 s.ex) (.int .i64 s.wa) (.int .i64 s.gr) (.slice a2 n2 k2) (.inl (by simp)))
          generalize (((((((wd.setCell ⟨wc.heap.size, 5, none⟩ (.slice a2 n2 k2)).setCell ⟨w.heap.size, 0, none⟩ (.slice a n k)).setCell ⟨w.heap.size, 1, none⟩ (.int .i64 s.up)).setCell ⟨w.heap.size, 2, none⟩ (.int .i64 s.ex)).setCell ⟨w.heap.size, 3, none⟩ (.int .i64 s.wa)).setCell ⟨w.heap.size, 4, none⟩ (.int .i64 s.gr)).setCell ⟨w.heap.size, 5, none⟩ (.slice a2 n2 k2)) = W at hW0 hWF ⊢
          obtain ⟨y0, y1, y2, y3, y4, y5⟩ := cells6L hW0
          have hSl2 := lt_of_heap HSY.out
          have hwb : w.heap.size ≤ wb.heap.size := by have := HFr.out.size; have := HFb.out.size; omega
          have hZl := lt_of_heap HLZ.out
          have hFW : Frm [d] w W := ((HFr.out.trans HFR.out.nil).trans HFd.out).trans_new hWF (fun x hx => .inr (by simp at hx; omega))
          have hMW := HMd.out.frm hWF (by simp; omega) (by simp; omega)
          have hR1 := HRl.out.frm hWF (fun x hx => by have := HRc.out.blk x hx; simp; omega)
          have hR2 := HRd.out.frm hWF (fun x hx => by have := HRd.out.blk x hx; simp; omega)
          exact bodyPost_ret (v := .tuple #[.agg #[.slice a n k, .int .i64 s.up, .int .i64 s.ex, .int .i64 s.wa, .int .i64 s.gr, .slice a2 n2 k2], .int .i64 0]) (by simp [results, Tryz.results65, go_sem, y0, y1, y2, y3, y4, y5]) rfl (by rw [HRES2.out]; exact ⟨a, n, k, a2, n2, k2, rfl, hFW, hMW, ⟨own_low hR1.1 (by omega), hR1.2⟩, ⟨own_low hR2.1 (by omega), hR2.2⟩⟩)
        | none =>
          refine HQ.out.mono ?_
          rintro e wd ⟨rfl, hFd, hMd⟩
          have HFd := Lib.hid hFd
          have HMd := Lib.hid hMd
          have HLd := Lib.hid ((hFd.block wc.heap.size (lt_of_heap HLZ.out) (hdY _ (by omega))).trans HLZ.out)
          have HBd := Lib.hid ((hFd.block w.heap.size (lt_of_heap HBZ.out) (hdY _ (by omega))).trans HBZ.out)
          clear hFd hMd
          obtain ⟨l0, l1, l2, l3, l4, l5⟩ := cells6L HLd.out
          obtain ⟨m0, m1, m2, m3, m4, m5⟩ := cells6L HBd.out
          have lL := lt_of_heap HLd.out
          have lB := lt_of_heap HBd.out
          have hne : wc.heap.size ≠ w.heap.size := by have := lt_of_heap HSY.out; have := HFr.out.size; have := HFb.out.size; omega
          have p5 : wd.frozen? ⟨wc.heap.size, 5, none⟩ = false := frozen_of_heap HLd.out
          have v0 : wd.frozen? ⟨w.heap.size, 0, none⟩ = false := frozen_of_heap HBd.out
          have v1 : wd.frozen? ⟨w.heap.size, 1, none⟩ = false := frozen_of_heap HBd.out
          have v2 : wd.frozen? ⟨w.heap.size, 2, none⟩ = false := frozen_of_heap HBd.out
          have v3 : wd.frozen? ⟨w.heap.size, 3, none⟩ = false := frozen_of_heap HBd.out
          have v4 : wd.frozen? ⟨w.heap.size, 4, none⟩ = false := frozen_of_heap HBd.out
          have v5 : wd.frozen? ⟨w.heap.size, 5, none⟩ = false := frozen_of_heap HBd.out
          go_wp2_with fail
          have hW0 := setCells6 (heap_setCell_far ⟨wc.heap.size, 5, none⟩ (.slice none 0 0) hne HBd.out) (.slice none 0 0) (.int .i64 0) (.int .i64 0) (.int .i64 0) (.int .i64 0) (.slice none 0 0)
          have hWF := (((Frm.refl [wc.heap.size, w.heap.size] wd).setCell ⟨wc.heap.size, 5, none⟩ (.slice none 0 0) (.inl (by simp))).set6 w.heap.size (.slice none 0 0) (.int .i64 0) (.int .i64 0) (.int .i64 0) (.int .i64 0) (.slice none 0 0) (.inl (by simp)))
          generalize (((((((wd.setCell ⟨wc.heap.size, 5, none⟩ (.slice none 0 0)).setCell ⟨w.heap.size, 0, none⟩ (.slice none 0 0)).setCell ⟨w.heap.size, 1, none⟩ (.int .i64 0)).setCell ⟨w.heap.size, 2, none⟩ (.int .i64 0)).setCell ⟨w.heap.size, 3, none⟩ (.int .i64 0)).setCell ⟨w.heap.size, 4, none⟩ (.int .i64 0)).setCell ⟨w.heap.size, 5, none⟩ (.slice none 0 0)) = W at hW0 hWF ⊢
          obtain ⟨y0, y1, y2, y3, y4, y5⟩ := cells6L hW0
          have hSl2 := lt_of_heap HSY.out
          have hwb : w.heap.size ≤ wb.heap.size := by have := HFr.out.size; have := HFb.out.size; omega
          have hZl := lt_of_heap HLZ.out
          have hFW : Frm [d] w W := ((HFr.out.trans HFR.out.nil).trans HFd.out).trans_new hWF (fun x hx => .inr (by simp at hx; omega))
          have hMW := HMd.out.frm hWF (by simp; omega) (by simp; omega)
          exact bodyPost_ret (v := .tuple #[.agg #[.slice none 0 0, .int .i64 0, .int .i64 0, .int .i64 0, .int .i64 0, .slice none 0 0], .int .i64 12]) (by simp [results, Tryz.results65, go_sem, y0, y1, y2, y3, y4, y5]) rfl (by rw [HRES2.out]; exact ⟨rfl, hFW, hMW⟩)
      | false =>
        rw [rdV_no hr] at RD
        have HRD := Lib.hid RD
        obtain ⟨y0, y1⟩ := cells2L HB1.out
        have HRES : Hid (lkR T nb ws w0 w1 = none) := Lib.hid (by simp [lkR, hr])
        clear RD hr
        go_wp2_with fail
        refine HRD.out.mono ?_
        rintro e wb ⟨rfl, hFb⟩
        have HFb := Lib.hid hFb
        have HBb := Lib.hid (hFb.heap HB0.out (by simp))
        clear hFb
        obtain ⟨g0, g1, g2, g3, g4, g5⟩ := cells6L HBb.out
        have hblb := lt_of_heap HBb.out
        have v0 : wb.frozen? ⟨w.heap.size, 0, none⟩ = false := frozen_of_heap HBb.out
        have v1 : wb.frozen? ⟨w.heap.size, 1, none⟩ = false := frozen_of_heap HBb.out
        have v2 : wb.frozen? ⟨w.heap.size, 2, none⟩ = false := frozen_of_heap HBb.out
        have v3 : wb.frozen? ⟨w.heap.size, 3, none⟩ = false := frozen_of_heap HBb.out
        have v4 : wb.frozen? ⟨w.heap.size, 4, none⟩ = false := frozen_of_heap HBb.out
        have v5 : wb.frozen? ⟨w.heap.size, 5, none⟩ = false := frozen_of_heap HBb.out
        go_wp2_with fail
        have hW0 := heap_alloc_old (.cells #[.int .u64 0, .int .i64 0, .int .i64 0, .int .i64 0, .int .i64 0, .int .i64 0, .int .i64 0] 130) (setCells6 HBb.out (.slice none 0 0) (.int .i64 0) (.int .i64 0) (.int .i64 0) (.int .i64 0) (.slice none 0 0))
        have hWF := ((Frm.refl [w.heap.size] wb).set6 w.heap.size (.slice none 0 0) (.int .i64 0) (.int .i64 0) (.int .i64 0) (.int .i64 0) (.slice none 0 0) (.inl (by simp))).alloc (.cells #[.int .u64 0, .int .i64 0, .int .i64 0, .int .i64 0, .int .i64 0, .int .i64 0, .int .i64 0] 130)
        generalize ((((((((wb.setCell ⟨w.heap.size, 0, none⟩ (.slice none 0 0)).setCell ⟨w.heap.size, 1, none⟩ (.int .i64 0)).setCell ⟨w.heap.size, 2, none⟩ (.int .i64 0)).setCell ⟨w.heap.size, 3, none⟩ (.int .i64 0)).setCell ⟨w.heap.size, 4, none⟩ (.int .i64 0)).setCell ⟨w.heap.size, 5, none⟩ (.slice none 0 0)).alloc (.cells #[.int .u64 0, .int .i64 0, .int .i64 0, .int .i64 0, .int .i64 0, .int .i64 0, .int .i64 0] 130))) = W at hW0 hWF ⊢
        obtain ⟨y0, y1, y2, y3, y4, y5⟩ := cells6L hW0
        exact bodyPost_ret (v := .tuple #[.agg #[.slice none 0 0, .int .i64 0, .int .i64 0, .int .i64 0, .int .i64 0, .slice none 0 0], .int .i64 12]) (by simp [results, Tryz.results65, go_sem, y0, y1, y2, y3, y4, y5]) rfl (by rw [HRES.out]; exact ⟨rfl, (HFr.out.trans HFb.out.nil).trans_new hWF (fun x hx => .inr (by simp at hx; omega)), (HMr.out.frm HFb.out (by simp) (by simp)).frm hWF (by simp; omega) (by simp; omega)⟩)
end
end Go.Proofs.YticbbfcachnkiaaGreatDoor
