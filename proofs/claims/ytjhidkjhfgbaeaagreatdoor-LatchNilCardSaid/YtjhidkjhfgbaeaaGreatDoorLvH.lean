/- LatchNil. -/
import Derived.Test.YtjhidkjhfgbaeaaGreatDoorLvG
namespace Go.Proofs.YtjhidkjhfgbaeaaGreatDoor
open Go.ChangeShapes Go.WideShapes Go.ChangeAt Go.RowKit
set_option linter.unusedVariables false
set_option linter.unusedSimpArgs false
section
variable {w : World}
theorem lbegin_nil {v : Value} (h : Zv w v) (at_ t k md : Int) (hk : k = 1 ∨ k = 2 ∨ k = 3) :
    Calls Tryz.prog 18 #[v, .int .i64 at_, .int .i64 t, .int .i64 k, .int .i64 md] w (Ret (.tuple #[.pointer none, .int .i64 1]) (fun w' => Frm [] w w')) := by
  rcases hk with rfl | rfl | rfl
  · have H := Lib.hid (newGet_nil h at_ t md)
    clear h
    go_enter Tryz.func18, Tryz.ntmps18
    go_wp2_with fail
    refine H.out.mono ?_
    rintro e w1 ⟨rfl, hR⟩
    have HR := Lib.hid hR
    clear hR
    go_wp2
    go_ret2
    exact ⟨rfl, HR.out⟩
  · have H := Lib.hid (newBack_nil h at_ t md)
    clear h
    go_enter Tryz.func18, Tryz.ntmps18
    go_wp2_with fail
    refine H.out.mono ?_
    rintro e w1 ⟨rfl, hR⟩
    have HR := Lib.hid hR
    clear hR
    go_wp2
    go_ret2
    exact ⟨rfl, HR.out⟩
  · have H := Lib.hid (newGo_nil h at_ t md)
    clear h
    go_enter Tryz.func18, Tryz.ntmps18
    go_wp2_with fail
    refine H.out.mono ?_
    rintro e w1 ⟨rfl, hR⟩
    have HR := Lib.hid hR
    clear hR
    go_wp2
    go_ret2
    exact ⟨rfl, HR.out⟩
set_option maxRecDepth 100000 in
set_option maxHeartbeats 1000000 in
theorem looks_nil {v : Value} (hv : Zv w v) (p : Nat) (at_ : Int) :
    Calls Tryz.prog 22 #[.pointer (some ⟨p, 0, none⟩), v, .int .i64 at_, .agg #[.slice none 0 0, .int .i64 0, .int .i64 0, .int .i64 0, .int .i64 0, .slice none 0 0], .int .i64 1] w
      (Ret (.bool true) (fun w' => Frm [] w w')) := by
  obtain ⟨X, hX⟩ : ∃ X, X = w.alloc (.cells #[.slice none 0 0, .int .i64 0, .int .i64 0, .int .i64 0, .int .i64 0, .slice none 0 0] 25) := ⟨_, rfl⟩
  have hFX : Frm [] w X := by rw [hX]; exact (Frm.refl _ _).alloc _
  have g0 : X.heap[w.heap.size]? = some (.cells #[.slice none 0 0, .int .i64 0, .int .i64 0, .int .i64 0, .int .i64 0, .slice none 0 0] 25 (0, 0)) := by rw [hX]; exact heap_alloc_new _ _
  have H := Lib.hid (Look_nilm (m := .iface 46 (.pointer (some ⟨p, 0, none⟩))) (hv.frm hFX) at_)
  have HFX := Lib.hid hFX
  have G0 := Lib.hid g0
  clear hv hFX g0
  go_enter Tryz.func22, Tryz.ntmps22
  go_wp2_with fail
  rw [← hX]
  clear hX
  refine H.out.mono ?_
  rintro e w1 ⟨rfl, hF1⟩
  have hbx := hF1.heap G0.out (by simp)
  obtain ⟨d0, d1, d2, d3, d4, d5⟩ := cells6L hbx
  have hbl := lt_of_heap hbx
  have HF1 := Lib.hid hF1
  clear hF1 hbx
  obtain ⟨Y, hY⟩ : ∃ Y, Y = w1.alloc (.cells #[.slice none 0 0, .int .i64 0, .int .i64 0, .int .i64 0, .int .i64 0, .slice none 0 0] 25) := ⟨_, rfl⟩
  have hFY : Frm [] w1 Y := by rw [hY]; exact (Frm.refl _ _).alloc _
  go_wp2_with fail
  rw [← hY]
  clear hY
  refine (lsame_any (Li.nil _ 0 0) (Li.nil _ 0 0) (Li2.nil _ 0 0) (Li2.nil _ 0 0) (by decide) (by decide) 0 0 0 0).mono ?_
  rintro e w2 ⟨rfl, hF2⟩
  have HF2 := Lib.hid (HFX.out.trans (HF1.out.trans (hFY.trans hF2)))
  clear hF2 hFY
  go_wp2
  go_ret
  exact ⟨rfl, HF2.out⟩
end
set_option maxRecDepth 100000 in
set_option maxHeartbeats 16000000 in
theorem walk_LatchNil (at_ : Int) (_ : (Lit.int .i64 at_).wf = true) (t : Int) (_ : (Lit.int .i64 t).wf = true) (md : Int) (_ : (Lit.int .i64 md).wf = true) (W : World) (hW : Laid W) :
    Calls Tryz.prog 5 #[.int .i64 at_, .int .i64 t, .int .i64 md] W (Ret (.bool true) (fun w' => Below W.heap.size W w')) := by
  have HW := Lib.hid hW
  have hs := hW.size
  clear hW
  go_enter Tryz.func5, Tryz.ntmps5
  go_wp2_with fail
  refine (news_any HW.out (B := W.heap.size) hs (Nat.le_refl _)).mono ?_
  rintro e w1 ⟨np, p, d, cc, rfl, hF, hS⟩
  obtain ⟨Y, hY⟩ : ∃ Y, Y = (w1.alloc (.cells #[.pointer (some ⟨p, 0, none⟩), .pointer (some ⟨np, 0, none⟩)] 73)).alloc (.cells #[.int .i64 1, .int .i64 2, .int .i64 3] 53) := ⟨_, rfl⟩
  have hFY : Frm [] w1 Y := by rw [hY]; exact ((Frm.refl _ _).alloc _).alloc _
  have HK : Hid (K2 W Y w1.heap.size np p d cc zs) := Lib.hid ⟨hF.trans hFY, by rw [hY]; exact heap_alloc_old _ (heap_alloc_new _ _), hS.frm0 hFY, by have := hS.lt; omega, hF.size⟩
  have HG : Hid (Y.heap[w1.heap.size + 1]? = some (.cells #[.int .i64 1, .int .i64 2, .int .i64 3] 53 (0, 0))) := Lib.hid (by rw [hY]; exact heap_alloc_at _ (by simp))
  clear hF hS hFY
  go_wp2_with fail
  rw [← hY]
  clear hY
  go_wp2_with fail
  go_loopw [35] (fun i wr => (i = .int .i64 0 ∨ i = .int .i64 1 ∨ i = .int .i64 2 ∨ i = .int .i64 3) ∧ Frm [] Y wr) (fun i _ => 3 - (intOf i).toNat)
  case atStart => exact ⟨.inl rfl, Frm.refl _ _⟩
  case round =>
    obtain ⟨hi, hF⟩ := hrel
    have HF := Lib.hid hF
    have hg := hF.heap HG.out (by simp)
    obtain ⟨g0, g1, g2⟩ : wr.cell? ⟨w1.heap.size + 1, 0, none⟩ = some (.int .i64 1) ∧ wr.cell? ⟨w1.heap.size + 1, 1, none⟩ = some (.int .i64 2) ∧ wr.cell? ⟨w1.heap.size + 1, 2, none⟩ = some (.int .i64 3) :=
      ⟨by rw [cell_of_heap hg]; rfl, by rw [cell_of_heap hg]; rfl, by rw [cell_of_heap hg]; rfl⟩
    have hgl := lt_of_heap hg
    have HKr := Lib.hid (HK.out.frm0 hF)
    obtain ⟨x0, y0, y1⟩ := HKr.out.cells
    clear hF hg
    rcases hi with rfl | rfl | rfl | rfl
    · go_wp2_with fail
      refine (lbegin_nil (v := .pointer none) (.inl rfl) at_ t 1 md (by decide)).mono ?_
      rintro e wa ⟨rfl, hFa⟩
      have hNz : Zv (wa.alloc (.cells #[.int .i64 0, .int .i64 0] 78)) (.pointer (some ⟨wa.heap.size, 0, none⟩)) := .inr ⟨_, rfl, heap_alloc_new _ _⟩
      have HNz := Lib.hid hNz
      have hFb : Frm [] wa (wa.alloc (.cells #[.int .i64 0, .int .i64 0] 78)) := (Frm.refl _ _).alloc _
      have HFb := Lib.hid (hFa.trans hFb)
      clear hNz hFa hFb g0 g1 g2 hgl x0 y0 y1
      go_wp2_with fail
      refine (lbegin_nil HNz.out at_ t 1 md (by decide)).mono ?_
      rintro e wc ⟨rfl, hFc⟩
      have HFc := Lib.hid (HFb.out.trans hFc)
      have HKc := Lib.hid (HKr.out.frm0 HFc.out)
      obtain ⟨x0, y0, y1⟩ := HKc.out.cells
      clear hFc
      go_wp2_with fail
      refine (lbegin HKc.out.s.nd 0 (by decide) 1 1 (by decide) (by decide)).mono ?_
      rintro e wd ⟨q, qe, ql, rfl, hFd, hMv, -, -, -, -, -⟩
      have HFd := Lib.hid (HFc.out.trans hFd)
      have HS := Lib.hid (Step_nilmem hMv)
      have HMv := Lib.hid hMv
      clear hFd hMv x0 y0 y1
      go_wp2_with fail
      refine HS.out.mono ?_
      rintro e we ⟨rfl, hFe⟩
      have HD := Lib.hid (Done_mv (HMv.out.frm hFe (by simp)))
      have HFe := Lib.hid (HFd.out.trans hFe)
      have hnx : ((Mv.new 0 (1 - 1) 1).nx == 0) = false := rfl
      clear hFe
      go_wp2_with fail
      refine HD.out.mono ?_
      rintro e wf ⟨rfl, rfl⟩
      go_wp2
      go_roundw
      case rel => exact ⟨by simp, HF.out.trans HFe.out⟩
      case measure => simp [intOf]
    · go_wp2_with fail
      refine (lbegin_nil (v := .pointer none) (.inl rfl) at_ t 2 md (by decide)).mono ?_
      rintro e wa ⟨rfl, hFa⟩
      have hNz : Zv (wa.alloc (.cells #[.int .i64 0, .int .i64 0] 78)) (.pointer (some ⟨wa.heap.size, 0, none⟩)) := .inr ⟨_, rfl, heap_alloc_new _ _⟩
      have HNz := Lib.hid hNz
      have hFb : Frm [] wa (wa.alloc (.cells #[.int .i64 0, .int .i64 0] 78)) := (Frm.refl _ _).alloc _
      have HFb := Lib.hid (hFa.trans hFb)
      clear hNz hFa hFb g0 g1 g2 hgl x0 y0 y1
      go_wp2_with fail
      refine (lbegin_nil HNz.out at_ t 2 md (by decide)).mono ?_
      rintro e wc ⟨rfl, hFc⟩
      have HFc := Lib.hid (HFb.out.trans hFc)
      have HKc := Lib.hid (HKr.out.frm0 HFc.out)
      obtain ⟨x0, y0, y1⟩ := HKc.out.cells
      clear hFc
      go_wp2_with fail
      refine (lbegin HKc.out.s.nd 0 (by decide) 2 1 (by decide) (by decide)).mono ?_
      rintro e wd ⟨q, qe, ql, rfl, hFd, hMv, -, -, -, -, -⟩
      have HFd := Lib.hid (HFc.out.trans hFd)
      have HS := Lib.hid (Step_nilmem hMv)
      have HMv := Lib.hid hMv
      clear hFd hMv x0 y0 y1
      go_wp2_with fail
      refine HS.out.mono ?_
      rintro e we ⟨rfl, hFe⟩
      have HD := Lib.hid (Done_mv (HMv.out.frm hFe (by simp)))
      have HFe := Lib.hid (HFd.out.trans hFe)
      have hnx : ((Mv.new 0 (2 - 1) 0).nx == 0) = false := rfl
      clear hFe
      go_wp2_with fail
      refine HD.out.mono ?_
      rintro e wf ⟨rfl, rfl⟩
      go_wp2
      go_roundw
      case rel => exact ⟨by simp, HF.out.trans HFe.out⟩
      case measure => simp [intOf]
    · go_wp2_with fail
      refine (lbegin_nil (v := .pointer none) (.inl rfl) at_ t 3 md (by decide)).mono ?_
      rintro e wa ⟨rfl, hFa⟩
      have hNz : Zv (wa.alloc (.cells #[.int .i64 0, .int .i64 0] 78)) (.pointer (some ⟨wa.heap.size, 0, none⟩)) := .inr ⟨_, rfl, heap_alloc_new _ _⟩
      have HNz := Lib.hid hNz
      have hFb : Frm [] wa (wa.alloc (.cells #[.int .i64 0, .int .i64 0] 78)) := (Frm.refl _ _).alloc _
      have HFb := Lib.hid (hFa.trans hFb)
      clear hNz hFa hFb g0 g1 g2 hgl x0 y0 y1
      go_wp2_with fail
      refine (lbegin_nil HNz.out at_ t 3 md (by decide)).mono ?_
      rintro e wc ⟨rfl, hFc⟩
      have HFc := Lib.hid (HFb.out.trans hFc)
      have HKc := Lib.hid (HKr.out.frm0 HFc.out)
      obtain ⟨x0, y0, y1⟩ := HKc.out.cells
      clear hFc
      go_wp2_with fail
      refine (lbegin HKc.out.s.nd 0 (by decide) 3 1 (by decide) (by decide)).mono ?_
      rintro e wd ⟨q, qe, ql, rfl, hFd, hMv, -, -, -, -, -⟩
      have HFd := Lib.hid (HFc.out.trans hFd)
      have HS := Lib.hid (Step_nilmem hMv)
      have HMv := Lib.hid hMv
      clear hFd hMv x0 y0 y1
      go_wp2_with fail
      refine HS.out.mono ?_
      rintro e we ⟨rfl, hFe⟩
      have HD := Lib.hid (Done_mv (HMv.out.frm hFe (by simp)))
      have HFe := Lib.hid (HFd.out.trans hFe)
      have hnx : ((Mv.new 0 (3 - 1) 1).nx == 0) = false := rfl
      clear hFe
      go_wp2_with fail
      refine HD.out.mono ?_
      rintro e wf ⟨rfl, rfl⟩
      go_wp2
      go_roundw
      case rel => exact ⟨by simp, HF.out.trans HFe.out⟩
      case measure => simp [intOf]
    · clear g0 g1 g2 hgl
      go_wp2_with fail
      refine (looks_nil (v := .pointer none) (.inl rfl) p at_).mono ?_
      rintro e wa ⟨rfl, hFa⟩
      have HKa := Lib.hid (HKr.out.frm0 hFa)
      clear hFa x0 y0 y1
      obtain ⟨x0, y0, y1⟩ := HKa.out.cells
      go_wp2_with fail
      refine (Look_nilmem HKa.out.s.nd (by decide) at_).mono ?_
      rintro e wb ⟨rfl, hFb⟩
      have hFc : Frm [] wb (wb.alloc (.cells #[.slice none 0 0, .int .i64 0, .int .i64 0, .int .i64 0, .int .i64 0, .slice none 0 0] 25)) := (Frm.refl _ _).alloc _
      have HKb := Lib.hid (HKa.out.frm0 (hFb.trans hFc))
      clear hFb hFc x0 y0 y1
      go_wp2_with fail
      refine (lsame_any (Li.nil _ 0 0) (Li.nil _ 0 0) (Li2.nil _ 0 0) (Li2.nil _ 0 0) (by decide) (by decide) 0 0 0 0).mono ?_
      rintro e wc ⟨rfl, hFc⟩
      have HKc := Lib.hid (HKb.out.frm0 hFc)
      clear hFc
      go_wp2_with fail
      obtain ⟨V, hV⟩ : ∃ V, V = (wc.alloc (.cells #[.int .i64 0, .int .i64 0, .int .i64 0, .int .i64 0, .int .i64 0, .int .i64 0, .int .i64 0, .nilIface, .nilIface, .int .u64 0, .int .u64 0, .int .u64 0, .int .i64 0, .int .i64 0, .int .i64 0, .int .i64 0, .int .i64 0, .int .i64 0, .int .i64 0, .slice none 0 0, .bool false, .bool false] 91)).alloc (.cells #[.pointer none, .pointer (some ⟨wc.heap.size, 0, none⟩)] 52) := ⟨_, rfl⟩
      have hFV : Frm [] wc V := by rw [hV]; exact ((Frm.refl _ _).alloc _).alloc _
      have HZ : Hid (V.heap[wc.heap.size]? = some (.cells #[.int .i64 0, .int .i64 0, .int .i64 0, .int .i64 0, .int .i64 0, .int .i64 0, .int .i64 0, .nilIface, .nilIface, .int .u64 0, .int .u64 0, .int .u64 0, .int .i64 0, .int .i64 0, .int .i64 0, .int .i64 0, .int .i64 0, .int .i64 0, .int .i64 0, .slice none 0 0, .bool false, .bool false] 91 (0, 0))) := Lib.hid (by rw [hV]; exact heap_alloc_old _ (heap_alloc_new _ _))
      have HP : Hid (V.heap[wc.heap.size + 1]? = some (.cells #[.pointer none, .pointer (some ⟨wc.heap.size, 0, none⟩)] 52 (0, 0))) := Lib.hid (by rw [hV]; exact heap_alloc_at _ (by simp))
      have HKv := Lib.hid (HKc.out.frm0 hFV)
      clear hFV
      rw [← hV]
      clear hV
      go_loopw [126] (fun i wr => (i = .int .i64 0 ∨ i = .int .i64 1 ∨ i = .int .i64 2) ∧ Frm [] V wr) (fun i _ => 2 - (intOf i).toNat)
      case atStart => exact ⟨.inl rfl, Frm.refl _ _⟩
      case round =>
        obtain ⟨hi, hF⟩ := hrel
        have HF2 := Lib.hid hF
        have hp := hF.heap HP.out (by simp)
        obtain ⟨g0, g1⟩ := cells2L hp
        have hgl := lt_of_heap hp
        have HN0 := Lib.hid (show NilM wr (.pointer none) from .inl rfl)
        have HN1 := Lib.hid (show NilM wr (.pointer (some ⟨wc.heap.size, 0, none⟩)) from .inr ⟨wc.heap.size, rfl, hF.heap HZ.out (by simp)⟩)
        have HK3 := Lib.hid (HKv.out.frm0 hF)
        obtain ⟨x0, y0, y1⟩ := HK3.out.cells
        clear hF hp
        rcases hi with rfl | rfl | rfl
        · go_wp2_with fail
          refine (Step_nilm HN0.out _).mono ?_
          rintro e we ⟨rfl, hFe⟩
          have HNe := Lib.hid (HN0.out.frm hFe)
          have HFe := Lib.hid (HF2.out.trans hFe)
          clear hFe g0 g1 hgl
          go_wp2_with fail
          refine (Done_nilm HNe.out).mono ?_
          rintro e wf ⟨rfl, rfl⟩
          go_wp2_with fail
          refine (Result_nilm HNe.out).mono ?_
          rintro e wf ⟨rfl, rfl⟩
          go_wp2_with fail
          refine (Copy_nilm HNe.out).mono ?_
          rintro e wf ⟨rfl, rfl⟩
          go_wp2
          go_roundw
          case rel => exact ⟨by simp, HFe.out⟩
          case measure => simp [intOf]
        · go_wp2_with fail
          refine (Step_nilm HN1.out _).mono ?_
          rintro e we ⟨rfl, hFe⟩
          have HNe := Lib.hid (HN1.out.frm hFe)
          have HFe := Lib.hid (HF2.out.trans hFe)
          clear hFe g0 g1 hgl
          go_wp2_with fail
          refine (Done_nilm HNe.out).mono ?_
          rintro e wf ⟨rfl, rfl⟩
          go_wp2_with fail
          refine (Result_nilm HNe.out).mono ?_
          rintro e wf ⟨rfl, rfl⟩
          go_wp2_with fail
          refine (Copy_nilm HNe.out).mono ?_
          rintro e wf ⟨rfl, rfl⟩
          go_wp2
          go_roundw
          case rel => exact ⟨by simp, HFe.out⟩
          case measure => simp [intOf]
        · clear g0 g1 hgl
          go_wp2_with fail
          refine (known_true HK3.out.s.laid).mono ?_
          rintro e wz ⟨rfl, hFz⟩
          have HFz := Lib.hid (HK3.out.frm.trans hFz)
          clear hFz
          go_wp2
          go_ret
          exact ⟨rfl, HFz.out.below (Nat.le_refl _) (by simp)⟩
#print axioms walk_LatchNil
end Go.Proofs.YtjhidkjhfgbaeaaGreatDoor
