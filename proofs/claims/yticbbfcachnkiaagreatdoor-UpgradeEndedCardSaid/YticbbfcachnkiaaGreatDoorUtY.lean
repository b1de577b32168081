/- Package latch: refuse, standLast, park (by gen_lty.py). -/
import Derived.Test.YticbbfcachnkiaaGreatDoorUtX
namespace Go.Proofs.YticbbfcachnkiaaGreatDoor
open Go.ChangeShapes Go.WideShapes Go.ChangeAt Go.RowKit
set_option linter.unusedVariables false
set_option linter.unusedSimpArgs false
section
variable {w : World} {q T qe ql : Nat} {a : Option Addr} {n c : Nat} {m : Mv}
set_option maxRecDepth 1000000 in
set_option maxHeartbeats 4000000 in
theorem refuse_any (h : MvAt w q T qe ql a n c m) (hn : n = m.wk.length) (hg : Gd T m.s) :
    Calls Tryz.prog 174 #[.pointer (some ⟨q, 0, none⟩)] w (Ret (.tuple #[]) (fun w' => Frm [q] w w' ∧ MvAt w' q T qe ql a n c m.refuse)) := by
  have HF : Hid (Frm [q] w (w.setCell ⟨q, 20, none⟩ (.bool true))) := Lib.hid ((Frm.refl _ _).setCell _ _ (.inl (by simp)))
  have H := Lib.hid (finish_any (h.set_rf true) hn hg)
  obtain ⟨c0, c1, c2, c3, c4, c5, c6, c7, c8, c9, c10, c11, c12, c13, c14, c15, c16, c17, c18, c19, c20, c21⟩ := h.cells
  have hbl := h.lt
  have z := h.frz 20
  clear h
  go_enter Tryz.func174, Tryz.ntmps174
  go_wp2_with fail
  refine H.out.mono ?_
  rintro e w1 ⟨rfl, hF, hM⟩
  have HF1 := Lib.hid (HF.out.trans hF)
  have HM := Lib.hid hM
  clear hF hM
  go_wp2
  go_end0
  exact ⟨rfl, HF1.out, HM.out⟩
set_option maxRecDepth 1000000 in
set_option maxHeartbeats 4000000 in
theorem stand_any (h : MvAt w q T qe ql a n c m) (hn : n = m.wk.length) (hg : Gd T m.s) :
    Calls Tryz.prog 182 #[.pointer (some ⟨q, 0, none⟩)] w (Ret (.tuple #[]) (fun w' => Frm [q] w w' ∧ MvAt w' q T qe ql a n c m.standLast)) := by
  have hnd : -1 ≤ m.nd ∧ m.nd < 2 * T := by have := h.tT; unfold Mv.nd; omega
  have HN := Lib.hid (node_any h)
  obtain ⟨c0, c1, c2, c3, c4, c5, c6, c7, c8, c9, c10, c11, c12, c13, c14, c15, c16, c17, c18, c19, c20, c21⟩ := h.cells
  have hbl := h.lt
  have z16 := h.frz 16
  have z17 := h.frz 17
  by_cases hf : m.s.fi = -1
  · have hE : m.standLast = { m with s := { m.s with fi := m.nd, la := m.nd } }.finish := by unfold Mv.standLast; rw [if_pos hf]
    rw [hE]
    go_enter Tryz.func182, Tryz.ntmps182
    go_wp2_with fail
    refine HN.out.mono ?_
    rintro e w1 ⟨k, rfl, rfl⟩
    have H := Lib.hid (finish_any (m := { m with s := { m.s with fi := m.nd, la := m.nd } }) ((((h.drewN k).set_fi m.nd).set_la m.nd)) hn ⟨hg.sh, hg.up, hg.ex, hg.wa, hg.gr, hnd, hnd⟩)
    have HF : Hid (Frm [q] w (((w.drewN k).setCell ⟨q, 16, none⟩ (.int .i64 m.nd)).setCell ⟨q, 17, none⟩ (.int .i64 m.nd))) := Lib.hid (((((Frm.refl _ _).drewN k).setCell _ _ (.inl (by simp))).setCell _ _ (.inl (by simp))))
    have ef : (m.s.fi == -1) = true := by simpa using hf
    clear h hE hf hg hnd
    go_wp2_with fail
    refine H.out.mono ?_
    rintro e w1 ⟨rfl, hF, hM⟩
    have HF1 := Lib.hid (HF.out.trans hF)
    have HM := Lib.hid hM
    clear hF hM
    go_wp2
    go_end0
    exact ⟨rfl, HF1.out, HM.out⟩
  · have hE : m.standLast = { m with s := { m.s with la := m.nd } }.finish := by unfold Mv.standLast; rw [if_neg hf]
    rw [hE]
    go_enter Tryz.func182, Tryz.ntmps182
    go_wp2_with fail
    refine HN.out.mono ?_
    rintro e w1 ⟨k, rfl, rfl⟩
    have H := Lib.hid (finish_any (m := { m with s := { m.s with la := m.nd } }) (((h.drewN k).set_la m.nd)) hn ⟨hg.sh, hg.up, hg.ex, hg.wa, hg.gr, hg.fi, hnd⟩)
    have HF : Hid (Frm [q] w ((w.drewN k).setCell ⟨q, 17, none⟩ (.int .i64 m.nd))) := Lib.hid ((((Frm.refl _ _).drewN k).setCell _ _ (.inl (by simp))))
    have ef : (m.s.fi == -1) = false := by simpa using hf
    clear h hE hf hg hnd
    go_wp2_with fail
    refine H.out.mono ?_
    rintro e w1 ⟨rfl, hF, hM⟩
    have HF1 := Lib.hid (HF.out.trans hF)
    have HM := Lib.hid hM
    clear hF hM
    go_wp2
    go_end0
    exact ⟨rfl, HF1.out, HM.out⟩
set_option maxRecDepth 1000000 in
set_option maxHeartbeats 4000000 in
theorem park_any (h : MvAt w q T qe ql a n c m) (hn : n = m.wk.length) (hg : Gd T m.s) :
    Calls Tryz.prog 181 #[.pointer (some ⟨q, 0, none⟩)] w (Ret (.tuple #[]) (fun w' => Frm [q] w w' ∧ MvAt w' q T qe ql a n c m.park)) := by
  have HM := Lib.hid h
  obtain ⟨c0, c1, c2, c3, c4, c5, c6, c7, c8, c9, c10, c11, c12, c13, c14, c15, c16, c17, c18, c19, c20, c21⟩ := h.cells
  have hbl := h.lt
  have z6 := h.frz 6
  by_cases hk : m.k = 2
  · have ek : (m.k == 2) = true := by simpa using hk
    have hE : m.park = m.finish := by unfold Mv.park; rw [if_pos hk]
    rw [hE]
    have H := Lib.hid (finish_any h hn hg)
    clear h hE hk
    go_enter Tryz.func181, Tryz.ntmps181
    go_wp2_with fail
    refine H.out.mono ?_
    rintro e w1 ⟨rfl, hF, hM⟩
    have HF1 := Lib.hid hF
    have HM := Lib.hid hM
    clear hF hM
    go_wp2
    go_end0
    exact ⟨rfl, HF1.out, HM.out⟩
  · have ek : (m.k == 2) = false := by simpa using hk
    by_cases hl : m.s.la = -1
    · have el : (m.s.la == -1) = true := by simpa using hl
      have hE : m.park = m.standLast := by unfold Mv.park; rw [if_neg hk, if_pos hl]
      rw [hE]
      have H := Lib.hid (stand_any h hn hg)
      clear h hE hk hl
      go_enter Tryz.func181, Tryz.ntmps181
      go_wp2_with fail
      refine H.out.mono ?_
      rintro e w1 ⟨rfl, hF, hM⟩
      have HF1 := Lib.hid hF
      have HM := Lib.hid hM
      clear hF hM
      go_wp2
      go_end0
      exact ⟨rfl, HF1.out, HM.out⟩
    · have el : (m.s.la == -1) = false := by simpa using hl
      have hE : m.park = { m with nx := 7 } := by unfold Mv.park; rw [if_neg hk, if_neg hl]
      rw [hE]
      clear h hE hk hl
      go_enter Tryz.func181, Tryz.ntmps181
      go_wp2
      go_end0
      exact ⟨rfl, (Frm.refl _ _).setCell ⟨q, 6, none⟩ (.int .i64 7) (.inl (by simp)), HM.out.set_nx 7⟩
end
end Go.Proofs.YticbbfcachnkiaaGreatDoor
