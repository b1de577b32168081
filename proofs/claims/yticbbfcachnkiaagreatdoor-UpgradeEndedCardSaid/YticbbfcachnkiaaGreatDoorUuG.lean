/- Package latch: guard, step (by gen_lug.py). -/
import Derived.Test.YticbbfcachnkiaaGreatDoorUuF
namespace Go.Proofs.YticbbfcachnkiaaGreatDoor
open Go.ChangeShapes Go.WideShapes Go.ChangeAt Go.RowKit
set_option linter.unusedVariables false
set_option linter.unusedSimpArgs false
section
variable {w : World} {p d cc q T qe ql B : Nat} {a : Option Addr} {n c : Nat} {m : Mv} {ws : List Int}
theorem pg_ne {b t L k : Nat} {s o : Int} {e : Bool} {back : Bool} {qx : Nat} (hR : PgR w qx back b t L k s o e) (h : MvAt w q T qe ql a n c m) (hM : MemAt w p d cc ws) : qx ≠ q ∧ qx ≠ p ∧ qx ≠ d := by
  obtain ⟨met, hP, _⟩ := hR
  refine ⟨?_, ?_, ?_⟩
  · rintro rfl
    have := hP.obj.symm.trans h.obj
    simp at this
  · rintro rfl
    have := hP.obj.symm.trans hM.obj
    simp at this
  · rintro rfl
    obtain ⟨cs, hc, _⟩ := hM.arr
    have := hP.obj.symm.trans hc
    cases back <;> simp [Tp] at this
theorem pg_wk {b t L k : Nat} {s o : Int} {e : Bool} {back : Bool} {qx : Nat} (hR : PgR w qx back b t L k s o e) (hA : WkA B w a n c m) : qx ∉ blk (.slice a n c) := by
  intro hx
  obtain ⟨met, hP, _⟩ := hR
  obtain ⟨_, cs, hc⟩ := hA.own qx hx
  have := hP.obj.symm.trans hc
  cases back <;> simp [Tp] at this
/-- What is true behind a step of a program for the guard. -/
def AftG (w : World) (p d cc q T qe ql : Nat) (a : Option Addr) (n c : Nat) (qx : Nat) (back : Bool) (ws : List Int) (m : Mv) (k : Nat) (s o : Int) (e : Bool) (w' : World) : Prop :=
  Frm [d, q, qx] w w' ∧ MemAt w' p d cc ws ∧ MvAt w' q T qe ql a n c m ∧ PgR w' qx back m.nb T m.wd k s o e
set_option maxRecDepth 1000000 in
set_option maxHeartbeats 4000000 in
theorem guard_err {back : Bool} {qx : Nat} {k : Nat} {s o s' o' : Int} {wait : Bool} {ws' : List Int} (hM : MemAt w p d cc ws) (h : MvAt w q T qe ql a n c m) (hR : PgR w qx back m.nb T m.wd k s o false) (th : Int) (no : Int) (hno : no ≠ 0) (hS : Stp m.nb T m.wd k ws back s o false s' o' ws' wait no) (hok : false = false → Ok back s' o') :
    Calls Tryz.prog 156 #[.pointer (some ⟨q, 0, none⟩), .iface 24 (.pointer (some ⟨p, 0, none⟩)), .iface (Ip back) (.pointer (some ⟨qx, 0, none⟩)), .int .i64 th] w (Ret (.tuple #[.bool wait, .int .i64 no]) (AftG w p d cc q T qe ql a n c qx back ws' m k s' o' false)) := by
  have en : (no == 0) = false := by simpa using hno
  clear hno
  have hm := m_Step back qx
  have hc1 := c_Step back
  have hm2 := m_Done back qx
  have hc2 := c_Done back
  obtain ⟨hqp, hqd⟩ := mv_ne h hM
  obtain ⟨hxq, hxp, hxd⟩ := pg_ne hR h hM
  have H := Lib.hid (Step_any hM hR hxd hxp hS hok)
  have HV := Lib.hid h
  clear hM hR h hS hok
  go_enter Tryz.func156, Tryz.ntmps156
  go_wp2_with fail
  refine H.out.mono ?_
  rintro e w1 ⟨rfl, hF1, hM1, hR1⟩
  have HF1 := Lib.hid hF1
  have HM1 := Lib.hid hM1
  have HR1 := Lib.hid hR1
  have HV1 := Lib.hid (HV.out.frm hF1 (by simp; exact ⟨hqd, fun e => hxq e.symm⟩))
  clear hF1 hM1 hR1
  go_wp2
  go_ret2
  exact ⟨rfl, HF1.out.weak (by simp), HM1.out, HV1.out, HR1.out⟩
set_option maxRecDepth 1000000 in
set_option maxHeartbeats 4000000 in
theorem guard_on {back : Bool} {qx : Nat} {k : Nat} {s o s' o' : Int} {wait : Bool} {ws' : List Int} (hM : MemAt w p d cc ws) (h : MvAt w q T qe ql a n c m) (hR : PgR w qx back m.nb T m.wd k s o false) (th : Int) (hS : Stp m.nb T m.wd k ws back s o false s' o' ws' wait 0) (hok : false = false → Ok back s' o') :
    Calls Tryz.prog 156 #[.pointer (some ⟨q, 0, none⟩), .iface 24 (.pointer (some ⟨p, 0, none⟩)), .iface (Ip back) (.pointer (some ⟨qx, 0, none⟩)), .int .i64 th] w (Ret (.tuple #[.bool wait, .int .i64 0]) (AftG w p d cc q T qe ql a n c qx back ws' m k s' o' false)) := by
  have hm := m_Step back qx
  have hc1 := c_Step back
  have hm2 := m_Done back qx
  have hc2 := c_Done back
  obtain ⟨hqp, hqd⟩ := mv_ne h hM
  obtain ⟨hxq, hxp, hxd⟩ := pg_ne hR h hM
  have H := Lib.hid (Step_any hM hR hxd hxp hS hok)
  have HV := Lib.hid h
  clear hM hR h hS hok
  go_enter Tryz.func156, Tryz.ntmps156
  go_wp2_with fail
  refine H.out.mono ?_
  rintro e w1 ⟨rfl, hF1, hM1, hR1⟩
  have HF1 := Lib.hid hF1
  have HM1 := Lib.hid hM1
  have HR1 := Lib.hid hR1
  have HV1 := Lib.hid (HV.out.frm hF1 (by simp; exact ⟨hqd, fun e => hxq e.symm⟩))
  clear hF1 hM1 hR1
  go_wp2_with fail
  refine (Done_any HR1.out).mono ?_
  rintro e w2 ⟨rfl, rfl⟩
  go_wp2
  go_ret2
  exact ⟨rfl, HF1.out.weak (by simp), HM1.out, HV1.out, HR1.out⟩
set_option maxRecDepth 1000000 in
set_option maxHeartbeats 4000000 in
theorem guard_end {back : Bool} {qx : Nat} {k : Nat} {s o s' o' : Int} {wait : Bool} {ws' : List Int} (hM : MemAt w p d cc ws) (h : MvAt w q T qe ql a n c m) (hR : PgR w qx back m.nb T m.wd k s o false) (th : Int) (hS : Stp m.nb T m.wd k ws back s o true s' o' ws' wait 0) (hok : true = false → Ok back s' o') :
    Calls Tryz.prog 156 #[.pointer (some ⟨q, 0, none⟩), .iface 24 (.pointer (some ⟨p, 0, none⟩)), .iface (Ip back) (.pointer (some ⟨qx, 0, none⟩)), .int .i64 th] w (Ret (.tuple #[.bool wait, .int .i64 0]) (AftG w p d cc q T qe ql a n c qx back ws' { m with nx := th } k s' o' true)) := by
  have hm := m_Step back qx
  have hc1 := c_Step back
  have hm2 := m_Done back qx
  have hc2 := c_Done back
  obtain ⟨hqp, hqd⟩ := mv_ne h hM
  obtain ⟨hxq, hxp, hxd⟩ := pg_ne hR h hM
  have H := Lib.hid (Step_any hM hR hxd hxp hS hok)
  have HV := Lib.hid h
  clear hM hR h hS hok
  go_enter Tryz.func156, Tryz.ntmps156
  go_wp2_with fail
  refine H.out.mono ?_
  rintro e w1 ⟨rfl, hF1, hM1, hR1⟩
  have HF1 := Lib.hid hF1
  have HM1 := Lib.hid hM1
  have HR1 := Lib.hid hR1
  have HV1 := Lib.hid (HV.out.frm hF1 (by simp; exact ⟨hqd, fun e => hxq e.symm⟩))
  clear hF1 hM1 hR1
  go_wp2_with fail
  refine (Done_any HR1.out).mono ?_
  rintro e w2 ⟨rfl, rfl⟩
  obtain ⟨c0, c1, c2, c3, c4, c5, c6, c7, c8, c9, c10, c11, c12, c13, c14, c15, c16, c17, c18, c19, c20, c21⟩ := HV1.out.cells
  have hbl := HV1.out.lt
  have z6 := HV1.out.frz 6
  go_wp2
  go_ret2
  exact ⟨rfl, (HF1.out.weak (by simp)).setCell ⟨q, 6, none⟩ (.int .i64 th) (.inl (by simp)), HM1.out.setFar _ _ hqp hqd, HV1.out.set_nx th, HR1.out.frm ((Frm.refl [q] _).setCell ⟨q, 6, none⟩ (.int .i64 th) (.inl (by simp))) (by simpa using hxq)⟩
set_option maxRecDepth 1000000 in
set_option maxHeartbeats 4000000 in
theorem step_1 {x : Bool} {y : Int} {R : World → Prop} (h : MvAt w q T qe ql a n c m) (hnx : m.nx = 1)
    (hC : Calls Tryz.prog 156 #[.pointer (some ⟨q, 0, none⟩), .iface 24 (.pointer (some ⟨p, 0, none⟩)), .iface (Ip false) (.pointer (some ⟨qe, 0, none⟩)), .int .i64 2] w (fun e w' => e = .returned (.tuple #[.bool x, .int .i64 y]) ∧ R w')) :
    Calls Tryz.prog 155 #[.pointer (some ⟨q, 0, none⟩), .iface 24 (.pointer (some ⟨p, 0, none⟩))] w (fun e w' => e = .returned (.tuple #[.bool x, .int .i64 y]) ∧ R w') := by
  have HC := Lib.hid hC
  have e1 : (m.nx == 1) = true := by simp [hnx]
  have e13 : (m.nx == 13) = false := by simp [hnx]
  have e14 : (m.nx == 14) = false := by simp [hnx]
  have e2 : (m.nx == 2) = false := by simp [hnx]
  have e3 : (m.nx == 3) = false := by simp [hnx]
  have e8 : (m.nx == 8) = false := by simp [hnx]
  have e9 : (m.nx == 9) = false := by simp [hnx]
  clear hnx
  obtain ⟨c0, c1, c2, c3, c4, c5, c6, c7, c8, c9, c10, c11, c12, c13, c14, c15, c16, c17, c18, c19, c20, c21⟩ := h.cells
  have hbl := h.lt
  clear h hC
  go_enter Tryz.func155, Tryz.ntmps155
  go_wp2_with fail
  refine HC.out.mono ?_
  rintro e w1 ⟨rfl, hR⟩
  have HR := Lib.hid hR
  clear hR
  go_wp2
  go_ret2
  exact ⟨rfl, HR.out⟩
set_option maxRecDepth 1000000 in
set_option maxHeartbeats 4000000 in
theorem step_13w {x : Bool} {y : Int} {R : World → Prop} (h : MvAt w q T qe ql a n c m) (hnx : m.nx = 13) (hw : m.wt = true)
    (hC : Calls Tryz.prog 156 #[.pointer (some ⟨q, 0, none⟩), .iface 24 (.pointer (some ⟨p, 0, none⟩)), .iface (Ip true) (.pointer (some ⟨ql, 0, none⟩)), .int .i64 14] w (fun e w' => e = .returned (.tuple #[.bool x, .int .i64 y]) ∧ R w')) :
    Calls Tryz.prog 155 #[.pointer (some ⟨q, 0, none⟩), .iface 24 (.pointer (some ⟨p, 0, none⟩))] w (fun e w' => e = .returned (.tuple #[.bool x, .int .i64 y]) ∧ R w') := by
  have HC := Lib.hid hC
  have e1 : (m.nx == 1) = false := by simp [hnx]
  have e13 : (m.nx == 13) = true := by simp [hnx]
  have e14 : (m.nx == 14) = false := by simp [hnx]
  have e2 : (m.nx == 2) = false := by simp [hnx]
  have e3 : (m.nx == 3) = false := by simp [hnx]
  have e8 : (m.nx == 8) = false := by simp [hnx]
  have e9 : (m.nx == 9) = false := by simp [hnx]
  clear hnx
  obtain ⟨c0, c1, c2, c3, c4, c5, c6, c7, c8, c9, c10, c11, c12, c13, c14, c15, c16, c17, c18, c19, c20, c21⟩ := h.cells
  rw [hw] at c21
  have hbl := h.lt
  clear h hC
  go_enter Tryz.func155, Tryz.ntmps155
  go_wp2_with fail
  refine HC.out.mono ?_
  rintro e w1 ⟨rfl, hR⟩
  have HR := Lib.hid hR
  clear hR
  go_wp2
  go_ret2
  exact ⟨rfl, HR.out⟩
set_option maxRecDepth 1000000 in
set_option maxHeartbeats 4000000 in
theorem step_13 {x : Bool} {y : Int} {R : World → Prop} (h : MvAt w q T qe ql a n c m) (hnx : m.nx = 13) (hw : m.wt = false)
    (hC : Calls Tryz.prog 156 #[.pointer (some ⟨q, 0, none⟩), .iface 24 (.pointer (some ⟨p, 0, none⟩)), .iface (Ip true) (.pointer (some ⟨ql, 0, none⟩)), .int .i64 0] w (fun e w' => e = .returned (.tuple #[.bool x, .int .i64 y]) ∧ R w')) :
    Calls Tryz.prog 155 #[.pointer (some ⟨q, 0, none⟩), .iface 24 (.pointer (some ⟨p, 0, none⟩))] w (fun e w' => e = .returned (.tuple #[.bool x, .int .i64 y]) ∧ R w') := by
  have HC := Lib.hid hC
  have e1 : (m.nx == 1) = false := by simp [hnx]
  have e13 : (m.nx == 13) = true := by simp [hnx]
  have e14 : (m.nx == 14) = false := by simp [hnx]
  have e2 : (m.nx == 2) = false := by simp [hnx]
  have e3 : (m.nx == 3) = false := by simp [hnx]
  have e8 : (m.nx == 8) = false := by simp [hnx]
  have e9 : (m.nx == 9) = false := by simp [hnx]
  clear hnx
  obtain ⟨c0, c1, c2, c3, c4, c5, c6, c7, c8, c9, c10, c11, c12, c13, c14, c15, c16, c17, c18, c19, c20, c21⟩ := h.cells
  rw [hw] at c21
  have hbl := h.lt
  clear h hC
  go_enter Tryz.func155, Tryz.ntmps155
  go_wp2_with fail
  refine HC.out.mono ?_
  rintro e w1 ⟨rfl, hR⟩
  have HR := Lib.hid hR
  clear hR
  go_wp2
  go_ret2
  exact ⟨rfl, HR.out⟩
set_option maxRecDepth 1000000 in
set_option maxHeartbeats 4000000 in
theorem step_14 {x : Bool} {y : Int} {R : World → Prop} (h : MvAt w q T qe ql a n c m) (hnx : m.nx = 14)
    (hC : Calls Tryz.prog 157 #[.pointer (some ⟨q, 0, none⟩), .iface 24 (.pointer (some ⟨p, 0, none⟩))] w (fun e w' => e = .returned (.tuple #[.bool x, .int .i64 y]) ∧ R w')) :
    Calls Tryz.prog 155 #[.pointer (some ⟨q, 0, none⟩), .iface 24 (.pointer (some ⟨p, 0, none⟩))] w (fun e w' => e = .returned (.tuple #[.bool x, .int .i64 y]) ∧ R w') := by
  have HC := Lib.hid hC
  have e1 : (m.nx == 1) = false := by simp [hnx]
  have e13 : (m.nx == 13) = false := by simp [hnx]
  have e14 : (m.nx == 14) = true := by simp [hnx]
  have e2 : (m.nx == 2) = false := by simp [hnx]
  have e3 : (m.nx == 3) = false := by simp [hnx]
  have e8 : (m.nx == 8) = false := by simp [hnx]
  have e9 : (m.nx == 9) = false := by simp [hnx]
  clear hnx
  obtain ⟨c0, c1, c2, c3, c4, c5, c6, c7, c8, c9, c10, c11, c12, c13, c14, c15, c16, c17, c18, c19, c20, c21⟩ := h.cells
  have hbl := h.lt
  clear h hC
  go_enter Tryz.func155, Tryz.ntmps155
  go_wp2_with fail
  refine HC.out.mono ?_
  rintro e w1 ⟨rfl, hR⟩
  have HR := Lib.hid hR
  clear hR
  go_wp2
  go_ret2
  exact ⟨rfl, HR.out⟩
set_option maxRecDepth 1000000 in
set_option maxHeartbeats 4000000 in
theorem step_2 {y : Int} {R : World → Prop} (h : MvAt w q T qe ql a n c m) (hnx : m.nx = 2)
    (hC : Calls Tryz.prog 158 #[.pointer (some ⟨q, 0, none⟩), .iface 24 (.pointer (some ⟨p, 0, none⟩))] w (fun e w' => e = .returned (.int .i64 y) ∧ R w')) :
    Calls Tryz.prog 155 #[.pointer (some ⟨q, 0, none⟩), .iface 24 (.pointer (some ⟨p, 0, none⟩))] w (fun e w' => e = .returned (.tuple #[.bool false, .int .i64 y]) ∧ R w') := by
  have HC := Lib.hid hC
  have e1 : (m.nx == 1) = false := by simp [hnx]
  have e13 : (m.nx == 13) = false := by simp [hnx]
  have e14 : (m.nx == 14) = false := by simp [hnx]
  have e2 : (m.nx == 2) = true := by simp [hnx]
  have e3 : (m.nx == 3) = false := by simp [hnx]
  have e8 : (m.nx == 8) = false := by simp [hnx]
  have e9 : (m.nx == 9) = false := by simp [hnx]
  clear hnx
  obtain ⟨c0, c1, c2, c3, c4, c5, c6, c7, c8, c9, c10, c11, c12, c13, c14, c15, c16, c17, c18, c19, c20, c21⟩ := h.cells
  have hbl := h.lt
  clear h hC
  go_enter Tryz.func155, Tryz.ntmps155
  go_wp2_with fail
  refine HC.out.mono ?_
  rintro e w1 ⟨rfl, hR⟩
  have HR := Lib.hid hR
  clear hR
  go_wp2
  go_ret2
  exact ⟨rfl, HR.out⟩
set_option maxRecDepth 1000000 in
set_option maxHeartbeats 4000000 in
theorem step_3 {y : Int} {R : World → Prop} (h : MvAt w q T qe ql a n c m) (hnx : m.nx = 3)
    (hC : Calls Tryz.prog 159 #[.pointer (some ⟨q, 0, none⟩), .iface 24 (.pointer (some ⟨p, 0, none⟩))] w (fun e w' => e = .returned (.int .i64 y) ∧ R w')) :
    Calls Tryz.prog 155 #[.pointer (some ⟨q, 0, none⟩), .iface 24 (.pointer (some ⟨p, 0, none⟩))] w (fun e w' => e = .returned (.tuple #[.bool false, .int .i64 y]) ∧ R w') := by
  have HC := Lib.hid hC
  have e1 : (m.nx == 1) = false := by simp [hnx]
  have e13 : (m.nx == 13) = false := by simp [hnx]
  have e14 : (m.nx == 14) = false := by simp [hnx]
  have e2 : (m.nx == 2) = false := by simp [hnx]
  have e3 : (m.nx == 3) = true := by simp [hnx]
  have e8 : (m.nx == 8) = false := by simp [hnx]
  have e9 : (m.nx == 9) = false := by simp [hnx]
  clear hnx
  obtain ⟨c0, c1, c2, c3, c4, c5, c6, c7, c8, c9, c10, c11, c12, c13, c14, c15, c16, c17, c18, c19, c20, c21⟩ := h.cells
  have hbl := h.lt
  clear h hC
  go_enter Tryz.func155, Tryz.ntmps155
  go_wp2_with fail
  refine HC.out.mono ?_
  rintro e w1 ⟨rfl, hR⟩
  have HR := Lib.hid hR
  clear hR
  go_wp2
  go_ret2
  exact ⟨rfl, HR.out⟩
set_option maxRecDepth 1000000 in
set_option maxHeartbeats 4000000 in
theorem step_8 {y : Int} {R : World → Prop} (h : MvAt w q T qe ql a n c m) (hnx : m.nx = 8)
    (hC : Calls Tryz.prog 160 #[.pointer (some ⟨q, 0, none⟩), .iface 24 (.pointer (some ⟨p, 0, none⟩))] w (fun e w' => e = .returned (.int .i64 y) ∧ R w')) :
    Calls Tryz.prog 155 #[.pointer (some ⟨q, 0, none⟩), .iface 24 (.pointer (some ⟨p, 0, none⟩))] w (fun e w' => e = .returned (.tuple #[.bool false, .int .i64 y]) ∧ R w') := by
  have HC := Lib.hid hC
  have e1 : (m.nx == 1) = false := by simp [hnx]
  have e13 : (m.nx == 13) = false := by simp [hnx]
  have e14 : (m.nx == 14) = false := by simp [hnx]
  have e2 : (m.nx == 2) = false := by simp [hnx]
  have e3 : (m.nx == 3) = false := by simp [hnx]
  have e8 : (m.nx == 8) = true := by simp [hnx]
  have e9 : (m.nx == 9) = false := by simp [hnx]
  clear hnx
  obtain ⟨c0, c1, c2, c3, c4, c5, c6, c7, c8, c9, c10, c11, c12, c13, c14, c15, c16, c17, c18, c19, c20, c21⟩ := h.cells
  have hbl := h.lt
  clear h hC
  go_enter Tryz.func155, Tryz.ntmps155
  go_wp2_with fail
  refine HC.out.mono ?_
  rintro e w1 ⟨rfl, hR⟩
  have HR := Lib.hid hR
  clear hR
  go_wp2
  go_ret2
  exact ⟨rfl, HR.out⟩
set_option maxRecDepth 1000000 in
set_option maxHeartbeats 4000000 in
theorem step_9 {y : Int} {R : World → Prop} (h : MvAt w q T qe ql a n c m) (hnx : m.nx = 9)
    (hC : Calls Tryz.prog 161 #[.pointer (some ⟨q, 0, none⟩), .iface 24 (.pointer (some ⟨p, 0, none⟩))] w (fun e w' => e = .returned (.int .i64 y) ∧ R w')) :
    Calls Tryz.prog 155 #[.pointer (some ⟨q, 0, none⟩), .iface 24 (.pointer (some ⟨p, 0, none⟩))] w (fun e w' => e = .returned (.tuple #[.bool false, .int .i64 y]) ∧ R w') := by
  have HC := Lib.hid hC
  have e1 : (m.nx == 1) = false := by simp [hnx]
  have e13 : (m.nx == 13) = false := by simp [hnx]
  have e14 : (m.nx == 14) = false := by simp [hnx]
  have e2 : (m.nx == 2) = false := by simp [hnx]
  have e3 : (m.nx == 3) = false := by simp [hnx]
  have e8 : (m.nx == 8) = false := by simp [hnx]
  have e9 : (m.nx == 9) = true := by simp [hnx]
  clear hnx
  obtain ⟨c0, c1, c2, c3, c4, c5, c6, c7, c8, c9, c10, c11, c12, c13, c14, c15, c16, c17, c18, c19, c20, c21⟩ := h.cells
  have hbl := h.lt
  clear h hC
  go_enter Tryz.func155, Tryz.ntmps155
  go_wp2_with fail
  refine HC.out.mono ?_
  rintro e w1 ⟨rfl, hR⟩
  have HR := Lib.hid hR
  clear hR
  go_wp2
  go_ret2
  exact ⟨rfl, HR.out⟩
set_option maxRecDepth 1000000 in
set_option maxHeartbeats 4000000 in
theorem step_st {y : Int} {R : World → Prop} (h : MvAt w q T qe ql a n c m) (hnx : m.nx = 4 ∨ m.nx = 5 ∨ m.nx = 6 ∨ m.nx = 7 ∨ m.nx = 10 ∨ m.nx = 11 ∨ m.nx = 12)
    (hC : Calls Tryz.prog 162 #[.pointer (some ⟨q, 0, none⟩), .iface 24 (.pointer (some ⟨p, 0, none⟩))] w (fun e w' => e = .returned (.int .i64 y) ∧ R w')) :
    Calls Tryz.prog 155 #[.pointer (some ⟨q, 0, none⟩), .iface 24 (.pointer (some ⟨p, 0, none⟩))] w (fun e w' => e = .returned (.tuple #[.bool false, .int .i64 y]) ∧ R w') := by
  have HC := Lib.hid hC
  have e1 : (m.nx == 1) = false := by simp; omega
  have e13 : (m.nx == 13) = false := by simp; omega
  have e14 : (m.nx == 14) = false := by simp; omega
  have e2 : (m.nx == 2) = false := by simp; omega
  have e3 : (m.nx == 3) = false := by simp; omega
  have e8 : (m.nx == 8) = false := by simp; omega
  have e9 : (m.nx == 9) = false := by simp; omega
  clear hnx
  obtain ⟨c0, c1, c2, c3, c4, c5, c6, c7, c8, c9, c10, c11, c12, c13, c14, c15, c16, c17, c18, c19, c20, c21⟩ := h.cells
  have hbl := h.lt
  clear h hC
  go_enter Tryz.func155, Tryz.ntmps155
  go_wp2_with fail
  refine HC.out.mono ?_
  rintro e w1 ⟨rfl, hR⟩
  have HR := Lib.hid hR
  clear hR
  go_wp2
  go_ret2
  exact ⟨rfl, HR.out⟩
end
end Go.Proofs.YticbbfcachnkiaaGreatDoor
