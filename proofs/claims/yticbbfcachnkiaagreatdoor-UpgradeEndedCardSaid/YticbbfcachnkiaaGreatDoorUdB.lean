/- Package upgrade: where a decision lies; running, moves, keeps, then, goOn, none, Done, Result (by gen_udb.py). -/
import Derived.Test.YticbbfcachnkiaaGreatDoorUdA
namespace Go.Proofs.YticbbfcachnkiaaGreatDoor
open Go.ChangeShapes Go.WideShapes Go.ChangeAt Go.RowKit
set_option linter.unusedVariables false
set_option linter.unusedSimpArgs false
/-- A decision lies at D: its programs are the moves at q0 .. q4. -/
structure DObj (w : World) (D q0 q1 q2 q3 q4 now : Nat) (res : Int) : Prop where
  obj : w.heap[D]? = some (.cells #[.iface 76 (.pointer (some ⟨q0, 0, none⟩)), .iface 76 (.pointer (some ⟨q1, 0, none⟩)), .iface 76 (.pointer (some ⟨q2, 0, none⟩)), .iface 76 (.pointer (some ⟨q3, 0, none⟩)), .iface 76 (.pointer (some ⟨q4, 0, none⟩)), .int .i64 (now : Int), .int .u64 res] 85 (0, 0))
def pickQ (q0 q1 q2 q3 q4 i : Nat) : Nat := if i = 0 then q0 else if i = 1 then q1 else if i = 2 then q2 else if i = 3 then q3 else q4
namespace DObj
variable {w w' : World} {D q0 q1 q2 q3 q4 now : Nat} {res : Int}
theorem lt (h : DObj w D q0 q1 q2 q3 q4 now res) : D < w.heap.size := lt_of_heap h.obj
theorem frm {L : List Nat} (h : DObj w D q0 q1 q2 q3 q4 now res) (hf : Frm L w w') (hd : D ∉ L) : DObj w' D q0 q1 q2 q3 q4 now res := ⟨hf.heap h.obj hd⟩
theorem frm0 (h : DObj w D q0 q1 q2 q3 q4 now res) (hf : Frm [] w w') : DObj w' D q0 q1 q2 q3 q4 now res := h.frm hf (by simp)
theorem cells (h : DObj w D q0 q1 q2 q3 q4 now res) : w.cell? ⟨D, 0, none⟩ = some (.iface 76 (.pointer (some ⟨q0, 0, none⟩))) ∧ w.cell? ⟨D, 1, none⟩ = some (.iface 76 (.pointer (some ⟨q1, 0, none⟩))) ∧ w.cell? ⟨D, 2, none⟩ = some (.iface 76 (.pointer (some ⟨q2, 0, none⟩))) ∧ w.cell? ⟨D, 3, none⟩ = some (.iface 76 (.pointer (some ⟨q3, 0, none⟩))) ∧ w.cell? ⟨D, 4, none⟩ = some (.iface 76 (.pointer (some ⟨q4, 0, none⟩))) ∧ w.cell? ⟨D, 5, none⟩ = some (.int .i64 (now : Int)) ∧ w.cell? ⟨D, 6, none⟩ = some (.int .u64 res) := by
  refine ⟨?_, ?_, ?_, ?_, ?_, ?_, ?_⟩ <;> rw [cell_of_heap h.obj] <;> rfl
theorem frz (h : DObj w D q0 q1 q2 q3 q4 now res) (i : Nat) : w.frozen? ⟨D, i, none⟩ = false := frozen_of_heap h.obj
theorem set_now (h : DObj w D q0 q1 q2 q3 q4 now res) (k : Nat) : DObj (w.setCell ⟨D, 5, none⟩ (.int .i64 (k : Int))) D q0 q1 q2 q3 q4 k res := by
  have := heap_setCell_at (i := 5) (.int .i64 (k : Int)) h.obj
  exact ⟨by simpa using this⟩
theorem set_res (h : DObj w D q0 q1 q2 q3 q4 now res) (r : Int) : DObj (w.setCell ⟨D, 6, none⟩ (.int .u64 r)) D q0 q1 q2 q3 q4 now r := by
  have := heap_setCell_at (i := 6) (.int .u64 r) h.obj
  exact ⟨by simpa using this⟩
end DObj
section
variable {w : World} {D q0 q1 q2 q3 q4 now : Nat} {res : Int}
set_option maxRecDepth 100000 in
set_option maxHeartbeats 4000000 in
theorem running_any (h : DObj w D q0 q1 q2 q3 q4 now res) (hn : now < 5) : Calls Tryz.prog 60 #[.pointer (some ⟨D, 0, none⟩)] w (Ret (.iface 76 (.pointer (some ⟨pickQ q0 q1 q2 q3 q4 now, 0, none⟩))) (fun w' => Frm [] w w')) := by
  obtain ⟨c0, c1, c2, c3, c4, c5, c6⟩ := h.cells
  have hbl := h.lt
  clear h
  have hc : now = 0 ∨ now = 1 ∨ now = 2 ∨ now = 3 ∨ now = 4 := by omega
  rcases hc with rfl | rfl | rfl | rfl | rfl
  all_goals
    go_enter Tryz.func60, Tryz.ntmps60
    go_wp2_with fail
    go_quiet (fail)
    go_wp2
    go_ret
    exact ⟨rfl, (Frm.refl _ _).drewN _⟩
theorem moves_any (h : DObj w D q0 q1 q2 q3 q4 now res) : Calls Tryz.prog 61 #[.pointer (some ⟨D, 0, none⟩)] w (Ret (.bool (!(decide (now = 1 ∨ now = 3)))) (fun w' => w = w')) := by
  obtain ⟨c0, c1, c2, c3, c4, c5, c6⟩ := h.cells
  have hbl := h.lt
  clear h
  by_cases h1 : now = 1
  · subst h1
    go_enter Tryz.func61, Tryz.ntmps61
    go_wp2
    go_ret
    exact ⟨rfl, rfl⟩
  by_cases h3 : now = 3
  · subst h3
    go_enter Tryz.func61, Tryz.ntmps61
    go_wp2
    go_ret
    exact ⟨rfl, rfl⟩
  have e1 : ((now : Int) != 1) = true := by simp; omega
  have e3 : ((now : Int) != 3) = true := by simp; omega
  have ed : (!(decide (now = 1 ∨ now = 3))) = true := by simp [h1, h3]
  rw [ed]
  clear ed
  go_enter Tryz.func61, Tryz.ntmps61
  go_wp2
  go_ret
  exact ⟨rfl, rfl⟩
set_option maxRecDepth 100000 in
theorem as_mv (v : Option Addr) (w : World) : (Instr.typeAssert (.iface 76 (.pointer v)) 146 76 true).run Tryz.prog w = .ok (.tuple #[.pointer v, .bool true]) w := by kernel_rfl
set_option maxRecDepth 100000 in
theorem as_dc (v : Option Addr) (w : World) : (Instr.typeAssert (.iface 76 (.pointer v)) 146 57 true).run Tryz.prog w = .ok (.tuple #[.pointer none, .bool false]) w := by kernel_rfl
set_option maxRecDepth 100000 in
theorem keeps_mv (q : Nat) : Calls Tryz.prog 59 #[.iface 76 (.pointer (some ⟨q, 0, none⟩))] w (Ret (.bool true) (fun w' => w = w')) := by
  have ha := as_mv (some ⟨q, 0, none⟩)
  have hb := as_dc (some ⟨q, 0, none⟩)
  go_enter Tryz.func59, Tryz.ntmps59
  go_wp2
  go_ret
  exact ⟨rfl, rfl⟩
theorem none_d (h : DObj w D q0 q1 q2 q3 q4 now res) : Calls Tryz.prog 44 #[.pointer (some ⟨D, 0, none⟩)] w (Ret (.bool false) (fun w' => w = w')) := by
  obtain ⟨c0, c1, c2, c3, c4, c5, c6⟩ := h.cells
  have hbl := h.lt
  clear h
  go_enter Tryz.func44, Tryz.ntmps44
  go_wp2
  go_ret
  exact ⟨rfl, rfl⟩
theorem Done_d (h : DObj w D q0 q1 q2 q3 q4 now res) : Calls Tryz.prog 20 #[.pointer (some ⟨D, 0, none⟩)] w (Ret (.bool (now == 5)) (fun w' => w = w')) := by
  have H := Lib.hid (none_d h)
  obtain ⟨c0, c1, c2, c3, c4, c5, c6⟩ := h.cells
  have hbl := h.lt
  clear h
  by_cases h5 : now = 5
  · subst h5
    go_enter Tryz.func20, Tryz.ntmps20
    go_wp2_with fail
    refine H.out.mono ?_
    rintro e w1 ⟨rfl, rfl⟩
    go_wp2
    go_ret
    exact ⟨rfl, rfl⟩
  · have e5 : ((now : Int) == 5) = false := by simp; omega
    have ed : (now == 5) = false := by simp [h5]
    rw [ed]
    clear ed h5
    go_enter Tryz.func20, Tryz.ntmps20
    go_wp2_with fail
    refine H.out.mono ?_
    rintro e w1 ⟨rfl, rfl⟩
    go_wp2
    go_ret
    exact ⟨rfl, rfl⟩
theorem Result_d (h : DObj w D q0 q1 q2 q3 q4 now res) : Calls Tryz.prog 22 #[.pointer (some ⟨D, 0, none⟩)] w (Ret (.int .u64 (if now = 5 then res else 0)) (fun w' => w = w')) := by
  have H := Lib.hid (none_d h)
  obtain ⟨c0, c1, c2, c3, c4, c5, c6⟩ := h.cells
  have hbl := h.lt
  clear h
  by_cases h5 : now = 5
  · subst h5
    rw [if_pos rfl]
    go_enter Tryz.func22, Tryz.ntmps22
    go_wp2_with fail
    refine H.out.mono ?_
    rintro e w1 ⟨rfl, rfl⟩
    go_wp2
    go_ret
    exact ⟨rfl, rfl⟩
  · have e5 : ((now : Int) != 5) = true := by simp; omega
    rw [if_neg h5]
    clear h5
    go_enter Tryz.func22, Tryz.ntmps22
    go_wp2_with fail
    refine H.out.mono ?_
    rintro e w1 ⟨rfl, rfl⟩
    go_wp2
    go_ret
    exact ⟨rfl, rfl⟩
end
section
variable {w : World} {D q0 q1 q2 q3 q4 now : Nat} {res : Int} {T qe ql : Nat} {a : Option Addr} {n c : Nat} {m : Mv}
set_option maxRecDepth 100000 in
set_option maxHeartbeats 4000000 in
theorem then_any (h : DObj w D q0 q1 q2 q3 q4 now res) (hn : now < 5) (hM : MvAt w (pickQ q0 q1 q2 q3 q4 now) T qe ql a n c m) : Calls Tryz.prog 87 #[.pointer (some ⟨D, 0, none⟩)] w (Ret (.int .i64 (dThen now m.res : Nat)) (fun w' => Frm [D] w w' ∧ DObj w' D q0 q1 q2 q3 q4 now (if now = 3 then m.res else res))) := by
  have HR := Lib.hid (running_any h hn)
  have HM := Lib.hid hM
  have HO := Lib.hid h
  obtain ⟨r, hr⟩ : ∃ r, r = m.res := ⟨_, rfl⟩
  rw [← hr]
  have HRR := Lib.hid hr
  have r2 : r = 0 ∨ r = 1 := by rw [hr]; unfold Mv.res; split <;> simp
  clear h hM hr
  go_enter Tryz.func87, Tryz.ntmps87
  go_wp2_with fail
  refine HR.out.mono ?_
  rintro e w1 ⟨rfl, hF1⟩
  have HRes := Lib.hid (Result_mv (HM.out.frm hF1 (by simp)))
  rw [← HRR.out] at HRes
  have HO1 := Lib.hid (HO.out.frm0 hF1)
  have HF1 := Lib.hid hF1
  clear hF1
  go_wp2_with fail
  refine HRes.out.mono ?_
  rintro e w2 ⟨rfl, rfl⟩
  obtain ⟨c0, c1, c2, c3, c4, c5, c6⟩ := HO1.out.cells
  have hbl := HO1.out.lt
  have z6 := HO1.out.frz 6
  have hc : now = 0 ∨ now = 1 ∨ now = 2 ∨ now = 3 ∨ now = 4 := by omega
  rcases hc with rfl | rfl | rfl | rfl | rfl
  · rcases r2 with rfl | rfl
    all_goals
      go_wp2
      go_ret
      exact ⟨rfl, HF1.out.nil, HO1.out⟩
  · rcases r2 with rfl | rfl
    all_goals
      go_wp2
      go_ret
      exact ⟨rfl, HF1.out.nil, HO1.out⟩
  · go_wp2
    go_ret
    exact ⟨rfl, HF1.out.nil, HO1.out⟩
  · go_wp2
    go_ret
    exact ⟨rfl, HF1.out.nil.setCell _ _ (.inl (by simp)), HO1.out.set_res r⟩
  · go_wp2
    go_ret
    exact ⟨rfl, HF1.out.nil, HO1.out⟩
set_option maxRecDepth 100000 in
set_option maxHeartbeats 4000000 in
theorem goOn_any (h : DObj w D q0 q1 q2 q3 q4 now res) (hn : now < 5) (hM : MvAt w (pickQ q0 q1 q2 q3 q4 now) T qe ql a n c m) (hD : pickQ q0 q1 q2 q3 q4 now ≠ D) :
    Calls Tryz.prog 58 #[.pointer (some ⟨D, 0, none⟩)] w (Ret (.tuple #[]) (fun w' => Frm [D] w w' ∧ DObj w' D q0 q1 q2 q3 q4 (if m.nx = 0 then dThen now m.res else now) (if m.nx = 0 ∧ now = 3 then m.res else res))) := by
  have HR := Lib.hid (running_any h hn)
  have HM := Lib.hid hM
  have HO := Lib.hid h
  clear h hM
  by_cases h0 : m.nx = 0
  · have e0 : (m.nx == 0) = true := by simp [h0]
    rw [if_pos h0]
    have ei : (if m.nx = 0 ∧ now = 3 then m.res else res) = (if now = 3 then m.res else res) := by simp [h0]
    rw [ei]
    clear h0 ei
    obtain ⟨r9, hr9⟩ : ∃ r, r = (if now = 3 then m.res else res) := ⟨_, rfl⟩
    obtain ⟨k9, hk9⟩ : ∃ k, k = dThen now m.res := ⟨_, rfl⟩
    rw [← hr9, ← hk9]
    have HR9 := Lib.hid hr9
    have HK9 := Lib.hid hk9
    clear hr9 hk9
    go_enter Tryz.func58, Tryz.ntmps58
    go_wp2_with fail
    refine HR.out.mono ?_
    rintro e w1 ⟨rfl, hF1⟩
    have HM1 := Lib.hid (HM.out.frm hF1 (by simp))
    have HDn := Lib.hid (Done_mv HM1.out)
    have HO1 := Lib.hid (HO.out.frm0 hF1)
    have HF1 := Lib.hid hF1
    have HT := Lib.hid (then_any HO1.out hn HM1.out)
    rw [← HR9.out, ← HK9.out] at HT
    have hDl := HO1.out.lt
    clear hF1
    go_wp2_with fail
    refine HDn.out.mono ?_
    rintro e w2 ⟨rfl, rfl⟩
    go_wp2_with fail
    refine HT.out.mono ?_
    rintro e w3 ⟨rfl, hF3, hO3⟩
    obtain ⟨c0, c1, c2, c3, c4, c5, c6⟩ := hO3.cells
    have hbl := hO3.lt
    have z5 := hO3.frz 5
    have HF3 := Lib.hid hF3
    have HO3 := Lib.hid hO3
    clear hF3 hO3
    go_wp2
    go_end0
    exact ⟨rfl, (HF1.out.nil.trans HF3.out).setCell _ _ (.inl (by simp)), HO3.out.set_now _⟩
  · have e0 : (m.nx == 0) = false := by simp [h0]
    rw [if_neg h0, if_neg (by simp [h0])]
    clear h0
    go_enter Tryz.func58, Tryz.ntmps58
    go_wp2_with fail
    refine HR.out.mono ?_
    rintro e w1 ⟨rfl, hF1⟩
    have HM1 := Lib.hid (HM.out.frm hF1 (by simp))
    have HDn := Lib.hid (Done_mv HM1.out)
    have HO1 := Lib.hid (HO.out.frm0 hF1)
    have HF1 := Lib.hid hF1
    clear hF1
    go_wp2_with fail
    refine HDn.out.mono ?_
    rintro e w2 ⟨rfl, rfl⟩
    go_wp2
    go_end0
    exact ⟨rfl, HF1.out.nil, HO1.out⟩
end
end Go.Proofs.YticbbfcachnkiaaGreatDoor
