/- Package latch: store, await, readBits (by gen_lud.py). -/
import Derived.Test.YticbbfcachnkiaaGreatDoorUuC
namespace Go.Proofs.YticbbfcachnkiaaGreatDoor
open Go.ChangeShapes Go.WideShapes Go.ChangeAt Go.RowKit
set_option linter.unusedVariables false
set_option linter.unusedSimpArgs false

/-- What is true behind a step: the arena, the move, who is woken. -/
def AftS (w : World) (p d cc q T qe ql B : Nat) (a : Option Addr) (n c : Nat) (v : Value) (ws : List Int) (m : Mv) (e : Ending) (w' : World) : Prop :=
  ∃ a' n' c', Ret v (fun w' => Frm (d :: q :: blk (.slice a n c)) w w' ∧ MemAt w' p d cc ws ∧ MvAt w' q T qe ql a' n' c' m ∧ WkA B w' a' n' c' m ∧ ∀ x ∈ blk (.slice a' n' c'), x ∈ blk (.slice a n c) ∨ w.heap.size ≤ x) e w'
section
variable {w : World} {p d cc q T qe ql B : Nat} {a : Option Addr} {n c : Nat} {m : Mv} {ws : List Int}
theorem mv_ne (h : MvAt w q T qe ql a n c m) (hM : MemAt w p d cc ws) : q ≠ p ∧ q ≠ d := by
  constructor
  · rintro rfl
    have := h.obj.symm.trans hM.obj
    simp at this
  · rintro rfl
    obtain ⟨cs, hc, _⟩ := hM.arr
    have := h.obj.symm.trans hc
    simp at this
theorem wk_ne (h : WkA B w a n c m) (hM : MemAt w p d cc ws) : ∀ x ∈ blk (.slice a n c), x ≠ p ∧ x ≠ d := by
  intro x hx
  obtain ⟨_, cs, hc⟩ := h.own x hx
  constructor
  · rintro rfl
    have := hc.symm.trans hM.obj
    simp at this
  · rintro rfl
    obtain ⟨cs', hc', _⟩ := hM.arr
    have := hc.symm.trans hc'
    simp at this
set_option maxRecDepth 1000000 in
set_option maxHeartbeats 4000000 in
theorem store_ok {x : Nat} {v : Int} (hM : MemAt w p d cc ws) (h : MvAt w q T qe ql a n c m) (hg : Gd T m.s) (hs : StW m x v) (hmd : 1 ≤ m.md ∧ m.md ≤ 3 ∨ m.k = 1) (hk1 : m.nx = 4 → m.k ≠ 1) (hwk : ∀ y ∈ m.wk, 0 ≤ y ∧ y < 2 * T) (hwa : WkA B w a n c m) (hx : x < ws.length) :
    Calls Tryz.prog 162 #[.pointer (some ⟨q, 0, none⟩), .iface 24 (.pointer (some ⟨p, 0, none⟩))] w (AftS w p d cc q T qe ql B a n c (.int .i64 0) (ws.set x v) m.stored) := by
  have hm := m_store p
  have T64 := h.t64
  obtain ⟨hqp, hqd⟩ := mv_ne h hM
  have hbn := wk_ne hwa hM
  have hqb := hwa.ne h
  obtain ⟨gb, go, hL, _⟩ := hwa.li
  have hnx : m.nx = 4 ∨ m.nx = 5 ∨ m.nx = 6 ∨ m.nx = 7 ∨ m.nx = 10 ∨ m.nx = 11 ∨ m.nx = 12 ∧ m.wk ≠ [] := by
    cases hs
    · exact .inl ‹_›
    · exact .inr (.inl ‹_›)
    · exact .inr (.inr (.inl ‹_›))
    · exact .inr (.inr (.inr (.inl ‹_›)))
    · exact .inr (.inr (.inr (.inr (.inl ‹_›))))
    · exact .inr (.inr (.inr (.inr (.inr (.inl ‹_›)))))
    · rename_i hk; exact .inr (.inr (.inr (.inr (.inr (.inr ⟨‹_›, by rw [hk]; simp⟩)))))
  have H := Lib.hid (storing_any h hg h.fit hs hmd hk1 hwk gb go hL)
  have HM := Lib.hid hM
  have HV := Lib.hid h
  have HA := Lib.hid hwa
  have HG := Lib.hid hg
  have HNX := Lib.hid hnx
  have HBN := Lib.hid hbn
  clear hM h hg hs hmd hk1 hwk hwa hL hnx hbn
  go_enter Tryz.func162, Tryz.ntmps162
  go_wp2_with fail
  refine H.out.mono ?_
  rintro e w1 ⟨rfl, hF1⟩
  have HF1 := Lib.hid hF1
  have HM1 := Lib.hid (HM.out.frm hF1 (by simp) (by simp))
  have HV1 := Lib.hid (HV.out.frm hF1 (by simp))
  have HA1 := Lib.hid (HA.out.frm hF1 (by simp))
  clear hF1
  go_wp2_with fail
  refine (Store_ok HM1.out x v hx).mono ?_
  rintro e w2 ⟨rfl, hF2, hM2⟩
  have HF2 := Lib.hid (HF1.out.nil.trans hF2)
  have HM2 := Lib.hid hM2
  have HV2 := Lib.hid (HV1.out.frm hF2 (by simpa using hqd))
  have HA2 := Lib.hid (HA1.out.frm hF2 (by intro x hx; simpa using (HBN.out x hx).2))
  clear hF2 hM2
  have H2 := Lib.hid (stored_any HV2.out HNX.out HG.out HA2.out)
  go_wp2_with fail
  refine H2.out.mono ?_
  rintro e w3 ⟨a', n', c', rfl, hF3, hV3, hA3, hP3⟩
  have HF3 := Lib.hid hF3
  have HV3 := Lib.hid hV3
  have HA3 := Lib.hid hA3
  have HP3 := Lib.hid hP3
  clear hF3 hV3 hA3 hP3
  go_wp2
  go_ret
  exact ⟨a', n', c', rfl, (HF2.out.weak (by simp)).trans (HF3.out.weak (by simp)), HM2.out.frm HF3.out (by simpa using fun h => hqp h.symm) (by simpa using fun h => hqd h.symm), HV3.out, HA3.out, fun x hx => .inl (HP3.out x hx)⟩
set_option maxRecDepth 1000000 in
set_option maxHeartbeats 4000000 in
theorem await_mw (hM : MemAt w p d cc ws) (h : MvAt w q T qe ql a n c m) (hwa : WkA B w a n c m) (hnx : m.nx = 14) (u : Int) (hu : u ≠ 0) (hx : ws[wtW m.nb (2 * m.t + 1)]? = some u) :
    Calls Tryz.prog 157 #[.pointer (some ⟨q, 0, none⟩), .iface 24 (.pointer (some ⟨p, 0, none⟩))] w (AftS w p d cc q T qe ql B a n c (.tuple #[.bool true, .int .i64 0]) ws m) := by
  have eu : (u != 0) = true := by simpa using hu
  clear hu
  have hm := m_load p
  have hn := n_load p
  have hmf : ∀ (fn : Fn) (first cap : Array Value) (w : World), (Instr.makeFunc fn first cap).run Tryz.prog w = .ok (.func fn first cap) w := fun _ _ _ _ => rfl
  have T64 := h.t64
  have htT := h.tT
  have hnd := m.nd_nat
  obtain ⟨hqp, hqd⟩ := mv_ne h hM
  have hbn := wk_ne hwa hM
  have HN0 : Hid (∀ w', Frm [d] w w' → Calls Tryz.prog 164 #[.pointer (some ⟨q, 0, none⟩)] w' (fun e x => ∃ k, Ret (.int .i64 m.nd) (fun x => x = w'.drewN k) e x)) := Lib.hid fun w' hf => node_any (h.frm hf (by simpa using hqd))
  have HW0 : Hid (∀ w', Frm [d] w w' → Calls Tryz.prog 163 #[.pointer (some ⟨q, 0, none⟩), .int .i64 m.nd] w' (Ret (.int .i64 ((wtW m.nb (2 * m.t + 1) : Nat) : Int)) (fun x => w' = x))) := Lib.hid fun w' hf => by rw [hnd]; exact wait_w (h.frm hf (by simpa using hqd)).nd h.fit _ (by omega)
  have HV : Hid (∀ w', Frm [d] w w' → MvAt w' q T qe ql a n c m) := Lib.hid fun w' hf => h.frm hf (by simpa using hqd)
  have HA : Hid (∀ w', Frm [d] w w' → WkA B w' a n c m) := Lib.hid fun w' hf => hwa.frm hf (by intro x hx; simpa using (hbn x hx).2)
  have HM := Lib.hid hM
  have HX := Lib.hid hx
  have HNX := Lib.hid hnx
  have hbl := h.lt
  clear h hM hwa hx hnd hbn hnx
  go_enter Tryz.func157, Tryz.ntmps157
  go_wp2_with fail
  go_region_held3 (fun w' => Frm [d] w w') (repeat' (first | assumption | exact Frm.refl _ _ | apply Frm.drew | apply Frm.drewN)) (first
    | (go_at_call 164; (with_reducible refine (HN0.out _ (by assumption)).mono ?_); rintro e w1 ⟨k, rfl, rfl⟩)
    | (go_at_call 163; (with_reducible refine (HW0.out _ (by assumption)).mono ?_); rintro e w1 ⟨rfl, rfl⟩)
    | (go_at_call 142; (with_reducible refine (Load_ok (HM.out.frm (D := []) (by (repeat' (first | exact Frm.refl _ _ | apply Frm.drew | apply Frm.drewN))) (by simp) (by simp)) (wtW m.nb (2 * m.t + 1)) u HX.out).mono ?_); rintro e w1 ⟨rfl, hF1, hM1⟩; have hFw : Frm [d] w w1 := Frm.trans (by (repeat' (first | exact Frm.refl _ _ | apply Frm.drew | apply Frm.drewN))) hF1))
  all_goals
    have HF1 := Lib.hid hFw
    have HM1 := Lib.hid hM1
    have HV1 := Lib.hid (HV.out _ hFw)
    have HA1 := Lib.hid (HA.out _ hFw)
    clear hFw hM1 hF1
    go_wp2
    go_ret2
    exact ⟨a, n, c, rfl, HF1.out.weak (by simp), HM1.out, HV1.out, HA1.out, fun x hx => .inl hx⟩
set_option maxRecDepth 1000000 in
set_option maxHeartbeats 4000000 in
theorem await_mg (hM : MemAt w p d cc ws) (h : MvAt w q T qe ql a n c m) (hwa : WkA B w a n c m) (hnx : m.nx = 14) (u : Int) (hu : u = 0) (hx : ws[wtW m.nb (2 * m.t + 1)]? = some u) :
    Calls Tryz.prog 157 #[.pointer (some ⟨q, 0, none⟩), .iface 24 (.pointer (some ⟨p, 0, none⟩))] w (AftS w p d cc q T qe ql B a n c (.tuple #[.bool false, .int .i64 0]) ws { m with nx := 0 }) := by
  have eu : (u != 0) = false := by simpa using hu
  clear hu
  have hm := m_load p
  have hn := n_load p
  have hmf : ∀ (fn : Fn) (first cap : Array Value) (w : World), (Instr.makeFunc fn first cap).run Tryz.prog w = .ok (.func fn first cap) w := fun _ _ _ _ => rfl
  have T64 := h.t64
  have htT := h.tT
  have hnd := m.nd_nat
  obtain ⟨hqp, hqd⟩ := mv_ne h hM
  have hbn := wk_ne hwa hM
  have HN0 : Hid (∀ w', Frm [d] w w' → Calls Tryz.prog 164 #[.pointer (some ⟨q, 0, none⟩)] w' (fun e x => ∃ k, Ret (.int .i64 m.nd) (fun x => x = w'.drewN k) e x)) := Lib.hid fun w' hf => node_any (h.frm hf (by simpa using hqd))
  have HW0 : Hid (∀ w', Frm [d] w w' → Calls Tryz.prog 163 #[.pointer (some ⟨q, 0, none⟩), .int .i64 m.nd] w' (Ret (.int .i64 ((wtW m.nb (2 * m.t + 1) : Nat) : Int)) (fun x => w' = x))) := Lib.hid fun w' hf => by rw [hnd]; exact wait_w (h.frm hf (by simpa using hqd)).nd h.fit _ (by omega)
  have HV : Hid (∀ w', Frm [d] w w' → MvAt w' q T qe ql a n c m) := Lib.hid fun w' hf => h.frm hf (by simpa using hqd)
  have HA : Hid (∀ w', Frm [d] w w' → WkA B w' a n c m) := Lib.hid fun w' hf => hwa.frm hf (by intro x hx; simpa using (hbn x hx).2)
  have HM := Lib.hid hM
  have HX := Lib.hid hx
  have HNX := Lib.hid hnx
  have hbl := h.lt
  clear h hM hwa hx hnd hbn hnx
  go_enter Tryz.func157, Tryz.ntmps157
  go_wp2_with fail
  go_region_held3 (fun w' => Frm [d] w w') (repeat' (first | assumption | exact Frm.refl _ _ | apply Frm.drew | apply Frm.drewN)) (first
    | (go_at_call 164; (with_reducible refine (HN0.out _ (by assumption)).mono ?_); rintro e w1 ⟨k, rfl, rfl⟩)
    | (go_at_call 163; (with_reducible refine (HW0.out _ (by assumption)).mono ?_); rintro e w1 ⟨rfl, rfl⟩)
    | (go_at_call 142; (with_reducible refine (Load_ok (HM.out.frm (D := []) (by (repeat' (first | exact Frm.refl _ _ | apply Frm.drew | apply Frm.drewN))) (by simp) (by simp)) (wtW m.nb (2 * m.t + 1)) u HX.out).mono ?_); rintro e w1 ⟨rfl, hF1, hM1⟩; have hFw : Frm [d] w w1 := Frm.trans (by (repeat' (first | exact Frm.refl _ _ | apply Frm.drew | apply Frm.drewN))) hF1))
  all_goals
    have HF1 := Lib.hid hFw
    have HM1 := Lib.hid hM1
    have HV1 := Lib.hid (HV.out _ hFw)
    have HA1 := Lib.hid (HA.out _ hFw)
    clear hFw hM1 hF1
    obtain ⟨c0, c1, c2, c3, c4, c5, c6, c7, c8, c9, c10, c11, c12, c13, c14, c15, c16, c17, c18, c19, c20, c21⟩ := HV1.out.cells
    have hbl1 := HV1.out.lt
    have z6 := HV1.out.frz 6
    go_wp2
    go_ret2
    exact ⟨a, n, c, rfl, (HF1.out.weak (by simp)).setCell ⟨q, 6, none⟩ (.int .i64 0) (.inl (by simp)), HM1.out.setFar _ _ hqp hqd, HV1.out.set_nx 0, (HA1.out.frm ((Frm.refl [q] _).setCell ⟨q, 6, none⟩ (.int .i64 0) (.inl (by simp))) (by intro x hx; have := HA1.out.ne HV1.out; simp; rintro rfl; exact this hx)).nx rfl (fun hx => hx.elim (fun h => absurd rfl h.2) (fun h => h.elim (fun h => absurd (show (0 : Int) = 8 from h) (by decide)) (fun h => absurd (show (0 : Int) = 9 from h) (by decide)))), fun x hx => .inl hx⟩
set_option maxRecDepth 1000000 in
set_option maxHeartbeats 4000000 in
theorem readBits_ok (hM : MemAt w p d cc ws) (h : MvAt w q T qe ql a n c m) (hwa : WkA B w a n c m) (hnx : m.nx = 2) (u : Nat) (hx : ws[m.wd + 1]? = some (u : Int)) :
    Calls Tryz.prog 158 #[.pointer (some ⟨q, 0, none⟩), .iface 24 (.pointer (some ⟨p, 0, none⟩))] w (AftS w p d cc q T qe ql B a n c (.int .i64 0) ws { m with s0 := u, nx := 3 }) := by
  have hm := m_load p
  have hn := n_load p
  have hmf : ∀ (fn : Fn) (first cap : Array Value) (w : World), (Instr.makeFunc fn first cap).run Tryz.prog w = .ok (.func fn first cap) w := fun _ _ _ _ => rfl
  have T64 := h.t64
  obtain ⟨hqp, hqd⟩ := mv_ne h hM
  have hbn := wk_ne hwa hM
  have HV : Hid (∀ w', Frm [d] w w' → MvAt w' q T qe ql a n c m) := Lib.hid fun w' hf => h.frm hf (by simpa using hqd)
  have HA : Hid (∀ w', Frm [d] w w' → WkA B w' a n c m) := Lib.hid fun w' hf => hwa.frm hf (by intro x hx; simpa using (hbn x hx).2)
  have hc2 : ∀ w', Frm [d] w w' → w'.cell? ⟨q, 2, none⟩ = some (.int .i64 (m.wd : Int)) := fun w' hf => (h.frm hf (by simpa using hqd)).cells.2.2.1
  obtain ⟨xw, hxw⟩ : ∃ xw, xw = m.wd + 1 := ⟨_, rfl⟩
  rw [← hxw] at hx
  have HL1 : Hid (∀ w', Frm [] w w' → Calls Tryz.prog 142 #[.pointer (some ⟨p, 0, none⟩), .int .i64 (xw : Int)] w' (Ret (.tuple #[.int .u64 (u : Int), .int .i64 0]) (fun x => Frm [d] w' x ∧ MemAt x p d cc ws))) := Lib.hid fun w' hf => Load_ok (hM.frm hf (by simp) (by simp)) xw (u : Int) hx
  obtain ⟨hwa, hwb, hwc⟩ := wr_wd (n := m.wd) (x := xw) 1 (by omega) (by have := h.wdf; omega)
  clear hxw
  have HNX := Lib.hid hnx
  have hbl := h.lt
  clear h hM hwa hx hbn hnx
  go_enter Tryz.func158, Tryz.ntmps158
  go_wp2_with fail
  go_region_held3 (fun w' => Frm [d] w w') (repeat' (first | assumption | exact Frm.refl _ _ | apply Frm.drew | apply Frm.drewN)) ((go_at_call 142; (with_reducible refine (HL1.out _ (by (repeat' (first | exact Frm.refl _ _ | apply Frm.drew | apply Frm.drewN)))).mono ?_); rintro e w1 ⟨rfl, hF1, hM1⟩; have hFw : Frm [d] w w1 := Frm.trans (by (repeat' (first | exact Frm.refl _ _ | apply Frm.drew | apply Frm.drewN))) hF1))
  all_goals
    have HF1 := Lib.hid hFw
    have HM1 := Lib.hid hM1
    have HV1 := Lib.hid (HV.out _ hFw)
    have HA1 := Lib.hid (HA.out _ hFw)
    clear hFw hM1 hF1 hc2
    obtain ⟨c0, c1, c2, c3, c4, c5, c6, c7, c8, c9, c10, c11, c12, c13, c14, c15, c16, c17, c18, c19, c20, c21⟩ := HV1.out.cells
    have hbl1 := HV1.out.lt
    have z6 := HV1.out.frz 6
    have z9 := HV1.out.frz 9
    go_wp2
    go_ret
    exact ⟨a, n, c, rfl, ((HF1.out.weak (by simp)).setCell ⟨q, 9, none⟩ (.int .u64 (u : Int)) (.inl (by simp))).setCell ⟨q, 6, none⟩ (.int .i64 3) (.inl (by simp)), (HM1.out.setFar _ _ hqp hqd).setFar _ _ hqp hqd, (HV1.out.set_s0 u).set_nx 3, (HA1.out.frm (((Frm.refl [q] _).setCell ⟨q, 9, none⟩ (.int .u64 (u : Int)) (.inl (by simp))).setCell ⟨q, 6, none⟩ (.int .i64 3) (.inl (by simp))) (by intro x hx; have := HA1.out.ne HV1.out; simp; rintro rfl; exact this hx)).nx rfl (fun _ => .inl ⟨by rw [HNX.out]; decide, by rw [HNX.out]; decide⟩), fun x hx => .inl hx⟩
end
end Go.Proofs.YticbbfcachnkiaaGreatDoor
