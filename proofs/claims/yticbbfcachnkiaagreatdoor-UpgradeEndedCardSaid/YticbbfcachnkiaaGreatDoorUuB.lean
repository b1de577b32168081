/- Package latch: wanted, behind (by gen_lub.py). -/
import Derived.Test.YticbbfcachnkiaaGreatDoorUuA
namespace Go.Proofs.YticbbfcachnkiaaGreatDoor
open Go.ChangeShapes Go.WideShapes Go.ChangeAt Go.RowKit
set_option linter.unusedVariables false
set_option linter.unusedSimpArgs false

/-- The word mode of a node. -/
def mdW (b k : Nat) : Nat := b + k * 3 + 2
section
variable {w : World} {p d c np nb T : Nat} {ws : List Int}
theorem mode_w (h : Nd w np nb T) (fit : nb + 6 * T ≤ 65536) (k : Nat) (hk : k < 2 * T) : Calls Tryz.prog 124 #[.pointer (some ⟨np, 0, none⟩), .int .i64 k] w (Ret (.int .i64 (mdW nb k : Nat)) (fun w' => w = w')) := by
  have := mode_yes h fit k hk
  rwa [show ((nb : Int) + (k : Int) * 3 + 2) = ((mdW nb k : Nat) : Int) by unfold mdW; omega] at this
theorem next_w (h : Nd w np nb T) (fit : nb + 6 * T ≤ 65536) (k : Nat) (hk : k < 2 * T) : Calls Tryz.prog 120 #[.pointer (some ⟨np, 0, none⟩), .int .i64 k] w (Ret (.int .i64 (nxW nb k : Nat)) (fun w' => w = w')) := by
  have := next_yes h fit k hk
  rwa [show ((nb : Int) + (k : Int) * 3 + 0) = ((nxW nb k : Nat) : Int) by unfold nxW; omega] at this
theorem wait_w (h : Nd w np nb T) (fit : nb + 6 * T ≤ 65536) (k : Nat) (hk : k < 2 * T) : Calls Tryz.prog 163 #[.pointer (some ⟨np, 0, none⟩), .int .i64 k] w (Ret (.int .i64 (wtW nb k : Nat)) (fun w' => w = w')) := by
  have := wait_yes h fit k hk
  rwa [show ((nb : Int) + (k : Int) * 3 + 1) = ((wtW nb k : Nat) : Int) by unfold wtW; omega] at this
set_option maxRecDepth 1000000 in
set_option maxHeartbeats 4000000 in
theorem wanted_ok (hM : MemAt w p d c ws) (hN : Nd w np nb T) (hnd : np ≠ d) (fit : nb + 6 * T ≤ 65536) (k : Nat) (hk : k < 2 * T) (v : Int) (hv : v = 1 ∨ v = 2 ∨ v = 3) (hx : ws[mdW nb k]? = some v) :
    Calls Tryz.prog 119 #[.iface 24 (.pointer (some ⟨p, 0, none⟩)), .pointer (some ⟨np, 0, none⟩), .int .i64 (k : Int)] w (Ret (.tuple #[.int .i64 v, .int .i64 0]) (fun w' => Frm [d] w w' ∧ MemAt w' p d c ws)) := by
  have hm := m_load p
  have hn := n_load p
  have hmf : ∀ (fn : Fn) (first cap : Array Value) (w : World), (Instr.makeFunc fn first cap).run Tryz.prog w = .ok (.func fn first cap) w := fun _ _ _ _ => rfl
  have HN : Hid (∀ w', Frm [d] w w' → Nd w' np nb T) := Lib.hid fun w' hf => hN.frmD hf (by simpa using hnd)
  have HM := Lib.hid hM
  have HX := Lib.hid hx
  have e1 : decide (3 < v) = false := by simp; omega
  have hv0 : vm v = true := vm_iff.2 (by omega)
  have HV := Lib.hid (valid_any · v)
  rw [hv0] at HV
  have b0 : 0 ≤ v := by omega
  have b1 : v ≤ 3 := by omega
  clear hM hN hx hv hv0
  go_enter Tryz.func119, Tryz.ntmps119
  go_wp2_with fail
  go_region_held3 (fun w' => Frm [d] w w') (repeat' (first | assumption | exact Frm.refl _ _ | apply Frm.drew | apply Frm.drewN)) (first
    | (go_at_call 124; (with_reducible refine (mode_w (HN.out _ (by assumption)) fit k hk).mono ?_); rintro e w1 ⟨rfl, rfl⟩)
    | (go_at_call 142; (with_reducible refine (Load_ok (HM.out.frm (D := []) (by (repeat' (first | exact Frm.refl _ _ | apply Frm.drew | apply Frm.drewN))) (by simp) (by simp)) (mdW nb k) v HX.out).mono ?_); rintro e w1 ⟨rfl, hF1, hM1⟩; have hFw : Frm [d] w w1 := Frm.trans (by (repeat' (first | exact Frm.refl _ _ | apply Frm.drew | apply Frm.drewN))) hF1))
  all_goals
    have HF1 := Lib.hid hFw
    have HM1 := Lib.hid hM1
    clear hFw hM1 hF1
    go_wp2_with fail
    refine (HV.out _).mono ?_
    rintro e w2 ⟨rfl, rfl⟩
    go_wp2
    go_ret2
    exact ⟨rfl, HF1.out, HM1.out⟩
set_option maxRecDepth 1000000 in
set_option maxHeartbeats 4000000 in
theorem wanted_bad (hM : MemAt w p d c ws) (hN : Nd w np nb T) (hnd : np ≠ d) (fit : nb + 6 * T ≤ 65536) (k : Nat) (hk : k < 2 * T) (v : Int) (h0 : 0 ≤ v) (h64 : v < 18446744073709551616) (hv : ¬ (v = 1 ∨ v = 2 ∨ v = 3)) (hx : ws[mdW nb k]? = some v) :
    Calls Tryz.prog 119 #[.iface 24 (.pointer (some ⟨p, 0, none⟩)), .pointer (some ⟨np, 0, none⟩), .int .i64 (k : Int)] w (Ret (.tuple #[.int .i64 0, .int .i64 12]) (fun w' => Frm [d] w w' ∧ MemAt w' p d c ws)) := by
  have hm := m_load p
  have hn := n_load p
  have hmf : ∀ (fn : Fn) (first cap : Array Value) (w : World), (Instr.makeFunc fn first cap).run Tryz.prog w = .ok (.func fn first cap) w := fun _ _ _ _ => rfl
  have HN : Hid (∀ w', Frm [d] w w' → Nd w' np nb T) := Lib.hid fun w' hf => hN.frmD hf (by simpa using hnd)
  have HM := Lib.hid hM
  have HX := Lib.hid hx
  clear hM hN hx
  by_cases hz : v = 0
  · have e1 : decide (3 < v) = false := by simp [hz]
    have HV := Lib.hid (valid_any · v)
    have hv0 : vm v = false := vm_not.2 (by omega)
    rw [hv0] at HV
    have b1 : v ≤ 3 := by omega
    clear hv hz hv0
    go_enter Tryz.func119, Tryz.ntmps119
    go_wp2_with fail
    go_region_held3 (fun w' => Frm [d] w w') (repeat' (first | assumption | exact Frm.refl _ _ | apply Frm.drew | apply Frm.drewN)) (first
      | (go_at_call 124; (with_reducible refine (mode_w (HN.out _ (by assumption)) fit k hk).mono ?_); rintro e w1 ⟨rfl, rfl⟩)
      | (go_at_call 142; (with_reducible refine (Load_ok (HM.out.frm (D := []) (by (repeat' (first | exact Frm.refl _ _ | apply Frm.drew | apply Frm.drewN))) (by simp) (by simp)) (mdW nb k) v HX.out).mono ?_); rintro e w1 ⟨rfl, hF1, hM1⟩; have hFw : Frm [d] w w1 := Frm.trans (by (repeat' (first | exact Frm.refl _ _ | apply Frm.drew | apply Frm.drewN))) hF1))
    all_goals
      have HF1 := Lib.hid hFw
      have HM1 := Lib.hid hM1
      clear hFw hM1 hF1
      go_wp2_with fail
      refine (HV.out _).mono ?_
      rintro e w2 ⟨rfl, rfl⟩
      go_wp2
      go_ret2
      exact ⟨rfl, HF1.out, HM1.out⟩
  · have e1 : decide (3 < v) = true := by simp; omega
    clear hv hz
    go_enter Tryz.func119, Tryz.ntmps119
    go_wp2_with fail
    go_region_held3 (fun w' => Frm [d] w w') (repeat' (first | assumption | exact Frm.refl _ _ | apply Frm.drew | apply Frm.drewN)) (first
      | (go_at_call 124; (with_reducible refine (mode_w (HN.out _ (by assumption)) fit k hk).mono ?_); rintro e w1 ⟨rfl, rfl⟩)
      | (go_at_call 142; (with_reducible refine (Load_ok (HM.out.frm (D := []) (by (repeat' (first | exact Frm.refl _ _ | apply Frm.drew | apply Frm.drewN))) (by simp) (by simp)) (mdW nb k) v HX.out).mono ?_); rintro e w1 ⟨rfl, hF1, hM1⟩; have hFw : Frm [d] w w1 := Frm.trans (by (repeat' (first | exact Frm.refl _ _ | apply Frm.drew | apply Frm.drewN))) hF1))
    all_goals
      have HF1 := Lib.hid hFw
      have HM1 := Lib.hid hM1
      clear hFw hM1 hF1
      go_wp2
      go_ret2
      exact ⟨rfl, HF1.out, HM1.out⟩
set_option maxRecDepth 1000000 in
set_option maxHeartbeats 4000000 in
theorem behind_ok (hM : MemAt w p d c ws) (hN : Nd w np nb T) (hnd : np ≠ d) (fit : nb + 6 * T ≤ 65536) (k : Nat) (hk : k < 2 * T) (v : Int) (hv : isL T (v - 1) = true) (hx : ws[nxW nb k]? = some v) :
    Calls Tryz.prog 110 #[.iface 24 (.pointer (some ⟨p, 0, none⟩)), .pointer (some ⟨np, 0, none⟩), .int .i64 (k : Int)] w (Ret (.tuple #[.int .i64 (v - 1), .int .i64 0]) (fun w' => Frm [d] w w' ∧ MemAt w' p d c ws)) := by
  have hm := m_load p
  have hn := n_load p
  have hmf : ∀ (fn : Fn) (first cap : Array Value) (w : World), (Instr.makeFunc fn first cap).run Tryz.prog w = .ok (.func fn first cap) w := fun _ _ _ _ => rfl
  have HN : Hid (∀ w', Frm [d] w w' → Nd w' np nb T) := Lib.hid fun w' hf => hN.frmD hf (by simpa using hnd)
  have HM := Lib.hid hM
  obtain ⟨x, rfl⟩ := Int.eq_ofNat_of_zero_le (show 0 ≤ v by have := isL_le hv; omega)
  have hxT : x ≤ 2 * T := by have := isL_le hv; omega
  have HX := Lib.hid hx
  have HL := Lib.hid hv
  clear hM hN hx hv
  go_enter Tryz.func110, Tryz.ntmps110
  go_wp2_with fail
  go_region_held3 (fun w' => Frm [d] w w') (repeat' (first | assumption | exact Frm.refl _ _ | apply Frm.drew | apply Frm.drewN)) (first
    | (go_at_call 120; (with_reducible refine (next_w (HN.out _ (by assumption)) fit k hk).mono ?_); rintro e w1 ⟨rfl, rfl⟩)
    | (go_at_call 142; (with_reducible refine (Load_ok (HM.out.frm (D := []) (by (repeat' (first | exact Frm.refl _ _ | apply Frm.drew | apply Frm.drewN))) (by simp) (by simp)) (nxW nb k) (x : Int) HX.out).mono ?_); rintro e w1 ⟨rfl, hF1, hM1⟩; have hFw : Frm [d] w w1 := Frm.trans (by (repeat' (first | exact Frm.refl _ _ | apply Frm.drew | apply Frm.drewN))) hF1))
  all_goals
    have HF1 := Lib.hid hFw
    have HM1 := Lib.hid hM1
    have HN1 := Lib.hid (HN.out _ hFw)
    clear hFw hM1 hF1
    go_wp2_with fail
    refine (node_yes HN1.out x hxT).mono ?_
    rintro e w2 ⟨rfl, rfl⟩
    have HQ := Lib.hid (queues_any HN1.out ((x : Int) - 1))
    rw [HL.out] at HQ
    go_wp2_with fail
    refine HQ.out.mono ?_
    rintro e w2 ⟨rfl, rfl⟩
    go_wp2
    go_ret2
    exact ⟨rfl, HF1.out, HM1.out⟩
set_option maxRecDepth 1000000 in
set_option maxHeartbeats 4000000 in
theorem behind_bad (hM : MemAt w p d c ws) (hN : Nd w np nb T) (hnd : np ≠ d) (fit : nb + 6 * T ≤ 65536) (k : Nat) (hk : k < 2 * T) (v : Int) (h0 : 0 ≤ v) (hv : isL T (v - 1) = false) (hx : ws[nxW nb k]? = some v) :
    Calls Tryz.prog 110 #[.iface 24 (.pointer (some ⟨p, 0, none⟩)), .pointer (some ⟨np, 0, none⟩), .int .i64 (k : Int)] w (Ret (.tuple #[.int .i64 0, .int .i64 12]) (fun w' => Frm [d] w w' ∧ MemAt w' p d c ws)) := by
  have hm := m_load p
  have hn := n_load p
  have hmf : ∀ (fn : Fn) (first cap : Array Value) (w : World), (Instr.makeFunc fn first cap).run Tryz.prog w = .ok (.func fn first cap) w := fun _ _ _ _ => rfl
  have HN : Hid (∀ w', Frm [d] w w' → Nd w' np nb T) := Lib.hid fun w' hf => hN.frmD hf (by simpa using hnd)
  have HM := Lib.hid hM
  obtain ⟨x, rfl⟩ := Int.eq_ofNat_of_zero_le h0
  have HX := Lib.hid hx
  have HL := Lib.hid hv
  clear hM hN hx hv
  by_cases hxT : x ≤ 2 * T
  · skip
    go_enter Tryz.func110, Tryz.ntmps110
    go_wp2_with fail
    go_region_held3 (fun w' => Frm [d] w w') (repeat' (first | assumption | exact Frm.refl _ _ | apply Frm.drew | apply Frm.drewN)) (first
      | (go_at_call 120; (with_reducible refine (next_w (HN.out _ (by assumption)) fit k hk).mono ?_); rintro e w1 ⟨rfl, rfl⟩)
      | (go_at_call 142; (with_reducible refine (Load_ok (HM.out.frm (D := []) (by (repeat' (first | exact Frm.refl _ _ | apply Frm.drew | apply Frm.drewN))) (by simp) (by simp)) (nxW nb k) (x : Int) HX.out).mono ?_); rintro e w1 ⟨rfl, hF1, hM1⟩; have hFw : Frm [d] w w1 := Frm.trans (by (repeat' (first | exact Frm.refl _ _ | apply Frm.drew | apply Frm.drewN))) hF1))
    all_goals
      have HF1 := Lib.hid hFw
      have HM1 := Lib.hid hM1
      have HN1 := Lib.hid (HN.out _ hFw)
      clear hFw hM1 hF1
      go_wp2_with fail
      refine (node_yes HN1.out x hxT).mono ?_
      rintro e w2 ⟨rfl, rfl⟩
      have HQ := Lib.hid (queues_any HN1.out ((x : Int) - 1))
      rw [HL.out] at HQ
      go_wp2_with fail
      refine HQ.out.mono ?_
      rintro e w2 ⟨rfl, rfl⟩
      go_wp2
      go_ret2
      exact ⟨rfl, HF1.out, HM1.out⟩
  · skip
    go_enter Tryz.func110, Tryz.ntmps110
    go_wp2_with fail
    go_region_held3 (fun w' => Frm [d] w w') (repeat' (first | assumption | exact Frm.refl _ _ | apply Frm.drew | apply Frm.drewN)) (first
      | (go_at_call 120; (with_reducible refine (next_w (HN.out _ (by assumption)) fit k hk).mono ?_); rintro e w1 ⟨rfl, rfl⟩)
      | (go_at_call 142; (with_reducible refine (Load_ok (HM.out.frm (D := []) (by (repeat' (first | exact Frm.refl _ _ | apply Frm.drew | apply Frm.drewN))) (by simp) (by simp)) (nxW nb k) (x : Int) HX.out).mono ?_); rintro e w1 ⟨rfl, hF1, hM1⟩; have hFw : Frm [d] w w1 := Frm.trans (by (repeat' (first | exact Frm.refl _ _ | apply Frm.drew | apply Frm.drewN))) hF1))
    all_goals
      have HF1 := Lib.hid hFw
      have HM1 := Lib.hid hM1
      have HN1 := Lib.hid (HN.out _ hFw)
      clear hFw hM1 hF1
      go_wp2_with fail
      refine (node_no HN1.out x (by omega)).mono ?_
      rintro e w2 ⟨rfl, rfl⟩
      go_wp2
      go_ret2
      exact ⟨rfl, HF1.out, HM1.out⟩
end
end Go.Proofs.YticbbfcachnkiaaGreatDoor
