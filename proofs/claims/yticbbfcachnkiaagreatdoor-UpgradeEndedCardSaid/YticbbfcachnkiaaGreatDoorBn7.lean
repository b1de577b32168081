/- McR in one text (by mkbundle.py). -/
import Derived.Test.YticbbfcachnkiaaGreatDoorBn6
import Derived.Deep.RegionHeld3
/- Package mcs: what the steps of Acquire do (by gen_mcq.py). -/
namespace Go.Proofs.YticbbfcachnkiaaGreatDoor
open Go.ChangeShapes Go.WideShapes Go.ChangeAt Go.RowKit
set_option linter.unusedVariables false
section
variable {w : World} {p d c : Nat} {ws : List Int} {q : Nat} {T : TypeId} {b t L k : Nat} {st met : Int}
set_option maxRecDepth 100000 in
set_option maxHeartbeats 4000000 in
theorem swap_free (hM : MemAt w p d c ws) (hP : PgC w q T b t L k st met) (hd : q ≠ d) (hp : q ≠ p) (hx : ws[L]? = some 0) :
    Calls Tryz.prog 200 #[.pointer (some ⟨q, 0, none⟩), .iface 24 (.pointer (some ⟨p, 0, none⟩))] w
      (Ret (.tuple #[.bool false, .int .i64 0]) (Aft p d c q T b t L k w (ws.set L (k + 1)) 0 met)) := by
  have hm := m_swap p
  have hn := n_swap p
  have hmf : ∀ (fn : Fn) (first cap : Array Value) (w : World), (Instr.makeFunc fn first cap).run Tryz.prog w = .ok (.func fn first cap) w := fun _ _ _ _ => rfl
  have hc2 : ∀ w', Frm [d] w w' → w'.cell? ⟨q, 2, none⟩ = some (.int .i64 L) := fun w' hf => by
    have hh := (hP.frm hf (by simpa using hd)).obj
    rw [cell_of_heap hh]; rfl
  have HC : Hid (∀ w', Frm [d] w w' → PgC w' q T b t L k st met) := Lib.hid fun w' hf => hP.frm hf (by simpa using hd)
  have HM := Lib.hid hM
  have HX := Lib.hid hx
  clear hM hP hx
  go_enter Tryz.func200, Tryz.ntmps200
  go_wp2_with fail
  go_region_held3 (fun w' => Frm [d] w w') (repeat' (first | assumption | exact Frm.refl _ _ | apply Frm.drew | apply Frm.drewN)) (first
    | (go_at_call 203; (with_reducible refine (cref_pg (HC.out _ (by assumption))).mono ?_); rintro e w1 ⟨m, rfl, rfl⟩)
    | (go_at_call 218; (with_reducible refine (Swap_ok (HM.out.frm (D := []) (by (repeat' (first | exact Frm.refl _ _ | apply Frm.drew | apply Frm.drewN))) (by simp) (by simp)) L (k + 1) 0 HX.out).mono ?_); rintro e w1 ⟨rfl, hF1, hM1⟩; have hFw : Frm [d] w w1 := Frm.trans (by (repeat' (first | exact Frm.refl _ _ | apply Frm.drew | apply Frm.drewN))) hF1))
  all_goals
    have hP1 := HC.out _ hFw
    obtain ⟨c0, c1, c2, c3, c4, c5⟩ := hP1.cells
    have z4 := hP1.frz 4
    have z5 := hP1.frz 5
    have H1 := Lib.hid hP1
    have HM1 := Lib.hid hM1
    have HF1 := Lib.hid hFw
    clear hP1 hM1 hFw hF1 hc2
    go_wp2
    go_ret2
    exact ⟨rfl, (HF1.out.weak (by simp)).setCell _ _ (.inl (by simp)), HM1.out.setFar _ _ hp hd, H1.out.setSt _⟩

set_option maxRecDepth 100000 in
set_option maxHeartbeats 4000000 in
theorem swap_link (hM : MemAt w p d c ws) (hP : PgC w q T b t L k st met) (hd : q ≠ d) (hp : q ≠ p) {u : Int} (hu : u ≠ 0) (hx : ws[L]? = some u) :
    Calls Tryz.prog 200 #[.pointer (some ⟨q, 0, none⟩), .iface 24 (.pointer (some ⟨p, 0, none⟩))] w
      (Ret (.tuple #[.bool false, .int .i64 0]) (Aft p d c q T b t L k w (ws.set L (k + 1)) 4 u)) := by
  have hm := m_swap p
  have hn := n_swap p
  have hmf : ∀ (fn : Fn) (first cap : Array Value) (w : World), (Instr.makeFunc fn first cap).run Tryz.prog w = .ok (.func fn first cap) w := fun _ _ _ _ => rfl
  have hc2 : ∀ w', Frm [d] w w' → w'.cell? ⟨q, 2, none⟩ = some (.int .i64 L) := fun w' hf => by
    have hh := (hP.frm hf (by simpa using hd)).obj
    rw [cell_of_heap hh]; rfl
  have HC : Hid (∀ w', Frm [d] w w' → PgC w' q T b t L k st met) := Lib.hid fun w' hf => hP.frm hf (by simpa using hd)
  have HM := Lib.hid hM
  have HX := Lib.hid hx
  have hu0 : ((u : Int) == 0) = false := by simpa using hu
  have hu1 : ((u : Int) != 0) = true := by simpa using hu
  clear hu
  clear hM hP hx
  go_enter Tryz.func200, Tryz.ntmps200
  go_wp2_with fail
  go_region_held3 (fun w' => Frm [d] w w') (repeat' (first | assumption | exact Frm.refl _ _ | apply Frm.drew | apply Frm.drewN)) (first
    | (go_at_call 203; (with_reducible refine (cref_pg (HC.out _ (by assumption))).mono ?_); rintro e w1 ⟨m, rfl, rfl⟩)
    | (go_at_call 218; (with_reducible refine (Swap_ok (HM.out.frm (D := []) (by (repeat' (first | exact Frm.refl _ _ | apply Frm.drew | apply Frm.drewN))) (by simp) (by simp)) L (k + 1) u HX.out).mono ?_); rintro e w1 ⟨rfl, hF1, hM1⟩; have hFw : Frm [d] w w1 := Frm.trans (by (repeat' (first | exact Frm.refl _ _ | apply Frm.drew | apply Frm.drewN))) hF1))
  all_goals
    have hP1 := HC.out _ hFw
    obtain ⟨c0, c1, c2, c3, c4, c5⟩ := hP1.cells
    have z4 := hP1.frz 4
    have z5 := hP1.frz 5
    have H1 := Lib.hid hP1
    have HM1 := Lib.hid hM1
    have HF1 := Lib.hid hFw
    clear hP1 hM1 hFw hF1 hc2
    go_wp2_with fail
    refine (cmeet_pg H1.out u 4).mono ?_
    rintro e w2 ⟨rfl, hF2, hP2⟩
    go_wp2
    go_ret2
    exact ⟨rfl, (HF1.out.weak (by simp)).trans (hF2.weak (by simp)), HM1.out.frm hF2 (by simpa using fun h => hp h.symm) (by simpa using fun h => hd h.symm), hP2⟩

set_option maxRecDepth 100000 in
set_option maxHeartbeats 4000000 in
theorem swap_out (hM : MemAt w p d c ws) (hP : PgC w q T b t L k st met) (hd : q ≠ d) (hp : q ≠ p) (hx : ws.length ≤ L) :
    Calls Tryz.prog 200 #[.pointer (some ⟨q, 0, none⟩), .iface 24 (.pointer (some ⟨p, 0, none⟩))] w
      (Ret (.tuple #[.bool false, .int .i64 3]) (Aft p d c q T b t L k w ws st met)) := by
  have hm := m_swap p
  have hn := n_swap p
  have hmf : ∀ (fn : Fn) (first cap : Array Value) (w : World), (Instr.makeFunc fn first cap).run Tryz.prog w = .ok (.func fn first cap) w := fun _ _ _ _ => rfl
  have hc2 : ∀ w', Frm [d] w w' → w'.cell? ⟨q, 2, none⟩ = some (.int .i64 L) := fun w' hf => by
    have hh := (hP.frm hf (by simpa using hd)).obj
    rw [cell_of_heap hh]; rfl
  have HC : Hid (∀ w', Frm [d] w w' → PgC w' q T b t L k st met) := Lib.hid fun w' hf => hP.frm hf (by simpa using hd)
  have HM := Lib.hid hM
  have HX := Lib.hid hx
  clear hM hP hx
  go_enter Tryz.func200, Tryz.ntmps200
  go_wp2_with fail
  go_region_held3 (fun w' => Frm [d] w w') (repeat' (first | assumption | exact Frm.refl _ _ | apply Frm.drew | apply Frm.drewN)) (first
    | (go_at_call 203; (with_reducible refine (cref_pg (HC.out _ (by assumption))).mono ?_); rintro e w1 ⟨m, rfl, rfl⟩)
    | (go_at_call 218; (with_reducible refine (Swap_out (HM.out.frm (D := []) (by (repeat' (first | exact Frm.refl _ _ | apply Frm.drew | apply Frm.drewN))) (by simp) (by simp)) L (k + 1) HX.out).mono ?_); rintro e w1 ⟨rfl, hF1, hM1⟩; have hFw : Frm [d] w w1 := Frm.trans (by (repeat' (first | exact Frm.refl _ _ | apply Frm.drew | apply Frm.drewN))) hF1))
  all_goals
    have hP1 := HC.out _ hFw
    obtain ⟨c0, c1, c2, c3, c4, c5⟩ := hP1.cells
    have z4 := hP1.frz 4
    have z5 := hP1.frz 5
    have H1 := Lib.hid hP1
    have HM1 := Lib.hid hM1
    have HF1 := Lib.hid hFw
    clear hP1 hM1 hFw hF1 hc2
    go_wp2
    go_ret2
    exact ⟨rfl, HF1.out.weak (by simp), HM1.out, H1.out⟩

set_option maxRecDepth 100000 in
set_option maxHeartbeats 4000000 in
theorem await_wait (hM : MemAt w p d c ws) (hP : PgC w q T b t L k st met) (hd : q ≠ d) (hp : q ≠ p) {u : Int} (hu : u ≠ 0) (hx : ws[wtW b k]? = some u) :
    Calls Tryz.prog 202 #[.pointer (some ⟨q, 0, none⟩), .iface 24 (.pointer (some ⟨p, 0, none⟩))] w
      (Ret (.tuple #[.bool true, .int .i64 0]) (Aft p d c q T b t L k w ws st met)) := by
  have hm := m_load p
  have hn := n_load p
  have hmf : ∀ (fn : Fn) (first cap : Array Value) (w : World), (Instr.makeFunc fn first cap).run Tryz.prog w = .ok (.func fn first cap) w := fun _ _ _ _ => rfl
  have hc2 : ∀ w', Frm [d] w w' → w'.cell? ⟨q, 3, none⟩ = some (.int .i64 k) := fun w' hf => by
    have hh := (hP.frm hf (by simpa using hd)).obj
    rw [cell_of_heap hh]; rfl
  have HC : Hid (∀ w', Frm [d] w w' → PgC w' q T b t L k st met) := Lib.hid fun w' hf => hP.frm hf (by simpa using hd)
  have HM := Lib.hid hM
  have HX := Lib.hid hx
  have hu0 : ((u : Int) == 0) = false := by simpa using hu
  have hu1 : ((u : Int) != 0) = true := by simpa using hu
  clear hu
  clear hM hP hx
  go_enter Tryz.func202, Tryz.ntmps202
  go_wp2_with fail
  go_region_held3 (fun w' => Frm [d] w w') (repeat' (first | assumption | exact Frm.refl _ _ | apply Frm.drew | apply Frm.drewN)) (first
    | (go_at_call 163; (with_reducible refine (cwait (HC.out _ (by assumption))).mono ?_); rintro e w1 ⟨rfl, rfl⟩)
    | (go_at_call 142; (with_reducible refine (Load_ok (HM.out.frm (D := []) (by (repeat' (first | exact Frm.refl _ _ | apply Frm.drew | apply Frm.drewN))) (by simp) (by simp)) (wtW b k) u HX.out).mono ?_); rintro e w1 ⟨rfl, hF1, hM1⟩; have hFw : Frm [d] w w1 := Frm.trans (by (repeat' (first | exact Frm.refl _ _ | apply Frm.drew | apply Frm.drewN))) hF1))
  all_goals
    have hP1 := HC.out _ hFw
    obtain ⟨c0, c1, c2, c3, c4, c5⟩ := hP1.cells
    have z4 := hP1.frz 4
    have z5 := hP1.frz 5
    have H1 := Lib.hid hP1
    have HM1 := Lib.hid hM1
    have HF1 := Lib.hid hFw
    clear hP1 hM1 hFw hF1 hc2
    go_wp2
    go_ret2
    exact ⟨rfl, HF1.out.weak (by simp), HM1.out, H1.out⟩

set_option maxRecDepth 100000 in
set_option maxHeartbeats 4000000 in
theorem await_go (hM : MemAt w p d c ws) (hP : PgC w q T b t L k st met) (hd : q ≠ d) (hp : q ≠ p) (hx : ws[wtW b k]? = some 0) :
    Calls Tryz.prog 202 #[.pointer (some ⟨q, 0, none⟩), .iface 24 (.pointer (some ⟨p, 0, none⟩))] w
      (Ret (.tuple #[.bool false, .int .i64 0]) (Aft p d c q T b t L k w ws 0 met)) := by
  have hm := m_load p
  have hn := n_load p
  have hmf : ∀ (fn : Fn) (first cap : Array Value) (w : World), (Instr.makeFunc fn first cap).run Tryz.prog w = .ok (.func fn first cap) w := fun _ _ _ _ => rfl
  have hc2 : ∀ w', Frm [d] w w' → w'.cell? ⟨q, 3, none⟩ = some (.int .i64 k) := fun w' hf => by
    have hh := (hP.frm hf (by simpa using hd)).obj
    rw [cell_of_heap hh]; rfl
  have HC : Hid (∀ w', Frm [d] w w' → PgC w' q T b t L k st met) := Lib.hid fun w' hf => hP.frm hf (by simpa using hd)
  have HM := Lib.hid hM
  have HX := Lib.hid hx
  clear hM hP hx
  go_enter Tryz.func202, Tryz.ntmps202
  go_wp2_with fail
  go_region_held3 (fun w' => Frm [d] w w') (repeat' (first | assumption | exact Frm.refl _ _ | apply Frm.drew | apply Frm.drewN)) (first
    | (go_at_call 163; (with_reducible refine (cwait (HC.out _ (by assumption))).mono ?_); rintro e w1 ⟨rfl, rfl⟩)
    | (go_at_call 142; (with_reducible refine (Load_ok (HM.out.frm (D := []) (by (repeat' (first | exact Frm.refl _ _ | apply Frm.drew | apply Frm.drewN))) (by simp) (by simp)) (wtW b k) 0 HX.out).mono ?_); rintro e w1 ⟨rfl, hF1, hM1⟩; have hFw : Frm [d] w w1 := Frm.trans (by (repeat' (first | exact Frm.refl _ _ | apply Frm.drew | apply Frm.drewN))) hF1))
  all_goals
    have hP1 := HC.out _ hFw
    obtain ⟨c0, c1, c2, c3, c4, c5⟩ := hP1.cells
    have z4 := hP1.frz 4
    have z5 := hP1.frz 5
    have H1 := Lib.hid hP1
    have HM1 := Lib.hid hM1
    have HF1 := Lib.hid hFw
    clear hP1 hM1 hFw hF1 hc2
    go_wp2
    go_ret2
    exact ⟨rfl, (HF1.out.weak (by simp)).setCell _ _ (.inl (by simp)), HM1.out.setFar _ _ hp hd, H1.out.setSt _⟩

set_option maxRecDepth 100000 in
set_option maxHeartbeats 4000000 in
theorem await_out (hM : MemAt w p d c ws) (hP : PgC w q T b t L k st met) (hd : q ≠ d) (hp : q ≠ p) (hx : ws.length ≤ wtW b k) :
    Calls Tryz.prog 202 #[.pointer (some ⟨q, 0, none⟩), .iface 24 (.pointer (some ⟨p, 0, none⟩))] w
      (Ret (.tuple #[.bool false, .int .i64 3]) (Aft p d c q T b t L k w ws st met)) := by
  have hm := m_load p
  have hn := n_load p
  have hmf : ∀ (fn : Fn) (first cap : Array Value) (w : World), (Instr.makeFunc fn first cap).run Tryz.prog w = .ok (.func fn first cap) w := fun _ _ _ _ => rfl
  have hc2 : ∀ w', Frm [d] w w' → w'.cell? ⟨q, 3, none⟩ = some (.int .i64 k) := fun w' hf => by
    have hh := (hP.frm hf (by simpa using hd)).obj
    rw [cell_of_heap hh]; rfl
  have HC : Hid (∀ w', Frm [d] w w' → PgC w' q T b t L k st met) := Lib.hid fun w' hf => hP.frm hf (by simpa using hd)
  have HM := Lib.hid hM
  have HX := Lib.hid hx
  clear hM hP hx
  go_enter Tryz.func202, Tryz.ntmps202
  go_wp2_with fail
  go_region_held3 (fun w' => Frm [d] w w') (repeat' (first | assumption | exact Frm.refl _ _ | apply Frm.drew | apply Frm.drewN)) (first
    | (go_at_call 163; (with_reducible refine (cwait (HC.out _ (by assumption))).mono ?_); rintro e w1 ⟨rfl, rfl⟩)
    | (go_at_call 142; (with_reducible refine (Load_out (HM.out.frm (D := []) (by (repeat' (first | exact Frm.refl _ _ | apply Frm.drew | apply Frm.drewN))) (by simp) (by simp)) (wtW b k) HX.out).mono ?_); rintro e w1 ⟨rfl, hF1, hM1⟩; have hFw : Frm [d] w w1 := Frm.trans (by (repeat' (first | exact Frm.refl _ _ | apply Frm.drew | apply Frm.drewN))) hF1))
  all_goals
    have hP1 := HC.out _ hFw
    obtain ⟨c0, c1, c2, c3, c4, c5⟩ := hP1.cells
    have z4 := hP1.frz 4
    have z5 := hP1.frz 5
    have H1 := Lib.hid hP1
    have HM1 := Lib.hid hM1
    have HF1 := Lib.hid hFw
    clear hP1 hM1 hFw hF1 hc2
    go_wp2
    go_ret2
    exact ⟨rfl, HF1.out.weak (by simp), HM1.out, H1.out⟩

set_option maxRecDepth 100000 in
theorem link_bad (hM : MemAt w p d c ws) (hP : PgC w q T b t L k st met) (hx : 2 * (t : Int) < met) :
    Calls Tryz.prog 201 #[.pointer (some ⟨q, 0, none⟩), .iface 24 (.pointer (some ⟨p, 0, none⟩))] w
      (Ret (.tuple #[.bool false, .int .i64 12]) (Aft p d c q T b t L k w ws st met)) := by
  have HM := Lib.hid hM
  have HP := Lib.hid hP
  have HX := Lib.hid hx
  clear hM hP hx
  go_enter Tryz.func201, Tryz.ntmps201
  go_wp2_with fail
  refine (cother_no HP.out HX.out).mono ?_
  rintro e w1 ⟨m, rfl, rfl⟩
  go_wp2
  go_ret2
  exact ⟨rfl, (Frm.refl _ _).drewN _, HM.out.drewN _, HP.out.frm ((Frm.refl [] _).drewN _) (by simp)⟩

set_option maxRecDepth 100000 in
set_option maxHeartbeats 4000000 in
theorem link_ok {x : Nat} (hM : MemAt w p d c ws) (hP : PgC w q T b t L k st (x : Int)) (hd : q ≠ d) (hp : q ≠ p) (hx : 1 ≤ x) (hx2 : x ≤ 2 * t) (hl : nxW b (x - 1) < ws.length) :
    Calls Tryz.prog 201 #[.pointer (some ⟨q, 0, none⟩), .iface 24 (.pointer (some ⟨p, 0, none⟩))] w
      (Ret (.tuple #[.bool false, .int .i64 0]) (Aft p d c q T b t L k w (ws.set (nxW b (x - 1)) (k + 1)) 5 (x : Int))) := by
  have HM := Lib.hid hM
  have HP := Lib.hid hP
  have HX := Lib.hid hx
  have HX2 := Lib.hid hx2
  have HL := Lib.hid hl
  clear hM hP hx hx2 hl
  go_enter Tryz.func201, Tryz.ntmps201
  go_wp2_with fail
  refine (cother_yes HP.out HX2.out).mono ?_
  rintro e w1 ⟨m, rfl, rfl⟩
  go_wp2_with fail
  go_region_held3 (fun w' => Frm [d, q] w w') (repeat' (first | assumption | exact Frm.refl _ _ | apply Frm.drew | apply Frm.drewN)) (first
    | (go_at_call 120; (with_reducible refine (cnextx (HP.out.frm (D := []) (by (repeat' (first | exact Frm.refl _ _ | apply Frm.drew | apply Frm.drewN))) (by simp)) x HX.out HX2.out).mono ?_); rintro e w1 ⟨rfl, rfl⟩)
    | (go_at_call 203; (with_reducible refine (cref_pg (HP.out.frm (D := []) (by (repeat' (first | exact Frm.refl _ _ | apply Frm.drew | apply Frm.drewN))) (by simp))).mono ?_); rintro e w1 ⟨m2, rfl, rfl⟩)
    | (go_at_call 199; (with_reducible refine (cstore_ok (HM.out.frm (D := []) (by (repeat' (first | exact Frm.refl _ _ | apply Frm.drew | apply Frm.drewN))) (by simp) (by simp)) (HP.out.frm (D := []) (by (repeat' (first | exact Frm.refl _ _ | apply Frm.drew | apply Frm.drewN))) (by simp)) hd hp (nxW b (x - 1)) (k + 1) 5 HL.out).mono ?_); rintro e w1 ⟨rfl, hF1, hM1, hP1⟩; have hFw : Frm [d, q] w w1 := Frm.trans (by (repeat' (first | exact Frm.refl _ _ | apply Frm.drew | apply Frm.drewN))) hF1))
  all_goals
    have HM1 := Lib.hid hM1
    have HP1 := Lib.hid hP1
    have HF1 := Lib.hid hFw
    clear hM1 hP1 hFw hF1
    go_wp2
    go_ret2
    exact ⟨rfl, HF1.out, HM1.out, HP1.out⟩

set_option maxRecDepth 100000 in
set_option maxHeartbeats 4000000 in
theorem link_out {x : Nat} (hM : MemAt w p d c ws) (hP : PgC w q T b t L k st (x : Int)) (hd : q ≠ d) (hp : q ≠ p) (hx : 1 ≤ x) (hx2 : x ≤ 2 * t) (hl : ws.length ≤ nxW b (x - 1)) :
    Calls Tryz.prog 201 #[.pointer (some ⟨q, 0, none⟩), .iface 24 (.pointer (some ⟨p, 0, none⟩))] w
      (Ret (.tuple #[.bool false, .int .i64 3]) (Aft p d c q T b t L k w ws st (x : Int))) := by
  have HM := Lib.hid hM
  have HP := Lib.hid hP
  have HX := Lib.hid hx
  have HX2 := Lib.hid hx2
  have HL := Lib.hid hl
  clear hM hP hx hx2 hl
  go_enter Tryz.func201, Tryz.ntmps201
  go_wp2_with fail
  refine (cother_yes HP.out HX2.out).mono ?_
  rintro e w1 ⟨m, rfl, rfl⟩
  go_wp2_with fail
  go_region_held3 (fun w' => Frm [d, q] w w') (repeat' (first | assumption | exact Frm.refl _ _ | apply Frm.drew | apply Frm.drewN)) (first
    | (go_at_call 120; (with_reducible refine (cnextx (HP.out.frm (D := []) (by (repeat' (first | exact Frm.refl _ _ | apply Frm.drew | apply Frm.drewN))) (by simp)) x HX.out HX2.out).mono ?_); rintro e w1 ⟨rfl, rfl⟩)
    | (go_at_call 203; (with_reducible refine (cref_pg (HP.out.frm (D := []) (by (repeat' (first | exact Frm.refl _ _ | apply Frm.drew | apply Frm.drewN))) (by simp))).mono ?_); rintro e w1 ⟨m2, rfl, rfl⟩)
    | (go_at_call 199; (with_reducible refine (cstore_out (HM.out.frm (D := []) (by (repeat' (first | exact Frm.refl _ _ | apply Frm.drew | apply Frm.drewN))) (by simp) (by simp)) (HP.out.frm (D := []) (by (repeat' (first | exact Frm.refl _ _ | apply Frm.drew | apply Frm.drewN))) (by simp)) hd (nxW b (x - 1)) (k + 1) 5 HL.out).mono ?_); rintro e w1 ⟨rfl, hF1, hM1, hP1⟩; have hFw : Frm [d, q] w w1 := Frm.trans (by (repeat' (first | exact Frm.refl _ _ | apply Frm.drew | apply Frm.drewN))) hF1))
  all_goals
    have HM1 := Lib.hid hM1
    have HP1 := Lib.hid hP1
    have HF1 := Lib.hid hFw
    clear hM1 hP1 hFw hF1
    go_wp2
    go_ret2
    exact ⟨rfl, HF1.out, HM1.out, HP1.out⟩
end
end Go.Proofs.YticbbfcachnkiaaGreatDoor
