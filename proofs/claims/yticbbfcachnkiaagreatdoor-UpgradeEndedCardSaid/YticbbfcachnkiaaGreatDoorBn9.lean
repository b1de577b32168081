/- McU in one text (by mkbundle.py). -/
import Derived.Test.YticbbfcachnkiaaGreatDoorBn7
import Derived.Test.YticbbfcachnkiaaGreatDoorBn8
import Derived.Deep.RegionHeld3
import Derived.Defers
import Derived.Recover
/- Package mcs: the steps of both programs, by what they come to; run with its deferred call; Step. -/
namespace Go.Proofs.YticbbfcachnkiaaGreatDoor
open Go.ChangeShapes Go.WideShapes Go.ChangeAt Go.RowKit
set_option linter.unusedVariables false

section
variable {w : World} {p d c : Nat} {ws : List Int} {q : Nat} {T : TypeId} {b t L k : Nat} {st met : Int}

/-! The dispatch of Acquire.step and Release.step. -/
theorem astep_3 {x : Bool} {y : Int} {R : World → Prop} (hP : PgC w q T b t L k 3 met) (h : Calls Tryz.prog 200 #[.pointer (some ⟨q, 0, none⟩), .iface 24 (.pointer (some ⟨p, 0, none⟩))] w (Ret (.tuple #[.bool x, .int .i64 y]) R)) :
    Calls Tryz.prog 197 #[.pointer (some ⟨q, 0, none⟩), .iface 24 (.pointer (some ⟨p, 0, none⟩))] w (Ret (.tuple #[.bool x, .int .i64 y]) R) := by
  obtain ⟨c0, c1, c2, c3, c4, c5⟩ := hP.cells
  have H := Lib.hid h
  clear hP h
  go_enter Tryz.func197, Tryz.ntmps197
  go_wp2_with fail
  refine H.out.mono ?_
  rintro e w1 ⟨rfl, hR⟩
  have HR := Lib.hid hR
  clear hR
  go_wp2
  go_ret2
  exact ⟨rfl, HR.out⟩
theorem astep_4 {x : Bool} {y : Int} {R : World → Prop} (hP : PgC w q T b t L k 4 met) (h : Calls Tryz.prog 201 #[.pointer (some ⟨q, 0, none⟩), .iface 24 (.pointer (some ⟨p, 0, none⟩))] w (Ret (.tuple #[.bool x, .int .i64 y]) R)) :
    Calls Tryz.prog 197 #[.pointer (some ⟨q, 0, none⟩), .iface 24 (.pointer (some ⟨p, 0, none⟩))] w (Ret (.tuple #[.bool x, .int .i64 y]) R) := by
  obtain ⟨c0, c1, c2, c3, c4, c5⟩ := hP.cells
  have H := Lib.hid h
  clear hP h
  go_enter Tryz.func197, Tryz.ntmps197
  go_wp2_with fail
  refine H.out.mono ?_
  rintro e w1 ⟨rfl, hR⟩
  have HR := Lib.hid hR
  clear hR
  go_wp2
  go_ret2
  exact ⟨rfl, HR.out⟩
theorem astep_5 {x : Bool} {y : Int} {R : World → Prop} (hP : PgC w q T b t L k 5 met) (h : Calls Tryz.prog 202 #[.pointer (some ⟨q, 0, none⟩), .iface 24 (.pointer (some ⟨p, 0, none⟩))] w (Ret (.tuple #[.bool x, .int .i64 y]) R)) :
    Calls Tryz.prog 197 #[.pointer (some ⟨q, 0, none⟩), .iface 24 (.pointer (some ⟨p, 0, none⟩))] w (Ret (.tuple #[.bool x, .int .i64 y]) R) := by
  obtain ⟨c0, c1, c2, c3, c4, c5⟩ := hP.cells
  have H := Lib.hid h
  clear hP h
  go_enter Tryz.func197, Tryz.ntmps197
  go_wp2_with fail
  refine H.out.mono ?_
  rintro e w1 ⟨rfl, hR⟩
  have HR := Lib.hid hR
  clear hR
  go_wp2
  go_ret2
  exact ⟨rfl, HR.out⟩
/-- A step so far: the arena's words and the program alone may be others; the program's node is the same. -/
def Kp (d q k : Nat) (w w' : World) : Prop := Frm [d, q] w w' ∧ w'.cell? ⟨q, 3, none⟩ = some (.int .i64 k)
theorem Kp.drewN {d q k : Nat} {w w' : World} (h : Kp d q k w w') (n : Nat) : Kp d q k w (w'.drewN n) := ⟨h.1.drewN n, h.2⟩
theorem Kp.drew {d q k : Nat} {w w' : World} (h : Kp d q k w w') : Kp d q k w w'.drew := h.drewN 1
set_option maxRecDepth 100000 in
set_option maxHeartbeats 4000000 in
theorem astep_1ok (hM : MemAt w p d c ws) (hP : PgC w q T b t L k 1 met) (hd : q ≠ d) (hp : q ≠ p) (hl : nxW b k < ws.length) :
    Calls Tryz.prog 197 #[.pointer (some ⟨q, 0, none⟩), .iface 24 (.pointer (some ⟨p, 0, none⟩))] w
      (Ret (.tuple #[.bool false, .int .i64 0]) (Aft p d c q T b t L k w (ws.set (nxW b k) 0) 2 met)) := by
  have hc4 : ∀ w', Kp d q k w w' → w'.cell? ⟨q, 3, none⟩ = some (.int .i64 k) := fun w' hf => hf.2
  have hk0 : Kp d q k w w := ⟨Frm.refl _ _, hP.cells.2.2.2.1⟩
  have hs4 : w.cell? ⟨q, 4, none⟩ = some (.int .i64 1) := by rw [cell_of_heap hP.obj]; rfl
  have HM := Lib.hid hM
  have HP := Lib.hid hP
  have HL := Lib.hid hl
  clear hM hP hl
  go_enter Tryz.func197, Tryz.ntmps197
  go_wp2_with fail
  go_region_held3 (fun w' => Kp d q k w w') (repeat' (first | assumption | apply Kp.drew | apply Kp.drewN)) (first
    | (go_at_call 120; (with_reducible refine (cnext (HP.out.frm (D := []) (by (repeat' (first | exact Frm.refl _ _ | apply Frm.drew | apply Frm.drewN))) (by simp))).mono ?_); rintro e w1 ⟨rfl, rfl⟩)
    | (go_at_call 199; (with_reducible refine (cstore_ok (HM.out.frm (D := []) (by (repeat' (first | exact Frm.refl _ _ | apply Frm.drew | apply Frm.drewN))) (by simp) (by simp)) (HP.out.frm (D := []) (by (repeat' (first | exact Frm.refl _ _ | apply Frm.drew | apply Frm.drewN))) (by simp)) hd hp (nxW b k) 0 2 HL.out).mono ?_); rintro e w1 ⟨rfl, hF1, hM1, hP1⟩; have hFw : Kp d q k w w1 := ⟨Frm.trans (by (repeat' (first | exact Frm.refl _ _ | apply Frm.drew | apply Frm.drewN))) hF1, hP1.cells.2.2.2.1⟩))
  all_goals
    have HM1 := Lib.hid hM1
    have HP1 := Lib.hid hP1
    have HF1 := Lib.hid hFw
    clear hM1 hP1 hFw hF1 hc4 hk0
    go_wp2
    go_ret2
    exact ⟨rfl, HF1.out.1, HM1.out, HP1.out⟩
set_option maxRecDepth 100000 in
set_option maxHeartbeats 4000000 in
theorem astep_1out (hM : MemAt w p d c ws) (hP : PgC w q T b t L k 1 met) (hd : q ≠ d) (hp : q ≠ p) (hl : ws.length ≤ nxW b k) :
    Calls Tryz.prog 197 #[.pointer (some ⟨q, 0, none⟩), .iface 24 (.pointer (some ⟨p, 0, none⟩))] w
      (Ret (.tuple #[.bool false, .int .i64 3]) (Aft p d c q T b t L k w ws 1 met)) := by
  have hc4 : ∀ w', Kp d q k w w' → w'.cell? ⟨q, 3, none⟩ = some (.int .i64 k) := fun w' hf => hf.2
  have hk0 : Kp d q k w w := ⟨Frm.refl _ _, hP.cells.2.2.2.1⟩
  have hs4 : w.cell? ⟨q, 4, none⟩ = some (.int .i64 1) := by rw [cell_of_heap hP.obj]; rfl
  have HM := Lib.hid hM
  have HP := Lib.hid hP
  have HL := Lib.hid hl
  clear hM hP hl
  go_enter Tryz.func197, Tryz.ntmps197
  go_wp2_with fail
  go_region_held3 (fun w' => Kp d q k w w') (repeat' (first | assumption | apply Kp.drew | apply Kp.drewN)) (first
    | (go_at_call 120; (with_reducible refine (cnext (HP.out.frm (D := []) (by (repeat' (first | exact Frm.refl _ _ | apply Frm.drew | apply Frm.drewN))) (by simp))).mono ?_); rintro e w1 ⟨rfl, rfl⟩)
    | (go_at_call 199; (with_reducible refine (cstore_out (HM.out.frm (D := []) (by (repeat' (first | exact Frm.refl _ _ | apply Frm.drew | apply Frm.drewN))) (by simp) (by simp)) (HP.out.frm (D := []) (by (repeat' (first | exact Frm.refl _ _ | apply Frm.drew | apply Frm.drewN))) (by simp)) hd (nxW b k) 0 2 HL.out).mono ?_); rintro e w1 ⟨rfl, hF1, hM1, hP1⟩; have hFw : Kp d q k w w1 := ⟨Frm.trans (by (repeat' (first | exact Frm.refl _ _ | apply Frm.drew | apply Frm.drewN))) hF1, hP1.cells.2.2.2.1⟩))
  all_goals
    have HM1 := Lib.hid hM1
    have HP1 := Lib.hid hP1
    have HF1 := Lib.hid hFw
    clear hM1 hP1 hFw hF1 hc4 hk0
    go_wp2
    go_ret2
    exact ⟨rfl, HF1.out.1, HM1.out, HP1.out⟩
set_option maxRecDepth 100000 in
set_option maxHeartbeats 4000000 in
theorem astep_2ok (hM : MemAt w p d c ws) (hP : PgC w q T b t L k 2 met) (hd : q ≠ d) (hp : q ≠ p) (hl : wtW b k < ws.length) :
    Calls Tryz.prog 197 #[.pointer (some ⟨q, 0, none⟩), .iface 24 (.pointer (some ⟨p, 0, none⟩))] w
      (Ret (.tuple #[.bool false, .int .i64 0]) (Aft p d c q T b t L k w (ws.set (wtW b k) 1) 3 met)) := by
  have hc4 : ∀ w', Kp d q k w w' → w'.cell? ⟨q, 3, none⟩ = some (.int .i64 k) := fun w' hf => hf.2
  have hk0 : Kp d q k w w := ⟨Frm.refl _ _, hP.cells.2.2.2.1⟩
  have hs4 : w.cell? ⟨q, 4, none⟩ = some (.int .i64 2) := by rw [cell_of_heap hP.obj]; rfl
  have HM := Lib.hid hM
  have HP := Lib.hid hP
  have HL := Lib.hid hl
  clear hM hP hl
  go_enter Tryz.func197, Tryz.ntmps197
  go_wp2_with fail
  go_region_held3 (fun w' => Kp d q k w w') (repeat' (first | assumption | apply Kp.drew | apply Kp.drewN)) (first
    | (go_at_call 163; (with_reducible refine (cwait (HP.out.frm (D := []) (by (repeat' (first | exact Frm.refl _ _ | apply Frm.drew | apply Frm.drewN))) (by simp))).mono ?_); rintro e w1 ⟨rfl, rfl⟩)
    | (go_at_call 199; (with_reducible refine (cstore_ok (HM.out.frm (D := []) (by (repeat' (first | exact Frm.refl _ _ | apply Frm.drew | apply Frm.drewN))) (by simp) (by simp)) (HP.out.frm (D := []) (by (repeat' (first | exact Frm.refl _ _ | apply Frm.drew | apply Frm.drewN))) (by simp)) hd hp (wtW b k) 1 3 HL.out).mono ?_); rintro e w1 ⟨rfl, hF1, hM1, hP1⟩; have hFw : Kp d q k w w1 := ⟨Frm.trans (by (repeat' (first | exact Frm.refl _ _ | apply Frm.drew | apply Frm.drewN))) hF1, hP1.cells.2.2.2.1⟩))
  all_goals
    have HM1 := Lib.hid hM1
    have HP1 := Lib.hid hP1
    have HF1 := Lib.hid hFw
    clear hM1 hP1 hFw hF1 hc4 hk0
    go_wp2
    go_ret2
    exact ⟨rfl, HF1.out.1, HM1.out, HP1.out⟩
set_option maxRecDepth 100000 in
set_option maxHeartbeats 4000000 in
theorem astep_2out (hM : MemAt w p d c ws) (hP : PgC w q T b t L k 2 met) (hd : q ≠ d) (hp : q ≠ p) (hl : ws.length ≤ wtW b k) :
    Calls Tryz.prog 197 #[.pointer (some ⟨q, 0, none⟩), .iface 24 (.pointer (some ⟨p, 0, none⟩))] w
      (Ret (.tuple #[.bool false, .int .i64 3]) (Aft p d c q T b t L k w ws 2 met)) := by
  have hc4 : ∀ w', Kp d q k w w' → w'.cell? ⟨q, 3, none⟩ = some (.int .i64 k) := fun w' hf => hf.2
  have hk0 : Kp d q k w w := ⟨Frm.refl _ _, hP.cells.2.2.2.1⟩
  have hs4 : w.cell? ⟨q, 4, none⟩ = some (.int .i64 2) := by rw [cell_of_heap hP.obj]; rfl
  have HM := Lib.hid hM
  have HP := Lib.hid hP
  have HL := Lib.hid hl
  clear hM hP hl
  go_enter Tryz.func197, Tryz.ntmps197
  go_wp2_with fail
  go_region_held3 (fun w' => Kp d q k w w') (repeat' (first | assumption | apply Kp.drew | apply Kp.drewN)) (first
    | (go_at_call 163; (with_reducible refine (cwait (HP.out.frm (D := []) (by (repeat' (first | exact Frm.refl _ _ | apply Frm.drew | apply Frm.drewN))) (by simp))).mono ?_); rintro e w1 ⟨rfl, rfl⟩)
    | (go_at_call 199; (with_reducible refine (cstore_out (HM.out.frm (D := []) (by (repeat' (first | exact Frm.refl _ _ | apply Frm.drew | apply Frm.drewN))) (by simp) (by simp)) (HP.out.frm (D := []) (by (repeat' (first | exact Frm.refl _ _ | apply Frm.drew | apply Frm.drewN))) (by simp)) hd (wtW b k) 1 3 HL.out).mono ?_); rintro e w1 ⟨rfl, hF1, hM1, hP1⟩; have hFw : Kp d q k w w1 := ⟨Frm.trans (by (repeat' (first | exact Frm.refl _ _ | apply Frm.drew | apply Frm.drewN))) hF1, hP1.cells.2.2.2.1⟩))
  all_goals
    have HM1 := Lib.hid hM1
    have HP1 := Lib.hid hP1
    have HF1 := Lib.hid hFw
    clear hM1 hP1 hFw hF1 hc4 hk0
    go_wp2
    go_ret2
    exact ⟨rfl, HF1.out.1, HM1.out, HP1.out⟩

theorem rstep_1 {x : Bool} {y : Int} {R : World → Prop} (hP : PgC w q T b t L k 1 met) (h : Calls Tryz.prog 211 #[.pointer (some ⟨q, 0, none⟩), .iface 24 (.pointer (some ⟨p, 0, none⟩)), .int .i64 2] w (Ret (.tuple #[.bool x, .int .i64 y]) R)) :
    Calls Tryz.prog 210 #[.pointer (some ⟨q, 0, none⟩), .iface 24 (.pointer (some ⟨p, 0, none⟩))] w (Ret (.tuple #[.bool false, .int .i64 y]) R) := by
  obtain ⟨c0, c1, c2, c3, c4, c5⟩ := hP.cells
  have H := Lib.hid h
  clear hP h
  go_enter Tryz.func210, Tryz.ntmps210
  go_wp2_with fail
  refine H.out.mono ?_
  rintro e w1 ⟨rfl, hR⟩
  have HR := Lib.hid hR
  clear hR
  go_wp2
  go_ret2
  exact ⟨rfl, HR.out⟩
theorem rstep_2 {x : Bool} {y : Int} {R : World → Prop} (hP : PgC w q T b t L k 2 met) (h : Calls Tryz.prog 212 #[.pointer (some ⟨q, 0, none⟩), .iface 24 (.pointer (some ⟨p, 0, none⟩))] w (Ret (.tuple #[.bool x, .int .i64 y]) R)) :
    Calls Tryz.prog 210 #[.pointer (some ⟨q, 0, none⟩), .iface 24 (.pointer (some ⟨p, 0, none⟩))] w (Ret (.tuple #[.bool x, .int .i64 y]) R) := by
  obtain ⟨c0, c1, c2, c3, c4, c5⟩ := hP.cells
  have H := Lib.hid h
  clear hP h
  go_enter Tryz.func210, Tryz.ntmps210
  go_wp2_with fail
  refine H.out.mono ?_
  rintro e w1 ⟨rfl, hR⟩
  have HR := Lib.hid hR
  clear hR
  go_wp2
  go_ret2
  exact ⟨rfl, HR.out⟩
theorem rstep_3 {x : Bool} {R : World → Prop} (hP : PgC w q T b t L k 3 met) (h : Calls Tryz.prog 211 #[.pointer (some ⟨q, 0, none⟩), .iface 24 (.pointer (some ⟨p, 0, none⟩)), .int .i64 3] w (Ret (.tuple #[.bool x, .int .i64 0]) R)) :
    Calls Tryz.prog 210 #[.pointer (some ⟨q, 0, none⟩), .iface 24 (.pointer (some ⟨p, 0, none⟩))] w (Ret (.tuple #[.bool (!x), .int .i64 0]) R) := by
  obtain ⟨c0, c1, c2, c3, c4, c5⟩ := hP.cells
  have H := Lib.hid h
  clear hP h
  go_enter Tryz.func210, Tryz.ntmps210
  go_wp2_with fail
  refine H.out.mono ?_
  rintro e w1 ⟨rfl, hR⟩
  have HR := Lib.hid hR
  clear hR
  go_wp2
  go_ret2
  exact ⟨rfl, HR.out⟩
theorem rstep_3e {x : Bool} {R : World → Prop} (hP : PgC w q T b t L k 3 met) (h : Calls Tryz.prog 211 #[.pointer (some ⟨q, 0, none⟩), .iface 24 (.pointer (some ⟨p, 0, none⟩)), .int .i64 3] w (Ret (.tuple #[.bool x, .int .i64 3]) R)) :
    Calls Tryz.prog 210 #[.pointer (some ⟨q, 0, none⟩), .iface 24 (.pointer (some ⟨p, 0, none⟩))] w (Ret (.tuple #[.bool false, .int .i64 3]) R) := by
  obtain ⟨c0, c1, c2, c3, c4, c5⟩ := hP.cells
  have H := Lib.hid h
  clear hP h
  go_enter Tryz.func210, Tryz.ntmps210
  go_wp2_with fail
  refine H.out.mono ?_
  rintro e w1 ⟨rfl, hR⟩
  have HR := Lib.hid hR
  clear hR
  go_wp2
  go_ret2
  exact ⟨rfl, HR.out⟩
theorem rstep_4 {x : Bool} {y : Int} {R : World → Prop} (hP : PgC w q T b t L k 4 met) (h : Calls Tryz.prog 213 #[.pointer (some ⟨q, 0, none⟩), .iface 24 (.pointer (some ⟨p, 0, none⟩))] w (Ret (.tuple #[.bool x, .int .i64 y]) R)) :
    Calls Tryz.prog 210 #[.pointer (some ⟨q, 0, none⟩), .iface 24 (.pointer (some ⟨p, 0, none⟩))] w (Ret (.tuple #[.bool x, .int .i64 y]) R) := by
  obtain ⟨c0, c1, c2, c3, c4, c5⟩ := hP.cells
  have H := Lib.hid h
  clear hP h
  go_enter Tryz.func210, Tryz.ntmps210
  go_wp2_with fail
  refine H.out.mono ?_
  rintro e w1 ⟨rfl, hR⟩
  have HR := Lib.hid hR
  clear hR
  go_wp2
  go_ret2
  exact ⟨rfl, HR.out⟩
theorem catch_idle (a1 a2 : Value) (w : World) :
    CallsD Tryz.prog 198 #[a1, a2] .returning w fun e u' w' => e = .returned (.tuple #[]) ∧ u' = .returning ∧ w' = w := by
  refine callsD_of_wpS Tryz.func198 rfl fun c₀ cs hu => ?_
  apply wpS_seq
  apply wpS_region
  simp [wpOpsS, go_sem, recoverD, hu, Tryz.ntmps198, Exit.thenS]
  refine wpS_cond (t := false) (by simp [Act.eval, Array.replicate]) ?_
  simp only [Bool.false_eq_true, if_false]
  refine wpS_of_wp (wp_skip ?_)
  cases c₀
  simp_all [bodyPostS, results, Tryz.results198]
set_option maxRecDepth 100000 in
set_option maxHeartbeats 4000000 in
theorem arun {x : Bool} {y : Int} {st' met' : Int} {ws' : List Int} (hM : MemAt w p d c ws) (hP : PgC w q T b t L k st met) (hst : st ≠ 0)
    (hS : ∀ w2, Frm [] w w2 → Calls Tryz.prog 197 #[.pointer (some ⟨q, 0, none⟩), .iface 24 (.pointer (some ⟨p, 0, none⟩))] w2 (Ret (.tuple #[.bool x, .int .i64 y]) (Aft p d c q T b t L k w2 ws' st' met'))) :
    Calls Tryz.prog 196 #[.pointer (some ⟨q, 0, none⟩), .func (Fn.func 197) #[.pointer (some ⟨q, 0, none⟩)] #[], .iface 24 (.pointer (some ⟨p, 0, none⟩))] w
      (Ret (.tuple #[.bool x, .int .i64 y]) (Aft p d c q T b t L k w ws' st' met')) := by
  have hmf : ∀ (fn : Fn) (first cap : Array Value) (w : World), (Instr.makeFunc fn first cap).run Tryz.prog w = .ok (.func fn first cap) w := fun _ _ _ _ => rfl
  have hpl := hM.plt
  have hdl := hM.dlt
  have hql := hP.lt
  obtain ⟨X, hX⟩ : ∃ X, X = (w.alloc (.cells #[.bool false] 4)).alloc (.cells #[.int .i64 0] 64) := ⟨_, rfl⟩
  have hFX : Frm [] w X := by rw [hX]; exact ((Frm.refl _ _).alloc _).alloc _
  have hb0 : X.heap[w.heap.size]? = some (.cells #[.bool false] 4 (0, 0)) := by rw [hX]; exact heap_alloc_old _ (heap_alloc_new _ _)
  have hb1 : X.heap[w.heap.size + 1]? = some (.cells #[.int .i64 0] 64 (0, 0)) := by rw [hX]; exact heap_alloc_at _ (by simp)
  have H := Lib.hid hP
  have HPX := Lib.hid (hP.frm hFX (by simp))
  have HS := Lib.hid hS
  have HST := Lib.hid hst
  have HFX := Lib.hid hFX
  have HB0 := Lib.hid hb0
  have HB1 := Lib.hid hb1
  clear hM hP hS hst hFX hb0 hb1
  go_enter_defers Tryz.func196, Tryz.ntmps196
  go_wp2_with fail
  rw [← hX]
  clear hX
  refine (cnone_pg HPX.out).mono ?_
  rintro e w' ⟨rfl, rfl⟩
  go_wp2_with fail
  refine (cdone_1 HPX.out HST.out).mono ?_
  rintro e w' ⟨rfl, rfl⟩
  go_wp2_with fail
  refine (HS.out _ HFX.out).mono ?_
  rintro e w3 ⟨rfl, hF3, hM3, hP3⟩
  have g0 := hF3.heap HB0.out (by simp; omega)
  have g1 := hF3.heap HB1.out (by simp; omega)
  have k0 : w3.cell? ⟨w.heap.size, 0, none⟩ = some (.bool false) := by rw [cell_of_heap g0]; rfl
  have k1 : w3.cell? ⟨w.heap.size + 1, 0, none⟩ = some (.int .i64 0) := by rw [cell_of_heap g1]; rfl
  have z0 : w3.frozen? ⟨w.heap.size, 0, none⟩ = false := frozen_of_heap g0
  have z1 : w3.frozen? ⟨w.heap.size + 1, 0, none⟩ = false := frozen_of_heap g1
  have HF3 := Lib.hid hF3
  have HM3 := Lib.hid hM3
  have HP3 := Lib.hid hP3
  clear g0 g1 hF3 hM3 hP3
  go_wp2
  refine leaves_cons (f := 198) (args := #[.pointer (some ⟨w.heap.size, 0, none⟩), .pointer (some ⟨w.heap.size + 1, 0, none⟩)]) (by simp) (by simp [go_sem]) ?_
  refine (catch_idle _ _ _).mono ?_
  rintro e u' w'' ⟨rfl, rfl, rfl⟩
  have hA : Aft p d c q T b t L k w ws' st' met' ((w3.setCell ⟨w.heap.size, 0, none⟩ (.bool x)).setCell ⟨w.heap.size + 1, 0, none⟩ (.int .i64 y)) :=
    ⟨((HFX.out.nil.trans HF3.out).setCell _ _ (.inr (Nat.le_refl _))).setCell _ _ (.inr (Nat.le_succ _)),
      (HM3.out.setFar _ _ (by simp; omega) (by simp; omega)).setFar _ _ (by simp; omega) (by simp; omega),
      HP3.out.frm (((Frm.refl [w.heap.size, w.heap.size + 1] w3).setCell ⟨w.heap.size, 0, none⟩ (.bool x) (.inl (by simp))).setCell ⟨w.heap.size + 1, 0, none⟩ (.int .i64 y) (.inl (by simp))) (by simp; omega)⟩
  have HA := Lib.hid hA
  clear hA
  simp [Leaves, settle, results, Tryz.results196, go_sem, k0, k1]
  exact ⟨rfl, HA.out⟩
theorem aStep {x : Bool} {y : Int} {st' met' : Int} {ws' : List Int} (hM : MemAt w p d c ws) (hP : PgC w q T b t L k st met) (hst : st ≠ 0)
    (hS : ∀ w2, Frm [] w w2 → Calls Tryz.prog 197 #[.pointer (some ⟨q, 0, none⟩), .iface 24 (.pointer (some ⟨p, 0, none⟩))] w2 (Ret (.tuple #[.bool x, .int .i64 y]) (Aft p d c q T b t L k w2 ws' st' met'))) :
    Calls Tryz.prog 192 #[.pointer (some ⟨q, 0, none⟩), .iface 24 (.pointer (some ⟨p, 0, none⟩))] w
      (Ret (.tuple #[.bool x, .int .i64 y]) (Aft p d c q T b t L k w ws' st' met')) := by
  have hmf : ∀ (fn : Fn) (first cap : Array Value) (w : World), (Instr.makeFunc fn first cap).run Tryz.prog w = .ok (.func fn first cap) w := fun _ _ _ _ => rfl
  have H := Lib.hid (arun hM hP hst hS)
  clear hM hP hst hS
  go_enter Tryz.func192, Tryz.ntmps192
  go_wp2_with fail
  refine H.out.mono ?_
  rintro e w1 ⟨rfl, hR⟩
  have HR := Lib.hid hR
  clear hR
  go_wp2
  go_ret2
  exact ⟨rfl, HR.out⟩
/-- The step of a program that has ended. -/
theorem arun_end (hP : PgC w q T b t L k 0 met) (v : Value) : Calls Tryz.prog 196 #[.pointer (some ⟨q, 0, none⟩), v, .iface 24 (.pointer (some ⟨p, 0, none⟩))] w (Ret (.tuple #[.bool false, .int .i64 17]) (fun w' => Frm [] w w')) := by
  obtain ⟨X, hX⟩ : ∃ X, X = (w.alloc (.cells #[.bool false] 4)).alloc (.cells #[.int .i64 0] 64) := ⟨_, rfl⟩
  have hFX : Frm [] w X := by rw [hX]; exact ((Frm.refl _ _).alloc _).alloc _
  have g0 : X.heap[w.heap.size]? = some (.cells #[.bool false] 4 (0, 0)) := by rw [hX]; exact heap_alloc_old _ (heap_alloc_new _ _)
  have g1 : X.heap[w.heap.size + 1]? = some (.cells #[.int .i64 0] 64 (0, 0)) := by rw [hX]; exact heap_alloc_at _ (by simp)
  have k0 : X.cell? ⟨w.heap.size, 0, none⟩ = some (.bool false) := by rw [cell_of_heap g0]; rfl
  have k1 : X.cell? ⟨w.heap.size + 1, 0, none⟩ = some (.int .i64 0) := by rw [cell_of_heap g1]; rfl
  have z0 : X.frozen? ⟨w.heap.size, 0, none⟩ = false := frozen_of_heap g0
  have z1 : X.frozen? ⟨w.heap.size + 1, 0, none⟩ = false := frozen_of_heap g1
  have HPX := Lib.hid (hP.frm hFX (by simp))
  have HFX := Lib.hid hFX
  clear hP hFX g0 g1
  go_enter_defers Tryz.func196, Tryz.ntmps196
  go_wp2_with fail
  rw [← hX]
  clear hX
  refine (cnone_pg HPX.out).mono ?_
  rintro e w' ⟨rfl, rfl⟩
  go_wp2_with fail
  refine (cdone_0 HPX.out).mono ?_
  rintro e w' ⟨rfl, rfl⟩
  go_wp2
  have hA : Frm [] w ((X.setCell ⟨w.heap.size, 0, none⟩ (.bool false)).setCell ⟨w.heap.size + 1, 0, none⟩ (.int .i64 17)) :=
    (HFX.out.setCell _ _ (.inr (Nat.le_refl _))).setCell _ _ (.inr (Nat.le_succ _))
  have HA := Lib.hid hA
  clear hA
  simp only [bodyPostD, Leaves]
  exact ⟨.tuple #[.bool false, .int .i64 17], by simp [results, Tryz.results196, go_sem, k0, k1], rfl, HA.out⟩
theorem aStep_end (hP : PgC w q T b t L k 0 met) : Calls Tryz.prog 192 #[.pointer (some ⟨q, 0, none⟩), .iface 24 (.pointer (some ⟨p, 0, none⟩))] w (Ret (.tuple #[.bool false, .int .i64 17]) (fun w' => Frm [] w w')) := by
  have hmf : ∀ (fn : Fn) (first cap : Array Value) (w : World), (Instr.makeFunc fn first cap).run Tryz.prog w = .ok (.func fn first cap) w := fun _ _ _ _ => rfl
  have H := Lib.hid (fun v => arun_end (p := p) hP v)
  clear hP
  go_enter Tryz.func192, Tryz.ntmps192
  go_wp2_with fail
  refine (H.out _).mono ?_
  rintro e w1 ⟨rfl, hR⟩
  have HR := Lib.hid hR
  clear hR
  go_wp2
  go_ret2
  exact ⟨rfl, HR.out⟩
set_option maxRecDepth 100000 in
set_option maxHeartbeats 4000000 in
theorem rrun {x : Bool} {y : Int} {st' met' : Int} {ws' : List Int} (hM : MemAt w p d c ws) (hP : PgC w q T b t L k st met) (hst : st ≠ 0)
    (hS : ∀ w2, Frm [] w w2 → Calls Tryz.prog 210 #[.pointer (some ⟨q, 0, none⟩), .iface 24 (.pointer (some ⟨p, 0, none⟩))] w2 (Ret (.tuple #[.bool x, .int .i64 y]) (Aft p d c q T b t L k w2 ws' st' met'))) :
    Calls Tryz.prog 196 #[.pointer (some ⟨q, 0, none⟩), .func (Fn.func 210) #[.pointer (some ⟨q, 0, none⟩)] #[], .iface 24 (.pointer (some ⟨p, 0, none⟩))] w
      (Ret (.tuple #[.bool x, .int .i64 y]) (Aft p d c q T b t L k w ws' st' met')) := by
  have hmf : ∀ (fn : Fn) (first cap : Array Value) (w : World), (Instr.makeFunc fn first cap).run Tryz.prog w = .ok (.func fn first cap) w := fun _ _ _ _ => rfl
  have hpl := hM.plt
  have hdl := hM.dlt
  have hql := hP.lt
  obtain ⟨X, hX⟩ : ∃ X, X = (w.alloc (.cells #[.bool false] 4)).alloc (.cells #[.int .i64 0] 64) := ⟨_, rfl⟩
  have hFX : Frm [] w X := by rw [hX]; exact ((Frm.refl _ _).alloc _).alloc _
  have hb0 : X.heap[w.heap.size]? = some (.cells #[.bool false] 4 (0, 0)) := by rw [hX]; exact heap_alloc_old _ (heap_alloc_new _ _)
  have hb1 : X.heap[w.heap.size + 1]? = some (.cells #[.int .i64 0] 64 (0, 0)) := by rw [hX]; exact heap_alloc_at _ (by simp)
  have H := Lib.hid hP
  have HPX := Lib.hid (hP.frm hFX (by simp))
  have HS := Lib.hid hS
  have HST := Lib.hid hst
  have HFX := Lib.hid hFX
  have HB0 := Lib.hid hb0
  have HB1 := Lib.hid hb1
  clear hM hP hS hst hFX hb0 hb1
  go_enter_defers Tryz.func196, Tryz.ntmps196
  go_wp2_with fail
  rw [← hX]
  clear hX
  refine (cnone_pg HPX.out).mono ?_
  rintro e w' ⟨rfl, rfl⟩
  go_wp2_with fail
  refine (cdone_1 HPX.out HST.out).mono ?_
  rintro e w' ⟨rfl, rfl⟩
  go_wp2_with fail
  refine (HS.out _ HFX.out).mono ?_
  rintro e w3 ⟨rfl, hF3, hM3, hP3⟩
  have g0 := hF3.heap HB0.out (by simp; omega)
  have g1 := hF3.heap HB1.out (by simp; omega)
  have k0 : w3.cell? ⟨w.heap.size, 0, none⟩ = some (.bool false) := by rw [cell_of_heap g0]; rfl
  have k1 : w3.cell? ⟨w.heap.size + 1, 0, none⟩ = some (.int .i64 0) := by rw [cell_of_heap g1]; rfl
  have z0 : w3.frozen? ⟨w.heap.size, 0, none⟩ = false := frozen_of_heap g0
  have z1 : w3.frozen? ⟨w.heap.size + 1, 0, none⟩ = false := frozen_of_heap g1
  have HF3 := Lib.hid hF3
  have HM3 := Lib.hid hM3
  have HP3 := Lib.hid hP3
  clear g0 g1 hF3 hM3 hP3
  go_wp2
  refine leaves_cons (f := 198) (args := #[.pointer (some ⟨w.heap.size, 0, none⟩), .pointer (some ⟨w.heap.size + 1, 0, none⟩)]) (by simp) (by simp [go_sem]) ?_
  refine (catch_idle _ _ _).mono ?_
  rintro e u' w'' ⟨rfl, rfl, rfl⟩
  have hA : Aft p d c q T b t L k w ws' st' met' ((w3.setCell ⟨w.heap.size, 0, none⟩ (.bool x)).setCell ⟨w.heap.size + 1, 0, none⟩ (.int .i64 y)) :=
    ⟨((HFX.out.nil.trans HF3.out).setCell _ _ (.inr (Nat.le_refl _))).setCell _ _ (.inr (Nat.le_succ _)),
      (HM3.out.setFar _ _ (by simp; omega) (by simp; omega)).setFar _ _ (by simp; omega) (by simp; omega),
      HP3.out.frm (((Frm.refl [w.heap.size, w.heap.size + 1] w3).setCell ⟨w.heap.size, 0, none⟩ (.bool x) (.inl (by simp))).setCell ⟨w.heap.size + 1, 0, none⟩ (.int .i64 y) (.inl (by simp))) (by simp; omega)⟩
  have HA := Lib.hid hA
  clear hA
  simp [Leaves, settle, results, Tryz.results196, go_sem, k0, k1]
  exact ⟨rfl, HA.out⟩
theorem rStep {x : Bool} {y : Int} {st' met' : Int} {ws' : List Int} (hM : MemAt w p d c ws) (hP : PgC w q T b t L k st met) (hst : st ≠ 0)
    (hS : ∀ w2, Frm [] w w2 → Calls Tryz.prog 210 #[.pointer (some ⟨q, 0, none⟩), .iface 24 (.pointer (some ⟨p, 0, none⟩))] w2 (Ret (.tuple #[.bool x, .int .i64 y]) (Aft p d c q T b t L k w2 ws' st' met'))) :
    Calls Tryz.prog 209 #[.pointer (some ⟨q, 0, none⟩), .iface 24 (.pointer (some ⟨p, 0, none⟩))] w
      (Ret (.tuple #[.bool x, .int .i64 y]) (Aft p d c q T b t L k w ws' st' met')) := by
  have hmf : ∀ (fn : Fn) (first cap : Array Value) (w : World), (Instr.makeFunc fn first cap).run Tryz.prog w = .ok (.func fn first cap) w := fun _ _ _ _ => rfl
  have H := Lib.hid (rrun hM hP hst hS)
  clear hM hP hst hS
  go_enter Tryz.func209, Tryz.ntmps209
  go_wp2_with fail
  refine H.out.mono ?_
  rintro e w1 ⟨rfl, hR⟩
  have HR := Lib.hid hR
  clear hR
  go_wp2
  go_ret2
  exact ⟨rfl, HR.out⟩
/-- The step of a program that has ended. -/
theorem rrun_end (hP : PgC w q T b t L k 0 met) (v : Value) : Calls Tryz.prog 196 #[.pointer (some ⟨q, 0, none⟩), v, .iface 24 (.pointer (some ⟨p, 0, none⟩))] w (Ret (.tuple #[.bool false, .int .i64 17]) (fun w' => Frm [] w w')) := by
  obtain ⟨X, hX⟩ : ∃ X, X = (w.alloc (.cells #[.bool false] 4)).alloc (.cells #[.int .i64 0] 64) := ⟨_, rfl⟩
  have hFX : Frm [] w X := by rw [hX]; exact ((Frm.refl _ _).alloc _).alloc _
  have g0 : X.heap[w.heap.size]? = some (.cells #[.bool false] 4 (0, 0)) := by rw [hX]; exact heap_alloc_old _ (heap_alloc_new _ _)
  have g1 : X.heap[w.heap.size + 1]? = some (.cells #[.int .i64 0] 64 (0, 0)) := by rw [hX]; exact heap_alloc_at _ (by simp)
  have k0 : X.cell? ⟨w.heap.size, 0, none⟩ = some (.bool false) := by rw [cell_of_heap g0]; rfl
  have k1 : X.cell? ⟨w.heap.size + 1, 0, none⟩ = some (.int .i64 0) := by rw [cell_of_heap g1]; rfl
  have z0 : X.frozen? ⟨w.heap.size, 0, none⟩ = false := frozen_of_heap g0
  have z1 : X.frozen? ⟨w.heap.size + 1, 0, none⟩ = false := frozen_of_heap g1
  have HPX := Lib.hid (hP.frm hFX (by simp))
  have HFX := Lib.hid hFX
  clear hP hFX g0 g1
  go_enter_defers Tryz.func196, Tryz.ntmps196
  go_wp2_with fail
  rw [← hX]
  clear hX
  refine (cnone_pg HPX.out).mono ?_
  rintro e w' ⟨rfl, rfl⟩
  go_wp2_with fail
  refine (cdone_0 HPX.out).mono ?_
  rintro e w' ⟨rfl, rfl⟩
  go_wp2
  have hA : Frm [] w ((X.setCell ⟨w.heap.size, 0, none⟩ (.bool false)).setCell ⟨w.heap.size + 1, 0, none⟩ (.int .i64 17)) :=
    (HFX.out.setCell _ _ (.inr (Nat.le_refl _))).setCell _ _ (.inr (Nat.le_succ _))
  have HA := Lib.hid hA
  clear hA
  simp only [bodyPostD, Leaves]
  exact ⟨.tuple #[.bool false, .int .i64 17], by simp [results, Tryz.results196, go_sem, k0, k1], rfl, HA.out⟩
theorem rStep_end (hP : PgC w q T b t L k 0 met) : Calls Tryz.prog 209 #[.pointer (some ⟨q, 0, none⟩), .iface 24 (.pointer (some ⟨p, 0, none⟩))] w (Ret (.tuple #[.bool false, .int .i64 17]) (fun w' => Frm [] w w')) := by
  have hmf : ∀ (fn : Fn) (first cap : Array Value) (w : World), (Instr.makeFunc fn first cap).run Tryz.prog w = .ok (.func fn first cap) w := fun _ _ _ _ => rfl
  have H := Lib.hid (fun v => rrun_end (p := p) hP v)
  clear hP
  go_enter Tryz.func209, Tryz.ntmps209
  go_wp2_with fail
  refine (H.out _).mono ?_
  rintro e w1 ⟨rfl, hR⟩
  have HR := Lib.hid hR
  clear hR
  go_wp2
  go_ret2
  exact ⟨rfl, HR.out⟩

end
end Go.Proofs.YticbbfcachnkiaaGreatDoor
