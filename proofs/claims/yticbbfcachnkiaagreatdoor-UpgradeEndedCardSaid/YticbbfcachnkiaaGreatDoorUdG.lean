/- Package upgrade: copyOf; Step of a decision; nil and zero decisions (by gen_udg.py). -/
import Derived.Test.YticbbfcachnkiaaGreatDoorUdC
import Derived.Test.YticbbfcachnkiaaGreatDoorUdD
namespace Go.Proofs.YticbbfcachnkiaaGreatDoor
open Go.ChangeShapes Go.WideShapes Go.ChangeAt Go.RowKit
set_option linter.unusedVariables false
set_option linter.unusedSimpArgs false
theorem co_idle (a1 : Value) (w : World) :
    CallsD Tryz.prog 66 #[a1] .returning w fun e u' w' => e = .returned (.tuple #[]) ∧ u' = .returning ∧ w' = w := by
  refine callsD_of_wpS Tryz.func66 rfl fun c₀ cs hu => ?_
  apply wpS_seq
  apply wpS_region
  simp [wpOpsS, go_sem, recoverD, hu, Tryz.ntmps66, Exit.thenS]
  refine wpS_cond (t := false) (by simp [Act.eval, Array.replicate]) ?_
  simp only [Bool.false_eq_true, if_false]
  refine wpS_of_wp (wp_skip ?_)
  cases c₀
  simp_all [bodyPostS, results, Tryz.results66]
theorem sd_idle (a1 a2 : Value) (w : World) :
    CallsD Tryz.prog 45 #[a1, a2] .returning w fun e u' w' => e = .returned (.tuple #[]) ∧ u' = .returning ∧ w' = w := by
  refine callsD_of_wpS Tryz.func45 rfl fun c₀ cs hu => ?_
  apply wpS_seq
  apply wpS_region
  simp [wpOpsS, go_sem, recoverD, hu, Tryz.ntmps45, Exit.thenS]
  refine wpS_cond (t := false) (by simp [Act.eval, Array.replicate]) ?_
  simp only [Bool.false_eq_true, if_false]
  refine wpS_of_wp (wp_skip ?_)
  cases c₀
  simp_all [bodyPostS, results, Tryz.results45]
section
variable {w : World} {B T N : Nat} {P : Part}
set_option maxRecDepth 1000000 in
set_option maxHeartbeats 4000000 in
theorem copyOf_mv (h : PartAt w B T N P) (hwk : P.m.wk = []) (hB : B ≤ w.heap.size) :
    Calls Tryz.prog 49 #[.iface 76 (.pointer (some ⟨P.q, 0, none⟩))] w (fun e w' => ∃ P', Ret (.iface 76 (.pointer (some ⟨P'.q, 0, none⟩))) (fun w' => Frm [] w w' ∧ PartAt w' B T N P' ∧ P'.m = P.m ∧ P'.g = P.g ∧ ∀ x ∈ P'.bl, w.heap.size ≤ x) e w') := by
  have hmf : ∀ (fn : Fn) (first cap : Array Value) (w : World), (Instr.makeFunc fn first cap).run Tryz.prog w = .ok (.func fn first cap) w := fun _ _ _ _ => rfl
  obtain ⟨X, hX⟩ : ∃ X, X = w.alloc (.cells #[.nilIface] 37) := ⟨_, rfl⟩
  have hFX : Frm [] w X := by rw [hX]; exact (Frm.refl _ _).alloc _
  have hb0 : X.heap[w.heap.size]? = some (.cells #[.nilIface] 37 (0, 0)) := by rw [hX]; exact heap_alloc_new _ _
  have HFX := Lib.hid hFX
  have HB0 := Lib.hid hb0
  have HC := Lib.hid (Copy_mv (h.frm0 hFX) hwk (Nat.le_trans hB hFX.size))
  clear h hFX hb0
  go_enter_defers Tryz.func49, Tryz.ntmps49
  go_wp2_with fail
  rw [← hX]
  clear hX
  refine HC.out.mono ?_
  rintro e w1 ⟨P', rfl, hF1, hP1, hm1, hg1, hf1⟩
  have g0 := hF1.heap HB0.out (by simp)
  have k0 : w1.cell? ⟨w.heap.size, 0, none⟩ = some .nilIface := by rw [cell_of_heap g0]; rfl
  have z0 : w1.frozen? ⟨w.heap.size, 0, none⟩ = false := frozen_of_heap g0
  have hl := lt_of_heap g0
  have HF1 := Lib.hid hF1
  have HP1 := Lib.hid hP1
  have HM1 := Lib.hid hm1
  have HG1 := Lib.hid hg1
  have HF := Lib.hid hf1
  have HG0 := Lib.hid g0
  clear hF1 hP1 hm1 hg1 hf1 g0
  go_wp2
  have hW := heap_setCell_at (i := 0) (.iface 76 (.pointer (some ⟨P'.q, 0, none⟩))) HG0.out
  have y0 : (w1.setCell ⟨w.heap.size, 0, none⟩ (.iface 76 (.pointer (some ⟨P'.q, 0, none⟩)))).cell? ⟨w.heap.size, 0, none⟩ = some (.iface 76 (.pointer (some ⟨P'.q, 0, none⟩))) := by rw [cell_of_heap hW]; rfl
  have hfr : Frm [w.heap.size] w1 (w1.setCell ⟨w.heap.size, 0, none⟩ (.iface 76 (.pointer (some ⟨P'.q, 0, none⟩)))) := (Frm.refl _ _).setCell _ _ (.inl (by simp))
  have hXs := HFX.out.size
  have hXl := lt_of_heap HB0.out
  generalize w1.setCell ⟨w.heap.size, 0, none⟩ (.iface 76 (.pointer (some ⟨P'.q, 0, none⟩))) = W at y0 hfr ⊢
  refine leaves_cons (f := 66) (args := #[.pointer (some ⟨w.heap.size, 0, none⟩)]) (by simp) (by simp [go_sem]) ?_
  refine (co_idle _ _).mono ?_
  rintro e u' w'' ⟨rfl, rfl, rfl⟩
  simp [Leaves, settle, results, Tryz.results49, go_sem, y0]
  exact ⟨P', rfl, (HFX.out.trans HF1.out).trans_new hfr (fun x hx => .inr (by simp at hx; omega)), HP1.out.frm hfr (fun x hx => by have := HF.out x hx; simp; omega), HM1.out, HG1.out, fun x hx => by have := HF.out x hx; omega⟩
set_option maxRecDepth 1000000 in
set_option maxHeartbeats 4000000 in
theorem copyOf_nil : Calls Tryz.prog 49 #[.nilIface] w (Ret .nilIface (fun w' => Frm [] w w')) := by
  have hmf : ∀ (fn : Fn) (first cap : Array Value) (w : World), (Instr.makeFunc fn first cap).run Tryz.prog w = .ok (.func fn first cap) w := fun _ _ _ _ => rfl
  obtain ⟨X, hX⟩ : ∃ X, X = w.alloc (.cells #[.nilIface] 37) := ⟨_, rfl⟩
  have hFX : Frm [] w X := by rw [hX]; exact (Frm.refl _ _).alloc _
  have hb0 : X.heap[w.heap.size]? = some (.cells #[.nilIface] 37 (0, 0)) := by rw [hX]; exact heap_alloc_new _ _
  have HFX := Lib.hid hFX
  have HB0 := Lib.hid hb0
  have k0 : X.cell? ⟨w.heap.size, 0, none⟩ = some .nilIface := by rw [cell_of_heap hb0]; rfl
  have z0 : X.frozen? ⟨w.heap.size, 0, none⟩ = false := frozen_of_heap hb0
  have hl := lt_of_heap hb0
  clear hFX hb0
  go_enter_defers Tryz.func49, Tryz.ntmps49
  go_wp2_with fail
  rw [← hX]
  have y0 := k0
  refine leaves_cons (f := 66) (args := #[.pointer (some ⟨w.heap.size, 0, none⟩)]) (by simp) (by simp [go_sem]) ?_
  refine (co_idle _ _).mono ?_
  rintro e u' w'' ⟨rfl, rfl, rfl⟩
  simp [Leaves, settle, results, Tryz.results49, go_sem, y0]
  exact ⟨rfl, HFX.out⟩
set_option maxRecDepth 1000000 in
set_option maxHeartbeats 4000000 in
theorem copyOf_none : Calls Tryz.prog 49 #[.iface 76 (.pointer none)] w (Ret .nilIface (fun w' => Frm [] w w')) := by
  have hmf : ∀ (fn : Fn) (first cap : Array Value) (w : World), (Instr.makeFunc fn first cap).run Tryz.prog w = .ok (.func fn first cap) w := fun _ _ _ _ => rfl
  obtain ⟨X, hX⟩ : ∃ X, X = w.alloc (.cells #[.nilIface] 37) := ⟨_, rfl⟩
  have hFX : Frm [] w X := by rw [hX]; exact (Frm.refl _ _).alloc _
  have hb0 : X.heap[w.heap.size]? = some (.cells #[.nilIface] 37 (0, 0)) := by rw [hX]; exact heap_alloc_new _ _
  have HFX := Lib.hid hFX
  have HB0 := Lib.hid hb0
  have HC := Lib.hid (Copy_nilm (w := X) (v := .pointer none) (.inl rfl))
  clear hFX hb0
  go_enter_defers Tryz.func49, Tryz.ntmps49
  go_wp2_with fail
  rw [← hX]
  clear hX
  refine HC.out.mono ?_
  rintro e w1 ⟨rfl, rfl⟩
  have k0 : X.cell? ⟨w.heap.size, 0, none⟩ = some .nilIface := by rw [cell_of_heap HB0.out]; rfl
  have z0 : X.frozen? ⟨w.heap.size, 0, none⟩ = false := frozen_of_heap HB0.out
  have hl := lt_of_heap HB0.out
  go_wp2
  have hW := heap_setCell_at (i := 0) .nilIface HB0.out
  have y0 : (X.setCell ⟨w.heap.size, 0, none⟩ .nilIface).cell? ⟨w.heap.size, 0, none⟩ = some .nilIface := by rw [cell_of_heap hW]; rfl
  have hfr : Frm [w.heap.size] X (X.setCell ⟨w.heap.size, 0, none⟩ .nilIface) := (Frm.refl _ _).setCell _ _ (.inl (by simp))
  generalize X.setCell ⟨w.heap.size, 0, none⟩ .nilIface = W at y0 hfr ⊢
  refine leaves_cons (f := 66) (args := #[.pointer (some ⟨w.heap.size, 0, none⟩)]) (by simp) (by simp [go_sem]) ?_
  refine (co_idle _ _).mono ?_
  rintro e u' w'' ⟨rfl, rfl, rfl⟩
  simp [Leaves, settle, results, Tryz.results49, go_sem, y0]
  exact ⟨rfl, HFX.out.trans_new hfr (fun x hx => .inr (by simp at hx; omega))⟩
end
section
variable {w : World} {B T N D p d cc : Nat} {q0 q1 q2 q3 q4 now : Nat} {res : Int}
set_option maxRecDepth 1000000 in
set_option maxHeartbeats 4000000 in
theorem StepD_frame {x : Bool} {y : Int} {R R' : World → Prop} {DD : List Nat} (h : DObj w D q0 q1 q2 q3 q4 now res) (hnx : now ≠ 5) (hD : ∀ z ∈ DD, z < w.heap.size)
    (hS : ∀ X, Frm [] w X → w.heap.size + 2 ≤ X.heap.size → Calls Tryz.prog 46 #[.pointer (some ⟨D, 0, none⟩), .iface 24 (.pointer (some ⟨p, 0, none⟩))] X (fun e w' => e = .returned (.tuple #[.bool x, .int .i64 y]) ∧ Frm DD X w' ∧ R w'))
    (hR : ∀ w3, Frm DD w w3 → R w3 → w.heap.size + 1 < w3.heap.size → R' ((w3.setCell ⟨w.heap.size, 0, none⟩ (.bool x)).setCell ⟨w.heap.size + 1, 0, none⟩ (.int .i64 y))) :
    Calls Tryz.prog 21 #[.pointer (some ⟨D, 0, none⟩), .iface 24 (.pointer (some ⟨p, 0, none⟩))] w (fun e w' => e = .returned (.tuple #[.bool x, .int .i64 y]) ∧ R' w') := by
  have hmf : ∀ (fn : Fn) (first cap : Array Value) (w : World), (Instr.makeFunc fn first cap).run Tryz.prog w = .ok (.func fn first cap) w := fun _ _ _ _ => rfl
  have hql := h.lt
  obtain ⟨X, hX⟩ : ∃ X, X = (w.alloc (.cells #[.bool false] 4)).alloc (.cells #[.int .i64 0] 64) := ⟨_, rfl⟩
  have hFX : Frm [] w X := by rw [hX]; exact ((Frm.refl _ _).alloc _).alloc _
  have hb0 : X.heap[w.heap.size]? = some (.cells #[.bool false] 4 (0, 0)) := by rw [hX]; exact heap_alloc_old _ (heap_alloc_new _ _)
  have hb1 : X.heap[w.heap.size + 1]? = some (.cells #[.int .i64 0] 64 (0, 0)) := by rw [hX]; exact heap_alloc_at _ (by simp)
  have HN := Lib.hid (none_d (h.frm0 hFX))
  have c5 := (h.frm0 hFX).cells.2.2.2.2.2.1
  have hqx := (h.frm0 hFX).lt
  have e0 : ((now : Int) == 5) = false := by simp; omega
  have HS := Lib.hid hS
  have HR := Lib.hid hR
  have HD' := Lib.hid hD
  have HFX := Lib.hid hFX
  have HB0 := Lib.hid hb0
  have HB1 := Lib.hid hb1
  clear h hnx hS hR hFX hb0 hb1 hD
  go_enter_defers Tryz.func21, Tryz.ntmps21
  go_wp2_with fail
  rw [← hX]
  clear hX
  refine HN.out.mono ?_
  rintro e w' ⟨rfl, rfl⟩
  go_wp2_with fail
  refine (HS.out _ HFX.out (lt_of_heap HB1.out)).mono ?_
  rintro e w3 ⟨rfl, hF3, hR3⟩
  have g0 := hF3.heap HB0.out (by intro hx; have := HD'.out _ hx; omega)
  have g1 := hF3.heap HB1.out (by intro hx; have := HD'.out _ hx; omega)
  have k0 : w3.cell? ⟨w.heap.size, 0, none⟩ = some (.bool false) := by rw [cell_of_heap g0]; rfl
  have k1 : w3.cell? ⟨w.heap.size + 1, 0, none⟩ = some (.int .i64 0) := by rw [cell_of_heap g1]; rfl
  have z0 : w3.frozen? ⟨w.heap.size, 0, none⟩ = false := frozen_of_heap g0
  have z1 : w3.frozen? ⟨w.heap.size + 1, 0, none⟩ = false := frozen_of_heap g1
  have hl1 := lt_of_heap g1
  have HA := Lib.hid (HR.out w3 (HFX.out.nil.trans hF3) hR3 hl1)
  clear g0 g1 hF3 hR3 c5
  go_wp2
  refine leaves_cons (f := 45) (args := #[.pointer (some ⟨w.heap.size, 0, none⟩), .pointer (some ⟨w.heap.size + 1, 0, none⟩)]) (by simp) (by simp [go_sem]) ?_
  refine (sd_idle _ _ _).mono ?_
  rintro e u' w'' ⟨rfl, rfl, rfl⟩
  simp [Leaves, settle, results, Tryz.results21, go_sem, k0, k1]
  exact HA.out
set_option maxRecDepth 1000000 in
set_option maxHeartbeats 4000000 in
theorem StepD_nilmem (h : DObj w D q0 q1 q2 q3 q4 now res) : Calls Tryz.prog 21 #[.pointer (some ⟨D, 0, none⟩), .nilIface] w (Ret (.tuple #[.bool false, .int .i64 1]) (fun w' => Frm [] w w')) := by
  obtain ⟨X, hX⟩ : ∃ X, X = (w.alloc (.cells #[.bool false] 4)).alloc (.cells #[.int .i64 0] 64) := ⟨_, rfl⟩
  have hFX : Frm [] w X := by rw [hX]; exact ((Frm.refl _ _).alloc _).alloc _
  have hb0 : X.heap[w.heap.size]? = some (.cells #[.bool false] 4 (0, 0)) := by rw [hX]; exact heap_alloc_old _ (heap_alloc_new _ _)
  have hb1 : X.heap[w.heap.size + 1]? = some (.cells #[.int .i64 0] 64 (0, 0)) := by rw [hX]; exact heap_alloc_at _ (by simp)
  have H := Lib.hid (none_d (h.frm0 hFX))
  have HFX := Lib.hid hFX
  have k0 : X.cell? ⟨w.heap.size, 0, none⟩ = some (.bool false) := by rw [cell_of_heap hb0]; rfl
  have k1 : X.cell? ⟨w.heap.size + 1, 0, none⟩ = some (.int .i64 0) := by rw [cell_of_heap hb1]; rfl
  have z0 : X.frozen? ⟨w.heap.size, 0, none⟩ = false := frozen_of_heap hb0
  have z1 : X.frozen? ⟨w.heap.size + 1, 0, none⟩ = false := frozen_of_heap hb1
  have hl1 := lt_of_heap hb1
  clear h hFX hb0 hb1
  go_enter_defers Tryz.func21, Tryz.ntmps21
  go_wp2_with fail
  rw [← hX]
  clear hX
  refine H.out.mono ?_
  rintro e w' ⟨rfl, rfl⟩
  go_wp2
  have HA : Hid (Frm [] w ((X.setCell ⟨w.heap.size, 0, none⟩ (.bool false)).setCell ⟨w.heap.size + 1, 0, none⟩ (.int .i64 1))) := Lib.hid (((HFX.out).setCell _ _ (.inr (Nat.le_refl _))).setCell _ _ (.inr (Nat.le_succ _)))
  simp only [bodyPostD, Leaves]
  exact ⟨.tuple #[.bool false, .int .i64 1], by simp [results, Tryz.results21, go_sem, k0, k1], rfl, HA.out⟩
/-- A nil or zero decision. -/
def NilD (w : World) (v : Value) : Prop := v = .pointer none ∨ ∃ q, v = .pointer (some ⟨q, 0, none⟩) ∧ w.heap[q]? = some (.cells #[.nilIface, .nilIface, .nilIface, .nilIface, .nilIface, .int .i64 0, .int .u64 0] 85 (0, 0))
theorem NilD.frm {w' : World} {v : Value} (h : NilD w v) (hf : Frm [] w w') : NilD w' v := by
  rcases h with h | ⟨q, h, h1⟩
  · exact .inl h
  · exact .inr ⟨q, h, hf.heap h1 (by simp)⟩
theorem none_nild {v : Value} (h : NilD w v) : Calls Tryz.prog 44 #[v] w (Ret (.bool true) (fun w' => w = w')) := by
  rcases h with rfl | ⟨q, rfl, h⟩
  · go_enter Tryz.func44, Tryz.ntmps44
    go_wp2
    go_ret
    exact ⟨rfl, rfl⟩
  · have h0 : w.cell? ⟨q, 0, none⟩ = some .nilIface := by rw [cell_of_heap h]; rfl
    have hql := lt_of_heap h
    clear h
    go_enter Tryz.func44, Tryz.ntmps44
    go_wp2
    go_ret
    exact ⟨rfl, rfl⟩
theorem Done_nild {v : Value} (h : NilD w v) : Calls Tryz.prog 20 #[v] w (Ret (.bool true) (fun w' => w = w')) := by
  have H := Lib.hid (none_nild h)
  clear h
  go_enter Tryz.func20, Tryz.ntmps20
  go_wp2_with fail
  refine H.out.mono ?_
  rintro e w1 ⟨rfl, rfl⟩
  go_wp2
  go_ret
  exact ⟨rfl, rfl⟩
theorem Result_nild {v : Value} (h : NilD w v) : Calls Tryz.prog 22 #[v] w (Ret (.int .u64 0) (fun w' => w = w')) := by
  have H := Lib.hid (none_nild h)
  clear h
  go_enter Tryz.func22, Tryz.ntmps22
  go_wp2_with fail
  refine H.out.mono ?_
  rintro e w1 ⟨rfl, rfl⟩
  go_wp2
  go_ret
  exact ⟨rfl, rfl⟩
theorem Copy_nild {v : Value} (h : NilD w v) : Calls Tryz.prog 27 #[v] w (Ret (.nilIface) (fun w' => w = w')) := by
  have H := Lib.hid (none_nild h)
  clear h
  go_enter Tryz.func27, Tryz.ntmps27
  go_wp2_with fail
  refine H.out.mono ?_
  rintro e w1 ⟨rfl, rfl⟩
  go_wp2
  go_ret
  exact ⟨rfl, rfl⟩
set_option maxRecDepth 1000000 in
set_option maxHeartbeats 4000000 in
theorem Step_nild {v : Value} (h : NilD w v) (mv : Value) : Calls Tryz.prog 21 #[v, mv] w (Ret (.tuple #[.bool false, .int .i64 1]) (fun w' => Frm [] w w')) := by
  obtain ⟨X, hX⟩ : ∃ X, X = (w.alloc (.cells #[.bool false] 4)).alloc (.cells #[.int .i64 0] 64) := ⟨_, rfl⟩
  have hFX : Frm [] w X := by rw [hX]; exact ((Frm.refl _ _).alloc _).alloc _
  have hb0 : X.heap[w.heap.size]? = some (.cells #[.bool false] 4 (0, 0)) := by rw [hX]; exact heap_alloc_old _ (heap_alloc_new _ _)
  have hb1 : X.heap[w.heap.size + 1]? = some (.cells #[.int .i64 0] 64 (0, 0)) := by rw [hX]; exact heap_alloc_at _ (by simp)
  have H := Lib.hid (none_nild (h.frm hFX))
  have HFX := Lib.hid hFX
  have k0 : X.cell? ⟨w.heap.size, 0, none⟩ = some (.bool false) := by rw [cell_of_heap hb0]; rfl
  have k1 : X.cell? ⟨w.heap.size + 1, 0, none⟩ = some (.int .i64 0) := by rw [cell_of_heap hb1]; rfl
  have z0 : X.frozen? ⟨w.heap.size, 0, none⟩ = false := frozen_of_heap hb0
  have z1 : X.frozen? ⟨w.heap.size + 1, 0, none⟩ = false := frozen_of_heap hb1
  have hl1 := lt_of_heap hb1
  clear h hFX hb0 hb1
  go_enter_defers Tryz.func21, Tryz.ntmps21
  go_wp2_with fail
  rw [← hX]
  clear hX
  refine H.out.mono ?_
  rintro e w' ⟨rfl, rfl⟩
  go_wp2
  have HA : Hid (Frm [] w ((X.setCell ⟨w.heap.size, 0, none⟩ (.bool false)).setCell ⟨w.heap.size + 1, 0, none⟩ (.int .i64 1))) := Lib.hid (((HFX.out).setCell _ _ (.inr (Nat.le_refl _))).setCell _ _ (.inr (Nat.le_succ _)))
  simp only [bodyPostD, Leaves]
  exact ⟨.tuple #[.bool false, .int .i64 1], by simp [results, Tryz.results21, go_sem, k0, k1], rfl, HA.out⟩
end
section
variable {w w' : World} {B T N D p d cc : Nat} {P : Nat → Part} {s s' : Ds} {ws ws' : List Int}
theorem Step_dec {wait : Bool} (hM : MemAt w p d cc ws) (h : DAt w B T N D P s) (hL : Laid w) (hb : Bnd ws) (hN : N ≤ 997) (h2 : 2 ≤ B) (hd : 2 ≤ d) (hB : B ≤ w.heap.size) (hn : s.now < 5) (hs : s.step T ws = some (s', ws', wait)) :
    Calls Tryz.prog 21 #[.pointer (some ⟨D, 0, none⟩), .iface 24 (.pointer (some ⟨p, 0, none⟩))] w (fun e w' => e = .returned (.tuple #[.bool wait, .int .i64 0]) ∧ ∃ P', DStep w B T N p d cc D P ws s' ws' P' w') := by
  have hDl := h.obj.lt
  have hdl := hM.dlt
  have hpl := hM.plt
  have hlt : ∀ z ∈ d :: D :: bls P, z < w.heap.size := by
    intro z hz
    rcases List.mem_cons.1 hz with rfl | hz
    · exact hdl
    rcases List.mem_cons.1 hz with rfl | hz
    · exact hDl
    obtain ⟨i, hi, hx⟩ := mem_bls.1 hz
    exact (h.at_ i hi).lt z hx
  refine StepD_frame (x := wait) (y := 0) (DD := d :: D :: bls P) (R := fun w3 => ∃ P', MemAt w3 p d cc ws' ∧ DAt w3 B T (N + 2) D P' s' ∧ (∀ i, i < 5 → ∀ x ∈ (P' i).bl, x ∈ (P i).bl ∨ w.heap.size + 2 ≤ x) ∧ Laid w3 ∧ Bnd ws' ∧ ws'.length = ws.length)
    (R' := fun w' => ∃ P', DStep w B T N p d cc D P ws s' ws' P' w') h.obj (by omega) hlt (fun X hF hX => ?_) (fun w3 hF3 hR3 hl3 => ?_)
  · refine (step_dec (hM.frm hF (by simp) (by simp)) (h.frm0 hF) (hL.frm0 hF) hb hN h2 hd (Nat.le_trans hB hF.size) hn hs).mono fun e w' hh => ?_
    obtain ⟨he, P', hS⟩ := hh
    exact ⟨he, hS.frm, P', hS.mem, hS.at_, fun i hi x hx => (hS.bl i hi x hx).imp id (fun h => Nat.le_trans hX h), hS.laid, hS.bnd, hS.len⟩
  · obtain ⟨P', hM3, hA3, hP, hL3, hb3, hlen⟩ := hR3
    have hF4 : Frm [w.heap.size, w.heap.size + 1] w3 ((w3.setCell ⟨w.heap.size, 0, none⟩ (.bool wait)).setCell ⟨w.heap.size + 1, 0, none⟩ (.int .i64 0)) := ((Frm.refl _ _).setCell _ _ (.inl (by simp))).setCell _ _ (.inl (by simp))
    have nin : ∀ z, z < w.heap.size → z ∉ [w.heap.size, w.heap.size + 1] := fun z hz h => by simp at h; omega
    have hnn : ∀ i, i < 5 → ∀ x ∈ (P' i).bl, x ∉ [w.heap.size, w.heap.size + 1] := fun i hi x hx => by
      rcases hP i hi x hx with h1 | h1
      · exact nin _ ((h.at_ i hi).lt x h1)
      · intro h'; simp at h'; omega
    exact ⟨P', hF3.trans_new hF4 (fun x hx => .inr (by simp at hx; omega)), hM3.frm hF4 (nin _ hpl) (nin _ hdl), hA3.frm hF4 (nin _ hDl) hnn, fun i hi x hx => (hP i hi x hx).imp id (fun h => by omega), hL3.frm hF4 (by intro x hx; simp at hx; omega), hb3, hlen⟩
end
end Go.Proofs.YticbbfcachnkiaaGreatDoor
