/- Package latch: Done, Result; nil and zero moves, nil arenas, nil Nodes (by gen_luk.py). -/
import Derived.Test.YticbbfcachnkiaaGreatDoorUuJ
namespace Go.Proofs.YticbbfcachnkiaaGreatDoor
open Go.ChangeShapes Go.WideShapes Go.ChangeAt Go.RowKit
set_option linter.unusedVariables false
set_option linter.unusedSimpArgs false
section
variable {w : World} {q T qe ql : Nat} {a : Option Addr} {n c : Nat} {m : Mv}
theorem Done_mv (h : MvAt w q T qe ql a n c m) : Calls Tryz.prog 148 #[.pointer (some ⟨q, 0, none⟩)] w (Ret (.bool (m.nx == 0)) (fun w' => w = w')) := by
  have H := Lib.hid (none_mv h)
  have c6 := h.cells.2.2.2.2.2.2.1
  have hbl := h.lt
  clear h
  go_enter Tryz.func148, Tryz.ntmps148
  go_wp2_with fail
  refine H.out.mono ?_
  rintro e w1 ⟨rfl, rfl⟩
  go_wp2
  go_ret
  exact ⟨rfl, rfl⟩
def Mv.res (m : Mv) : Int := if m.nx = 0 ∧ m.rf = false then 1 else 0
theorem Result_mv (h : MvAt w q T qe ql a n c m) : Calls Tryz.prog 149 #[.pointer (some ⟨q, 0, none⟩)] w (Ret (.int .u64 m.res) (fun w' => w = w')) := by
  have H := Lib.hid (none_mv h)
  have c6 := h.cells.2.2.2.2.2.2.1
  have c20 := h.cells.2.2.2.2.2.2.2.2.2.2.2.2.2.2.2.2.2.2.2.2.1
  have hbl := h.lt
  clear h
  by_cases h0 : m.nx = 0
  · have e0 : (m.nx != 0) = false := by simp [h0]
    cases hr : m.rf with
    | true =>
      have hE : m.res = 0 := by simp [Mv.res, hr]
      rw [hE]
      rw [hr] at c20
      clear hE h0 hr
      go_enter Tryz.func149, Tryz.ntmps149
      go_wp2_with fail
      refine H.out.mono ?_
      rintro e w1 ⟨rfl, rfl⟩
      go_wp2
      go_ret
      exact ⟨rfl, rfl⟩
    | false =>
      have hE : m.res = 1 := by simp [Mv.res, hr, h0]
      rw [hE]
      rw [hr] at c20
      clear hE h0 hr
      go_enter Tryz.func149, Tryz.ntmps149
      go_wp2_with fail
      refine H.out.mono ?_
      rintro e w1 ⟨rfl, rfl⟩
      go_wp2
      go_ret
      exact ⟨rfl, rfl⟩
  · have e0 : (m.nx != 0) = true := by simp [h0]
    have hE : m.res = 0 := by simp [Mv.res, h0]
    rw [hE]
    clear hE h0
    go_enter Tryz.func149, Tryz.ntmps149
    go_wp2_with fail
    refine H.out.mono ?_
    rintro e w1 ⟨rfl, rfl⟩
    go_wp2
    go_ret
    exact ⟨rfl, rfl⟩
/-- A nil or zero move. -/
def NilM (w : World) (v : Value) : Prop := v = .pointer none ∨ ∃ q, v = .pointer (some ⟨q, 0, none⟩) ∧ w.heap[q]? = some (.cells #[.int .i64 0, .int .i64 0, .int .i64 0, .int .i64 0, .int .i64 0, .int .i64 0, .int .i64 0, .nilIface, .nilIface, .int .u64 0, .int .u64 0, .int .u64 0, .int .i64 0, .int .i64 0, .int .i64 0, .int .i64 0, .int .i64 0, .int .i64 0, .int .i64 0, .slice none 0 0, .bool false, .bool false] 132 (0, 0))
theorem NilM.frm {w' : World} {v : Value} (h : NilM w v) (hf : Frm [] w w') : NilM w' v := by
  rcases h with h | ⟨q, h, h1⟩
  · exact .inl h
  · exact .inr ⟨q, h, hf.heap h1 (by simp)⟩
theorem zthr {q : Nat} (h0 : w.cell? ⟨q, 0, none⟩ = some (.int .i64 0)) (h1 : w.cell? ⟨q, 1, none⟩ = some (.int .i64 0)) : Calls Tryz.prog 62 #[.pointer (some ⟨q, 0, none⟩)] w (Ret (.int .i64 0) (fun w' => w = w')) := by
  have hql := World.block_lt_of_cell? w _ h0
  have H : Hid (Calls Tryz.prog 88 #[.pointer (some ⟨q, 0, none⟩)] w (Ret (.bool true) (fun w' => w = w'))) := by
    refine Lib.hid ?_
    go_enter Tryz.func88, Tryz.ntmps88
    go_wp2
    go_ret
    exact ⟨rfl, rfl⟩
  go_enter Tryz.func62, Tryz.ntmps62
  go_wp2_with fail
  refine H.out.mono ?_
  rintro e w1 ⟨rfl, rfl⟩
  go_wp2
  go_ret
  exact ⟨rfl, rfl⟩
theorem none_nilm {v : Value} (h : NilM w v) : Calls Tryz.prog 152 #[v] w (Ret (.bool true) (fun w' => w = w')) := by
  rcases h with rfl | ⟨q, rfl, h⟩
  · go_enter Tryz.func152, Tryz.ntmps152
    go_wp2
    go_ret
    exact ⟨rfl, rfl⟩
  · have h0 : w.cell? ⟨q, 0, none⟩ = some (.int .i64 0) := by rw [cell_of_heap h]; rfl
    have h1 : w.cell? ⟨q, 1, none⟩ = some (.int .i64 0) := by rw [cell_of_heap h]; rfl
    have H := Lib.hid (zthr h0 h1)
    have hql := lt_of_heap h
    clear h
    go_enter Tryz.func152, Tryz.ntmps152
    go_wp2_with fail
    refine H.out.mono ?_
    rintro e w1 ⟨rfl, rfl⟩
    go_wp2
    go_ret
    exact ⟨rfl, rfl⟩
theorem Done_nilm {v : Value} (h : NilM w v) : Calls Tryz.prog 148 #[v] w (Ret (.bool true) (fun w' => w = w')) := by
  have H := Lib.hid (none_nilm h)
  clear h
  go_enter Tryz.func148, Tryz.ntmps148
  go_wp2_with fail
  refine H.out.mono ?_
  rintro e w1 ⟨rfl, rfl⟩
  go_wp2
  go_ret
  exact ⟨rfl, rfl⟩
theorem Result_nilm {v : Value} (h : NilM w v) : Calls Tryz.prog 149 #[v] w (Ret (.int .u64 0) (fun w' => w = w')) := by
  have H := Lib.hid (none_nilm h)
  clear h
  go_enter Tryz.func149, Tryz.ntmps149
  go_wp2_with fail
  refine H.out.mono ?_
  rintro e w1 ⟨rfl, rfl⟩
  go_wp2
  go_ret
  exact ⟨rfl, rfl⟩
theorem Copy_nilm {v : Value} (h : NilM w v) : Calls Tryz.prog 147 #[v] w (Ret (.nilIface) (fun w' => w = w')) := by
  have H := Lib.hid (none_nilm h)
  clear h
  go_enter Tryz.func147, Tryz.ntmps147
  go_wp2_with fail
  refine H.out.mono ?_
  rintro e w1 ⟨rfl, rfl⟩
  go_wp2
  go_ret
  exact ⟨rfl, rfl⟩
set_option maxRecDepth 1000000 in
set_option maxHeartbeats 4000000 in
theorem Step_nilm {v : Value} (h : NilM w v) (mv : Value) : Calls Tryz.prog 150 #[v, mv] w (Ret (.tuple #[.bool false, .int .i64 1]) (fun w' => Frm [] w w')) := by
  obtain ⟨X, hX⟩ : ∃ X, X = (w.alloc (.cells #[.bool false] 4)).alloc (.cells #[.int .i64 0] 64) := ⟨_, rfl⟩
  have hFX : Frm [] w X := by rw [hX]; exact ((Frm.refl _ _).alloc _).alloc _
  have hb0 : X.heap[w.heap.size]? = some (.cells #[.bool false] 4 (0, 0)) := by rw [hX]; exact heap_alloc_old _ (heap_alloc_new _ _)
  have hb1 : X.heap[w.heap.size + 1]? = some (.cells #[.int .i64 0] 64 (0, 0)) := by rw [hX]; exact heap_alloc_at _ (by simp)
  have H := Lib.hid (none_nilm (h.frm hFX))
  have HFX := Lib.hid hFX
  have k0 : X.cell? ⟨w.heap.size, 0, none⟩ = some (.bool false) := by rw [cell_of_heap hb0]; rfl
  have k1 : X.cell? ⟨w.heap.size + 1, 0, none⟩ = some (.int .i64 0) := by rw [cell_of_heap hb1]; rfl
  have z0 : X.frozen? ⟨w.heap.size, 0, none⟩ = false := frozen_of_heap hb0
  have z1 : X.frozen? ⟨w.heap.size + 1, 0, none⟩ = false := frozen_of_heap hb1
  have hl1 := lt_of_heap hb1
  clear h hFX hb0 hb1
  go_enter_defers Tryz.func150, Tryz.ntmps150
  go_wp2_with fail
  rw [← hX]
  clear hX
  refine H.out.mono ?_
  rintro e w' ⟨rfl, rfl⟩
  go_wp2
  have HA : Hid (Frm [] w ((X.setCell ⟨w.heap.size, 0, none⟩ (.bool false)).setCell ⟨w.heap.size + 1, 0, none⟩ (.int .i64 1))) := Lib.hid (((HFX.out).setCell _ _ (.inr (Nat.le_refl _))).setCell _ _ (.inr (Nat.le_succ _)))
  simp only [bodyPostD, Leaves]
  exact ⟨.tuple #[.bool false, .int .i64 1], by simp [results, Tryz.results150, go_sem, k0, k1], rfl, HA.out⟩
set_option maxRecDepth 1000000 in
set_option maxHeartbeats 4000000 in
theorem Step_nilmem (h : MvAt w q T qe ql a n c m) : Calls Tryz.prog 150 #[.pointer (some ⟨q, 0, none⟩), .nilIface] w (Ret (.tuple #[.bool false, .int .i64 1]) (fun w' => Frm [] w w')) := by
  obtain ⟨X, hX⟩ : ∃ X, X = (w.alloc (.cells #[.bool false] 4)).alloc (.cells #[.int .i64 0] 64) := ⟨_, rfl⟩
  have hFX : Frm [] w X := by rw [hX]; exact ((Frm.refl _ _).alloc _).alloc _
  have hb0 : X.heap[w.heap.size]? = some (.cells #[.bool false] 4 (0, 0)) := by rw [hX]; exact heap_alloc_old _ (heap_alloc_new _ _)
  have hb1 : X.heap[w.heap.size + 1]? = some (.cells #[.int .i64 0] 64 (0, 0)) := by rw [hX]; exact heap_alloc_at _ (by simp)
  have H := Lib.hid (none_mv (h.frm hFX (by simp)))
  have HFX := Lib.hid hFX
  have k0 : X.cell? ⟨w.heap.size, 0, none⟩ = some (.bool false) := by rw [cell_of_heap hb0]; rfl
  have k1 : X.cell? ⟨w.heap.size + 1, 0, none⟩ = some (.int .i64 0) := by rw [cell_of_heap hb1]; rfl
  have z0 : X.frozen? ⟨w.heap.size, 0, none⟩ = false := frozen_of_heap hb0
  have z1 : X.frozen? ⟨w.heap.size + 1, 0, none⟩ = false := frozen_of_heap hb1
  have hl1 := lt_of_heap hb1
  clear h hFX hb0 hb1
  go_enter_defers Tryz.func150, Tryz.ntmps150
  go_wp2_with fail
  rw [← hX]
  clear hX
  refine H.out.mono ?_
  rintro e w' ⟨rfl, rfl⟩
  go_wp2
  have HA : Hid (Frm [] w ((X.setCell ⟨w.heap.size, 0, none⟩ (.bool false)).setCell ⟨w.heap.size + 1, 0, none⟩ (.int .i64 1))) := Lib.hid (((HFX.out).setCell _ _ (.inr (Nat.le_refl _))).setCell _ _ (.inr (Nat.le_succ _)))
  simp only [bodyPostD, Leaves]
  exact ⟨.tuple #[.bool false, .int .i64 1], by simp [results, Tryz.results150, go_sem, k0, k1], rfl, HA.out⟩
end
section
variable {w : World}
set_option maxRecDepth 1000000 in
set_option maxHeartbeats 4000000 in
theorem begin_nil {v : Value} (h : Zv w v) (at_ t k md : Int) : Calls Tryz.prog 51 #[v, .agg #[.int .i64 0, .int .i64 0, .int .i64 at_, .int .i64 t, .int .i64 k, .int .i64 md, .int .i64 0, .nilIface, .nilIface, .int .u64 0, .int .u64 0, .int .u64 0, .int .i64 0, .int .i64 0, .int .i64 0, .int .i64 0, .int .i64 0, .int .i64 0, .int .i64 0, .slice none 0 0, .bool false, .bool false]] w (Ret (.tuple #[.pointer none, .int .i64 1]) (fun w' => Frm [] w w')) := by
  have H : Hid (∀ w', Frm [] w w' → Calls Tryz.prog 62 #[v] w' (Ret (.int .i64 0) (fun x => w' = x))) := Lib.hid fun w' hf => threads_z (h.frm hf)
  clear h
  go_enter Tryz.func51, Tryz.ntmps51
  go_wp2_with fail
  refine (H.out _ ((Frm.refl _ _).alloc _)).mono ?_
  rintro e w1 ⟨rfl, rfl⟩
  go_wp2
  go_ret2
  exact ⟨rfl, (Frm.refl _ _).alloc _⟩
set_option maxRecDepth 1000000 in
set_option maxHeartbeats 4000000 in
theorem newGet_nil {v : Value} (h : Zv w v) (at_ t md : Int) : Calls Tryz.prog 31 #[v, .int .i64 at_, .int .i64 t, .int .i64 md] w (Ret (.tuple #[.pointer none, .int .i64 1]) (fun w' => Frm [] w w')) := by
  have H := Lib.hid (begin_nil h at_ t 0 md)
  clear h
  go_enter Tryz.func31, Tryz.ntmps31
  go_wp2_with fail
  refine H.out.mono ?_
  rintro e w1 ⟨rfl, hF⟩
  have HF := Lib.hid hF
  clear hF
  go_wp2
  go_ret2
  exact ⟨rfl, HF.out⟩
set_option maxRecDepth 1000000 in
set_option maxHeartbeats 4000000 in
theorem newBack_nil {v : Value} (h : Zv w v) (at_ t md : Int) : Calls Tryz.prog 32 #[v, .int .i64 at_, .int .i64 t] w (Ret (.tuple #[.pointer none, .int .i64 1]) (fun w' => Frm [] w w')) := by
  have H := Lib.hid (begin_nil h at_ t 1 0)
  clear h
  go_enter Tryz.func32, Tryz.ntmps32
  go_wp2_with fail
  refine H.out.mono ?_
  rintro e w1 ⟨rfl, hF⟩
  have HF := Lib.hid hF
  clear hF
  go_wp2
  go_ret2
  exact ⟨rfl, HF.out⟩
set_option maxRecDepth 1000000 in
set_option maxHeartbeats 4000000 in
theorem newGo_nil {v : Value} (h : Zv w v) (at_ t md : Int) : Calls Tryz.prog 33 #[v, .int .i64 at_, .int .i64 t, .int .i64 md] w (Ret (.tuple #[.pointer none, .int .i64 1]) (fun w' => Frm [] w w')) := by
  have H := Lib.hid (begin_nil h at_ t 2 md)
  clear h
  go_enter Tryz.func33, Tryz.ntmps33
  go_wp2_with fail
  refine H.out.mono ?_
  rintro e w1 ⟨rfl, hF⟩
  have HF := Lib.hid hF
  clear hF
  go_wp2
  go_ret2
  exact ⟨rfl, HF.out⟩
end
end Go.Proofs.YticbbfcachnkiaaGreatDoor
