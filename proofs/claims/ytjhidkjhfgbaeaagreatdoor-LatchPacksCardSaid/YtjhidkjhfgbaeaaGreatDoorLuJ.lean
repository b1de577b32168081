/- Package latch: mayBe, begin, New.. (by gen_luj.py). -/
import Derived.Test.YtjhidkjhfgbaeaaGreatDoorLuI
namespace Go.Proofs.YtjhidkjhfgbaeaaGreatDoor
open Go.ChangeShapes Go.WideShapes Go.ChangeAt Go.RowKit
set_option linter.unusedVariables false
set_option linter.unusedSimpArgs false
/-- A new move. -/
def Mv.new (t : Nat) (k md : Int) : Mv := ⟨t, k, md, 1, 0, 0, ⟨0, 0, 0, 0, 0, 0, 0⟩, 0, [], false, false⟩
def Gs.new : Gs := ⟨1, 0, false, 1, 0, false⟩
theorem Mv.new_ok {T t : Nat} (ht : t < T) (k md : Int) (hk : k = 0 ∨ k = 1 ∨ k = 2) (hmd : k ≠ 1 → md = 1 ∨ md = 2 ∨ md = 3) : MOk T (Mv.new t k md) := by
  refine ⟨⟨by show (0 : Nat) < _; omega, ?_, ?_, ?_, ?_, ?_, ?_⟩, hmd, hk, ?_, ?_, by show (0 : Nat) < _; omega, ?_⟩
  all_goals simp [Mv.new]
  all_goals omega
section
variable {w : World} {np T : Nat}
theorem mayBe_0 (h : Nd w np 3 T) : Calls Tryz.prog 64 #[.pointer (some ⟨np, 0, none⟩), .int .i64 0] w (Ret (.bool true) (fun w' => w = w')) := by
  have H := Lib.hid (base_nd h)
  clear h
  go_enter Tryz.func64, Tryz.ntmps64
  go_wp2_with fail
  refine H.out.mono ?_
  rintro e w1 ⟨rfl, rfl⟩
  go_wp2
  go_ret
  exact ⟨rfl, rfl⟩
set_option maxRecDepth 1000000 in
set_option maxHeartbeats 4000000 in
theorem begin_ok (h : Nd w np 3 T) (t : Nat) (ht : t < T) (k md : Int) (hk : k = 0 ∨ k = 1 ∨ k = 2) (hmd : k ≠ 1 → md = 1 ∨ md = 2 ∨ md = 3) :
    Calls Tryz.prog 71 #[.pointer (some ⟨np, 0, none⟩), .agg #[.int .i64 0, .int .i64 0, .int .i64 0, .int .i64 (t : Int), .int .i64 k, .int .i64 md, .int .i64 0, .nilIface, .nilIface, .int .u64 0, .int .u64 0, .int .u64 0, .int .i64 0, .int .i64 0, .int .i64 0, .int .i64 0, .int .i64 0, .int .i64 0, .int .i64 0, .slice none 0 0, .bool false, .bool false]] w
      (fun e w' => ∃ q qe ql, Ret (.tuple #[.pointer (some ⟨q, 0, none⟩), .int .i64 0]) (fun w' => Frm [] w w' ∧ MvAt w' q T qe ql none 0 0 (Mv.new t k md) ∧ PgR w' qe false 3 T 0 (2 * t) 1 0 false ∧ PgR w' ql true 3 T 0 (2 * t) 1 0 false ∧ w.heap.size ≤ q ∧ w.heap.size ≤ qe ∧ w.heap.size ≤ ql) e w') := by
  have T64 := h.t64
  have t1 := h.t1
  have hlk : lockOk 3 T (0 : Nat) := ⟨by decide, by decide, .inl (by decide)⟩
  obtain ⟨k2, hk2⟩ : ∃ k2, k2 = 2 * t := ⟨_, rfl⟩
  have hk2T : k2 < 2 * T := by omega
  have HT : Hid (∀ w', Frm [] w w' → Calls Tryz.prog 63 #[.pointer (some ⟨np, 0, none⟩)] w' (Ret (.int .i64 T) (fun x => w' = x))) := Lib.hid fun w' hf => threads_nd (h.frm hf)
  have HO : Hid (∀ w', Frm [] w w' → Calls Tryz.prog 105 #[.pointer (some ⟨np, 0, none⟩), .int .i64 (t : Int), .int .i64 0] w' (Ret (.tuple #[.int .i64 (k2 : Int), .int .i64 0]) (fun x => w' = x))) := Lib.hid fun w' hf => by
    have := of_yes (h.frm hf) t 0 ht (by decide)
    rw [show ((t : Int) * 2 + ((0 : Nat) : Int)) = (k2 : Int) by omega] at this
    exact this
  have HB : Hid (∀ w', Frm [] w w' → Calls Tryz.prog 64 #[.pointer (some ⟨np, 0, none⟩), .int .i64 0] w' (Ret (.bool true) (fun x => w' = x))) := Lib.hid fun w' hf => mayBe_0 (h.frm hf)
  have HA : Hid (∀ w', Frm [] w w' → Calls Tryz.prog 106 #[.pointer (some ⟨np, 0, none⟩), .int .i64 0, .int .i64 (k2 : Int)] w' (fun e x => ∃ q', Ret (.tuple #[.pointer (some ⟨q', 0, none⟩), .int .i64 0]) (fun x => Frm [] w' x ∧ PgC x q' 218 3 T 0 k2 1 0 ∧ w'.heap.size ≤ q') e x)) := Lib.hid fun w' hf => aNew_yes (h.frm hf) (by omega) hlk hk2T
  have HR : Hid (∀ w', Frm [] w w' → Calls Tryz.prog 107 #[.pointer (some ⟨np, 0, none⟩), .int .i64 0, .int .i64 (k2 : Int)] w' (fun e x => ∃ q', Ret (.tuple #[.pointer (some ⟨q', 0, none⟩), .int .i64 0]) (fun x => Frm [] w' x ∧ PgC x q' 219 3 T 0 k2 1 0 ∧ w'.heap.size ≤ q') e x)) := Lib.hid fun w' hf => rNew_yes (h.frm hf) (by omega) hlk hk2T
  have HN := Lib.hid h
  have HK := Lib.hid hk2
  have eT : ((T : Int) == 0) = false := by simp; omega
  clear h hlk hk2 hk2T
  obtain ⟨X, hX⟩ : ∃ X, X = w.alloc (.cells #[.int .i64 0, .int .i64 0, .int .i64 0, .int .i64 (t : Int), .int .i64 k, .int .i64 md, .int .i64 0, .nilIface, .nilIface, .int .u64 0, .int .u64 0, .int .u64 0, .int .i64 0, .int .i64 0, .int .i64 0, .int .i64 0, .int .i64 0, .int .i64 0, .int .i64 0, .slice none 0 0, .bool false, .bool false] 91) := ⟨_, rfl⟩
  have hFX : Frm [] w X := by rw [hX]; exact (Frm.refl _ _).alloc _
  have hXb : X.heap[w.heap.size]? = some (.cells #[.int .i64 0, .int .i64 0, .int .i64 0, .int .i64 (t : Int), .int .i64 k, .int .i64 md, .int .i64 0, .nilIface, .nilIface, .int .u64 0, .int .u64 0, .int .u64 0, .int .i64 0, .int .i64 0, .int .i64 0, .int .i64 0, .int .i64 0, .int .i64 0, .int .i64 0, .slice none 0 0, .bool false, .bool false] 91 (0, 0)) := by rw [hX]; exact heap_alloc_new _ _
  have HFX := Lib.hid hFX
  have HXB := Lib.hid hXb
  have hcx : ∀ w', Frm [] X w' → w'.cell? ⟨w.heap.size, 2, none⟩ = some (.int .i64 0) ∧ w'.cell? ⟨w.heap.size, 3, none⟩ = some (.int .i64 (t : Int)) ∧ w'.cell? ⟨w.heap.size, 4, none⟩ = some (.int .i64 k) ∧ w'.cell? ⟨w.heap.size, 5, none⟩ = some (.int .i64 md) ∧ w.heap.size < w'.heap.size := fun w' hf => by
    have := hf.heap hXb (by simp)
    exact ⟨by rw [cell_of_heap this]; rfl, by rw [cell_of_heap this]; rfl, by rw [cell_of_heap this]; rfl, by rw [cell_of_heap this]; rfl, lt_of_heap this⟩
  have HCX := Lib.hid hcx
  obtain ⟨x2, x3, x4, x5, xl⟩ := hcx X (Frm.refl _ _)
  clear hFX hXb hcx
  have HV := Lib.hid (valid_any · md)
  have hkv : k = 1 ∨ (k ≠ 1 ∧ vm md = true) := by
    rcases hk with e | e | e
    · exact .inr ⟨by omega, vm_iff.2 (by have := hmd (by omega); omega)⟩
    · exact .inl e
    · exact .inr ⟨by omega, vm_iff.2 (by have := hmd (by omega); omega)⟩
  clear hk hmd
  have fin : ∀ {e : Ending} {w' : World} {q1 q2 : Nat}, True := fun {_ _ _ _} => trivial
  rcases hkv with hk1 | ⟨hk1, hvm⟩
  · have ek : (k != 1) = false := by simpa using hk1
    clear hk1 
    go_enter Tryz.func71, Tryz.ntmps71
    go_wp2_with fail
    rw [← hX]
    clear hX
    refine (HT.out _ HFX.out).mono ?_
    rintro e w1 ⟨rfl, rfl⟩
    go_wp2_with fail
    refine (HO.out _ HFX.out).mono ?_
    rintro e w1 ⟨rfl, rfl⟩
    go_wp2_with fail
    refine (HB.out _ HFX.out).mono ?_
    rintro e w1 ⟨rfl, rfl⟩
    go_wp2_with fail
    refine (HA.out _ HFX.out).mono ?_
    rintro e w1 ⟨qe, rfl, hF1, hP1, hl1⟩
    have HF1 := Lib.hid hF1
    have HP1 := Lib.hid hP1
    clear x2 x3 x4 x5 xl
    obtain ⟨x2, x3, x4, x5, xl⟩ := HCX.out _ hF1
    clear hF1 hP1
    go_wp2_with fail
    refine (HR.out _ (HFX.out.trans HF1.out)).mono ?_
    rintro e w2 ⟨ql, rfl, hF2, hP2, hl2⟩
    have HF2 := Lib.hid (HF1.out.trans hF2)
    have HP2 := Lib.hid hP2
    have HP1 := Lib.hid (HP1.out.frm hF2 (by simp))
    have hB2 := HF2.out.heap HXB.out (by simp)
    have HB2 := Lib.hid hB2
    clear x2 x3 x4 x5 xl
    have hnp := (HN.out.frm (HFX.out.trans HF2.out)).at_
    obtain ⟨np0, np1⟩ := hnp
    have hnpl := (HN.out.frm (HFX.out.trans HF2.out)).lt
    have xl := lt_of_heap hB2
    have z0 : w2.frozen? ⟨w.heap.size, 0, none⟩ = false := frozen_of_heap hB2
    have z1 : w2.frozen? ⟨w.heap.size, 1, none⟩ = false := frozen_of_heap hB2
    have z6 : w2.frozen? ⟨w.heap.size, 6, none⟩ = false := frozen_of_heap hB2
    have z7 : w2.frozen? ⟨w.heap.size, 7, none⟩ = false := frozen_of_heap hB2
    have z8 : w2.frozen? ⟨w.heap.size, 8, none⟩ = false := frozen_of_heap hB2
    have y0 : w2.cell? ⟨w.heap.size, 0, none⟩ = some (.int .i64 0) := by rw [cell_of_heap hB2]; rfl
    have y1 : w2.cell? ⟨w.heap.size, 1, none⟩ = some (.int .i64 0) := by rw [cell_of_heap hB2]; rfl
    have y6 : w2.cell? ⟨w.heap.size, 6, none⟩ = some (.int .i64 0) := by rw [cell_of_heap hB2]; rfl
    have y7 : w2.cell? ⟨w.heap.size, 7, none⟩ = some .nilIface := by rw [cell_of_heap hB2]; rfl
    have y8 : w2.cell? ⟨w.heap.size, 8, none⟩ = some .nilIface := by rw [cell_of_heap hB2]; rfl
    clear hF2 hP2 hB2
    go_wp2
    go_ret2
    have hF3 : Frm [w.heap.size] w2 (((((w2.setCell ⟨w.heap.size, 0, none⟩ (.int .i64 3)).setCell ⟨w.heap.size, 1, none⟩ (.int .i64 (T : Int))).setCell ⟨w.heap.size, 7, none⟩ (.iface (Ip false) (.pointer (some ⟨qe, 0, none⟩)))).setCell ⟨w.heap.size, 8, none⟩ (.iface (Ip true) (.pointer (some ⟨ql, 0, none⟩)))).setCell ⟨w.heap.size, 6, none⟩ (.int .i64 1)) := (((((Frm.refl _ _).setCell _ _ (.inl (by simp))).setCell _ _ (.inl (by simp))).setCell _ _ (.inl (by simp))).setCell _ _ (.inl (by simp))).setCell _ _ (.inl (by simp))
    have hq1 := HFX.out.size
    have hq2 := HF1.out.size
    have hXs : w.heap.size < _ := lt_of_heap HXB.out
    refine ⟨w.heap.size, qe, ql, rfl, (HFX.out.trans HF2.out).trans_new hF3 (by intro x hx; simp at hx; omega), ⟨?_, t1, T64, ht⟩, ?_, ?_, Nat.le_refl _, by omega, by omega⟩
    · have := heap_setCell_at (i := 6) (.int .i64 1) (heap_setCell_at (i := 8) (.iface (Ip true) (.pointer (some ⟨ql, 0, none⟩))) (heap_setCell_at (i := 7) (.iface (Ip false) (.pointer (some ⟨qe, 0, none⟩))) (heap_setCell_at (i := 1) (.int .i64 (T : Int)) (heap_setCell_at (i := 0) (.int .i64 3) HB2.out))))
      refine Eq.trans this ?_; simp only [Mv.new, List.setIfInBounds_toArray, List.set_cons_succ, List.set_cons_zero]; rfl
    · rw [← HK.out]; exact ⟨0, HP1.out.frm hF3 (by simp; omega), fun _ => ⟨⟨by decide, by decide, by decide, by decide⟩, by decide⟩⟩
    · rw [← HK.out]; exact ⟨0, HP2.out.frm hF3 (by simp; omega), fun _ => ⟨⟨by decide, by decide, by decide, by decide⟩, by decide⟩⟩
  · have ek : (k != 1) = true := by simpa using hk1
    have HV1 := Lib.hid hvm
    clear hk1 hvm
    go_enter Tryz.func71, Tryz.ntmps71
    go_wp2_with fail
    rw [← hX]
    clear hX
    refine (HT.out _ HFX.out).mono ?_
    rintro e w1 ⟨rfl, rfl⟩
    go_wp2_with fail
    refine (HO.out _ HFX.out).mono ?_
    rintro e w1 ⟨rfl, rfl⟩
    go_wp2_with fail
    refine (HB.out _ HFX.out).mono ?_
    rintro e w1 ⟨rfl, rfl⟩
    go_wp2_with fail
    refine (HV.out _).mono ?_
    rw [HV1.out]
    rintro e w1 ⟨rfl, rfl⟩
    go_wp2_with fail
    refine (HA.out _ HFX.out).mono ?_
    rintro e w1 ⟨qe, rfl, hF1, hP1, hl1⟩
    have HF1 := Lib.hid hF1
    have HP1 := Lib.hid hP1
    clear x2 x3 x4 x5 xl
    obtain ⟨x2, x3, x4, x5, xl⟩ := HCX.out _ hF1
    clear hF1 hP1
    go_wp2_with fail
    refine (HR.out _ (HFX.out.trans HF1.out)).mono ?_
    rintro e w2 ⟨ql, rfl, hF2, hP2, hl2⟩
    have HF2 := Lib.hid (HF1.out.trans hF2)
    have HP2 := Lib.hid hP2
    have HP1 := Lib.hid (HP1.out.frm hF2 (by simp))
    have hB2 := HF2.out.heap HXB.out (by simp)
    have HB2 := Lib.hid hB2
    clear x2 x3 x4 x5 xl
    have hnp := (HN.out.frm (HFX.out.trans HF2.out)).at_
    obtain ⟨np0, np1⟩ := hnp
    have hnpl := (HN.out.frm (HFX.out.trans HF2.out)).lt
    have xl := lt_of_heap hB2
    have z0 : w2.frozen? ⟨w.heap.size, 0, none⟩ = false := frozen_of_heap hB2
    have z1 : w2.frozen? ⟨w.heap.size, 1, none⟩ = false := frozen_of_heap hB2
    have z6 : w2.frozen? ⟨w.heap.size, 6, none⟩ = false := frozen_of_heap hB2
    have z7 : w2.frozen? ⟨w.heap.size, 7, none⟩ = false := frozen_of_heap hB2
    have z8 : w2.frozen? ⟨w.heap.size, 8, none⟩ = false := frozen_of_heap hB2
    have y0 : w2.cell? ⟨w.heap.size, 0, none⟩ = some (.int .i64 0) := by rw [cell_of_heap hB2]; rfl
    have y1 : w2.cell? ⟨w.heap.size, 1, none⟩ = some (.int .i64 0) := by rw [cell_of_heap hB2]; rfl
    have y6 : w2.cell? ⟨w.heap.size, 6, none⟩ = some (.int .i64 0) := by rw [cell_of_heap hB2]; rfl
    have y7 : w2.cell? ⟨w.heap.size, 7, none⟩ = some .nilIface := by rw [cell_of_heap hB2]; rfl
    have y8 : w2.cell? ⟨w.heap.size, 8, none⟩ = some .nilIface := by rw [cell_of_heap hB2]; rfl
    clear hF2 hP2 hB2
    go_wp2
    go_ret2
    have hF3 : Frm [w.heap.size] w2 (((((w2.setCell ⟨w.heap.size, 0, none⟩ (.int .i64 3)).setCell ⟨w.heap.size, 1, none⟩ (.int .i64 (T : Int))).setCell ⟨w.heap.size, 7, none⟩ (.iface (Ip false) (.pointer (some ⟨qe, 0, none⟩)))).setCell ⟨w.heap.size, 8, none⟩ (.iface (Ip true) (.pointer (some ⟨ql, 0, none⟩)))).setCell ⟨w.heap.size, 6, none⟩ (.int .i64 1)) := (((((Frm.refl _ _).setCell _ _ (.inl (by simp))).setCell _ _ (.inl (by simp))).setCell _ _ (.inl (by simp))).setCell _ _ (.inl (by simp))).setCell _ _ (.inl (by simp))
    have hq1 := HFX.out.size
    have hq2 := HF1.out.size
    have hXs : w.heap.size < _ := lt_of_heap HXB.out
    refine ⟨w.heap.size, qe, ql, rfl, (HFX.out.trans HF2.out).trans_new hF3 (by intro x hx; simp at hx; omega), ⟨?_, t1, T64, ht⟩, ?_, ?_, Nat.le_refl _, by omega, by omega⟩
    · have := heap_setCell_at (i := 6) (.int .i64 1) (heap_setCell_at (i := 8) (.iface (Ip true) (.pointer (some ⟨ql, 0, none⟩))) (heap_setCell_at (i := 7) (.iface (Ip false) (.pointer (some ⟨qe, 0, none⟩))) (heap_setCell_at (i := 1) (.int .i64 (T : Int)) (heap_setCell_at (i := 0) (.int .i64 3) HB2.out))))
      refine Eq.trans this ?_; simp only [Mv.new, List.setIfInBounds_toArray, List.set_cons_succ, List.set_cons_zero]; rfl
    · rw [← HK.out]; exact ⟨0, HP1.out.frm hF3 (by simp; omega), fun _ => ⟨⟨by decide, by decide, by decide, by decide⟩, by decide⟩⟩
    · rw [← HK.out]; exact ⟨0, HP2.out.frm hF3 (by simp; omega), fun _ => ⟨⟨by decide, by decide, by decide, by decide⟩, by decide⟩⟩
set_option maxRecDepth 1000000 in
set_option maxHeartbeats 4000000 in
theorem newGet {w : World} {np T : Nat} (h : Nd w np 3 T) (t : Nat) (ht : t < T) (md : Int) (hmd : md = 1 ∨ md = 2 ∨ md = 3) :
    Calls Tryz.prog 35 #[.pointer (some ⟨np, 0, none⟩), .int .i64 0, .int .i64 (t : Int), .int .i64 md] w
      (fun e w' => ∃ q qe ql, Ret (.tuple #[.pointer (some ⟨q, 0, none⟩), .int .i64 0]) (fun w' => Frm [] w w' ∧ MvAt w' q T qe ql none 0 0 (Mv.new t 0 md) ∧ PgR w' qe false 3 T 0 (2 * t) 1 0 false ∧ PgR w' ql true 3 T 0 (2 * t) 1 0 false ∧ w.heap.size ≤ q ∧ w.heap.size ≤ qe ∧ w.heap.size ≤ ql) e w') := by
  have H := Lib.hid (begin_ok h t ht 0 md (by decide) (fun _ => hmd))
  clear h
  go_enter Tryz.func35, Tryz.ntmps35
  go_wp2_with fail
  refine H.out.mono ?_
  rintro e w1 ⟨q, qe, ql, rfl, hR⟩
  have HR := Lib.hid hR
  clear hR
  go_wp2
  go_ret2
  exact ⟨q, qe, ql, rfl, HR.out⟩
set_option maxRecDepth 1000000 in
set_option maxHeartbeats 4000000 in
theorem newBack {w : World} {np T : Nat} (h : Nd w np 3 T) (t : Nat) (ht : t < T) :
    Calls Tryz.prog 38 #[.pointer (some ⟨np, 0, none⟩), .int .i64 0, .int .i64 (t : Int)] w
      (fun e w' => ∃ q qe ql, Ret (.tuple #[.pointer (some ⟨q, 0, none⟩), .int .i64 0]) (fun w' => Frm [] w w' ∧ MvAt w' q T qe ql none 0 0 (Mv.new t 1 0) ∧ PgR w' qe false 3 T 0 (2 * t) 1 0 false ∧ PgR w' ql true 3 T 0 (2 * t) 1 0 false ∧ w.heap.size ≤ q ∧ w.heap.size ≤ qe ∧ w.heap.size ≤ ql) e w') := by
  have H := Lib.hid (begin_ok h t ht 1 0 (by decide) (fun h => absurd rfl h))
  clear h
  go_enter Tryz.func38, Tryz.ntmps38
  go_wp2_with fail
  refine H.out.mono ?_
  rintro e w1 ⟨q, qe, ql, rfl, hR⟩
  have HR := Lib.hid hR
  clear hR
  go_wp2
  go_ret2
  exact ⟨q, qe, ql, rfl, HR.out⟩
set_option maxRecDepth 1000000 in
set_option maxHeartbeats 4000000 in
theorem newGo {w : World} {np T : Nat} (h : Nd w np 3 T) (t : Nat) (ht : t < T) (md : Int) (hmd : md = 1 ∨ md = 2 ∨ md = 3) :
    Calls Tryz.prog 50 #[.pointer (some ⟨np, 0, none⟩), .int .i64 0, .int .i64 (t : Int), .int .i64 md] w
      (fun e w' => ∃ q qe ql, Ret (.tuple #[.pointer (some ⟨q, 0, none⟩), .int .i64 0]) (fun w' => Frm [] w w' ∧ MvAt w' q T qe ql none 0 0 (Mv.new t 2 md) ∧ PgR w' qe false 3 T 0 (2 * t) 1 0 false ∧ PgR w' ql true 3 T 0 (2 * t) 1 0 false ∧ w.heap.size ≤ q ∧ w.heap.size ≤ qe ∧ w.heap.size ≤ ql) e w') := by
  have H := Lib.hid (begin_ok h t ht 2 md (by decide) (fun _ => hmd))
  clear h
  go_enter Tryz.func50, Tryz.ntmps50
  go_wp2_with fail
  refine H.out.mono ?_
  rintro e w1 ⟨q, qe, ql, rfl, hR⟩
  have HR := Lib.hid hR
  clear hR
  go_wp2
  go_ret2
  exact ⟨q, qe, ql, rfl, HR.out⟩
end
end Go.Proofs.YtjhidkjhfgbaeaaGreatDoor
