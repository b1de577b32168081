/- Package latch: mayBe, begin, New.. (by gen_luj.py). -/
import Derived.Test.YticbbfcachnkiaaGreatDoorUuI
namespace Go.Proofs.YticbbfcachnkiaaGreatDoor
open Go.ChangeShapes Go.WideShapes Go.ChangeAt Go.RowKit
set_option linter.unusedVariables false
set_option linter.unusedSimpArgs false
/-- A new move. -/
def Mv.new (nb wd t : Nat) (k md : Int) : Mv := ⟨nb, wd, t, k, md, 1, 0, 0, ⟨0, 0, 0, 0, 0, 0, 0⟩, 0, [], false, false⟩
def Gs.new : Gs := ⟨1, 0, false, 1, 0, false⟩
theorem Mv.new_ok {nb wd T t : Nat} (ht : t < T) (k md : Int) (hk : k = 0 ∨ k = 1 ∨ k = 2) (hmd : k ≠ 1 → md = 1 ∨ md = 2 ∨ md = 3) : MOk T (Mv.new nb wd t k md) := by
  refine ⟨⟨by show (0 : Nat) < _; omega, ?_, ?_, ?_, ?_, ?_, ?_⟩, hmd, hk, ?_, ?_, by show (0 : Nat) < _; omega, ?_⟩
  all_goals simp [Mv.new]
  all_goals omega
section
variable {w : World} {nb wd np T : Nat}
theorem mayBe_0 (h : Nd w np nb T) (fit : nb + 6 * T ≤ 65536) (wdf : wd + 3 ≤ 65536) (wdo : wd + 3 ≤ nb ∨ nb + 6 * T ≤ wd) : Calls Tryz.prog 63 #[.pointer (some ⟨np, 0, none⟩), .int .i64 (wd : Int)] w (Ret (.bool true) (fun w' => w = w')) := by
  have H := Lib.hid (base_nd h)
  have H2 := Lib.hid (len_nd h)
  have T64 := h.t64
  have e0 : decide ((0 : Int) ≤ (wd : Int)) = true := by simp
  have e1 : decide ((wd : Int) ≤ 65533) = true := by simp; omega
  clear h
  by_cases h1 : wd + 3 ≤ nb
  · have e2 : decide ((wd : Int) + 3 ≤ (nb : Int)) = true := by simp; omega
    go_enter Tryz.func63, Tryz.ntmps63
    go_wp2_with fail
    refine H.out.mono ?_
    rintro e w1 ⟨rfl, rfl⟩
    go_wp2
    go_ret
    exact ⟨rfl, rfl⟩
  · have e2 : decide ((wd : Int) + 3 ≤ (nb : Int)) = false := by simp; omega
    have e3 : decide ((nb : Int) + (T : Int) * 2 * 3 ≤ (wd : Int)) = true := by simp; omega
    go_enter Tryz.func63, Tryz.ntmps63
    go_wp2_with fail
    refine H.out.mono ?_
    rintro e w1 ⟨rfl, rfl⟩
    go_wp2_with fail
    refine H.out.mono ?_
    rintro e w1 ⟨rfl, rfl⟩
    go_wp2_with fail
    refine H2.out.mono ?_
    rintro e w1 ⟨rfl, rfl⟩
    go_wp2
    go_ret
    exact ⟨rfl, rfl⟩
set_option maxRecDepth 1000000 in
set_option maxHeartbeats 4000000 in
theorem begin_ok (h : Nd w np nb T) (fit : nb + 6 * T ≤ 65536) (wdf : wd + 3 ≤ 65536) (wdo : wd + 3 ≤ nb ∨ nb + 6 * T ≤ wd) (t : Nat) (ht : t < T) (k md : Int) (hk : k = 0 ∨ k = 1 ∨ k = 2) (hmd : k ≠ 1 → md = 1 ∨ md = 2 ∨ md = 3) :
    Calls Tryz.prog 51 #[.pointer (some ⟨np, 0, none⟩), .agg #[.int .i64 0, .int .i64 0, .int .i64 (wd : Int), .int .i64 (t : Int), .int .i64 k, .int .i64 md, .int .i64 0, .nilIface, .nilIface, .int .u64 0, .int .u64 0, .int .u64 0, .int .i64 0, .int .i64 0, .int .i64 0, .int .i64 0, .int .i64 0, .int .i64 0, .int .i64 0, .slice none 0 0, .bool false, .bool false]] w
      (fun e w' => ∃ q qe ql, Ret (.tuple #[.pointer (some ⟨q, 0, none⟩), .int .i64 0]) (fun w' => Frm [] w w' ∧ MvAt w' q T qe ql none 0 0 (Mv.new nb wd t k md) ∧ PgR w' qe false nb T wd (2 * t) 1 0 false ∧ PgR w' ql true nb T wd (2 * t) 1 0 false ∧ w.heap.size ≤ q ∧ w.heap.size ≤ qe ∧ w.heap.size ≤ ql) e w') := by
  have T64 := h.t64
  have t1 := h.t1
  have hlk : lockOk nb T (wd : Nat) := by unfold lockOk; omega
  obtain ⟨k2, hk2⟩ : ∃ k2, k2 = 2 * t := ⟨_, rfl⟩
  have hk2T : k2 < 2 * T := by omega
  have HT : Hid (∀ w', Frm [] w w' → Calls Tryz.prog 62 #[.pointer (some ⟨np, 0, none⟩)] w' (Ret (.int .i64 T) (fun x => w' = x))) := Lib.hid fun w' hf => threads_nd (h.frm hf)
  have HO : Hid (∀ w', Frm [] w w' → Calls Tryz.prog 68 #[.pointer (some ⟨np, 0, none⟩), .int .i64 (t : Int), .int .i64 0] w' (Ret (.tuple #[.int .i64 (k2 : Int), .int .i64 0]) (fun x => w' = x))) := Lib.hid fun w' hf => by
    have := of_yes (h.frm hf) t 0 ht (by decide)
    rw [show ((t : Int) * 2 + ((0 : Nat) : Int)) = (k2 : Int) by omega] at this
    exact this
  have HB : Hid (∀ w', Frm [] w w' → Calls Tryz.prog 63 #[.pointer (some ⟨np, 0, none⟩), .int .i64 (wd : Int)] w' (Ret (.bool true) (fun x => w' = x))) := Lib.hid fun w' hf => mayBe_0 (h.frm hf) fit wdf wdo
  have HA : Hid (∀ w', Frm [] w w' → Calls Tryz.prog 70 #[.pointer (some ⟨np, 0, none⟩), .int .i64 (wd : Int), .int .i64 (k2 : Int)] w' (fun e x => ∃ q', Ret (.tuple #[.pointer (some ⟨q', 0, none⟩), .int .i64 0]) (fun x => Frm [] w' x ∧ PgC x q' 186 nb T wd k2 1 0 ∧ w'.heap.size ≤ q') e x)) := Lib.hid fun w' hf => aNew_yes (h.frm hf) fit hlk hk2T
  have HR : Hid (∀ w', Frm [] w w' → Calls Tryz.prog 71 #[.pointer (some ⟨np, 0, none⟩), .int .i64 (wd : Int), .int .i64 (k2 : Int)] w' (fun e x => ∃ q', Ret (.tuple #[.pointer (some ⟨q', 0, none⟩), .int .i64 0]) (fun x => Frm [] w' x ∧ PgC x q' 187 nb T wd k2 1 0 ∧ w'.heap.size ≤ q') e x)) := Lib.hid fun w' hf => rNew_yes (h.frm hf) fit hlk hk2T
  have HN := Lib.hid h
  have HK := Lib.hid hk2
  have eT : ((T : Int) == 0) = false := by simp; omega
  clear h hlk hk2 hk2T
  obtain ⟨X, hX⟩ : ∃ X, X = w.alloc (.cells #[.int .i64 0, .int .i64 0, .int .i64 (wd : Int), .int .i64 (t : Int), .int .i64 k, .int .i64 md, .int .i64 0, .nilIface, .nilIface, .int .u64 0, .int .u64 0, .int .u64 0, .int .i64 0, .int .i64 0, .int .i64 0, .int .i64 0, .int .i64 0, .int .i64 0, .int .i64 0, .slice none 0 0, .bool false, .bool false] 132) := ⟨_, rfl⟩
  have hFX : Frm [] w X := by rw [hX]; exact (Frm.refl _ _).alloc _
  have hXb : X.heap[w.heap.size]? = some (.cells #[.int .i64 0, .int .i64 0, .int .i64 (wd : Int), .int .i64 (t : Int), .int .i64 k, .int .i64 md, .int .i64 0, .nilIface, .nilIface, .int .u64 0, .int .u64 0, .int .u64 0, .int .i64 0, .int .i64 0, .int .i64 0, .int .i64 0, .int .i64 0, .int .i64 0, .int .i64 0, .slice none 0 0, .bool false, .bool false] 132 (0, 0)) := by rw [hX]; exact heap_alloc_new _ _
  have HFX := Lib.hid hFX
  have HXB := Lib.hid hXb
  have hcx : ∀ w', Frm [] X w' → w'.cell? ⟨w.heap.size, 2, none⟩ = some (.int .i64 (wd : Int)) ∧ w'.cell? ⟨w.heap.size, 3, none⟩ = some (.int .i64 (t : Int)) ∧ w'.cell? ⟨w.heap.size, 4, none⟩ = some (.int .i64 k) ∧ w'.cell? ⟨w.heap.size, 5, none⟩ = some (.int .i64 md) ∧ w.heap.size < w'.heap.size := fun w' hf => by
    have := hf.heap hXb (by simp)
    exact ⟨by rw [cell_of_heap this]; rfl, by rw [cell_of_heap this]; rfl, by rw [cell_of_heap this]; rfl, by rw [cell_of_heap this]; rfl, lt_of_heap this⟩
  have HCX := Lib.hid hcx
  obtain ⟨x2, x3, x4, x5, xl⟩ := hcx X (Frm.refl _ _)
  clear hFX hXb hcx
  have HV := Lib.hid (valid_any · md)
  have hkv : k = 1 ∨ (k ≠ 1 ∧ vm md = true) := by
    rcases hk with e | e | e
    · exact .inr ⟨by omega, vm_iff.2 (by have := hmd (by omega); omega)⟩
    · exact .inl e
    · exact .inr ⟨by omega, vm_iff.2 (by have := hmd (by omega); omega)⟩
  clear hk hmd
  have fin : ∀ {e : Ending} {w' : World} {q1 q2 : Nat}, True := fun {_ _ _ _} => trivial
  rcases hkv with hk1 | ⟨hk1, hvm⟩
  · have ek : (k != 1) = false := by simpa using hk1
    clear hk1 
    go_enter Tryz.func51, Tryz.ntmps51
    go_wp2_with fail
    rw [← hX]
    clear hX
    refine (HT.out _ HFX.out).mono ?_
    rintro e w1 ⟨rfl, rfl⟩
    go_wp2_with fail
    refine (HO.out _ HFX.out).mono ?_
    rintro e w1 ⟨rfl, rfl⟩
    go_wp2_with fail
    refine (HB.out _ HFX.out).mono ?_
    rintro e w1 ⟨rfl, rfl⟩
    go_wp2_with fail
    refine (HA.out _ HFX.out).mono ?_
    rintro e w1 ⟨qe, rfl, hF1, hP1, hl1⟩
    have HF1 := Lib.hid hF1
    have HP1 := Lib.hid hP1
    clear x2 x3 x4 x5 xl
    obtain ⟨x2, x3, x4, x5, xl⟩ := HCX.out _ hF1
    clear hF1 hP1
    go_wp2_with fail
    refine (HR.out _ (HFX.out.trans HF1.out)).mono ?_
    rintro e w2 ⟨ql, rfl, hF2, hP2, hl2⟩
    have HF2 := Lib.hid (HF1.out.trans hF2)
    have HP2 := Lib.hid hP2
    have HP1 := Lib.hid (HP1.out.frm hF2 (by simp))
    have hB2 := HF2.out.heap HXB.out (by simp)
    have HB2 := Lib.hid hB2
    clear x2 x3 x4 x5 xl
    have hnp := (HN.out.frm (HFX.out.trans HF2.out)).at_
    obtain ⟨np0, np1⟩ := hnp
    have hnpl := (HN.out.frm (HFX.out.trans HF2.out)).lt
    have xl := lt_of_heap hB2
    have z0 : w2.frozen? ⟨w.heap.size, 0, none⟩ = false := frozen_of_heap hB2
    have z1 : w2.frozen? ⟨w.heap.size, 1, none⟩ = false := frozen_of_heap hB2
    have z6 : w2.frozen? ⟨w.heap.size, 6, none⟩ = false := frozen_of_heap hB2
    have z7 : w2.frozen? ⟨w.heap.size, 7, none⟩ = false := frozen_of_heap hB2
    have z8 : w2.frozen? ⟨w.heap.size, 8, none⟩ = false := frozen_of_heap hB2
    have y0 : w2.cell? ⟨w.heap.size, 0, none⟩ = some (.int .i64 0) := by rw [cell_of_heap hB2]; rfl
    have y1 : w2.cell? ⟨w.heap.size, 1, none⟩ = some (.int .i64 0) := by rw [cell_of_heap hB2]; rfl
    have y6 : w2.cell? ⟨w.heap.size, 6, none⟩ = some (.int .i64 0) := by rw [cell_of_heap hB2]; rfl
    have y7 : w2.cell? ⟨w.heap.size, 7, none⟩ = some .nilIface := by rw [cell_of_heap hB2]; rfl
    have y8 : w2.cell? ⟨w.heap.size, 8, none⟩ = some .nilIface := by rw [cell_of_heap hB2]; rfl
    clear hF2 hP2 hB2
    go_wp2
    go_ret2
    have hF3 : Frm [w.heap.size] w2 (((((w2.setCell ⟨w.heap.size, 0, none⟩ (.int .i64 (nb : Int))).setCell ⟨w.heap.size, 1, none⟩ (.int .i64 (T : Int))).setCell ⟨w.heap.size, 7, none⟩ (.iface (Ip false) (.pointer (some ⟨qe, 0, none⟩)))).setCell ⟨w.heap.size, 8, none⟩ (.iface (Ip true) (.pointer (some ⟨ql, 0, none⟩)))).setCell ⟨w.heap.size, 6, none⟩ (.int .i64 1)) := (((((Frm.refl _ _).setCell _ _ (.inl (by simp))).setCell _ _ (.inl (by simp))).setCell _ _ (.inl (by simp))).setCell _ _ (.inl (by simp))).setCell _ _ (.inl (by simp))
    have hq1 := HFX.out.size
    have hq2 := HF1.out.size
    have hXs : w.heap.size < _ := lt_of_heap HXB.out
    refine ⟨w.heap.size, qe, ql, rfl, (HFX.out.trans HF2.out).trans_new hF3 (by intro x hx; simp at hx; omega), ⟨?_, t1, T64, ht, fit, wdf⟩, ?_, ?_, Nat.le_refl _, by omega, by omega⟩
    · have := heap_setCell_at (i := 6) (.int .i64 1) (heap_setCell_at (i := 8) (.iface (Ip true) (.pointer (some ⟨ql, 0, none⟩))) (heap_setCell_at (i := 7) (.iface (Ip false) (.pointer (some ⟨qe, 0, none⟩))) (heap_setCell_at (i := 1) (.int .i64 (T : Int)) (heap_setCell_at (i := 0) (.int .i64 (nb : Int)) HB2.out))))
      refine Eq.trans this ?_; simp only [Mv.new, List.setIfInBounds_toArray, List.set_cons_succ, List.set_cons_zero]; rfl
    · rw [← HK.out]; exact ⟨0, HP1.out.frm hF3 (by simp; omega), fun _ => ⟨⟨by decide, by decide, by decide, by decide⟩, by decide⟩⟩
    · rw [← HK.out]; exact ⟨0, HP2.out.frm hF3 (by simp; omega), fun _ => ⟨⟨by decide, by decide, by decide, by decide⟩, by decide⟩⟩
  · have ek : (k != 1) = true := by simpa using hk1
    have HV1 := Lib.hid hvm
    clear hk1 hvm
    go_enter Tryz.func51, Tryz.ntmps51
    go_wp2_with fail
    rw [← hX]
    clear hX
    refine (HT.out _ HFX.out).mono ?_
    rintro e w1 ⟨rfl, rfl⟩
    go_wp2_with fail
    refine (HO.out _ HFX.out).mono ?_
    rintro e w1 ⟨rfl, rfl⟩
    go_wp2_with fail
    refine (HB.out _ HFX.out).mono ?_
    rintro e w1 ⟨rfl, rfl⟩
    go_wp2_with fail
    refine (HV.out _).mono ?_
    rw [HV1.out]
    rintro e w1 ⟨rfl, rfl⟩
    go_wp2_with fail
    refine (HA.out _ HFX.out).mono ?_
    rintro e w1 ⟨qe, rfl, hF1, hP1, hl1⟩
    have HF1 := Lib.hid hF1
    have HP1 := Lib.hid hP1
    clear x2 x3 x4 x5 xl
    obtain ⟨x2, x3, x4, x5, xl⟩ := HCX.out _ hF1
    clear hF1 hP1
    go_wp2_with fail
    refine (HR.out _ (HFX.out.trans HF1.out)).mono ?_
    rintro e w2 ⟨ql, rfl, hF2, hP2, hl2⟩
    have HF2 := Lib.hid (HF1.out.trans hF2)
    have HP2 := Lib.hid hP2
    have HP1 := Lib.hid (HP1.out.frm hF2 (by simp))
    have hB2 := HF2.out.heap HXB.out (by simp)
    have HB2 := Lib.hid hB2
    clear x2 x3 x4 x5 xl
    have hnp := (HN.out.frm (HFX.out.trans HF2.out)).at_
    obtain ⟨np0, np1⟩ := hnp
    have hnpl := (HN.out.frm (HFX.out.trans HF2.out)).lt
    have xl := lt_of_heap hB2
    have z0 : w2.frozen? ⟨w.heap.size, 0, none⟩ = false := frozen_of_heap hB2
    have z1 : w2.frozen? ⟨w.heap.size, 1, none⟩ = false := frozen_of_heap hB2
    have z6 : w2.frozen? ⟨w.heap.size, 6, none⟩ = false := frozen_of_heap hB2
    have z7 : w2.frozen? ⟨w.heap.size, 7, none⟩ = false := frozen_of_heap hB2
    have z8 : w2.frozen? ⟨w.heap.size, 8, none⟩ = false := frozen_of_heap hB2
    have y0 : w2.cell? ⟨w.heap.size, 0, none⟩ = some (.int .i64 0) := by rw [cell_of_heap hB2]; rfl
    have y1 : w2.cell? ⟨w.heap.size, 1, none⟩ = some (.int .i64 0) := by rw [cell_of_heap hB2]; rfl
    have y6 : w2.cell? ⟨w.heap.size, 6, none⟩ = some (.int .i64 0) := by rw [cell_of_heap hB2]; rfl
    have y7 : w2.cell? ⟨w.heap.size, 7, none⟩ = some .nilIface := by rw [cell_of_heap hB2]; rfl
    have y8 : w2.cell? ⟨w.heap.size, 8, none⟩ = some .nilIface := by rw [cell_of_heap hB2]; rfl
    clear hF2 hP2 hB2
    go_wp2
    go_ret2
    have hF3 : Frm [w.heap.size] w2 (((((w2.setCell ⟨w.heap.size, 0, none⟩ (.int .i64 (nb : Int))).setCell ⟨w.heap.size, 1, none⟩ (.int .i64 (T : Int))).setCell ⟨w.heap.size, 7, none⟩ (.iface (Ip false) (.pointer (some ⟨qe, 0, none⟩)))).setCell ⟨w.heap.size, 8, none⟩ (.iface (Ip true) (.pointer (some ⟨ql, 0, none⟩)))).setCell ⟨w.heap.size, 6, none⟩ (.int .i64 1)) := (((((Frm.refl _ _).setCell _ _ (.inl (by simp))).setCell _ _ (.inl (by simp))).setCell _ _ (.inl (by simp))).setCell _ _ (.inl (by simp))).setCell _ _ (.inl (by simp))
    have hq1 := HFX.out.size
    have hq2 := HF1.out.size
    have hXs : w.heap.size < _ := lt_of_heap HXB.out
    refine ⟨w.heap.size, qe, ql, rfl, (HFX.out.trans HF2.out).trans_new hF3 (by intro x hx; simp at hx; omega), ⟨?_, t1, T64, ht, fit, wdf⟩, ?_, ?_, Nat.le_refl _, by omega, by omega⟩
    · have := heap_setCell_at (i := 6) (.int .i64 1) (heap_setCell_at (i := 8) (.iface (Ip true) (.pointer (some ⟨ql, 0, none⟩))) (heap_setCell_at (i := 7) (.iface (Ip false) (.pointer (some ⟨qe, 0, none⟩))) (heap_setCell_at (i := 1) (.int .i64 (T : Int)) (heap_setCell_at (i := 0) (.int .i64 (nb : Int)) HB2.out))))
      refine Eq.trans this ?_; simp only [Mv.new, List.setIfInBounds_toArray, List.set_cons_succ, List.set_cons_zero]; rfl
    · rw [← HK.out]; exact ⟨0, HP1.out.frm hF3 (by simp; omega), fun _ => ⟨⟨by decide, by decide, by decide, by decide⟩, by decide⟩⟩
    · rw [← HK.out]; exact ⟨0, HP2.out.frm hF3 (by simp; omega), fun _ => ⟨⟨by decide, by decide, by decide, by decide⟩, by decide⟩⟩
set_option maxRecDepth 1000000 in
set_option maxHeartbeats 4000000 in
theorem newGet {w : World} {nb wd np T : Nat} (h : Nd w np nb T) (fit : nb + 6 * T ≤ 65536) (wdf : wd + 3 ≤ 65536) (wdo : wd + 3 ≤ nb ∨ nb + 6 * T ≤ wd) (t : Nat) (ht : t < T) (md : Int) (hmd : md = 1 ∨ md = 2 ∨ md = 3) :
    Calls Tryz.prog 31 #[.pointer (some ⟨np, 0, none⟩), .int .i64 (wd : Int), .int .i64 (t : Int), .int .i64 md] w
      (fun e w' => ∃ q qe ql, Ret (.tuple #[.pointer (some ⟨q, 0, none⟩), .int .i64 0]) (fun w' => Frm [] w w' ∧ MvAt w' q T qe ql none 0 0 (Mv.new nb wd t 0 md) ∧ PgR w' qe false nb T wd (2 * t) 1 0 false ∧ PgR w' ql true nb T wd (2 * t) 1 0 false ∧ w.heap.size ≤ q ∧ w.heap.size ≤ qe ∧ w.heap.size ≤ ql) e w') := by
  have H := Lib.hid (begin_ok h fit wdf wdo t ht 0 md (by decide) (fun _ => hmd))
  clear h
  go_enter Tryz.func31, Tryz.ntmps31
  go_wp2_with fail
  refine H.out.mono ?_
  rintro e w1 ⟨q, qe, ql, rfl, hR⟩
  have HR := Lib.hid hR
  clear hR
  go_wp2
  go_ret2
  exact ⟨q, qe, ql, rfl, HR.out⟩
set_option maxRecDepth 1000000 in
set_option maxHeartbeats 4000000 in
theorem newBack {w : World} {nb wd np T : Nat} (h : Nd w np nb T) (fit : nb + 6 * T ≤ 65536) (wdf : wd + 3 ≤ 65536) (wdo : wd + 3 ≤ nb ∨ nb + 6 * T ≤ wd) (t : Nat) (ht : t < T) :
    Calls Tryz.prog 32 #[.pointer (some ⟨np, 0, none⟩), .int .i64 (wd : Int), .int .i64 (t : Int)] w
      (fun e w' => ∃ q qe ql, Ret (.tuple #[.pointer (some ⟨q, 0, none⟩), .int .i64 0]) (fun w' => Frm [] w w' ∧ MvAt w' q T qe ql none 0 0 (Mv.new nb wd t 1 0) ∧ PgR w' qe false nb T wd (2 * t) 1 0 false ∧ PgR w' ql true nb T wd (2 * t) 1 0 false ∧ w.heap.size ≤ q ∧ w.heap.size ≤ qe ∧ w.heap.size ≤ ql) e w') := by
  have H := Lib.hid (begin_ok h fit wdf wdo t ht 1 0 (by decide) (fun h => absurd rfl h))
  clear h
  go_enter Tryz.func32, Tryz.ntmps32
  go_wp2_with fail
  refine H.out.mono ?_
  rintro e w1 ⟨q, qe, ql, rfl, hR⟩
  have HR := Lib.hid hR
  clear hR
  go_wp2
  go_ret2
  exact ⟨q, qe, ql, rfl, HR.out⟩
set_option maxRecDepth 1000000 in
set_option maxHeartbeats 4000000 in
theorem newGo {w : World} {nb wd np T : Nat} (h : Nd w np nb T) (fit : nb + 6 * T ≤ 65536) (wdf : wd + 3 ≤ 65536) (wdo : wd + 3 ≤ nb ∨ nb + 6 * T ≤ wd) (t : Nat) (ht : t < T) (md : Int) (hmd : md = 1 ∨ md = 2 ∨ md = 3) :
    Calls Tryz.prog 33 #[.pointer (some ⟨np, 0, none⟩), .int .i64 (wd : Int), .int .i64 (t : Int), .int .i64 md] w
      (fun e w' => ∃ q qe ql, Ret (.tuple #[.pointer (some ⟨q, 0, none⟩), .int .i64 0]) (fun w' => Frm [] w w' ∧ MvAt w' q T qe ql none 0 0 (Mv.new nb wd t 2 md) ∧ PgR w' qe false nb T wd (2 * t) 1 0 false ∧ PgR w' ql true nb T wd (2 * t) 1 0 false ∧ w.heap.size ≤ q ∧ w.heap.size ≤ qe ∧ w.heap.size ≤ ql) e w') := by
  have H := Lib.hid (begin_ok h fit wdf wdo t ht 2 md (by decide) (fun _ => hmd))
  clear h
  go_enter Tryz.func33, Tryz.ntmps33
  go_wp2_with fail
  refine H.out.mono ?_
  rintro e w1 ⟨q, qe, ql, rfl, hR⟩
  have HR := Lib.hid hR
  clear hR
  go_wp2
  go_ret2
  exact ⟨q, qe, ql, rfl, HR.out⟩
end
end Go.Proofs.YticbbfcachnkiaaGreatDoor
