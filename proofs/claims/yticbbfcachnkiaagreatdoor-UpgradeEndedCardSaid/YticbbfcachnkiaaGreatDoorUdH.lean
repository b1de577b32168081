/- Package upgrade: NewRaise, NewLower, NewDecide (by gen_udh.py). -/
import Derived.Test.YticbbfcachnkiaaGreatDoorUdG
import Derived.Test.YticbbfcachnkiaaGreatDoorUdF
namespace Go.Proofs.YticbbfcachnkiaaGreatDoor
open Go.ChangeShapes Go.WideShapes Go.ChangeAt Go.RowKit
set_option linter.unusedVariables false
set_option linter.unusedSimpArgs false
section
variable {w w' : World} {B T N np nb wd : Nat}
/-- A new move is a part. -/
theorem part_new {q qe ql t : Nat} {k md : Int} (hf : Frm [] w w') (hB : B ≤ w.heap.size) (ht : t < T) (hk : k = 0 ∨ k = 1 ∨ k = 2) (hmd : k ≠ 1 → md = 1 ∨ md = 2 ∨ md = 3) (hM : MvAt w' q T qe ql none 0 0 (Mv.new nb wd t k md)) (he : PgR w' qe false nb T wd (2 * t) 1 0 false) (hl : PgR w' ql true nb T wd (2 * t) 1 0 false) (h1 : w.heap.size ≤ q) (h2 : w.heap.size ≤ qe) (h3 : w.heap.size ≤ ql) :
    PartAt w' B T 0 ⟨q, qe, ql, none, 0, 0, Mv.new nb wd t k md, Gs.new⟩ ∧ ∀ x ∈ (Part.mk q qe ql none 0 0 (Mv.new nb wd t k md) Gs.new).bl, w.heap.size ≤ x := by
  have fr : ∀ x ∈ (Part.mk q qe ql none 0 0 (Mv.new nb wd t k md) Gs.new).bl, w.heap.size ≤ x := by
    intro x hx
    simp only [Part.bl, List.mem_cons] at hx
    rcases hx with rfl | rfl | rfl | hx
    · exact h1
    · exact h2
    · exact h3
    · simp [blk] at hx
  exact ⟨⟨hM, ⟨⟨0, 0, Li.nil _ _ _, fun x hx => by cases hx⟩, (fun x hx => by cases hx), fun _ => Row.nil _ _ _ _⟩, he, hl, Mv.new_ok ht k md hk hmd, fun x hx => Nat.le_trans hB (fr x hx), Nat.le_refl _⟩, fr⟩
set_option maxRecDepth 1000000 in
set_option maxHeartbeats 4000000 in
theorem raise_nil {v : Value} (h : Zv w v) (at_ t : Int) : Calls Tryz.prog 24 #[v, .int .i64 at_, .int .i64 t] w (Ret (.tuple #[.pointer none, .int .i64 1]) (fun w' => Frm [] w w')) := by
  have H := Lib.hid (newGo_nil h at_ t 3)
  clear h
  go_enter Tryz.func24, Tryz.ntmps24
  go_wp2_with fail
  refine H.out.mono ?_
  rintro e w1 ⟨rfl, hF⟩
  have HF := Lib.hid hF
  clear hF
  go_wp2
  go_ret2
  exact ⟨rfl, HF.out⟩
set_option maxRecDepth 1000000 in
set_option maxHeartbeats 4000000 in
theorem lower_nil {v : Value} (h : Zv w v) (at_ t md : Int) : Calls Tryz.prog 25 #[v, .int .i64 at_, .int .i64 t, .int .i64 md] w (Ret (.tuple #[.pointer none, .int .i64 1]) (fun w' => Frm [] w w')) := by
  have H := Lib.hid (newGo_nil h at_ t md)
  clear h
  go_enter Tryz.func25, Tryz.ntmps25
  go_wp2_with fail
  refine H.out.mono ?_
  rintro e w1 ⟨rfl, hF⟩
  have HF := Lib.hid hF
  clear hF
  go_wp2
  go_ret2
  exact ⟨rfl, HF.out⟩
theorem mayBe_4 (h : Nd w np 4 2) : Calls Tryz.prog 63 #[.pointer (some ⟨np, 0, none⟩), .int .i64 4] w (Ret (.bool false) (fun w' => w = w')) := by
  have H := Lib.hid (base_nd h)
  have H2 := Lib.hid (len_nd h)
  clear h
  go_enter Tryz.func63, Tryz.ntmps63
  go_wp2_with fail
  refine H.out.mono ?_
  rintro e w1 ⟨rfl, rfl⟩
  go_wp2_with fail
  refine H.out.mono ?_
  rintro e w1 ⟨rfl, rfl⟩
  go_wp2_with fail
  refine H2.out.mono ?_
  rintro e w1 ⟨rfl, rfl⟩
  go_wp2
  go_ret
  exact ⟨rfl, rfl⟩
set_option maxRecDepth 1000000 in
set_option maxHeartbeats 4000000 in
theorem begin_4 (h : Nd w np 4 2) (md : Int) : Calls Tryz.prog 51 #[.pointer (some ⟨np, 0, none⟩), .agg #[.int .i64 0, .int .i64 0, .int .i64 4, .int .i64 0, .int .i64 2, .int .i64 md, .int .i64 0, .nilIface, .nilIface, .int .u64 0, .int .u64 0, .int .u64 0, .int .i64 0, .int .i64 0, .int .i64 0, .int .i64 0, .int .i64 0, .int .i64 0, .int .i64 0, .slice none 0 0, .bool false, .bool false]] w (Ret (.tuple #[.pointer none, .int .i64 2]) (fun w' => Frm [] w w')) := by
  have HT : Hid (∀ w', Frm [] w w' → Calls Tryz.prog 62 #[.pointer (some ⟨np, 0, none⟩)] w' (Ret (.int .i64 2) (fun x => w' = x))) := Lib.hid fun w' hf => threads_nd (h.frm hf)
  have HO : Hid (∀ w', Frm [] w w' → Calls Tryz.prog 68 #[.pointer (some ⟨np, 0, none⟩), .int .i64 0, .int .i64 0] w' (Ret (.tuple #[.int .i64 0, .int .i64 0]) (fun x => w' = x))) := Lib.hid fun w' hf => of_yes (h.frm hf) 0 0 (by decide) (by decide)
  have HB : Hid (∀ w', Frm [] w w' → Calls Tryz.prog 63 #[.pointer (some ⟨np, 0, none⟩), .int .i64 4] w' (Ret (.bool false) (fun x => w' = x))) := Lib.hid fun w' hf => mayBe_4 (h.frm hf)
  obtain ⟨X, hX⟩ : ∃ X, X = w.alloc (.cells #[.int .i64 0, .int .i64 0, .int .i64 4, .int .i64 0, .int .i64 2, .int .i64 md, .int .i64 0, .nilIface, .nilIface, .int .u64 0, .int .u64 0, .int .u64 0, .int .i64 0, .int .i64 0, .int .i64 0, .int .i64 0, .int .i64 0, .int .i64 0, .int .i64 0, .slice none 0 0, .bool false, .bool false] 132) := ⟨_, rfl⟩
  have hFX : Frm [] w X := by rw [hX]; exact (Frm.refl _ _).alloc _
  have hXb : X.heap[w.heap.size]? = some (.cells #[.int .i64 0, .int .i64 0, .int .i64 4, .int .i64 0, .int .i64 2, .int .i64 md, .int .i64 0, .nilIface, .nilIface, .int .u64 0, .int .u64 0, .int .u64 0, .int .i64 0, .int .i64 0, .int .i64 0, .int .i64 0, .int .i64 0, .int .i64 0, .int .i64 0, .slice none 0 0, .bool false, .bool false] 132 (0, 0)) := by rw [hX]; exact heap_alloc_new _ _
  have x2 : X.cell? ⟨w.heap.size, 2, none⟩ = some (.int .i64 4) := by rw [cell_of_heap hXb]; rfl
  have x3 : X.cell? ⟨w.heap.size, 3, none⟩ = some (.int .i64 0) := by rw [cell_of_heap hXb]; rfl
  have x4 : X.cell? ⟨w.heap.size, 4, none⟩ = some (.int .i64 2) := by rw [cell_of_heap hXb]; rfl
  have x5 : X.cell? ⟨w.heap.size, 5, none⟩ = some (.int .i64 md) := by rw [cell_of_heap hXb]; rfl
  have xl := lt_of_heap hXb
  have HFX := Lib.hid hFX
  clear h hFX hXb
  go_enter Tryz.func51, Tryz.ntmps51
  go_wp2_with fail
  rw [← hX]
  clear hX
  refine (HT.out _ HFX.out).mono ?_
  rintro e w1 ⟨rfl, rfl⟩
  go_wp2_with fail
  refine (HO.out _ HFX.out).mono ?_
  rintro e w1 ⟨rfl, rfl⟩
  go_wp2_with fail
  refine (HB.out _ HFX.out).mono ?_
  rintro e w1 ⟨rfl, rfl⟩
  go_wp2
  go_ret2
  exact ⟨rfl, HFX.out⟩
set_option maxRecDepth 1000000 in
set_option maxHeartbeats 4000000 in
theorem begin_0 (h : Nd w np 4 2) (hL : Laid w) : Calls Tryz.prog 51 #[.pointer (some ⟨np, 0, none⟩), .agg #[.int .i64 0, .int .i64 0, .int .i64 0, .int .i64 0, .int .i64 2, .int .i64 0, .int .i64 0, .nilIface, .nilIface, .int .u64 0, .int .u64 0, .int .u64 0, .int .i64 0, .int .i64 0, .int .i64 0, .int .i64 0, .int .i64 0, .int .i64 0, .int .i64 0, .slice none 0 0, .bool false, .bool false]] w (Ret (.tuple #[.pointer none, .int .i64 2]) (fun w' => Frm [] w w')) := by
  have HT : Hid (∀ w', Frm [] w w' → Calls Tryz.prog 62 #[.pointer (some ⟨np, 0, none⟩)] w' (Ret (.int .i64 2) (fun x => w' = x))) := Lib.hid fun w' hf => threads_nd (h.frm hf)
  have HO : Hid (∀ w', Frm [] w w' → Calls Tryz.prog 68 #[.pointer (some ⟨np, 0, none⟩), .int .i64 0, .int .i64 0] w' (Ret (.tuple #[.int .i64 0, .int .i64 0]) (fun x => w' = x))) := Lib.hid fun w' hf => of_yes (h.frm hf) 0 0 (by decide) (by decide)
  have HB : Hid (∀ w', Frm [] w w' → Calls Tryz.prog 63 #[.pointer (some ⟨np, 0, none⟩), .int .i64 0] w' (Ret (.bool true) (fun x => w' = x))) := Lib.hid fun w' hf => mayBe_0 (wd := 0) (h.frm hf) (by decide) (by decide) (.inl (by decide))
  have HV := Lib.hid (valid_any · 0)
  obtain ⟨X, hX⟩ : ∃ X, X = w.alloc (.cells #[.int .i64 0, .int .i64 0, .int .i64 0, .int .i64 0, .int .i64 2, .int .i64 0, .int .i64 0, .nilIface, .nilIface, .int .u64 0, .int .u64 0, .int .u64 0, .int .i64 0, .int .i64 0, .int .i64 0, .int .i64 0, .int .i64 0, .int .i64 0, .int .i64 0, .slice none 0 0, .bool false, .bool false] 132) := ⟨_, rfl⟩
  have hFX : Frm [] w X := by rw [hX]; exact (Frm.refl _ _).alloc _
  have hXb : X.heap[w.heap.size]? = some (.cells #[.int .i64 0, .int .i64 0, .int .i64 0, .int .i64 0, .int .i64 2, .int .i64 0, .int .i64 0, .nilIface, .nilIface, .int .u64 0, .int .u64 0, .int .u64 0, .int .i64 0, .int .i64 0, .int .i64 0, .int .i64 0, .int .i64 0, .int .i64 0, .int .i64 0, .slice none 0 0, .bool false, .bool false] 132 (0, 0)) := by rw [hX]; exact heap_alloc_new _ _
  have x2 : X.cell? ⟨w.heap.size, 2, none⟩ = some (.int .i64 0) := by rw [cell_of_heap hXb]; rfl
  have x3 : X.cell? ⟨w.heap.size, 3, none⟩ = some (.int .i64 0) := by rw [cell_of_heap hXb]; rfl
  have x4 : X.cell? ⟨w.heap.size, 4, none⟩ = some (.int .i64 2) := by rw [cell_of_heap hXb]; rfl
  have x5 : X.cell? ⟨w.heap.size, 5, none⟩ = some (.int .i64 0) := by rw [cell_of_heap hXb]; rfl
  have xl := lt_of_heap hXb
  have HFX := Lib.hid hFX
  clear h hFX hXb
  go_enter Tryz.func51, Tryz.ntmps51
  go_wp2_with fail
  rw [← hX]
  clear hX
  refine (HT.out _ HFX.out).mono ?_
  rintro e w1 ⟨rfl, rfl⟩
  go_wp2_with fail
  refine (HO.out _ HFX.out).mono ?_
  rintro e w1 ⟨rfl, rfl⟩
  go_wp2_with fail
  refine (HB.out _ HFX.out).mono ?_
  rintro e w1 ⟨rfl, rfl⟩
  go_wp2_with fail
  refine (HV.out _).mono ?_
  rintro e w1 ⟨rfl, rfl⟩
  have hv0 : vm 0 = false := by decide
  go_wp2
  go_ret2
  exact ⟨rfl, HFX.out⟩
set_option maxRecDepth 1000000 in
set_option maxHeartbeats 4000000 in
theorem move_4 (h : Nd w np 4 2) (md : Int) : Calls Tryz.prog 33 #[.pointer (some ⟨np, 0, none⟩), .int .i64 4, .int .i64 0, .int .i64 md] w (Ret (.tuple #[.pointer none, .int .i64 2]) (fun w' => Frm [] w w')) := by
  have H := Lib.hid (begin_4 h md)
  clear h
  go_enter Tryz.func33, Tryz.ntmps33
  go_wp2_with fail
  refine H.out.mono ?_
  rintro e w1 ⟨rfl, hF⟩
  have HF := Lib.hid hF
  clear hF
  go_wp2
  go_ret2
  exact ⟨rfl, HF.out⟩
set_option maxRecDepth 1000000 in
set_option maxHeartbeats 4000000 in
theorem move_0 (h : Nd w np 4 2) (hL : Laid w) : Calls Tryz.prog 33 #[.pointer (some ⟨np, 0, none⟩), .int .i64 0, .int .i64 0, .int .i64 0] w (Ret (.tuple #[.pointer none, .int .i64 2]) (fun w' => Frm [] w w')) := by
  have H := Lib.hid (begin_0 h hL)
  clear h
  go_enter Tryz.func33, Tryz.ntmps33
  go_wp2_with fail
  refine H.out.mono ?_
  rintro e w1 ⟨rfl, hF⟩
  have HF := Lib.hid hF
  clear hF
  go_wp2
  go_ret2
  exact ⟨rfl, HF.out⟩
set_option maxRecDepth 1000000 in
set_option maxHeartbeats 4000000 in
theorem raise_4 (h : Nd w np 4 2) : Calls Tryz.prog 24 #[.pointer (some ⟨np, 0, none⟩), .int .i64 4, .int .i64 0] w (Ret (.tuple #[.pointer none, .int .i64 2]) (fun w' => Frm [] w w')) := by
  have H := Lib.hid (move_4 h 3)
  clear h
  go_enter Tryz.func24, Tryz.ntmps24
  go_wp2_with fail
  refine H.out.mono ?_
  rintro e w1 ⟨rfl, hF⟩
  have HF := Lib.hid hF
  clear hF
  go_wp2
  go_ret2
  exact ⟨rfl, HF.out⟩
set_option maxRecDepth 1000000 in
set_option maxHeartbeats 4000000 in
theorem lower_0 (h : Nd w np 4 2) (hL : Laid w) : Calls Tryz.prog 25 #[.pointer (some ⟨np, 0, none⟩), .int .i64 0, .int .i64 0, .int .i64 0] w (Ret (.tuple #[.pointer none, .int .i64 2]) (fun w' => Frm [] w w')) := by
  have H := Lib.hid (move_0 h hL)
  clear h
  go_enter Tryz.func25, Tryz.ntmps25
  go_wp2_with fail
  refine H.out.mono ?_
  rintro e w1 ⟨rfl, hF⟩
  have HF := Lib.hid hF
  clear hF
  go_wp2
  go_ret2
  exact ⟨rfl, HF.out⟩
set_option maxRecDepth 1000000 in
set_option maxHeartbeats 4000000 in
theorem lower_x (h : Nd w np 4 2) : Calls Tryz.prog 25 #[.pointer (some ⟨np, 0, none⟩), .int .i64 0, .int .i64 0, .int .i64 3] w (Ret (.tuple #[.pointer none, .int .i64 2]) (fun w' => Frm [] w w')) := by
  have H := Lib.hid (newGo (wd := 0) h (by decide) (by decide) (.inl (by decide)) 0 (by decide) 3 (by decide))
  clear h
  go_enter Tryz.func25, Tryz.ntmps25
  go_wp2_with fail
  refine H.out.mono ?_
  rintro e w1 ⟨q, qe, ql, rfl, hF, -⟩
  have HF := Lib.hid hF
  clear hF
  go_wp2
  go_ret2
  exact ⟨rfl, HF.out⟩
set_option maxRecDepth 1000000 in
set_option maxHeartbeats 4000000 in
theorem raise_ok (h : Nd w np nb T) (fit : nb + 6 * T ≤ 65536) (wdf : wd + 3 ≤ 65536) (wdo : wd + 3 ≤ nb ∨ nb + 6 * T ≤ wd) (t : Nat) (ht : t < T) :
    Calls Tryz.prog 24 #[.pointer (some ⟨np, 0, none⟩), .int .i64 (wd : Int), .int .i64 (t : Int)] w
      (fun e w' => ∃ q qe ql, Ret (.tuple #[.pointer (some ⟨q, 0, none⟩), .int .i64 0]) (fun w' => Frm [] w w' ∧ MvAt w' q T qe ql none 0 0 (Mv.new nb wd t 2 3) ∧ PgR w' qe false nb T wd (2 * t) 1 0 false ∧ PgR w' ql true nb T wd (2 * t) 1 0 false ∧ w.heap.size ≤ q ∧ w.heap.size ≤ qe ∧ w.heap.size ≤ ql) e w') := by
  have H := Lib.hid (newGo h fit wdf wdo t ht 3 (by decide))
  clear h
  go_enter Tryz.func24, Tryz.ntmps24
  go_wp2_with fail
  refine H.out.mono ?_
  rintro e w1 ⟨q, qe, ql, rfl, hR⟩
  have HR := Lib.hid hR
  clear hR
  go_wp2
  go_ret2
  exact ⟨q, qe, ql, rfl, HR.out⟩
/-- Five parts that lie one behind the other, and a decision behind them. -/
theorem dat_new {D s1 s2 s3 s4 : Nat} {G L R C K : Part} (hG : PartAt w B T N G) (hL : PartAt w B T N L) (hR : PartAt w B T N R) (hC : PartAt w B T N C) (hK : PartAt w B T N K)
    (bL : ∀ x ∈ L.bl, x < s1) (bC : ∀ x ∈ C.bl, s1 ≤ x ∧ x < s2) (bG : ∀ x ∈ G.bl, s2 ≤ x ∧ x < s3) (bR : ∀ x ∈ R.bl, s3 ≤ x ∧ x < s4) (bK : ∀ x ∈ K.bl, s4 ≤ x ∧ x < D) (h12 : s1 ≤ s2) (h23 : s2 ≤ s3) (h34 : s3 ≤ s4) (h4 : s4 ≤ D) (hB : B ≤ D)
    (hO : DObj w D G.q L.q R.q C.q K.q 0 0) : DAt w B T N D (fun i => if i = 0 then G else if i = 1 then L else if i = 2 then R else if i = 3 then C else K) ⟨[(G.m, G.g), (L.m, L.g), (R.m, R.g), (C.m, C.g), (K.m, K.g)], 0, 0⟩ := by
  have five : ∀ i, i < 5 → i = 0 ∨ i = 1 ∨ i = 2 ∨ i = 3 ∨ i = 4 := fun i hi => by omega
  refine ⟨hO, ?_, rfl, ?_, ?_, ?_, hB⟩
  · intro i hi
    rcases five i hi with rfl | rfl | rfl | rfl | rfl <;> rfl
  · intro i hi
    rcases five i hi with rfl | rfl | rfl | rfl | rfl
    · exact hG
    · exact hL
    · exact hR
    · exact hC
    · exact hK
  · intro i j hi hj hij x hx hx2
    rcases five i hi with rfl | rfl | rfl | rfl | rfl <;> rcases five j hj with rfl | rfl | rfl | rfl | rfl <;>
      first
      | exact hij rfl
      | (simp only [Nat.reduceEqDiff, if_true, if_false, Nat.one_ne_zero] at hx hx2
         first
         | (have a1 := bG x hx; have a2 := bL x hx2; omega) | (have a1 := bG x hx; have a2 := bR x hx2; omega) | (have a1 := bG x hx; have a2 := bC x hx2; omega) | (have a1 := bG x hx; have a2 := bK x hx2; omega)
         | (have a1 := bL x hx; have a2 := bG x hx2; omega) | (have a1 := bL x hx; have a2 := bR x hx2; omega) | (have a1 := bL x hx; have a2 := bC x hx2; omega) | (have a1 := bL x hx; have a2 := bK x hx2; omega)
         | (have a1 := bR x hx; have a2 := bG x hx2; omega) | (have a1 := bR x hx; have a2 := bL x hx2; omega) | (have a1 := bR x hx; have a2 := bC x hx2; omega) | (have a1 := bR x hx; have a2 := bK x hx2; omega)
         | (have a1 := bC x hx; have a2 := bG x hx2; omega) | (have a1 := bC x hx; have a2 := bL x hx2; omega) | (have a1 := bC x hx; have a2 := bR x hx2; omega) | (have a1 := bC x hx; have a2 := bK x hx2; omega)
         | (have a1 := bK x hx; have a2 := bG x hx2; omega) | (have a1 := bK x hx; have a2 := bL x hx2; omega) | (have a1 := bK x hx; have a2 := bR x hx2; omega) | (have a1 := bK x hx; have a2 := bC x hx2; omega))
  · intro i hi hx
    rcases five i hi with rfl | rfl | rfl | rfl | rfl
    · have := bG D hx; omega
    · have := bL D hx; omega
    · have := bR D hx; omega
    · have := bC D hx; omega
    · have := bK D hx; omega
end
section
variable {w : World} {B T N np : Nat} {L C : Part}
set_option maxRecDepth 1000000 in
set_option maxHeartbeats 4000000 in
theorem decide_ok (h : Nd w np 4 T) (t : Nat) (ht : t < T) (hL : PartAt w B T N L) (hC : PartAt w B T N C) (hlw : L.m.wk = []) (hcw : C.m.wk = []) (hB : B ≤ w.heap.size) :
    Calls Tryz.prog 26 #[.pointer (some ⟨np, 0, none⟩), .int .i64 0, .int .i64 (t : Int), .iface 76 (.pointer (some ⟨L.q, 0, none⟩)), .iface 76 (.pointer (some ⟨C.q, 0, none⟩))] w
      (fun e w' => ∃ D P, Ret (.tuple #[.pointer (some ⟨D, 0, none⟩), .int .i64 0]) (fun w' => Frm [] w w' ∧ DAt w' B T N D P (Ds.new t (L.m, L.g) (C.m, C.g)) ∧ w.heap.size ≤ D ∧ ∀ i, i < 5 → ∀ x ∈ (P i).bl, w.heap.size ≤ x) e w') := by
  have T64 := h.t64
  have t1 := h.t1
  have HN := Lib.hid h
  have HL := Lib.hid hL
  have HC := Lib.hid hC
  clear h hL hC
  have H1 := Lib.hid (copyOf_mv HL.out hlw hB)
  go_enter Tryz.func26, Tryz.ntmps26
  go_wp2_with fail
  refine H1.out.mono ?_
  rintro e w1 ⟨L1, rfl, hF1, hL1, hLm, hLg, hLf⟩
  have HF1 := Lib.hid hF1
  have HL1 := Lib.hid hL1
  have HLm := Lib.hid hLm
  have HLg := Lib.hid hLg
  have HLf := Lib.hid hLf
  have H2 := Lib.hid (copyOf_mv (HC.out.frm0 hF1) hcw (Nat.le_trans hB hF1.size))
  clear hF1 hL1 hLm hLg hLf
  go_wp2_with fail
  refine H2.out.mono ?_
  rintro e w2 ⟨C1, rfl, hF2, hC1, hCm, hCg, hCf⟩
  have HF2 := Lib.hid hF2
  have HC1 := Lib.hid hC1
  have HCm := Lib.hid hCm
  have HCg := Lib.hid hCg
  have HCf := Lib.hid hCf
  have H3 := Lib.hid (newGet (wd := 0) (HN.out.frm (HF1.out.trans hF2)) (by omega) (by decide) (.inl (by decide)) t ht 2 (by decide))
  clear hF2 hC1 hCm hCg hCf
  go_wp2_with fail
  refine H3.out.mono ?_
  rintro e w3 ⟨qg, qge, qgl, rfl, hF3, hG1, hG2, hG3, hG4, hG5, hG6⟩
  have hs2 : B ≤ w2.heap.size := Nat.le_trans hB (HF1.out.trans HF2.out).size
  have HPG := Lib.hid (part_new hF3 hs2 ht (by decide) (by decide) hG1 hG2 hG3 hG4 hG5 hG6)
  have HF3 := Lib.hid hF3
  have H4 := Lib.hid (raise_ok (wd := 0) (HN.out.frm ((HF1.out.trans HF2.out).trans hF3)) (by omega) (by decide) (.inl (by decide)) t ht)
  clear hF3 hG1 hG2 hG3 hG4 hG5 hG6
  go_wp2_with fail
  refine H4.out.mono ?_
  rintro e w4 ⟨qr, qre, qrl, rfl, hF4, hG1, hG2, hG3, hG4, hG5, hG6⟩
  have hs3 : B ≤ w3.heap.size := Nat.le_trans hs2 HF3.out.size
  have HPR := Lib.hid (part_new hF4 hs3 ht (by decide) (by decide) hG1 hG2 hG3 hG4 hG5 hG6)
  have HF4 := Lib.hid hF4
  have H5 := Lib.hid (newBack (wd := 0) (HN.out.frm (((HF1.out.trans HF2.out).trans HF3.out).trans hF4)) (by omega) (by decide) (.inl (by decide)) t ht)
  clear hF4 hG1 hG2 hG3 hG4 hG5 hG6
  go_wp2_with fail
  refine H5.out.mono ?_
  rintro e w5 ⟨qb, qbe, qbl, rfl, hF5, hG1, hG2, hG3, hG4, hG5, hG6⟩
  have hs4 : B ≤ w4.heap.size := Nat.le_trans hs3 HF4.out.size
  have HPB := Lib.hid (part_new hF5 hs4 ht (by decide) (by decide) hG1 hG2 hG3 hG4 hG5 hG6)
  have HF5 := Lib.hid hF5
  clear hF5 hG1 hG2 hG3 hG4 hG5 hG6 H1 H2 H3 H4 H5
  go_wp2
  go_ret2
  have f6 : Frm [] w5 (w5.alloc (.cells #[.iface 76 (.pointer (some ⟨qg, 0, none⟩)), .iface 76 (.pointer (some ⟨L1.q, 0, none⟩)), .iface 76 (.pointer (some ⟨qr, 0, none⟩)), .iface 76 (.pointer (some ⟨C1.q, 0, none⟩)), .iface 76 (.pointer (some ⟨qb, 0, none⟩)), .int .i64 0, .int .u64 0] 85)) := (Frm.refl _ _).alloc _
  have hO : DObj (w5.alloc (.cells #[.iface 76 (.pointer (some ⟨qg, 0, none⟩)), .iface 76 (.pointer (some ⟨L1.q, 0, none⟩)), .iface 76 (.pointer (some ⟨qr, 0, none⟩)), .iface 76 (.pointer (some ⟨C1.q, 0, none⟩)), .iface 76 (.pointer (some ⟨qb, 0, none⟩)), .int .i64 0, .int .u64 0] 85)) w5.heap.size qg L1.q qr C1.q qb 0 0 := ⟨heap_alloc_new _ _⟩
  have f56 := HF5.out.trans f6
  have f456 := HF4.out.trans f56
  have f3456 := HF3.out.trans f456
  have f2456 := HF2.out.trans f3456
  have k1 := HF1.out.size
  have k2 := HF2.out.size
  have k3 := HF3.out.size
  have k4 := HF4.out.size
  have k5 := HF5.out.size
  have hD := dat_new (D := w5.heap.size) (s1 := w1.heap.size) (s2 := w2.heap.size) (s3 := w3.heap.size) (s4 := w4.heap.size) ((HPG.out.1.frm0 f456).more (Nat.zero_le N)) (HL1.out.frm0 f2456) ((HPR.out.1.frm0 f56).more (Nat.zero_le N)) (HC1.out.frm0 f3456) ((HPB.out.1.frm0 f6).more (Nat.zero_le N))
    (fun x hx => HL1.out.lt x hx) (fun x hx => ⟨HCf.out x hx, HC1.out.lt x hx⟩) (fun x hx => ⟨HPG.out.2 x hx, HPG.out.1.lt x hx⟩) (fun x hx => ⟨HPR.out.2 x hx, HPR.out.1.lt x hx⟩) (fun x hx => ⟨HPB.out.2 x hx, HPB.out.1.lt x hx⟩) k2 k3 k4 k5 (Nat.le_trans hs4 k5) hO
  refine ⟨w5.heap.size, (fun i => if i = 0 then Part.mk qg qge qgl none 0 0 (Mv.new 4 0 t 0 2) Gs.new else if i = 1 then L1 else if i = 2 then Part.mk qr qre qrl none 0 0 (Mv.new 4 0 t 2 3) Gs.new else if i = 3 then C1 else Part.mk qb qbe qbl none 0 0 (Mv.new 4 0 t 1 0) Gs.new), rfl, HF1.out.trans f2456, ?_, by omega, ?_⟩
  · rw [HLm.out, HLg.out, HCm.out, HCg.out] at hD
    exact hD
  · intro i hi x hx
    have five : i = 0 ∨ i = 1 ∨ i = 2 ∨ i = 3 ∨ i = 4 := by omega
    rcases five with rfl | rfl | rfl | rfl | rfl
    · have := HPG.out.2 x hx; omega
    · have := HLf.out x hx; omega
    · have := HPR.out.2 x hx; omega
    · have := HCf.out x hx; omega
    · have := HPB.out.2 x hx; omega
set_option maxRecDepth 1000000 in
set_option maxHeartbeats 4000000 in
theorem decide_nil2 {v : Value} (at_ t : Int) (hL : PartAt w B T N L) (hlw : L.m.wk = []) (hB : B ≤ w.heap.size) :
    Calls Tryz.prog 26 #[v, .int .i64 at_, .int .i64 t, .iface 76 (.pointer (some ⟨L.q, 0, none⟩)), .nilIface] w (Ret (.tuple #[.pointer none, .int .i64 1]) (fun w' => Frm [] w w')) := by
  have H1 := Lib.hid (copyOf_mv hL hlw hB)
  clear hL
  go_enter Tryz.func26, Tryz.ntmps26
  go_wp2_with fail
  refine H1.out.mono ?_
  rintro e w1 ⟨L1, rfl, hF1, -, -, -, -⟩
  have HF1 := Lib.hid hF1
  clear hF1 H1
  go_wp2_with fail
  refine copyOf_nil.mono ?_
  rintro e w2 ⟨rfl, hF2⟩
  have HF2 := Lib.hid (HF1.out.trans hF2)
  clear hF2
  go_wp2
  go_ret2
  exact ⟨rfl, HF2.out⟩
set_option maxRecDepth 1000000 in
set_option maxHeartbeats 4000000 in
theorem decide_nil1 {v : Value} (at_ t : Int) (hC : PartAt w B T N C) (hcw : C.m.wk = []) (hB : B ≤ w.heap.size) {x : Value} (hx : x = .nilIface ∨ x = .iface 76 (.pointer none)) :
    Calls Tryz.prog 26 #[v, .int .i64 at_, .int .i64 t, x, .iface 76 (.pointer (some ⟨C.q, 0, none⟩))] w (Ret (.tuple #[.pointer none, .int .i64 1]) (fun w' => Frm [] w w')) := by
  have H1 : Hid (Calls Tryz.prog 49 #[x] w (Ret .nilIface (fun w' => Frm [] w w'))) := Lib.hid (by rcases hx with rfl | rfl; exact copyOf_nil; exact copyOf_none)
  have HC := Lib.hid hC
  clear hC hx
  go_enter Tryz.func26, Tryz.ntmps26
  go_wp2_with fail
  refine H1.out.mono ?_
  rintro e w1 ⟨rfl, hF1⟩
  have HF1 := Lib.hid hF1
  have H2 := Lib.hid (copyOf_mv (HC.out.frm0 hF1) hcw (Nat.le_trans hB hF1.size))
  clear hF1 H1
  go_wp2_with fail
  refine H2.out.mono ?_
  rintro e w2 ⟨C1, rfl, hF2, -, -, -, -⟩
  have HF2 := Lib.hid (HF1.out.trans hF2)
  clear hF2
  go_wp2
  go_ret2
  exact ⟨rfl, HF2.out⟩
set_option maxRecDepth 1000000 in
set_option maxHeartbeats 4000000 in
theorem decide_nil0 {v : Value} (h : Zv w v) (at_ t : Int) (hL : PartAt w B T N L) (hC : PartAt w B T N C) (hlw : L.m.wk = []) (hcw : C.m.wk = []) (hB : B ≤ w.heap.size) :
    Calls Tryz.prog 26 #[v, .int .i64 at_, .int .i64 t, .iface 76 (.pointer (some ⟨L.q, 0, none⟩)), .iface 76 (.pointer (some ⟨C.q, 0, none⟩))] w (Ret (.tuple #[.pointer none, .int .i64 1]) (fun w' => Frm [] w w')) := by
  have H1 := Lib.hid (copyOf_mv hL hlw hB)
  have HC := Lib.hid hC
  have HZ := Lib.hid h
  clear hL hC h
  go_enter Tryz.func26, Tryz.ntmps26
  go_wp2_with fail
  refine H1.out.mono ?_
  rintro e w1 ⟨L1, rfl, hF1, -, -, -, -⟩
  have HF1 := Lib.hid hF1
  have H2 := Lib.hid (copyOf_mv (HC.out.frm0 hF1) hcw (Nat.le_trans hB hF1.size))
  clear hF1 H1
  go_wp2_with fail
  refine H2.out.mono ?_
  rintro e w2 ⟨C1, rfl, hF2, -, -, -, -⟩
  have HF2 := Lib.hid (HF1.out.trans hF2)
  clear hF2
  go_wp2_with fail
  refine (newGet_nil (HZ.out.frm HF2.out) at_ t 2).mono ?_
  rintro e w3 ⟨rfl, hF3⟩
  have HF3 := Lib.hid (HF2.out.trans hF3)
  clear hF3
  go_wp2
  go_ret2
  exact ⟨rfl, HF3.out⟩
end
end Go.Proofs.YticbbfcachnkiaaGreatDoor
