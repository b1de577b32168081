/- Stage 12: ThreadNil. -/
import Derived.Test.YtieccmmnfnpcoaaTin
namespace Go.Proofs.Ytieccmmnfnpcoaa
open Go.ChangeShapes Go.WideShapes Go.ChangeAt Go.RowKit
set_option linter.unusedVariables false
theorem neq_did0 (w : World) : (binOp .neq 64 (.agg #[.int .i64 0, .int .i64 0, .int .i64 0, .int .u64 0, .int .u64 0, .bool false, .bool false]) (.agg #[.int .i64 0, .int .i64 0, .int .i64 0, .int .u64 0, .int .u64 0, .bool false, .bool false])).run Try.prog w = .ok (.bool false) w := by kernel_rfl
set_option maxRecDepth 100000 in
set_option maxHeartbeats 4000000 in
theorem walk_ThreadNil (t : Int) (ht : (Lit.int .i64 t).wf = true) (w : World) : Calls Try.prog 6 #[.int .i64 t] w (Ret (.bool true) (fun w' => Below w.heap.size w w')) := by
  have hnd := neq_did0
  clear ht
  go_enter Try.func6, Try.ntmps6
  go_wp2_with fail
  refine (adds_any _).mono ?_
  rintro e w1 ⟨ga, rfl, hq, hin, hga⟩
  have hal : Frm [] w1 (w1.alloc (.cells #[.slice (some ⟨ga, 0, none⟩) 4 4] 71)) := (Frm.refl _ _).alloc _
  have HPR := Lib.hid (program_any (lsl_one (heap_alloc_new w1 (.cells #[.slice (some ⟨ga, 0, none⟩) 4 4] 71)) (hin.frm0 hal)) (fun l' hl' => by simp at hl'; subst hl'; exact adds_ok) (by omega) (by omega))
  have HF := Lib.hid (hq.trans hal)
  clear hq hin hga hal
  go_wp2_with fail
  refine HPR.out.mono ?_
  rintro e w2 ⟨chc, qc, Bc, rfl, hq, hp, hB⟩
  have hrd : Rd (w2.alloc (.cells #[.int .u64 0] 28)) (.slice (some ⟨w2.heap.size, 0, none⟩) 1 1) (u64s [0]) :=
    .inr ⟨w2.heap.size, 0, 1, rfl, by simp [u64s], by simp, fun i u hu => by rw [Nat.zero_add, cell_of_heap (heap_alloc_new _ _)]; simpa [u64s] using hu⟩
  have HAR := Lib.hid (arena_any hrd (by simp) (by simp))
  have hal : Frm [] w2 (w2.alloc (.cells #[.int .u64 0] 28)) := (Frm.refl _ _).alloc _
  have HF2 := Lib.hid ((HF.out.trans hq).trans hal)
  have HP := Lib.hid (hp.frm0 hal)
  clear hq hp hB hrd hal HF HPR
  go_wp2_with fail
  refine HAR.out.mono ?_
  rintro e w3 ⟨pa, da, ca, rfl, hq, hM, hpa, hda⟩
  have hms := m_Step chc qc
  have hmd := m_Done chc qc
  have hcs := c_Step chc
  have hcd := c_Done chc
  have HF := Lib.hid (HF2.out.trans hq)
  have HP2 := Lib.hid (HP.out.frm0 hq)
  clear hq hM hpa hda HAR HF2 HP
  have HP := HP2
  clear HP2
  have HQ := Lib.hid (pStep_nilmem HP.out)
  go_wp2_with fail
  refine HQ.out.mono ?_
  rintro e w4 ⟨rfl, hq⟩
  have HFx := Lib.hid (HF.out.trans hq)
  have HPx := Lib.hid (HP.out.frm0 hq)
  clear HF HP HQ
  have HF := HFx
  have HP := HPx
  clear HFx HPx
  clear hq
  have HQ := Lib.hid (pDone HP.out)
  go_wp2_with fail
  refine HQ.out.mono ?_
  rintro e w5 ⟨rfl, hq⟩
  have HFx := Lib.hid (HF.out.trans hq)
  have HPx := Lib.hid (HP.out.frm0 hq)
  clear HF HP HQ
  have HF := HFx
  have HP := HPx
  clear HFx HPx
  clear hq
  have HQ := Lib.hid (mnew_nil (w := w5))
  go_wp2_with fail
  refine HQ.out.mono ?_
  rintro e w' ⟨rfl, rfl⟩
  clear HQ
  have hal : Frm [] w5 (w5.alloc (.cells #[.iface (tPg chc) (.pointer (some ⟨qc, 0, none⟩)), .nilIface] 27)) := (Frm.refl _ _).alloc _
  have HQ := Lib.hid (chain_bad2 (HP.out.frm0 hal) (heap_alloc_new w5 (.cells #[.iface (tPg chc) (.pointer (some ⟨qc, 0, none⟩)), .nilIface] 27)))
  have HFx := Lib.hid (HF.out.trans hal)
  have HPx := Lib.hid (HP.out.frm0 hal)
  clear HF HP hal
  go_wp2_with fail
  refine HQ.out.mono ?_
  rintro e w6 ⟨rfl, hq⟩
  have HF := Lib.hid (HFx.out.trans hq)
  have HP := Lib.hid (HPx.out.frm0 hq)
  clear HFx HPx HQ hq
  have hal : Frm [] w6 (w6.alloc (.cells #[.iface 76 (.pointer none)] 27)) := (Frm.refl _ _).alloc _
  have HQ := Lib.hid (chain_bad1 (heap_alloc_new w6 (.cells #[.iface 76 (.pointer none)] 27)))
  have HFx := Lib.hid (HF.out.trans hal)
  have HPx := Lib.hid (HP.out.frm0 hal)
  clear HF HP hal
  go_wp2_with fail
  refine HQ.out.mono ?_
  rintro e w7 ⟨rfl, hq⟩
  have HF := Lib.hid (HFx.out.trans hq)
  have HP := Lib.hid (HPx.out.frm0 hq)
  clear HFx HPx HQ hq
  have ho1 : Frm [] w7 (w7.alloc (.cells #[.slice none 0 0, .int .u64 0, .int .u64 0, .int .u64 0, .int .u64 0, .int .i64 0, .int .u64 0] 89)) := (Frm.refl _ _).alloc _
  have ho2 : Frm [] w7 ((w7.alloc (.cells #[.slice none 0 0, .int .u64 0, .int .u64 0, .int .u64 0, .int .u64 0, .int .i64 0, .int .u64 0] 89)).alloc (.cells #[.pointer none, .pointer (some ⟨w7.heap.size, 0, none⟩)] 76)) := ho1.alloc _
  have hz := heap_alloc_old (.cells #[.pointer none, .pointer (some ⟨w7.heap.size, 0, none⟩)] 76) (heap_alloc_new w7 (.cells #[.slice none 0 0, .int .u64 0, .int .u64 0, .int .u64 0, .int .u64 0, .int .i64 0, .int .u64 0] 89))
  have hr : ((w7.alloc (.cells #[.slice none 0 0, .int .u64 0, .int .u64 0, .int .u64 0, .int .u64 0, .int .i64 0, .int .u64 0] 89)).alloc (.cells #[.pointer none, .pointer (some ⟨w7.heap.size, 0, none⟩)] 76)).heap[w7.heap.size + 1]? = some (.cells #[.pointer none, .pointer (some ⟨w7.heap.size, 0, none⟩)] 76 (0, 0)) := heap_alloc_at _ (by simp)
  have HFx := Lib.hid (HF.out.trans ho2)
  have HPx := Lib.hid (HP.out.frm0 ho2)
  go_wp2_with fail
  generalize (w7.alloc (.cells #[.slice none 0 0, .int .u64 0, .int .u64 0, .int .u64 0, .int .u64 0, .int .i64 0, .int .u64 0] 89)).alloc (.cells #[.pointer none, .pointer (some ⟨w7.heap.size, 0, none⟩)] 76) = y0 at hz hr HFx HPx ⊢
  generalize w7.heap.size = zb at hz hr HFx HPx ⊢
  clear ho1 ho2 HF HP
  have HF := HFx
  have HP := HPx
  have HZ := Lib.hid hz
  have HR := Lib.hid hr
  clear HFx HPx hz hr
  refine wp_loop_rounds 3 ?_
  rw [rounds_succ]
  have hrc : y0.cell? ⟨zb + 1, 0, none⟩ = some (.pointer none) := by rw [cell_of_heap HR.out]; rfl
  have HQ := Lib.hid (zc_step (w := y0) (.inl rfl) (.iface 34 (.pointer (some ⟨pa, 0, none⟩))))
  go_wp2_with fail
  refine HQ.out.mono ?_
  rintro e w8 ⟨rfl, hq⟩
  have HFx := Lib.hid (HF.out.trans hq)
  have HPx := Lib.hid (HP.out.frm0 hq)
  have HRx := Lib.hid (hq.heap HR.out (by simp))
  have HZx := Lib.hid (hq.heap HZ.out (by simp))
  clear HF HP HQ HR HZ hq
  have HF := HFx
  have HP := HPx
  have HR := HRx
  have HZ := HZx
  clear HFx HPx HRx HZx
  clear hrc
  have HQ := Lib.hid (zc_done (w := w8) (.inl rfl))
  go_wp2_with fail
  refine HQ.out.mono ?_
  rintro e w9 ⟨rfl, hq⟩
  have HFx := Lib.hid (HF.out.trans hq)
  have HPx := Lib.hid (HP.out.frm0 hq)
  have HRx := Lib.hid (hq.heap HR.out (by simp))
  have HZx := Lib.hid (hq.heap HZ.out (by simp))
  clear HF HP HQ HR HZ hq
  have HF := HFx
  have HP := HPx
  have HR := HRx
  have HZ := HZx
  clear HFx HPx HRx HZx
  have HQ := Lib.hid (zc_result (w := w9) (.inl rfl))
  go_wp2_with fail
  refine HQ.out.mono ?_
  rintro e w10 ⟨rfl, hq⟩
  have HFx := Lib.hid (HF.out.trans hq)
  have HPx := Lib.hid (HP.out.frm0 hq)
  have HRx := Lib.hid (hq.heap HR.out (by simp))
  have HZx := Lib.hid (hq.heap HZ.out (by simp))
  clear HF HP HQ HR HZ hq
  have HF := HFx
  have HP := HPx
  have HR := HRx
  have HZ := HZx
  clear HFx HPx HRx HZx
  have HQ := Lib.hid (zc_copy (w := w10) (.inl rfl))
  go_wp2_with fail
  refine HQ.out.mono ?_
  rintro e w11 ⟨rfl, hq⟩
  have HFx := Lib.hid (HF.out.trans hq)
  have HPx := Lib.hid (HP.out.frm0 hq)
  have HRx := Lib.hid (hq.heap HR.out (by simp))
  have HZx := Lib.hid (hq.heap HZ.out (by simp))
  clear HF HP HQ HR HZ hq
  have HF := HFx
  have HP := HPx
  have HR := HRx
  have HZ := HZx
  clear HFx HPx HRx HZx
  go_wp2_with fail
  rw [rounds_succ]
  have hrc : w11.cell? ⟨zb + 1, 1, none⟩ = some (.pointer (some ⟨zb, 0, none⟩)) := by rw [cell_of_heap HR.out]; rfl
  have HQ := Lib.hid (zc_step (w := w11) (.inr ⟨zb, rfl, HZ.out⟩) (.iface 34 (.pointer (some ⟨pa, 0, none⟩))))
  go_wp2_with fail
  refine HQ.out.mono ?_
  rintro e w12 ⟨rfl, hq⟩
  have HFx := Lib.hid (HF.out.trans hq)
  have HPx := Lib.hid (HP.out.frm0 hq)
  have HRx := Lib.hid (hq.heap HR.out (by simp))
  have HZx := Lib.hid (hq.heap HZ.out (by simp))
  clear HF HP HQ HR HZ hq
  have HF := HFx
  have HP := HPx
  have HR := HRx
  have HZ := HZx
  clear HFx HPx HRx HZx
  clear hrc
  have HQ := Lib.hid (zc_done (w := w12) (.inr ⟨zb, rfl, HZ.out⟩))
  go_wp2_with fail
  refine HQ.out.mono ?_
  rintro e w13 ⟨rfl, hq⟩
  have HFx := Lib.hid (HF.out.trans hq)
  have HPx := Lib.hid (HP.out.frm0 hq)
  have HRx := Lib.hid (hq.heap HR.out (by simp))
  have HZx := Lib.hid (hq.heap HZ.out (by simp))
  clear HF HP HQ HR HZ hq
  have HF := HFx
  have HP := HPx
  have HR := HRx
  have HZ := HZx
  clear HFx HPx HRx HZx
  have HQ := Lib.hid (zc_result (w := w13) (.inr ⟨zb, rfl, HZ.out⟩))
  go_wp2_with fail
  refine HQ.out.mono ?_
  rintro e w14 ⟨rfl, hq⟩
  have HFx := Lib.hid (HF.out.trans hq)
  have HPx := Lib.hid (HP.out.frm0 hq)
  have HRx := Lib.hid (hq.heap HR.out (by simp))
  have HZx := Lib.hid (hq.heap HZ.out (by simp))
  clear HF HP HQ HR HZ hq
  have HF := HFx
  have HP := HPx
  have HR := HRx
  have HZ := HZx
  clear HFx HPx HRx HZx
  have HQ := Lib.hid (zc_copy (w := w14) (.inr ⟨zb, rfl, HZ.out⟩))
  go_wp2_with fail
  refine HQ.out.mono ?_
  rintro e w15 ⟨rfl, hq⟩
  have HFx := Lib.hid (HF.out.trans hq)
  have HPx := Lib.hid (HP.out.frm0 hq)
  have HRx := Lib.hid (hq.heap HR.out (by simp))
  have HZx := Lib.hid (hq.heap HZ.out (by simp))
  clear HF HP HQ HR HZ hq
  have HF := HFx
  have HP := HPx
  have HR := HRx
  have HZ := HZx
  clear HFx HPx HRx HZx
  go_wp2_with fail
  rw [rounds_succ]
  have ho1 : Frm [] w15 (w15.alloc (.cells #[.pointer none, .slice none 0 0] 93)) := (Frm.refl _ _).alloc _
  have ho2 : Frm [] w15 ((w15.alloc (.cells #[.pointer none, .slice none 0 0] 93)).alloc (.cells #[.pointer none, .pointer (some ⟨w15.heap.size, 0, none⟩)] 52)) := ho1.alloc _
  have hz := heap_alloc_old (.cells #[.pointer none, .pointer (some ⟨w15.heap.size, 0, none⟩)] 52) (heap_alloc_new w15 (.cells #[.pointer none, .slice none 0 0] 93))
  have hr : ((w15.alloc (.cells #[.pointer none, .slice none 0 0] 93)).alloc (.cells #[.pointer none, .pointer (some ⟨w15.heap.size, 0, none⟩)] 52)).heap[w15.heap.size + 1]? = some (.cells #[.pointer none, .pointer (some ⟨w15.heap.size, 0, none⟩)] 52 (0, 0)) := heap_alloc_at _ (by simp)
  have HFx := Lib.hid (HF.out.trans ho2)
  have HPx := Lib.hid (HP.out.frm0 ho2)
  clear HR HZ
  go_wp2_with fail
  generalize (w15.alloc (.cells #[.pointer none, .slice none 0 0] 93)).alloc (.cells #[.pointer none, .pointer (some ⟨w15.heap.size, 0, none⟩)] 52) = y1 at hz hr HFx HPx ⊢
  generalize w15.heap.size = zm at hz hr HFx HPx ⊢
  clear ho1 ho2 HF HP
  have HF := HFx
  have HP := HPx
  have HZ := Lib.hid hz
  have HR := Lib.hid hr
  clear HFx HPx hz hr
  refine wp_loop_rounds 3 ?_
  rw [rounds_succ]
  have hrc : y1.cell? ⟨zm + 1, 0, none⟩ = some (.pointer none) := by rw [cell_of_heap HR.out]; rfl
  have HQ := Lib.hid (zm_add (w := y1) (.inl rfl) HP.out)
  go_wp2_with fail
  refine HQ.out.mono ?_
  rintro e w16 ⟨rfl, hq⟩
  have HFx := Lib.hid (HF.out.trans hq)
  have HPx := Lib.hid (HP.out.frm0 hq)
  have HRx := Lib.hid (hq.heap HR.out (by simp))
  have HZx := Lib.hid (hq.heap HZ.out (by simp))
  clear HF HP HQ HR HZ hq
  have HF := HFx
  have HP := HPx
  have HR := HRx
  have HZ := HZx
  clear HFx HPx HRx HZx
  clear hrc
  have HQ := Lib.hid (zm_step (w := w16) (.inl rfl) t)
  go_wp2_with fail
  refine HQ.out.mono ?_
  rintro e w17 ⟨rfl, hq⟩
  have HFx := Lib.hid (HF.out.trans hq)
  have HPx := Lib.hid (HP.out.frm0 hq)
  have HRx := Lib.hid (hq.heap HR.out (by simp))
  have HZx := Lib.hid (hq.heap HZ.out (by simp))
  clear HF HP HQ HR HZ hq
  have HF := HFx
  have HP := HPx
  have HR := HRx
  have HZ := HZx
  clear HFx HPx HRx HZx
  have ha1 : Frm [] w17 (w17.alloc (.cells #[.int .i64 0, .int .i64 0, .int .i64 0, .int .u64 0, .int .u64 0, .bool false, .bool false] 64)) := (Frm.refl _ _).alloc _
  have hd := heap_alloc_new w17 (.cells #[.int .i64 0, .int .i64 0, .int .i64 0, .int .u64 0, .int .u64 0, .bool false, .bool false] 64)
  have ha2 : Frm [] (w17.alloc (.cells #[.int .i64 0, .int .i64 0, .int .i64 0, .int .u64 0, .int .u64 0, .bool false, .bool false] 64)) ((w17.alloc (.cells #[.int .i64 0, .int .i64 0, .int .i64 0, .int .u64 0, .int .u64 0, .bool false, .bool false] 64)).alloc (.cells #[.int .i64 t] 3)) := (Frm.refl _ _).alloc _
  have hd2 := ha2.heap hd (by simp)
  have ha := ha1.trans ha2
  have HFx := Lib.hid (HF.out.trans ha)
  have HPx := Lib.hid (HP.out.frm0 ha)
  have HRx := Lib.hid (ha.heap HR.out (by simp))
  have HZx := Lib.hid (ha.heap HZ.out (by simp))
  clear HF HP HR HZ ha1 ha2 ha hd
  have HF := HFx
  have HP := HPx
  have HR := HRx
  have HZ := HZx
  clear HFx HPx HRx HZx
  go_wp2_with fail
  generalize (w17.alloc (.cells #[.int .i64 0, .int .i64 0, .int .i64 0, .int .u64 0, .int .u64 0, .bool false, .bool false] 64)).alloc (.cells #[.int .i64 t] 3) = x0 at hd2 HF HP HR HZ ⊢
  generalize w17.heap.size = db0 at hd2 ⊢
  have HD := Lib.hid hd2
  clear hd2
  have HQ := Lib.hid (zm_run (w := x0) (.inl rfl) (.slice (some ⟨db0 + 1, 0, none⟩) 1 1))
  refine HQ.out.mono ?_
  rintro e w' ⟨rfl, rfl⟩
  clear HQ
  obtain ⟨d0, d1, d2, d3, d4, d5, d6⟩ := cells7 HD.out
  have HQ := Lib.hid (zm_put (w := x0) (.inl rfl) t HP.out)
  go_wp2_with fail
  refine HQ.out.mono ?_
  rintro e w18 ⟨rfl, hq⟩
  have HFx := Lib.hid (HF.out.trans hq)
  have HPx := Lib.hid (HP.out.frm0 hq)
  have HRx := Lib.hid (hq.heap HR.out (by simp))
  have HZx := Lib.hid (hq.heap HZ.out (by simp))
  clear HF HP HQ HR HZ hq
  have HF := HFx
  have HP := HPx
  have HR := HRx
  have HZ := HZx
  clear HFx HPx HRx HZx
  clear d0 d1 d2 d3 d4 d5 d6 HD
  have HQ := Lib.hid (zm_waits (w := w18) (.inl rfl) t)
  go_wp2_with fail
  refine HQ.out.mono ?_
  rintro e w' ⟨rfl, rfl⟩
  clear HQ
  have HQ := Lib.hid (zm_stuck (w := w18) (.inl rfl))
  go_wp2_with fail
  refine HQ.out.mono ?_
  rintro e w' ⟨rfl, rfl⟩
  clear HQ
  have HQ := Lib.hid (zm_threads (w := w18) (.inl rfl))
  go_wp2_with fail
  refine HQ.out.mono ?_
  rintro e w' ⟨rfl, rfl⟩
  clear HQ
  have HQ := Lib.hid (zm_done (w := w18) (.inl rfl) t)
  go_wp2_with fail
  refine HQ.out.mono ?_
  rintro e w' ⟨rfl, rfl⟩
  clear HQ
  have HQ := Lib.hid (zm_result (w := w18) (.inl rfl) t)
  go_wp2_with fail
  refine HQ.out.mono ?_
  rintro e w' ⟨rfl, rfl⟩
  clear HQ
  have HQ := Lib.hid (zm_steps (w := w18) (.inl rfl) t)
  go_wp2_with fail
  refine HQ.out.mono ?_
  rintro e w' ⟨rfl, rfl⟩
  clear HQ
  have HQ := Lib.hid (zm_looks (w := w18) (.inl rfl) t)
  go_wp2_with fail
  refine HQ.out.mono ?_
  rintro e w' ⟨rfl, rfl⟩
  clear HQ
  have HQ := Lib.hid (zm_program (w := w18) (.inl rfl) t)
  go_wp2_with fail
  refine HQ.out.mono ?_
  rintro e w' ⟨rfl, rfl⟩
  clear HQ
  have HQ := Lib.hid (zm_mem (w := w18) (.inl rfl))
  go_wp2_with fail
  refine HQ.out.mono ?_
  rintro e w' ⟨rfl, rfl⟩
  clear HQ
  have HQ := Lib.hid (zm_copy (w := w18) (.inl rfl))
  go_wp2_with fail
  refine HQ.out.mono ?_
  rintro e w' ⟨rfl, rfl⟩
  clear HQ
  go_wp2_with fail
  rw [rounds_succ]
  have hrc : w18.cell? ⟨zm + 1, 1, none⟩ = some (.pointer (some ⟨zm, 0, none⟩)) := by rw [cell_of_heap HR.out]; rfl
  have HQ := Lib.hid (zm_add (w := w18) (.inr ⟨zm, rfl, HZ.out⟩) HP.out)
  go_wp2_with fail
  refine HQ.out.mono ?_
  rintro e w19 ⟨rfl, hq⟩
  have HFx := Lib.hid (HF.out.trans hq)
  have HPx := Lib.hid (HP.out.frm0 hq)
  have HRx := Lib.hid (hq.heap HR.out (by simp))
  have HZx := Lib.hid (hq.heap HZ.out (by simp))
  clear HF HP HQ HR HZ hq
  have HF := HFx
  have HP := HPx
  have HR := HRx
  have HZ := HZx
  clear HFx HPx HRx HZx
  clear hrc
  have HQ := Lib.hid (zm_step (w := w19) (.inr ⟨zm, rfl, HZ.out⟩) t)
  go_wp2_with fail
  refine HQ.out.mono ?_
  rintro e w20 ⟨rfl, hq⟩
  have HFx := Lib.hid (HF.out.trans hq)
  have HPx := Lib.hid (HP.out.frm0 hq)
  have HRx := Lib.hid (hq.heap HR.out (by simp))
  have HZx := Lib.hid (hq.heap HZ.out (by simp))
  clear HF HP HQ HR HZ hq
  have HF := HFx
  have HP := HPx
  have HR := HRx
  have HZ := HZx
  clear HFx HPx HRx HZx
  have ha1 : Frm [] w20 (w20.alloc (.cells #[.int .i64 0, .int .i64 0, .int .i64 0, .int .u64 0, .int .u64 0, .bool false, .bool false] 64)) := (Frm.refl _ _).alloc _
  have hd := heap_alloc_new w20 (.cells #[.int .i64 0, .int .i64 0, .int .i64 0, .int .u64 0, .int .u64 0, .bool false, .bool false] 64)
  have ha2 : Frm [] (w20.alloc (.cells #[.int .i64 0, .int .i64 0, .int .i64 0, .int .u64 0, .int .u64 0, .bool false, .bool false] 64)) ((w20.alloc (.cells #[.int .i64 0, .int .i64 0, .int .i64 0, .int .u64 0, .int .u64 0, .bool false, .bool false] 64)).alloc (.cells #[.int .i64 t] 3)) := (Frm.refl _ _).alloc _
  have hd2 := ha2.heap hd (by simp)
  have ha := ha1.trans ha2
  have HFx := Lib.hid (HF.out.trans ha)
  have HPx := Lib.hid (HP.out.frm0 ha)
  have HRx := Lib.hid (ha.heap HR.out (by simp))
  have HZx := Lib.hid (ha.heap HZ.out (by simp))
  clear HF HP HR HZ ha1 ha2 ha hd
  have HF := HFx
  have HP := HPx
  have HR := HRx
  have HZ := HZx
  clear HFx HPx HRx HZx
  go_wp2_with fail
  generalize (w20.alloc (.cells #[.int .i64 0, .int .i64 0, .int .i64 0, .int .u64 0, .int .u64 0, .bool false, .bool false] 64)).alloc (.cells #[.int .i64 t] 3) = x1 at hd2 HF HP HR HZ ⊢
  generalize w20.heap.size = db1 at hd2 ⊢
  have HD := Lib.hid hd2
  clear hd2
  have HQ := Lib.hid (zm_run (w := x1) (.inr ⟨zm, rfl, HZ.out⟩) (.slice (some ⟨db1 + 1, 0, none⟩) 1 1))
  refine HQ.out.mono ?_
  rintro e w' ⟨rfl, rfl⟩
  clear HQ
  obtain ⟨d0, d1, d2, d3, d4, d5, d6⟩ := cells7 HD.out
  have HQ := Lib.hid (zm_put (w := x1) (.inr ⟨zm, rfl, HZ.out⟩) t HP.out)
  go_wp2_with fail
  refine HQ.out.mono ?_
  rintro e w21 ⟨rfl, hq⟩
  have HFx := Lib.hid (HF.out.trans hq)
  have HPx := Lib.hid (HP.out.frm0 hq)
  have HRx := Lib.hid (hq.heap HR.out (by simp))
  have HZx := Lib.hid (hq.heap HZ.out (by simp))
  clear HF HP HQ HR HZ hq
  have HF := HFx
  have HP := HPx
  have HR := HRx
  have HZ := HZx
  clear HFx HPx HRx HZx
  clear d0 d1 d2 d3 d4 d5 d6 HD
  have HQ := Lib.hid (zm_waits (w := w21) (.inr ⟨zm, rfl, HZ.out⟩) t)
  go_wp2_with fail
  refine HQ.out.mono ?_
  rintro e w' ⟨rfl, rfl⟩
  clear HQ
  have HQ := Lib.hid (zm_stuck (w := w21) (.inr ⟨zm, rfl, HZ.out⟩))
  go_wp2_with fail
  refine HQ.out.mono ?_
  rintro e w' ⟨rfl, rfl⟩
  clear HQ
  have HQ := Lib.hid (zm_threads (w := w21) (.inr ⟨zm, rfl, HZ.out⟩))
  go_wp2_with fail
  refine HQ.out.mono ?_
  rintro e w' ⟨rfl, rfl⟩
  clear HQ
  have HQ := Lib.hid (zm_done (w := w21) (.inr ⟨zm, rfl, HZ.out⟩) t)
  go_wp2_with fail
  refine HQ.out.mono ?_
  rintro e w' ⟨rfl, rfl⟩
  clear HQ
  have HQ := Lib.hid (zm_result (w := w21) (.inr ⟨zm, rfl, HZ.out⟩) t)
  go_wp2_with fail
  refine HQ.out.mono ?_
  rintro e w' ⟨rfl, rfl⟩
  clear HQ
  have HQ := Lib.hid (zm_steps (w := w21) (.inr ⟨zm, rfl, HZ.out⟩) t)
  go_wp2_with fail
  refine HQ.out.mono ?_
  rintro e w' ⟨rfl, rfl⟩
  clear HQ
  have HQ := Lib.hid (zm_looks (w := w21) (.inr ⟨zm, rfl, HZ.out⟩) t)
  go_wp2_with fail
  refine HQ.out.mono ?_
  rintro e w' ⟨rfl, rfl⟩
  clear HQ
  have HQ := Lib.hid (zm_program (w := w21) (.inr ⟨zm, rfl, HZ.out⟩) t)
  go_wp2_with fail
  refine HQ.out.mono ?_
  rintro e w' ⟨rfl, rfl⟩
  clear HQ
  have HQ := Lib.hid (zm_mem (w := w21) (.inr ⟨zm, rfl, HZ.out⟩))
  go_wp2_with fail
  refine HQ.out.mono ?_
  rintro e w' ⟨rfl, rfl⟩
  clear HQ
  have HQ := Lib.hid (zm_copy (w := w21) (.inr ⟨zm, rfl, HZ.out⟩))
  go_wp2_with fail
  refine HQ.out.mono ?_
  rintro e w' ⟨rfl, rfl⟩
  clear HQ
  go_wp2_with fail
  rw [rounds_succ]
  go_wp2_with fail
  refine (known_true _).mono ?_
  rintro e wz ⟨rfl, hq⟩
  have HFx := Lib.hid (HF.out.trans hq)
  clear hq
  go_wp2
  go_ret
  exact ⟨rfl, HFx.out.below (Nat.le_refl _) (by simp)⟩
end Go.Proofs.Ytieccmmnfnpcoaa
