/- The law's known. (By gen_veq.py.) -/
import Derived.Test.YtbhnijkphkkalaaVeQ1
namespace Go.Proofs.Ytbhnijkphkkalaa
open Go.ChangeShapes Go.WideShapes Go.ChangeAt Go.RowKit
set_option linter.unusedVariables false
set_option maxRecDepth 100000 in
set_option maxHeartbeats 8000000 in
theorem known_true (w : World) : Calls Try.prog 8 #[] w (Ret (.bool true) (fun w' => Frm [] w w')) := by
  have hmk : ∀ w, (Instr.makeSlice 23 (.int .i64 8) (.int .i64 8)).run Try.prog w = .ok (.slice (some ⟨w.heap.size, 0, none⟩) 8 8) (w.alloc (.cells (u64s [0, 0, 0, 0, 0, 0, 0, 0]).toArray 22)) := fun w => make_u64 8 (by omega) w
  obtain ⟨V, hV⟩ : ∃ V, V = (w.alloc (.cells (u64s [0, 0, 0, 0, 0, 0, 0, 0]).toArray 22)) := ⟨_, rfl⟩
  have hFV : Frm [] w V := by rw [hV]; exact (Frm.refl _ _).alloc _
  have hVb : V.heap[w.heap.size]? = some (.cells (u64s [0, 0, 0, 0, 0, 0, 0, 0]).toArray 22 (0, 0)) := by rw [hV]; exact heap_alloc_new _ _
  have H0 := Lib.hid (made_any (rd_u64 (n := 8) (by simp) hVb) (by simp) (by simp))
  have HFV := Lib.hid hFV
  have HV := Lib.hid hV
  clear hFV hVb hV
  go_enter Try.func8, Try.ntmps8
  go_wp2_with fail
  rw [← HV.out]
  clear hmk HV
  refine H0.out.mono ?_
  rintro e w1 ⟨p, d, c, rfl, hF, hM, hp, hd⟩
  clear H0
  have hFw : Frm [] w w1 := HFV.out.trans hF
  have HF1 := Lib.hid hFw
  have HM1 : Hid (MemAt w1 p d c [0, 0, 0, 0, 0, 0, 0, 0]) := Lib.hid hM
  have hpw : w.heap.size ≤ p := Nat.le_trans HFV.out.size hp
  have hdw : w.heap.size ≤ d := Nat.le_trans HFV.out.size hd
  clear hF hM hp hd hFw HFV
  have hMX1 : MemAt (w1.alloc (.cells #[.int .u64 7, .int .u64 8] 22)) p d c [0, 0, 0, 0, 0, 0, 0, 0] := HM1.out.alloc _
  have HX1 := Lib.hid (write_yes (li_u64 (w := w1.alloc (.cells #[.int .u64 7, .int .u64 8] 22)) (n := 2) (l := [7, 8]) rfl (heap_alloc_new _ _)) 0 2 (by decide))
  have HMX1 := Lib.hid hMX1
  clear hMX1
  go_wp2_with fail
  refine HX1.out.mono ?_
  rintro e w2 ⟨qa1, ba1, rfl, hF, hP, hq, hb⟩
  have HA1 : Hid (Sit w2 p d c qa1 ba1 2 ⟨false, 0, 2, [7, 8], 0, 1, 0, 0, 0⟩ [0, 0, 0, 0, 0, 0, 0, 0]) := Lib.hid (Sit.new HMX1.out hF hP hq hb (Ok.new false 0 2 [7, 8] 0 (fun h => by cases h)) (by decide) (by decide))
  have HF2 : Hid (Frm [] w w2) := Lib.hid ((HF1.out.alloc _).trans hF)
  have hqa1 : w.heap.size ≤ qa1 := Nat.le_trans (HF1.out.alloc _).size hq
  have hba1 : w.heap.size ≤ ba1 := Nat.le_trans (HF1.out.alloc _).size hb
  clear hF hP hq hb HX1 HMX1 HF1
  have HR1 := Lib.hid (read_yes 0 1 3 1 w2 (by decide) (by decide))
  go_wp2_with fail
  refine HR1.out.mono ?_
  rintro e w3 ⟨qb1, bb1, rfl, hF, hP, hq, hb⟩
  have HB1 : Hid (Sit w3 p d c qb1 bb1 3 ⟨true, 0, 1, [0, 0, 0], 0, 1, 0, 0, 1⟩ [0, 0, 0, 0, 0, 0, 0, 0]) := Lib.hid (Sit.new HA1.out.mem hF hP hq hb (Ok.new true 0 1 [0, 0, 0] 1 (fun _ => by decide)) (by decide) (by decide))
  have hne1 : qb1 ≠ qa1 ∧ qb1 ≠ ba1 ∧ bb1 ≠ qa1 ∧ bb1 ≠ ba1 := by have := HA1.out.pg.lt; exact ⟨by omega, by omega, by omega, by omega⟩
  have HA1' := Lib.hid (HA1.out.frm0 hF)
  have HF3 : Hid (Frm [] w w3) := Lib.hid (HF2.out.trans hF)
  have hqb1 : w.heap.size ≤ qb1 := Nat.le_trans HF2.out.size hq
  have hbb1 : w.heap.size ≤ bb1 := Nat.le_trans HF2.out.size hb
  clear hF hP hq hb HR1 HF2 HA1
  have HA1 := Lib.hid HA1'.out
  clear HA1'
  have HG := Lib.hid (ends_lit 5 rfl HA1.out (by decide) (ends_of kn1))
  go_wp2_with fail
  refine HG.out.mono ?_
  rintro e w4 ⟨rfl, hF, hS⟩
  have HO := Lib.hid (HB1.out.other hF hS hne1.1 hne1.2.1 hne1.2.2.1 hne1.2.2.2)
  have HF4 : Hid (Frm [] w w4) := Lib.hid (HF3.out.trans_new hF (by simp only [List.mem_cons, List.not_mem_nil, or_false]; rintro x (rfl | rfl | rfl) <;> right <;> omega))
  clear HB1 HA1 HF3 HG
  have HA1 := Lib.hid hS
  have HB1 := Lib.hid HO.out
  clear hF hS HO
  have HG := Lib.hid (ends_lit 5 rfl HB1.out (by decide) (ends_of kn2))
  go_wp2_with fail
  refine HG.out.mono ?_
  rintro e w5 ⟨rfl, hF, hS⟩
  have HO := Lib.hid (HA1.out.other hF hS hne1.1.symm hne1.2.2.1.symm hne1.2.1.symm hne1.2.2.2.symm)
  have HF5 : Hid (Frm [] w w5) := Lib.hid (HF4.out.trans_new hF (by simp only [List.mem_cons, List.not_mem_nil, or_false]; rintro x (rfl | rfl | rfl) <;> right <;> omega))
  clear HA1 HB1 HF4 HG
  have HB1 := Lib.hid hS
  have HA1 := Lib.hid HO.out
  clear hF hS HO
  have HG := Lib.hid (Words_1 HB1.out.pg)
  go_wp2_with fail
  refine HG.out.mono ?_
  rintro e w6 ⟨gw, cw, rfl, hF, hS⟩
  have hr1 := (hS.rd).frm ((Frm.refl [] w6).alloc (.cells #[.int .u64 0, .int .u64 7, .int .u64 8] 22)) (by simp)
  have hr2 := rd_u64 (w := w6.alloc (.cells #[.int .u64 0, .int .u64 7, .int .u64 8] 22)) (n := 3) (l := [0, 7, 8]) rfl (heap_alloc_new _ _)
  have HS2 := Lib.hid (same_any hr1 hr2 (by decide) (by decide))
  have hFF : Frm [] w5 (w6.alloc (.cells #[.int .u64 0, .int .u64 7, .int .u64 8] 22)) := hF.alloc _
  have HFF := Lib.hid hFF
  clear hF hS hr1 hr2 hFF HG
  go_wp2_with fail
  refine HS2.out.mono ?_
  rintro e w7 ⟨m2, rfl, hw⟩
  have hF : Frm [] w5 w7 := by rw [hw]; exact HFF.out.drewN _
  have HB1' := Lib.hid (HB1.out.frm0 hF)
  have HA1' := Lib.hid (HA1.out.frm0 hF)
  have HF7 : Hid (Frm [] w w7) := Lib.hid (HF5.out.trans hF)
  clear HS2 HFF hw hF HA1 HB1 HF5
  have HA1 := Lib.hid HA1'.out
  have HB1 := Lib.hid HB1'.out
  clear HA1' HB1'
  have HG := Lib.hid (Version_1 HB1.out.pg)
  go_wp2_with fail
  refine HG.out.mono ?_
  rintro e w' ⟨rfl, rfl⟩
  clear HG
  have hMX2 : MemAt (w7.alloc (.cells #[.int .u64 1, .int .u64 2] 22)) p d c [2, 0, 7, 8, 0, 0, 0, 0] := HA1.out.mem.alloc _
  have HX2 := Lib.hid (write_yes (li_u64 (w := w7.alloc (.cells #[.int .u64 1, .int .u64 2] 22)) (n := 2) (l := [1, 2]) rfl (heap_alloc_new _ _)) 0 2 (by decide))
  have HMX2 := Lib.hid hMX2
  clear hMX2
  go_wp2_with fail
  refine HX2.out.mono ?_
  rintro e w8 ⟨qa2, ba2, rfl, hF, hP, hq, hb⟩
  have HA2 : Hid (Sit w8 p d c qa2 ba2 2 ⟨false, 0, 2, [1, 2], 0, 1, 0, 0, 0⟩ [2, 0, 7, 8, 0, 0, 0, 0]) := Lib.hid (Sit.new HMX2.out hF hP hq hb (Ok.new false 0 2 [1, 2] 0 (fun h => by cases h)) (by decide) (by decide))
  have HF8 : Hid (Frm [] w w8) := Lib.hid ((HF7.out.alloc _).trans hF)
  have hqa2 : w.heap.size ≤ qa2 := Nat.le_trans (HF7.out.alloc _).size hq
  have hba2 : w.heap.size ≤ ba2 := Nat.le_trans (HF7.out.alloc _).size hb
  clear hF hP hq hb HX2 HMX2 HF7
  clear HA1 HB1 hne1
  have HR2 := Lib.hid (read_yes 0 2 2 2 w8 (by decide) (by decide))
  go_wp2_with fail
  refine HR2.out.mono ?_
  rintro e w9 ⟨qb2, bb2, rfl, hF, hP, hq, hb⟩
  have HB2 : Hid (Sit w9 p d c qb2 bb2 2 ⟨true, 0, 2, [0, 0], 0, 1, 0, 0, 2⟩ [2, 0, 7, 8, 0, 0, 0, 0]) := Lib.hid (Sit.new HA2.out.mem hF hP hq hb (Ok.new true 0 2 [0, 0] 2 (fun _ => by decide)) (by decide) (by decide))
  have hne2 : qb2 ≠ qa2 ∧ qb2 ≠ ba2 ∧ bb2 ≠ qa2 ∧ bb2 ≠ ba2 := by have := HA2.out.pg.lt; exact ⟨by omega, by omega, by omega, by omega⟩
  have HA2' := Lib.hid (HA2.out.frm0 hF)
  have HF9 : Hid (Frm [] w w9) := Lib.hid (HF8.out.trans hF)
  have hqb2 : w.heap.size ≤ qb2 := Nat.le_trans HF8.out.size hq
  have hbb2 : w.heap.size ≤ bb2 := Nat.le_trans HF8.out.size hb
  clear hF hP hq hb HR2 HF8 HA2
  have HA2 := Lib.hid HA2'.out
  clear HA2'
  have HG := Lib.hid (steps_lit 2 rfl HA2.out (by decide) (stps_of kn3))
  go_wp2_with fail
  refine HG.out.mono ?_
  rintro e w10 ⟨rfl, hF, hS⟩
  have HO := Lib.hid (HB2.out.other hF hS hne2.1 hne2.2.1 hne2.2.2.1 hne2.2.2.2)
  have HF10 : Hid (Frm [] w w10) := Lib.hid (HF9.out.trans_new hF (by simp only [List.mem_cons, List.not_mem_nil, or_false]; rintro x (rfl | rfl | rfl) <;> right <;> omega))
  clear HB2 HA2 HF9 HG
  have HA2 := Lib.hid hS
  have HB2 := Lib.hid HO.out
  clear hF hS HO
  have HG := Lib.hid (HB2.out.stepR kn4)
  go_wp2_with fail
  refine HG.out.mono ?_
  rintro e w11 ⟨rfl, hF, hS⟩
  have HO := Lib.hid (HA2.out.other hF hS hne2.1.symm hne2.2.2.1.symm hne2.2.1.symm hne2.2.2.2.symm)
  have HF11 : Hid (Frm [] w w11) := Lib.hid (HF10.out.trans_new hF (by simp only [List.mem_cons, List.not_mem_nil, or_false]; rintro x (rfl | rfl | rfl) <;> right <;> omega))
  clear HA2 HB2 HF10 HG
  have HB2 := Lib.hid hS
  have HA2 := Lib.hid HO.out
  clear hF hS HO
  have HG := Lib.hid (ends_lit 3 rfl HA2.out (by decide) (ends_of kn5))
  go_wp2_with fail
  refine HG.out.mono ?_
  rintro e w12 ⟨rfl, hF, hS⟩
  have HO := Lib.hid (HB2.out.other hF hS hne2.1 hne2.2.1 hne2.2.2.1 hne2.2.2.2)
  have HF12 : Hid (Frm [] w w12) := Lib.hid (HF11.out.trans_new hF (by simp only [List.mem_cons, List.not_mem_nil, or_false]; rintro x (rfl | rfl | rfl) <;> right <;> omega))
  clear HB2 HA2 HF11 HG
  have HA2 := Lib.hid hS
  have HB2 := Lib.hid HO.out
  clear hF hS HO
  have HG := Lib.hid (ends_lit 4 rfl HB2.out (by decide) (ends_of kn6))
  go_wp2_with fail
  refine HG.out.mono ?_
  rintro e w13 ⟨rfl, hF, hS⟩
  have HO := Lib.hid (HA2.out.other hF hS hne2.1.symm hne2.2.2.1.symm hne2.2.1.symm hne2.2.2.2.symm)
  have HF13 : Hid (Frm [] w w13) := Lib.hid (HF12.out.trans_new hF (by simp only [List.mem_cons, List.not_mem_nil, or_false]; rintro x (rfl | rfl | rfl) <;> right <;> omega))
  clear HA2 HB2 HF12 HG
  have HB2 := Lib.hid hS
  have HA2 := Lib.hid HO.out
  clear hF hS HO
  have HG := Lib.hid (Words_1 HB2.out.pg)
  go_wp2_with fail
  refine HG.out.mono ?_
  rintro e w14 ⟨gw, cw, rfl, hF, hS⟩
  have hr1 := (hS.rd).frm ((Frm.refl [] w14).alloc (.cells #[.int .u64 1, .int .u64 2] 22)) (by simp)
  have hr2 := rd_u64 (w := w14.alloc (.cells #[.int .u64 1, .int .u64 2] 22)) (n := 2) (l := [1, 2]) rfl (heap_alloc_new _ _)
  have HS2 := Lib.hid (same_any hr1 hr2 (by decide) (by decide))
  have hFF : Frm [] w13 (w14.alloc (.cells #[.int .u64 1, .int .u64 2] 22)) := hF.alloc _
  have HFF := Lib.hid hFF
  clear hF hS hr1 hr2 hFF HG
  go_wp2_with fail
  refine HS2.out.mono ?_
  rintro e w15 ⟨m2, rfl, hw⟩
  have hF : Frm [] w13 w15 := by rw [hw]; exact HFF.out.drewN _
  have HB2' := Lib.hid (HB2.out.frm0 hF)
  have HA2' := Lib.hid (HA2.out.frm0 hF)
  have HF15 : Hid (Frm [] w w15) := Lib.hid (HF13.out.trans hF)
  clear HS2 HFF hw hF HA2 HB2 HF13
  have HA2 := Lib.hid HA2'.out
  have HB2 := Lib.hid HB2'.out
  clear HA2' HB2'
  have HG := Lib.hid (Version_1 HB2.out.pg)
  go_wp2_with fail
  refine HG.out.mono ?_
  rintro e w' ⟨rfl, rfl⟩
  clear HG
  have hMX3 : MemAt (w15.alloc (.cells #[.int .u64 5, .int .u64 6] 22)) p d c [4, 0, 1, 2, 0, 0, 0, 0] := HA2.out.mem.alloc _
  have HX3 := Lib.hid (write_yes (li_u64 (w := w15.alloc (.cells #[.int .u64 5, .int .u64 6] 22)) (n := 2) (l := [5, 6]) rfl (heap_alloc_new _ _)) 0 2 (by decide))
  have HMX3 := Lib.hid hMX3
  clear hMX3
  go_wp2_with fail
  refine HX3.out.mono ?_
  rintro e w16 ⟨qa3, ba3, rfl, hF, hP, hq, hb⟩
  have HA3 : Hid (Sit w16 p d c qa3 ba3 2 ⟨false, 0, 2, [5, 6], 0, 1, 0, 0, 0⟩ [4, 0, 1, 2, 0, 0, 0, 0]) := Lib.hid (Sit.new HMX3.out hF hP hq hb (Ok.new false 0 2 [5, 6] 0 (fun h => by cases h)) (by decide) (by decide))
  have HF16 : Hid (Frm [] w w16) := Lib.hid ((HF15.out.alloc _).trans hF)
  have hqa3 : w.heap.size ≤ qa3 := Nat.le_trans (HF15.out.alloc _).size hq
  have hba3 : w.heap.size ≤ ba3 := Nat.le_trans (HF15.out.alloc _).size hb
  clear hF hP hq hb HX3 HMX3 HF15
  clear HA2 HB2 hne2
  have HR3 := Lib.hid (read_yes 0 2 2 1 w16 (by decide) (by decide))
  go_wp2_with fail
  refine HR3.out.mono ?_
  rintro e w17 ⟨qb3, bb3, rfl, hF, hP, hq, hb⟩
  have HB3 : Hid (Sit w17 p d c qb3 bb3 2 ⟨true, 0, 2, [0, 0], 0, 1, 0, 0, 1⟩ [4, 0, 1, 2, 0, 0, 0, 0]) := Lib.hid (Sit.new HA3.out.mem hF hP hq hb (Ok.new true 0 2 [0, 0] 1 (fun _ => by decide)) (by decide) (by decide))
  have hne3 : qb3 ≠ qa3 ∧ qb3 ≠ ba3 ∧ bb3 ≠ qa3 ∧ bb3 ≠ ba3 := by have := HA3.out.pg.lt; exact ⟨by omega, by omega, by omega, by omega⟩
  have HA3' := Lib.hid (HA3.out.frm0 hF)
  have HF17 : Hid (Frm [] w w17) := Lib.hid (HF16.out.trans hF)
  have hqb3 : w.heap.size ≤ qb3 := Nat.le_trans HF16.out.size hq
  have hbb3 : w.heap.size ≤ bb3 := Nat.le_trans HF16.out.size hb
  clear hF hP hq hb HR3 HF16 HA3
  have HA3 := Lib.hid HA3'.out
  clear HA3'
  have HG := Lib.hid (steps_lit 2 rfl HB3.out (by decide) (stps_of kn7))
  go_wp2_with fail
  refine HG.out.mono ?_
  rintro e w18 ⟨rfl, hF, hS⟩
  have HO := Lib.hid (HA3.out.other hF hS hne3.1.symm hne3.2.2.1.symm hne3.2.1.symm hne3.2.2.2.symm)
  have HF18 : Hid (Frm [] w w18) := Lib.hid (HF17.out.trans_new hF (by simp only [List.mem_cons, List.not_mem_nil, or_false]; rintro x (rfl | rfl | rfl) <;> right <;> omega))
  clear HA3 HB3 HF17 HG
  have HB3 := Lib.hid hS
  have HA3 := Lib.hid HO.out
  clear hF hS HO
  have HG := Lib.hid (ends_lit 5 rfl HA3.out (by decide) (ends_of kn8))
  go_wp2_with fail
  refine HG.out.mono ?_
  rintro e w19 ⟨rfl, hF, hS⟩
  have HO := Lib.hid (HB3.out.other hF hS hne3.1 hne3.2.1 hne3.2.2.1 hne3.2.2.2)
  have HF19 : Hid (Frm [] w w19) := Lib.hid (HF18.out.trans_new hF (by simp only [List.mem_cons, List.not_mem_nil, or_false]; rintro x (rfl | rfl | rfl) <;> right <;> omega))
  clear HB3 HA3 HF18 HG
  have HA3 := Lib.hid hS
  have HB3 := Lib.hid HO.out
  clear hF hS HO
  have HG := Lib.hid (ends_lit 2 rfl HB3.out (by decide) (ends_of kn9))
  go_wp2_with fail
  refine HG.out.mono ?_
  rintro e w20 ⟨rfl, hF, hS⟩
  have HO := Lib.hid (HA3.out.other hF hS hne3.1.symm hne3.2.2.1.symm hne3.2.1.symm hne3.2.2.2.symm)
  have HF20 : Hid (Frm [] w w20) := Lib.hid (HF19.out.trans_new hF (by simp only [List.mem_cons, List.not_mem_nil, or_false]; rintro x (rfl | rfl | rfl) <;> right <;> omega))
  clear HA3 HB3 HF19 HG
  have HB3 := Lib.hid hS
  have HA3 := Lib.hid HO.out
  clear hF hS HO
  have HG := Lib.hid (Result_pg true HB3.out.pg)
  go_wp2_with fail
  refine HG.out.mono ?_
  rintro e w' ⟨rfl, rfl⟩
  clear HG
  have HG := Lib.hid (Words_0 HB3.out.pg)
  go_wp2_with fail
  refine HG.out.mono ?_
  rintro e w' ⟨rfl, rfl⟩
  clear HG
  go_wp2_with fail
  refine (even_yes 0 _ (by decide) (by decide)).mono ?_
  rintro e w' ⟨rfl, rfl⟩
  go_wp2_with fail
  refine (even_no 3 _ (by decide) (by decide)).mono ?_
  rintro e w' ⟨rfl, rfl⟩
  go_wp2_with fail
  refine (read_no 0 0 1 1 _ (by decide)).mono ?_
  rintro e w21 ⟨rfl, hF⟩
  have HF21 : Hid (Frm [] w w21) := Lib.hid (HF20.out.trans hF)
  have HA3' := Lib.hid (HA3.out.frm0 hF)
  clear HA3 hF HF20
  have HA3 := Lib.hid HA3'.out
  clear HA3'
  go_wp2_with fail
  refine (read_no 0 1 1 0 _ (by decide)).mono ?_
  rintro e w22 ⟨rfl, hF⟩
  have HF22 : Hid (Frm [] w w22) := Lib.hid (HF21.out.trans hF)
  have HA3' := Lib.hid (HA3.out.frm0 hF)
  clear HA3 hF HF21
  have HA3 := Lib.hid HA3'.out
  clear HA3'
  go_wp2_with fail
  refine (read_no 0 1 257 1 _ (by decide)).mono ?_
  rintro e w23 ⟨rfl, hF⟩
  have HF23 : Hid (Frm [] w w23) := Lib.hid (HF22.out.trans hF)
  have HA3' := Lib.hid (HA3.out.frm0 hF)
  clear HA3 hF HF22
  have HA3 := Lib.hid HA3'.out
  clear HA3'
  have HG := Lib.hid (read_yes 0 0 0 1 w23 (by decide) (by decide))
  go_wp2_with fail
  refine HG.out.mono ?_
  rintro e w24 ⟨qz, bz, rfl, hF, hP, hq, hb⟩
  have HF24 : Hid (Frm [] w w24) := Lib.hid (HF23.out.trans hF)
  have HM9 := Lib.hid (HA3.out.mem.frm hF (by simp) (by simp))
  clear hF hP hq hb HG HF23
  have HG := Lib.hid (Store_ok HM9.out 0 3 (by decide))
  go_wp2_with fail
  refine HG.out.mono ?_
  rintro e w25 ⟨rfl, hF, hM⟩
  have HF25 : Hid (Frm [] w w25) := Lib.hid (HF24.out.trans_new hF (by simp only [List.mem_cons, List.not_mem_nil, or_false]; rintro x rfl; right; omega))
  have HM8 : Hid (MemAt w25 p d c [3, 0, 5, 6, 0, 0, 0, 0]) := Lib.hid hM
  clear hF hM HM9 HG HF24
  have hMX4 : MemAt (w25.alloc (.cells #[.int .u64 5] 22)) p d c [3, 0, 5, 6, 0, 0, 0, 0] := HM8.out.alloc _
  have HX4 := Lib.hid (write_yes (li_u64 (w := w25.alloc (.cells #[.int .u64 5] 22)) (n := 1) (l := [5]) rfl (heap_alloc_new _ _)) 0 2 (by decide))
  have HMX4 := Lib.hid hMX4
  clear hMX4
  go_wp2_with fail
  refine HX4.out.mono ?_
  rintro e w26 ⟨qa4, ba4, rfl, hF, hP, hq, hb⟩
  have HA4 : Hid (Sit w26 p d c qa4 ba4 1 ⟨false, 0, 2, [5], 0, 1, 0, 0, 0⟩ [3, 0, 5, 6, 0, 0, 0, 0]) := Lib.hid (Sit.new HMX4.out hF hP hq hb (Ok.new false 0 2 [5] 0 (fun h => by cases h)) (by decide) (by decide))
  have HF26 : Hid (Frm [] w w26) := Lib.hid ((HF25.out.alloc _).trans hF)
  have hqa4 : w.heap.size ≤ qa4 := Nat.le_trans (HF25.out.alloc _).size hq
  have hba4 : w.heap.size ≤ ba4 := Nat.le_trans (HF25.out.alloc _).size hb
  clear hF hP hq hb HX4 HMX4 HF25
  have HG := Lib.hid (HA4.out.stepR kn10)
  go_wp2_with fail
  refine HG.out.mono ?_
  rintro e w27 ⟨rfl, hF, hS⟩
  have HF27 : Hid (Frm [] w w27) := Lib.hid (HF26.out.trans_new hF (by simp only [List.mem_cons, List.not_mem_nil, or_false]; rintro x (rfl | rfl | rfl) <;> right <;> omega))
  have HD := Lib.hid (Done_any hS.pg hS.ok)
  clear hF hS HG HF26
  go_wp2_with fail
  refine HD.out.mono ?_
  rintro e w' ⟨rfl, rfl⟩
  go_wp2
  go_ret
  exact ⟨rfl, HF27.out⟩
#print axioms known_true
end Go.Proofs.Ytbhnijkphkkalaa
