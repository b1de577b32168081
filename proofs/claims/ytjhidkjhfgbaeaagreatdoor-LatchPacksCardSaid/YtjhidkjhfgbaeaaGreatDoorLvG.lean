/- known: all of it (by gen_lvd.py). -/
import Derived.Test.YtjhidkjhfgbaeaaGreatDoorLvF
namespace Go.Proofs.YtjhidkjhfgbaeaaGreatDoor
open Go.ChangeShapes Go.WideShapes Go.ChangeAt Go.RowKit
set_option linter.unusedVariables false
set_option linter.unusedSimpArgs false
set_option maxRecDepth 100000 in
set_option maxHeartbeats 16000000 in
theorem known_true {w : World} (hL : Laid w) : Calls Tryz.prog 8 #[] w (Ret (.bool true) (fun w' => Frm [] w w')) := by
  have HL := Lib.hid hL
  clear hL
  go_enter Tryz.func8, Tryz.ntmps8
  go_wp2_with fail
  refine (state_any 1 (-1) (-1) 2).mono ?_
  rintro e w1 ⟨rfl, hF⟩
  have hg : (w1).heap[w.heap.size]? = some (.cells #[.int .i64 0, .int .i64 2] 3 (0, 0)) := hF.heap (heap_alloc_new _ _) (by simp)
  have hF1 : Frm [] w w1 := ((Frm.refl _ _).alloc _).trans hF
  clear hF
  go_wp2_with fail
  obtain ⟨X, hX⟩ : ∃ X, X = (w1.alloc (.cells #[.slice (some ⟨w.heap.size, 0, none⟩) 2 2, .int .i64 1, .int .i64 (-1), .int .i64 (-1), .int .i64 2, .slice none 0 0] 25)).alloc (.cells #[.int .u64 5, .int .u64 2216236679170] 27) := ⟨_, rfl⟩
  have hFX : Frm [] w1 X := by rw [hX]; exact ((Frm.refl _ _).alloc _).alloc _
  have HK : Hid (K1 w X w1.heap.size (w1.heap.size + 1) w.heap.size) := Lib.hid ⟨hF1.trans hFX, HL.out.frm0 (hF1.trans hFX), by rw [hX]; exact heap_alloc_old _ (heap_alloc_new _ _), by rw [hX]; exact heap_alloc_at _ (by simp), li_new (l := [0, 2]) rfl (hFX.heap hg (by simp))⟩
  rw [← hX]
  clear hX hFX hF1 hg
  obtain ⟨x0, x1, y0, y1, y2, y3, y4, y5, z0, z1⟩ := HK.out.cells
  refine (packs_true HK.out.li (by decide) HK.out.laid 1 (-1) (-1) 2 1 3 5 2216236679170 0 (by kernel_rfl)).mono ?_
  rintro e w2 ⟨rfl, hF⟩
  replace HK := Lib.hid (HK.out.frm0 hF)
  clear hF
  clear x0 x1 y0 y1 y2 y3 y4 y5 z0 z1
  obtain ⟨x0, x1, y0, y1, y2, y3, y4, y5, z0, z1⟩ := HK.out.cells
  go_wp2_with fail
  refine (unpacks_ok (w0 := 5) (w1 := 2216236679170) (s := ⟨5, 1, -1, -1, 2, 1, 3⟩) HK.out.laid (by decide) (by decide) (by kernel_rfl) HK.out.li (by decide) (by kernel_rfl)).mono ?_
  rintro e w3 ⟨rfl, hF⟩
  replace HK := Lib.hid (HK.out.frm0 hF)
  clear hF
  clear x0 x1 y0 y1 y2 y3 y4 y5 z0 z1
  obtain ⟨x0, x1, y0, y1, y2, y3, y4, y5, z0, z1⟩ := HK.out.cells
  go_wp2_with fail
  refine (state_any 0 1 (-1) 0).mono ?_
  rintro e w4 ⟨rfl, hF⟩
  replace HK := Lib.hid (HK.out.frm0 hF)
  clear hF
  clear x0 x1 y0 y1 y2 y3 y4 y5 z0 z1
  obtain ⟨x0, x1, y0, y1, y2, y3, y4, y5, z0, z1⟩ := HK.out.cells
  go_wp2_with fail
  refine (packs_true (Li.nil _ 0 0) (by decide) HK.out.laid 0 1 (-1) 0 (-1) (-1) 0 0 2 (by kernel_rfl)).mono ?_
  rintro e w5 ⟨rfl, hF⟩
  replace HK := Lib.hid (HK.out.frm0 hF)
  clear hF
  clear x0 x1 y0 y1 y2 y3 y4 y5 z0 z1
  obtain ⟨x0, x1, y0, y1, y2, y3, y4, y5, z0, z1⟩ := HK.out.cells
  go_wp2_with fail
  refine (state_any (-1) (-1) (-1) 0).mono ?_
  rintro e w6 ⟨rfl, hF⟩
  replace HK := Lib.hid (HK.out.frm0 hF)
  clear hF
  clear x0 x1 y0 y1 y2 y3 y4 y5 z0 z1
  obtain ⟨x0, x1, y0, y1, y2, y3, y4, y5, z0, z1⟩ := HK.out.cells
  go_wp2_with fail
  refine (packs_true (Li.nil _ 0 0) (by decide) HK.out.laid (-1) (-1) (-1) 0 0 0 0 0 2 (by kernel_rfl)).mono ?_
  rintro e w7 ⟨rfl, hF⟩
  replace HK := Lib.hid (HK.out.frm0 hF)
  clear hF
  clear x0 x1 y0 y1 y2 y3 y4 y5 z0 z1
  obtain ⟨x0, x1, y0, y1, y2, y3, y4, y5, z0, z1⟩ := HK.out.cells
  go_wp2_with fail
  refine (unpacks_no (w0 := 0) (w1 := 65536) HK.out.laid (by decide) (by decide) (by kernel_rfl)).mono ?_
  rintro e w8 ⟨rfl, hF⟩
  replace HK := Lib.hid (HK.out.frm0 hF)
  clear hF
  clear x0 x1 y0 y1 y2 y3 y4 y5 z0 z1
  obtain ⟨x0, x1, y0, y1, y2, y3, y4, y5, z0, z1⟩ := HK.out.cells
  go_wp2_with fail
  refine (unpacks_no (w0 := 0) (w1 := 281474976710656) HK.out.laid (by decide) (by decide) (by kernel_rfl)).mono ?_
  rintro e w9 ⟨rfl, hF⟩
  replace HK := Lib.hid (HK.out.frm0 hF)
  clear hF
  clear x0 x1 y0 y1 y2 y3 y4 y5 z0 z1
  obtain ⟨x0, x1, y0, y1, y2, y3, y4, y5, z0, z1⟩ := HK.out.cells
  go_wp2_with fail
  refine (news_any HK.out.laid (B := w.heap.size) HL.out.size HK.out.frm.size).mono ?_
  rintro e w10 ⟨np, p, d, cc, rfl, hF, hS⟩
  have hF := HK.out.frm.trans hF
  obtain ⟨Y, hY⟩ : ∃ Y, Y = w10.alloc (.cells #[.pointer (some ⟨p, 0, none⟩), .pointer (some ⟨np, 0, none⟩)] 73) := ⟨_, rfl⟩
  have hFY : Frm [] w10 Y := by rw [hY]; exact (Frm.refl _ _).alloc _
  have HK2 : Hid (K2 w Y w10.heap.size np p d cc zs) := Lib.hid ⟨hF.trans hFY, by rw [hY]; exact heap_alloc_new _ _, hS.frm0 hFY, by have := hS.lt; omega, hF.size⟩
  clear hF hS hFY HK x0 x1 y0 y1 y2 y3 y4 y5 z0 z1
  go_wp2_with fail
  rw [← hY]
  clear hY
  obtain ⟨x0, y0, y1⟩ := HK2.out.cells
  go_wp2_with fail
  have HC : Hid (∀ w', Frm [d] Y w' → w'.cell? ⟨w10.heap.size, 0, none⟩ = some (.pointer (some ⟨p, 0, none⟩)) ∧ w'.cell? ⟨w10.heap.size, 1, none⟩ = some (.pointer (some ⟨np, 0, none⟩))) := Lib.hid fun w' g => cells2L (g.heap HK2.out.b (by simpa using HK2.out.bd))
  clear x0 y0 y1
  refine wp_region_noPanic ?_
  refine wp_region_held_drew (S := fun w' => Frm [d] Y w') (by kernel_rfl) ((Frm.refl _ _).drew) (fun hHeld => ?_)
  refine take_in (i := 0) (d := 51) (v := .bool true) rfl rfl (by kernel_rfl) (by kernel_rfl) (by kernel_rfl) (fun _ _ _ h => h) (by kernel_rfl) (fun _ _ => rfl) (by assumption) ?_
  try simp only [Act.put, List.setIfInBounds_toArray, List.set_cons_zero, List.set_cons_succ]
  refine take_in (i := 1) (d := 52) (v := .bool false) rfl rfl (by kernel_rfl) (by kernel_rfl) (by kernel_rfl) (fun _ _ _ h => h) (by kernel_rfl) (fun _ _ => rfl) (by assumption) ?_
  try simp only [Act.put, List.setIfInBounds_toArray, List.set_cons_zero, List.set_cons_succ]
  refine take_in (i := 2) (d := 53) (v := .bool false) rfl rfl (by kernel_rfl) (by kernel_rfl) (by kernel_rfl) (fun _ _ _ h => h) (by kernel_rfl) (fun _ _ => rfl) (by assumption) ?_
  try simp only [Act.put, List.setIfInBounds_toArray, List.set_cons_zero, List.set_cons_succ]
  refine take_in (i := 3) (d := 54) (v := .agg #[.pointer (some ⟨p, 0, none⟩), .pointer (some ⟨np, 0, none⟩)]) rfl rfl (by kernel_rfl) (by kernel_rfl) (by kernel_rfl) (fun _ _ _ h => h) (by kernel_rfl) (fun w' hS => by have hS' : Frm [d] Y w' := hS; obtain ⟨z0, z1⟩ := HC.out w' hS'; go_simp) (by assumption) ?_
  try simp only [Act.put, List.setIfInBounds_toArray, List.set_cons_zero, List.set_cons_succ]
  refine wpAnyH_ready (rs := [4]) (by kernel_rfl) (by simp) ?_
  refine AllReadyH.cons rfl (fun K hK => ?_) AllReadyH.nil
  go_simp
  go_at_call 41
  refine (kd1 (HK2.out.frm0 ((Frm.refl _ _).drew)).s).mono ?_
  rintro e w11 ⟨rfl, hF, hS⟩
  have sw11 : Frm [d] Y w11 := Frm.trans ((Frm.refl [d] Y).drew) hF
  replace HK2 := Lib.hid ((HK2.out.frm0 ((Frm.refl _ _).drew)).stepd hF hS)
  clear hF hS
  refine hK.out _ _ (by exact sw11) (fun hHeld => ?_)
  clear hK K
  try change wpAnyH _ _ _ _ _ _ _ (Act.put _ (some 55) _) _
  try simp only [Act.put, List.setIfInBounds_toArray, List.set_cons_zero, List.set_cons_succ]
  refine take_in (i := 5) (d := 56) (v := .bool false) rfl rfl (by kernel_rfl) (by kernel_rfl) (by kernel_rfl) (fun _ _ _ h => h) (by kernel_rfl) (fun _ _ => rfl) (by assumption) ?_
  try simp only [Act.put, List.setIfInBounds_toArray, List.set_cons_zero, List.set_cons_succ]
  refine take_in (i := 6) (d := 57) (v := .bool false) rfl rfl (by kernel_rfl) (by kernel_rfl) (by kernel_rfl) (fun _ _ _ h => h) (by kernel_rfl) (fun _ _ => rfl) (by assumption) ?_
  try simp only [Act.put, List.setIfInBounds_toArray, List.set_cons_zero, List.set_cons_succ]
  refine take_in (i := 7) (d := 58) (v := .bool false) rfl rfl (by kernel_rfl) (by kernel_rfl) (by kernel_rfl) (fun _ _ _ h => h) (by kernel_rfl) (fun _ _ => rfl) (by assumption) ?_
  try simp only [Act.put, List.setIfInBounds_toArray, List.set_cons_zero, List.set_cons_succ]
  refine take_in (i := 8) (d := 59) (v := .pointer (some ⟨w10.heap.size, 0, none⟩)) rfl rfl (by kernel_rfl) (by kernel_rfl) (by kernel_rfl) (fun _ _ _ h => h) (by kernel_rfl) (fun _ _ => rfl) (by assumption) ?_
  try simp only [Act.put, List.setIfInBounds_toArray, List.set_cons_zero, List.set_cons_succ]
  refine take_in (i := 9) (d := 60) (v := .pointer (some ⟨p, 0, none⟩)) rfl rfl (by kernel_rfl) (by kernel_rfl) (by kernel_rfl) (fun _ _ _ h => h) (by kernel_rfl) (fun w' hS => by have hS' : Frm [d] Y w' := hS; obtain ⟨z0, z1⟩ := HC.out w' hS'; go_simp) (by assumption) ?_
  try simp only [Act.put, List.setIfInBounds_toArray, List.set_cons_zero, List.set_cons_succ]
  refine take_in (i := 10) (d := 61) (v := .pointer (some ⟨w10.heap.size, 1, none⟩)) rfl rfl (by kernel_rfl) (by kernel_rfl) (by kernel_rfl) (fun _ _ _ h => h) (by kernel_rfl) (fun _ _ => rfl) (by assumption) ?_
  try simp only [Act.put, List.setIfInBounds_toArray, List.set_cons_zero, List.set_cons_succ]
  refine take_in (i := 11) (d := 62) (v := .pointer (some ⟨np, 0, none⟩)) rfl rfl (by kernel_rfl) (by kernel_rfl) (by kernel_rfl) (fun _ _ _ h => h) (by kernel_rfl) (fun w' hS => by have hS' : Frm [d] Y w' := hS; obtain ⟨z0, z1⟩ := HC.out w' hS'; go_simp) (by assumption) ?_
  try simp only [Act.put, List.setIfInBounds_toArray, List.set_cons_zero, List.set_cons_succ]
  refine wpAnyH_ready (rs := [12]) (by kernel_rfl) (by simp) ?_
  refine AllReadyH.cons rfl (fun K hK => ?_) AllReadyH.nil
  go_simp
  have sa : Frm [d] Y ((w11).alloc (.cells #[.int .i64 0] 3)) := (sw11).alloc _
  have hfa : Frm [] (w11) ((w11).alloc (.cells #[.int .i64 0] 3)) := (Frm.refl _ _).alloc _
  have hgd : (w11).heap.size ≠ d := by have := (HK2.out).s.lt; simp at this ⊢; omega
  have HLI := Lib.hid (li_new (k := .i64) (l := [0]) (n := 1) rfl (heap_alloc_new (w11) (.cells #[.int .i64 0] 3)))
  replace HK2 := Lib.hid (HK2.out.frm0 hfa)
  clear hfa
  refine hK.out _ _ (by exact sa) (fun hHeld => ?_)
  clear hK K
  try change wpAnyH _ _ _ _ _ _ _ (Act.put _ (some 63) _) _
  try simp only [Act.put, List.setIfInBounds_toArray, List.set_cons_zero, List.set_cons_succ]
  refine wpAnyH_ready (rs := [13]) (by kernel_rfl) (by simp) ?_
  refine AllReadyH.cons rfl (fun K hK => ?_) AllReadyH.nil
  go_simp
  go_at_call 40
  refine (state_any (-1) (-1) (-1) 1).mono ?_
  rintro e w12 ⟨rfl, hF⟩
  have sw12 : Frm [d] Y w12 := Frm.trans sa hF.nil
  replace HK2 := Lib.hid (HK2.out.frm0 hF)
  replace HLI := Lib.hid (HLI.out.frm0 hF)
  clear hF
  refine hK.out _ _ (by exact sw12) (fun hHeld => ?_)
  clear hK K
  try change wpAnyH _ _ _ _ _ _ _ (Act.put _ (some 64) _) _
  try simp only [Act.put, List.setIfInBounds_toArray, List.set_cons_zero, List.set_cons_succ]
  refine wpAnyH_ready (rs := [14]) (by kernel_rfl) (by simp) ?_
  refine AllReadyH.cons rfl (fun K hK => ?_) AllReadyH.nil
  go_simp
  go_at_call 22
  refine (kk1 (g2 := 0) HK2.out.s HLI.out hgd).mono ?_
  rintro e w13 ⟨rfl, hF, hS⟩
  have sw13 : Frm [d] Y w13 := Frm.trans sw12 hF
  replace HK2 := Lib.hid (HK2.out.stepd hF hS)
  clear hF hS
  refine hK.out _ _ (by exact sw13) (fun hHeld => ?_)
  clear hK K
  try change wpAnyH _ _ _ _ _ _ _ (Act.put _ (some 65) _) _
  try simp only [Act.put, List.setIfInBounds_toArray, List.set_cons_zero, List.set_cons_succ]
  refine take_in (i := 15) (d := 66) (v := .bool false) rfl rfl (by kernel_rfl) (by kernel_rfl) (by kernel_rfl) (fun _ _ _ h => h) (by kernel_rfl) (fun _ _ => rfl) (by assumption) ?_
  try simp only [Act.put, List.setIfInBounds_toArray, List.set_cons_zero, List.set_cons_succ]
  refine take_in (i := 16) (d := 67) (v := .bool false) rfl rfl (by kernel_rfl) (by kernel_rfl) (by kernel_rfl) (fun _ _ _ h => h) (by kernel_rfl) (fun _ _ => rfl) (by assumption) ?_
  try simp only [Act.put, List.setIfInBounds_toArray, List.set_cons_zero, List.set_cons_succ]
  refine take_in (i := 17) (d := 68) (v := .bool false) rfl rfl (by kernel_rfl) (by kernel_rfl) (by kernel_rfl) (fun _ _ _ h => h) (by kernel_rfl) (fun _ _ => rfl) (by assumption) ?_
  try simp only [Act.put, List.setIfInBounds_toArray, List.set_cons_zero, List.set_cons_succ]
  refine take_in (i := 18) (d := 69) (v := .agg #[.pointer (some ⟨p, 0, none⟩), .pointer (some ⟨np, 0, none⟩)]) rfl rfl (by kernel_rfl) (by kernel_rfl) (by kernel_rfl) (fun _ _ _ h => h) (by kernel_rfl) (fun w' hS => by have hS' : Frm [d] Y w' := hS; obtain ⟨z0, z1⟩ := HC.out w' hS'; go_simp) (by assumption) ?_
  try simp only [Act.put, List.setIfInBounds_toArray, List.set_cons_zero, List.set_cons_succ]
  refine wpAnyH_ready (rs := [19]) (by kernel_rfl) (by simp) ?_
  refine AllReadyH.cons rfl (fun K hK => ?_) AllReadyH.nil
  go_simp
  go_at_call 41
  refine (kd2 HK2.out.s).mono ?_
  rintro e w14 ⟨rfl, hF, hS⟩
  have sw14 : Frm [d] Y w14 := Frm.trans sw13 hF
  replace HK2 := Lib.hid (HK2.out.stepd hF hS)
  clear hF hS
  refine hK.out _ _ (by exact sw14) (fun hHeld => ?_)
  clear hK K
  try change wpAnyH _ _ _ _ _ _ _ (Act.put _ (some 70) _) _
  try simp only [Act.put, List.setIfInBounds_toArray, List.set_cons_zero, List.set_cons_succ]
  refine take_in (i := 20) (d := 71) (v := .bool false) rfl rfl (by kernel_rfl) (by kernel_rfl) (by kernel_rfl) (fun _ _ _ h => h) (by kernel_rfl) (fun _ _ => rfl) (by assumption) ?_
  try simp only [Act.put, List.setIfInBounds_toArray, List.set_cons_zero, List.set_cons_succ]
  refine take_in (i := 21) (d := 72) (v := .bool false) rfl rfl (by kernel_rfl) (by kernel_rfl) (by kernel_rfl) (fun _ _ _ h => h) (by kernel_rfl) (fun _ _ => rfl) (by assumption) ?_
  try simp only [Act.put, List.setIfInBounds_toArray, List.set_cons_zero, List.set_cons_succ]
  refine take_in (i := 22) (d := 73) (v := .bool false) rfl rfl (by kernel_rfl) (by kernel_rfl) (by kernel_rfl) (fun _ _ _ h => h) (by kernel_rfl) (fun _ _ => rfl) (by assumption) ?_
  try simp only [Act.put, List.setIfInBounds_toArray, List.set_cons_zero, List.set_cons_succ]
  refine take_in (i := 23) (d := 74) (v := .agg #[.pointer (some ⟨p, 0, none⟩), .pointer (some ⟨np, 0, none⟩)]) rfl rfl (by kernel_rfl) (by kernel_rfl) (by kernel_rfl) (fun _ _ _ h => h) (by kernel_rfl) (fun w' hS => by have hS' : Frm [d] Y w' := hS; obtain ⟨z0, z1⟩ := HC.out w' hS'; go_simp) (by assumption) ?_
  try simp only [Act.put, List.setIfInBounds_toArray, List.set_cons_zero, List.set_cons_succ]
  refine wpAnyH_ready (rs := [24]) (by kernel_rfl) (by simp) ?_
  refine AllReadyH.cons rfl (fun K hK => ?_) AllReadyH.nil
  go_simp
  go_at_call 41
  refine (kd3 HK2.out.s).mono ?_
  rintro e w15 ⟨rfl, hF, hS⟩
  have sw15 : Frm [d] Y w15 := Frm.trans sw14 hF
  replace HK2 := Lib.hid (HK2.out.stepd hF hS)
  clear hF hS
  refine hK.out _ _ (by exact sw15) (fun hHeld => ?_)
  clear hK K
  try change wpAnyH _ _ _ _ _ _ _ (Act.put _ (some 75) _) _
  try simp only [Act.put, List.setIfInBounds_toArray, List.set_cons_zero, List.set_cons_succ]
  refine take_in (i := 25) (d := 76) (v := .bool false) rfl rfl (by kernel_rfl) (by kernel_rfl) (by kernel_rfl) (fun _ _ _ h => h) (by kernel_rfl) (fun _ _ => rfl) (by assumption) ?_
  try simp only [Act.put, List.setIfInBounds_toArray, List.set_cons_zero, List.set_cons_succ]
  refine take_in (i := 26) (d := 77) (v := .bool false) rfl rfl (by kernel_rfl) (by kernel_rfl) (by kernel_rfl) (fun _ _ _ h => h) (by kernel_rfl) (fun _ _ => rfl) (by assumption) ?_
  try simp only [Act.put, List.setIfInBounds_toArray, List.set_cons_zero, List.set_cons_succ]
  refine take_in (i := 27) (d := 78) (v := .bool false) rfl rfl (by kernel_rfl) (by kernel_rfl) (by kernel_rfl) (fun _ _ _ h => h) (by kernel_rfl) (fun _ _ => rfl) (by assumption) ?_
  try simp only [Act.put, List.setIfInBounds_toArray, List.set_cons_zero, List.set_cons_succ]
  refine take_in (i := 28) (d := 79) (v := .pointer (some ⟨w10.heap.size, 0, none⟩)) rfl rfl (by kernel_rfl) (by kernel_rfl) (by kernel_rfl) (fun _ _ _ h => h) (by kernel_rfl) (fun _ _ => rfl) (by assumption) ?_
  try simp only [Act.put, List.setIfInBounds_toArray, List.set_cons_zero, List.set_cons_succ]
  refine take_in (i := 29) (d := 80) (v := .pointer (some ⟨p, 0, none⟩)) rfl rfl (by kernel_rfl) (by kernel_rfl) (by kernel_rfl) (fun _ _ _ h => h) (by kernel_rfl) (fun w' hS => by have hS' : Frm [d] Y w' := hS; obtain ⟨z0, z1⟩ := HC.out w' hS'; go_simp) (by assumption) ?_
  try simp only [Act.put, List.setIfInBounds_toArray, List.set_cons_zero, List.set_cons_succ]
  refine take_in (i := 30) (d := 81) (v := .pointer (some ⟨w10.heap.size, 1, none⟩)) rfl rfl (by kernel_rfl) (by kernel_rfl) (by kernel_rfl) (fun _ _ _ h => h) (by kernel_rfl) (fun _ _ => rfl) (by assumption) ?_
  try simp only [Act.put, List.setIfInBounds_toArray, List.set_cons_zero, List.set_cons_succ]
  refine take_in (i := 31) (d := 82) (v := .pointer (some ⟨np, 0, none⟩)) rfl rfl (by kernel_rfl) (by kernel_rfl) (by kernel_rfl) (fun _ _ _ h => h) (by kernel_rfl) (fun w' hS => by have hS' : Frm [d] Y w' := hS; obtain ⟨z0, z1⟩ := HC.out w' hS'; go_simp) (by assumption) ?_
  try simp only [Act.put, List.setIfInBounds_toArray, List.set_cons_zero, List.set_cons_succ]
  refine wpAnyH_ready (rs := [32]) (by kernel_rfl) (by simp) ?_
  refine AllReadyH.cons rfl (fun K hK => ?_) AllReadyH.nil
  go_simp
  go_at_call 40
  refine (state_any (-1) (-1) (-1) 0).mono ?_
  rintro e w16 ⟨rfl, hF⟩
  have sw16 : Frm [d] Y w16 := Frm.trans sw15 hF.nil
  replace HK2 := Lib.hid (HK2.out.frm0 hF)
  clear hF
  refine hK.out _ _ (by exact sw16) (fun hHeld => ?_)
  clear hK K
  try change wpAnyH _ _ _ _ _ _ _ (Act.put _ (some 83) _) _
  try simp only [Act.put, List.setIfInBounds_toArray, List.set_cons_zero, List.set_cons_succ]
  refine wpAnyH_ready (rs := [33]) (by kernel_rfl) (by simp) ?_
  refine AllReadyH.cons rfl (fun K hK => ?_) AllReadyH.nil
  go_simp
  go_at_call 22
  refine (kk2 (g := 0) (g2 := 0) HK2.out.s).mono ?_
  rintro e w17 ⟨rfl, hF, hS⟩
  have sw17 : Frm [d] Y w17 := Frm.trans sw16 hF
  replace HK2 := Lib.hid (HK2.out.stepd hF hS)
  clear hF hS
  refine hK.out _ _ (by exact sw17) (fun hHeld => ?_)
  clear hK K
  try change wpAnyH _ _ _ _ _ _ _ (Act.put _ (some 84) _) _
  try simp only [Act.put, List.setIfInBounds_toArray, List.set_cons_zero, List.set_cons_succ]
  refine take_in (i := 34) (d := 85) (v := .bool false) rfl rfl (by kernel_rfl) (by kernel_rfl) (by kernel_rfl) (fun _ _ _ h => h) (by kernel_rfl) (fun _ _ => rfl) (by assumption) ?_
  try simp only [Act.put, List.setIfInBounds_toArray, List.set_cons_zero, List.set_cons_succ]
  refine take_in (i := 35) (d := 86) (v := .bool false) rfl rfl (by kernel_rfl) (by kernel_rfl) (by kernel_rfl) (fun _ _ _ h => h) (by kernel_rfl) (fun _ _ => rfl) (by assumption) ?_
  try simp only [Act.put, List.setIfInBounds_toArray, List.set_cons_zero, List.set_cons_succ]
  refine wpAnyH_done (by kernel_rfl) ?_ _
  refine NoPanic.normal ?_
  clear HC HLI hgd sa
  obtain ⟨x0, y0, y1⟩ := HK2.out.cells
  go_wp2_with fail
  refine (kd4 HK2.out.s).mono ?_
  rintro e w18 ⟨rfl, hF, hS⟩
  replace HK2 := Lib.hid (HK2.out.stepd hF hS)
  clear hF hS
  clear x0 y0 y1
  obtain ⟨x0, y0, y1⟩ := HK2.out.cells
  go_wp2_with fail
  have HW8 : Hid (∀ w', Frm [d] w18 w' → w18.heap.size ≤ w'.heap.size) := Lib.hid fun w' g => g.size
  rename_i K0 hK0
  have HK0 := Lib.hid hK0
  clear hK0
  have HC : Hid (∀ w', Frm [d] w18 w' → w'.cell? ⟨w10.heap.size, 0, none⟩ = some (.pointer (some ⟨p, 0, none⟩)) ∧ w'.cell? ⟨w10.heap.size, 1, none⟩ = some (.pointer (some ⟨np, 0, none⟩))) := Lib.hid fun w' g => cells2L (g.heap HK2.out.b (by simpa using HK2.out.bd))
  have hdlt := HK2.out.s.lt
  have hlo8 := HK2.out.s.lo
  have hx8 := x0
  clear x0 y0 y1
  refine wp_region_noPanic ?_
  refine wp_region_held_drew (S := fun w' => Frm [d] w18 w') (by kernel_rfl) ((Frm.refl _ _).drew) (fun hHeld => ?_)
  refine take_in (i := 0) (d := 90) (v := .agg #[.pointer (some ⟨p, 0, none⟩), .pointer (some ⟨np, 0, none⟩)]) rfl rfl (by kernel_rfl) (by kernel_rfl) (by kernel_rfl) (fun _ _ _ h => h) (by kernel_rfl) (fun w' hS => by have hS' : Frm [d] w18 w' := hS; obtain ⟨z0, z1⟩ := HC.out w' hS'; go_simp) (by assumption) ?_
  try simp only [Act.put, List.setIfInBounds_toArray, List.set_cons_zero, List.set_cons_succ]
  refine take_in (i := 2) (d := 92) (v := .agg #[.pointer (some ⟨p, 0, none⟩), .pointer (some ⟨np, 0, none⟩)]) rfl rfl (by kernel_rfl) (by kernel_rfl) (by kernel_rfl) (fun _ _ _ h => h) (by kernel_rfl) (fun w' hS => by have hS' : Frm [d] w18 w' := hS; obtain ⟨z0, z1⟩ := HC.out w' hS'; go_simp) (by assumption) ?_
  try simp only [Act.put, List.setIfInBounds_toArray, List.set_cons_zero, List.set_cons_succ]
  refine wpAnyH_ready (rs := [1]) (by kernel_rfl) (by simp) ?_
  refine AllReadyH.cons rfl (fun K hK => ?_) AllReadyH.nil
  go_simp
  go_at_call 42
  refine (kp1 (HK2.out.frm0 ((Frm.refl _ _).drew)).s).mono ?_
  rintro e w19 ⟨q1, qe1, ql1, a1, n1, c1, rfl, hF, hS, hP⟩
  have sw19 : Frm [d] w18 w19 := Frm.trans ((Frm.refl [d] w18).drew) hF
  replace HK2 := Lib.hid ((HK2.out.frm0 ((Frm.refl _ _).drew)).stepd hF hS)
  have HP1 := Lib.hid hP
  clear hF hS hP
  refine hK.out _ _ (by exact sw19) (fun hHeld => ?_)
  clear hK K
  try change wpAnyH _ _ _ _ _ _ _ (Act.put _ (some 91) _) _
  try simp only [Act.put, List.setIfInBounds_toArray, List.set_cons_zero, List.set_cons_succ]
  refine wpAnyH_ready (rs := [3]) (by kernel_rfl) (by simp) ?_
  refine AllReadyH.cons rfl (fun K hK => ?_) AllReadyH.nil
  go_simp
  go_at_call 42
  refine (kp2 HK2.out.s).mono ?_
  rintro e w20 ⟨q2, qe2, ql2, a2, n2, c2, rfl, hF, hS, hP⟩
  have sw20 : Frm [d] w18 w20 := Frm.trans sw19 hF
  replace HK2 := Lib.hid (HK2.out.stepd hF hS)
  have HP2 := Lib.hid hP
  have HZ := Lib.hid HP1.out.lt
  replace HP1 := Lib.hid (HP1.out.frm hF (fun z hz => by have := HP1.out.lo z hz; simp at this ⊢; omega))
  clear hF hS hP
  refine hK.out _ _ (by exact sw20) (fun hHeld => ?_)
  clear hK K
  try change wpAnyH _ _ _ _ _ _ _ (Act.put _ (some 93) _) _
  try simp only [Act.put, List.setIfInBounds_toArray, List.set_cons_zero, List.set_cons_succ]
  refine take_in (i := 4) (d := 5) (v := .pointer (some ⟨q1, 0, none⟩)) rfl rfl (by kernel_rfl) (by kernel_rfl) (by kernel_rfl) (fun _ _ _ h => h) (by kernel_rfl) (fun _ _ => rfl) (by assumption) ?_
  try simp only [Act.put, List.setIfInBounds_toArray, List.set_cons_zero, List.set_cons_succ]
  refine take_in (i := 5) (d := 6) (v := .pointer (some ⟨q2, 0, none⟩)) rfl rfl (by kernel_rfl) (by kernel_rfl) (by kernel_rfl) (fun _ _ _ h => h) (by kernel_rfl) (fun _ _ => rfl) (by assumption) ?_
  try simp only [Act.put, List.setIfInBounds_toArray, List.set_cons_zero, List.set_cons_succ]
  refine wpAnyH_done (by kernel_rfl) ?_ _
  refine NoPanic.normal ?_
  refine HK0.out _ _ ?_
  have hs19 := sw19.size
  exact knB _ _ _ _ _ _ _ _ _ _ _ _ _ _ _ _ _ _ _ _ _ _ _ _ _ _ _ _ _ _ _ _ _ _ _ _ _ _ _ _ _ _ _ _ _ _ _ _ _ _ _ _ _ _ _ _ _ _ _ _ _ _ _ _ _ _ _ _ _ _ _ _ _ _ _ _ _ _ _ _ _ _ _ _ _ _ _ _ _ _ _ _ _ _ _ _ _ _ _ _ _ _ _ _ _ _ _ _ _ _ _ _ _ _ _ _ _ _ _ _ _ _ _ _ _ _ _ _ _ _ _ _ _ _ _ _ _ _ _ _ _ _ _ _ _ _ _ _ _ _ _ _ _ _ _ _ _ _ _ _ _ _ _ _ _ _ _ _ _ _ _ _ _ _ _ _ _ _ _ _ _ _ _ _ _ _ _ _ _ _ _ _ _ HK2.out HP1.out HP2.out HL.out.size HZ.out (by simp; omega) (by simp; omega) (by simp; omega) (by simp; omega) (by simp; omega)
#print axioms known_true
end Go.Proofs.YtjhidkjhfgbaeaaGreatDoor
