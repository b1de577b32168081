/- Stage 12: known. -/
import Derived.Test.YtieccmmnfnpcoaaTil
namespace Go.Proofs.Ytieccmmnfnpcoaa
open Go.ChangeShapes Go.WideShapes Go.ChangeAt Go.RowKit
set_option linter.unusedVariables false
set_option maxRecDepth 100000 in
set_option maxHeartbeats 8000000 in
theorem known_true (w : World) : Calls Try.prog 9 #[] w (Ret (.bool true) (fun w' => Frm [] w w')) := by
  go_enter Try.func9, Try.ntmps9
  go_wp2_with fail
  refine (machine_any _).mono ?_
  rintro e w1 ⟨qm, Fm, rfl, hF1, hm1, hn1⟩
  have HF1 := Lib.hid hF1
  have HM1 := Lib.hid hm1
  have HN1 := Lib.hid hn1
  clear hF1 hm1 hn1
  go_wp2_with fail
  refine (machine_any _).mono ?_
  rintro e w2 ⟨qn, Fn, rfl, hF2, hm2, hn2⟩
  have hs1 := HF1.out.size
  have hlt := HM1.out.lt
  have HF := Lib.hid (HF1.out.trans hF2)
  have HM := Lib.hid (HM1.out.quiet hF2)
  have HN := Lib.hid hm2
  have HFM := Lib.hid (show ∀ x ∈ Fm, w.heap.size ≤ x ∧ x < w1.heap.size from fun x hx => ⟨HN1.out x hx, hlt x hx⟩)
  have HFN := Lib.hid (show ∀ x ∈ Fn, w1.heap.size ≤ x from hn2)
  clear hF2 hm2 hn2 hs1 hlt HF1 HM1 HN1
  have hsz2 := HF.out.size
  have hw1 : w.heap.size ≤ w1.heap.size := by
    rcases Nat.lt_or_ge w1.heap.size w.heap.size with h | h
    · exact absurd (HFM.out qm (by obtain ⟨X, ts, rfl, hX, _⟩ := HM.out; exact hX.fq)) (by omega)
    · exact h
  have hal : Frm [] w2 (w2.alloc (.cells #[.int .i64 0, .int .i64 1, .int .i64 2, .int .i64 0, .int .i64 1, .int .i64 0, .int .i64 1, .int .i64 0, .int .i64 1, .int .i64 2] 3)) := (Frm.refl _ _).alloc _
  have HRw3 := Lib.hid (runs_ok (HM.out.quiet hal) f_m0 (li_blk (l := p1) (heap_alloc_new w2 (.cells #[.int .i64 0, .int .i64 1, .int .i64 2, .int .i64 0, .int .i64 1, .int .i64 0, .int .i64 1, .int .i64 0, .int .i64 1, .int .i64 2] 3))) (by decide) (by decide) (fun _ => lt_of_heap (heap_alloc_new _ _)) run1 len1)
  have HAL := Lib.hid hal
  clear hal
  go_wp2_with fail
  refine HRw3.out.mono ?_
  rintro e w3 ⟨Fm', rfl, hg, hm, hn⟩
  have hsz : w1.heap.size ≤ w2.heap.size := by
    obtain ⟨X, ts, hq, hX, _⟩ := HN.out
    have h1 := hX.lt _ hX.fq
    have h2 := HFN.out _ hX.fq
    have h3 := HFM.out qm (by obtain ⟨X, ts, rfl, hX, _⟩ := HM.out; exact hX.fq)
    omega
  have HNw3 := Lib.hid ((HN.out.quiet HAL.out).other hg (fun x hx hx2 => by have := (HFM.out x hx2).2; have := HFN.out x hx; omega))
  have hall : w2.heap.size ≤ (w2.alloc (.cells #[.int .i64 0, .int .i64 1, .int .i64 2, .int .i64 0, .int .i64 1, .int .i64 0, .int .i64 1, .int .i64 0, .int .i64 1, .int .i64 2] 3)).heap.size := HAL.out.size
  have HFw3 := Lib.hid (HF.out.trans_new (HAL.out.nil.trans hg.frm) (fun x hx => .inr (HFM.out x hx).1))
  have HMw3 := Lib.hid hm
  clear hg hm hn hsz hall HM HN HF HAL HRw3 HFM
  have HM := HMw3
  have HN := HNw3
  have HF := HFw3
  clear HMw3 HNw3 HFw3
  have HQ := Lib.hid (word_ok HM.out a_w0)
  go_wp2_with fail
  refine HQ.out.mono ?_
  rintro e w4 ⟨rfl, hq⟩
  have HMw4 := Lib.hid (HM.out.quiet hq)
  have HNw4 := Lib.hid (HN.out.quiet hq)
  have HFw4 := Lib.hid (HF.out.trans hq)
  clear hq HQ HM HN HF 
  have HM := HMw4
  have HN := HNw4
  have HF := HFw4
  clear HMw4 HNw4 HFw4 
  have HQ := Lib.hid (word_ok HM.out a_w1)
  go_wp2_with fail
  refine HQ.out.mono ?_
  rintro e w5 ⟨rfl, hq⟩
  have HMw5 := Lib.hid (HM.out.quiet hq)
  have HNw5 := Lib.hid (HN.out.quiet hq)
  have HFw5 := Lib.hid (HF.out.trans hq)
  clear hq HQ HM HN HF 
  have HM := HMw5
  have HN := HNw5
  have HF := HFw5
  clear HMw5 HNw5 HFw5 
  have HQ := Lib.hid (by have h := mat_Result HM.out 0; rw [a_r0] at h; exact h)
  go_wp2_with fail
  refine HQ.out.mono ?_
  rintro e w6 ⟨rfl, hq⟩
  have HMw6 := Lib.hid (HM.out.quiet hq)
  have HNw6 := Lib.hid (HN.out.quiet hq)
  have HFw6 := Lib.hid (HF.out.trans hq)
  clear hq HQ HM HN HF 
  have HM := HMw6
  have HN := HNw6
  have HF := HFw6
  clear HMw6 HNw6 HFw6 
  have HQ := Lib.hid (by have h := mat_Result HM.out 1; rw [a_r1] at h; exact h)
  go_wp2_with fail
  refine HQ.out.mono ?_
  rintro e w7 ⟨rfl, hq⟩
  have HMw7 := Lib.hid (HM.out.quiet hq)
  have HNw7 := Lib.hid (HN.out.quiet hq)
  have HFw7 := Lib.hid (HF.out.trans hq)
  clear hq HQ HM HN HF 
  have HM := HMw7
  have HN := HNw7
  have HF := HFw7
  clear HMw7 HNw7 HFw7 
  have HQ := Lib.hid (by have h := mat_Done HM.out 2; rw [a_d2] at h; exact h)
  go_wp2_with fail
  refine HQ.out.mono ?_
  rintro e w8 ⟨rfl, hq⟩
  have HMw8 := Lib.hid (HM.out.quiet hq)
  have HNw8 := Lib.hid (HN.out.quiet hq)
  have HFw8 := Lib.hid (HF.out.trans hq)
  clear hq HQ HM HN HF 
  have HM := HMw8
  have HN := HNw8
  have HF := HFw8
  clear HMw8 HNw8 HFw8 
  have HQ := Lib.hid (by have h := mat_Looks HM.out 2; rw [a_l2] at h; exact h)
  go_wp2_with fail
  refine HQ.out.mono ?_
  rintro e w' ⟨rfl, rfl⟩
  clear HQ
  clear HM
  have HFNw := Lib.hid (show ∀ x ∈ Fn, w.heap.size ≤ x from fun x hx => Nat.le_trans hw1 (HFN.out x hx))
  clear HFN
  have HFN := HFNw
  clear HFNw
  have HQ := Lib.hid (by have h := mat_Waits HN.out 2; rw [m_w2] at h; exact h)
  go_wp2_with fail
  refine HQ.out.mono ?_
  rintro e w9 ⟨rfl, hg, hm⟩
  have HFw9 := Lib.hid (HF.out.trans_new hg.frm (fun x hx => .inr (HFN.out x hx)))
  have HNw9 := Lib.hid hm
  clear hg hm HQ HN HF 
  have HN := HNw9
  have HF := HFw9
  clear HNw9 HFw9 
  have HQ := Lib.hid (by have h := mat_Stuck HN.out; rw [m_st] at h; exact h)
  go_wp2_with fail
  refine HQ.out.mono ?_
  rintro e w10 ⟨rfl, hg, hm⟩
  have HFw10 := Lib.hid (HF.out.trans_new hg.frm (fun x hx => .inr (HFN.out x hx)))
  have HNw10 := Lib.hid hm
  clear hg hm HQ HN HF 
  have HN := HNw10
  have HF := HFw10
  clear HNw10 HFw10 
  have hal : Frm [] w10 (w10.alloc (.cells #[.int .i64 0, .int .i64 0, .int .i64 0, .int .i64 0, .int .i64 1, .int .i64 1, .int .i64 1, .int .i64 1, .int .i64 2, .int .i64 2] 3)) := (Frm.refl _ _).alloc _
  have HRw11 := Lib.hid (runs_ok (HN.out.quiet hal) f_m0 (li_blk (l := p2) (heap_alloc_new w10 (.cells #[.int .i64 0, .int .i64 0, .int .i64 0, .int .i64 0, .int .i64 1, .int .i64 1, .int .i64 1, .int .i64 1, .int .i64 2, .int .i64 2] 3))) (by decide) (by decide) (fun _ => lt_of_heap (heap_alloc_new _ _)) run2 len2)
  have HAL := Lib.hid hal
  clear hal
  go_wp2_with fail
  refine HRw11.out.mono ?_
  rintro e w11 ⟨Fn', rfl, hg, hm, hn⟩
  have hall : w10.heap.size ≤ (w10.alloc (.cells #[.int .i64 0, .int .i64 0, .int .i64 0, .int .i64 0, .int .i64 1, .int .i64 1, .int .i64 1, .int .i64 1, .int .i64 2, .int .i64 2] 3)).heap.size := HAL.out.size
  have hszw := HF.out.size
  have HFw11 := Lib.hid (HF.out.trans_new (HAL.out.nil.trans hg.frm) (fun x hx => .inr (HFN.out x hx)))
  have HNw11 := Lib.hid hm
  have HFNw11 := Lib.hid (show ∀ x ∈ Fn', w.heap.size ≤ x from fun x hx => by rcases hn x hx with h | h; exact HFN.out x h; omega)
  clear hg hm hn hall hszw HN HF HAL HRw11 HFN
  have HN := HNw11
  have HF := HFw11
  have HFN := HFNw11
  clear HNw11 HFw11 HFNw11
  have HQ := Lib.hid (word_ok HN.out b_w0)
  go_wp2_with fail
  refine HQ.out.mono ?_
  rintro e w12 ⟨rfl, hq⟩
  have HNw12 := Lib.hid (HN.out.quiet hq)
  have HFw12 := Lib.hid (HF.out.trans hq)
  clear hq HQ  HN HF 
  have HN := HNw12
  have HF := HFw12
  clear  HNw12 HFw12 
  have HQ := Lib.hid (by have h := mat_Result HN.out 1; rw [b_r1] at h; exact h)
  go_wp2_with fail
  refine HQ.out.mono ?_
  rintro e w13 ⟨rfl, hq⟩
  have HNw13 := Lib.hid (HN.out.quiet hq)
  have HFw13 := Lib.hid (HF.out.trans hq)
  clear hq HQ  HN HF 
  have HN := HNw13
  have HF := HFw13
  clear  HNw13 HFw13 
  have HQ := Lib.hid (by have h := mat_Result HN.out 2; rw [b_r2] at h; exact h)
  go_wp2_with fail
  refine HQ.out.mono ?_
  rintro e w14 ⟨rfl, hq⟩
  have HNw14 := Lib.hid (HN.out.quiet hq)
  have HFw14 := Lib.hid (HF.out.trans hq)
  clear hq HQ  HN HF 
  have HN := HNw14
  have HF := HFw14
  clear  HNw14 HFw14 
  have HQ := Lib.hid (by have h := mat_Steps HN.out 2; rw [b_s2] at h; exact h)
  go_wp2_with fail
  refine HQ.out.mono ?_
  rintro e w' ⟨rfl, rfl⟩
  clear HQ
  have HQ := Lib.hid (by have h := mat_Looks HN.out 2; rw [b_l2] at h; exact h)
  go_wp2_with fail
  refine HQ.out.mono ?_
  rintro e w' ⟨rfl, rfl⟩
  clear HQ
  have HNP : Hid (∀ w', Frm [] w w' → True) := Lib.hid (fun _ _ => trivial)
  clear HNP
  have HQ := Lib.hid (awaits_any w14)
  go_wp2_with fail
  refine HQ.out.mono ?_
  rintro e w15 ⟨ga, rfl, hq, hin, hga⟩
  have HN2 := Lib.hid (HN.out.quiet hq)
  have HF2 := Lib.hid (HF.out.trans hq)
  clear HN HF
  have HN := HN2
  have HF := HF2
  clear HN2 HF2 hq hga
  have hal : Frm [] w15 (w15.alloc (.cells #[.slice (some ⟨ga, 0, none⟩) 2 2] 71)) := (Frm.refl _ _).alloc _
  have HPR := Lib.hid (program_any (lsl_one (heap_alloc_new w15 (.cells #[.slice (some ⟨ga, 0, none⟩) 2 2] 71)) (hin.frm0 hal)) (fun l' hl' => by simp at hl'; subst hl'; exact awaits_ok) (by omega) (by omega))
  have HAL := Lib.hid hal
  clear hal hin
  clear HQ
  go_wp2_with fail
  refine HPR.out.mono ?_
  rintro e w16 ⟨chb, qb, Bb, rfl, hq, hp, hB⟩
  have HDJ := Lib.hid (show ∀ x ∈ Bb, x ∉ Fn' from fun x hx hx2 => by
    have h1 := HN.out.lt x hx2
    have h2 := hB x hx
    have h3 := HAL.out.size
    omega)
  have HN2 := Lib.hid ((HN.out.quiet HAL.out).quiet hq)
  have HF2 := Lib.hid ((HF.out.trans HAL.out).trans hq)
  have HP := Lib.hid hp
  clear HN HF hq hp hB HAL HPR
  have HN := HN2
  have HF := HF2
  clear HN2 HF2
  have HQ := Lib.hid (mat_Put HN.out b_t0 b_e0 HP.out)
  go_wp2_with fail
  refine HQ.out.mono ?_
  rintro e w17 ⟨Fp0, rfl, hg, hm, hn⟩
  have HPl := HP.out.lt
  have hws := HF.out.size
  have HP2 := Lib.hid (HP.out.goes hg HDJ.out)
  have HN2 := Lib.hid hm
  have HF2 := Lib.hid (HF.out.trans_new hg.frm (fun x hx => .inr (HFN.out x hx)))
  have HFN2 := Lib.hid (show ∀ x ∈ Fp0, w.heap.size ≤ x from fun x hx => by rcases hn x hx with h | h; exact HFN.out x h; omega)
  have HDJ2 := Lib.hid (show ∀ x ∈ Bb, x ∉ Fp0 from fun x hx hx2 => by rcases hn x hx2 with h | h; exact HDJ.out x hx h; have := HPl x hx; omega)
  clear HQ HP HN HF HFN HDJ hg hm hn HPl hws
  have HP := HP2
  have HN : Hid (MAt w17 Fp0 qn B2) := HN2
  have HF := HF2
  have HFN := HFN2
  have HDJ := HDJ2
  clear HP2 HN2 HF2 HFN2 HDJ2
  have HQ := Lib.hid (mat_Put HN.out b_t1 b_e1 HP.out)
  go_wp2_with fail
  refine HQ.out.mono ?_
  rintro e w18 ⟨Fp1, rfl, hg, hm, hn⟩
  have HPl := HP.out.lt
  have hws := HF.out.size
  have HP2 := Lib.hid (HP.out.goes hg HDJ.out)
  have HN2 := Lib.hid hm
  have HF2 := Lib.hid (HF.out.trans_new hg.frm (fun x hx => .inr (HFN.out x hx)))
  have HFN2 := Lib.hid (show ∀ x ∈ Fp1, w.heap.size ≤ x from fun x hx => by rcases hn x hx with h | h; exact HFN.out x h; omega)
  have HDJ2 := Lib.hid (show ∀ x ∈ Bb, x ∉ Fp1 from fun x hx hx2 => by rcases hn x hx2 with h | h; exact HDJ.out x hx h; have := HPl x hx; omega)
  clear HQ HP HN HF HFN HDJ hg hm hn HPl hws
  have HP := HP2
  have HN : Hid (MAt w18 Fp1 qn B3) := HN2
  have HF := HF2
  have HFN := HFN2
  have HDJ := HDJ2
  clear HP2 HN2 HF2 HFN2 HDJ2
  have HQ := Lib.hid (mat_Put HN.out b_t2 b_e2 HP.out)
  go_wp2_with fail
  refine HQ.out.mono ?_
  rintro e w19 ⟨Fp2, rfl, hg, hm, hn⟩
  have HPl := HP.out.lt
  have hws := HF.out.size
  have HP2 := Lib.hid (HP.out.goes hg HDJ.out)
  have HN2 := Lib.hid hm
  have HF2 := Lib.hid (HF.out.trans_new hg.frm (fun x hx => .inr (HFN.out x hx)))
  have HFN2 := Lib.hid (show ∀ x ∈ Fp2, w.heap.size ≤ x from fun x hx => by rcases hn x hx with h | h; exact HFN.out x h; omega)
  have HDJ2 := Lib.hid (show ∀ x ∈ Bb, x ∉ Fp2 from fun x hx hx2 => by rcases hn x hx2 with h | h; exact HDJ.out x hx h; have := HPl x hx; omega)
  clear HQ HP HN HF HFN HDJ hg hm hn HPl hws
  have HP := HP2
  have HN : Hid (MAt w19 Fp2 qn B4) := HN2
  have HF := HF2
  have HFN := HFN2
  have HDJ := HDJ2
  clear HP2 HN2 HF2 HFN2 HDJ2
  clear HP HDJ
  have HQ := Lib.hid (by have h := mat_Waits HN.out 0; rw [b4_w0] at h; exact h)
  go_wp2_with fail
  refine HQ.out.mono ?_
  rintro e w20 ⟨rfl, hg, hm⟩
  have HFw20 := Lib.hid (HF.out.trans_new hg.frm (fun x hx => .inr (HFN.out x hx)))
  have HNw20 := Lib.hid hm
  clear hg hm HQ HN HF 
  have HN := HNw20
  have HF := HFw20
  clear HNw20 HFw20 
  have HQ := Lib.hid (by have h := mat_Stuck HN.out; rw [b4_st] at h; exact h)
  go_wp2_with fail
  refine HQ.out.mono ?_
  rintro e w21 ⟨rfl, hg, hm⟩
  have HFw21 := Lib.hid (HF.out.trans_new hg.frm (fun x hx => .inr (HFN.out x hx)))
  have HNw21 := Lib.hid hm
  clear hg hm HQ HN HF 
  have HN := HNw21
  have HF := HFw21
  clear HNw21 HFw21 
  have HQ := Lib.hid (show Calls Try.prog 20 #[.pointer (some ⟨qn, 0, none⟩), .int .i64 3] w21 (Ret (.tuple #[.agg #[.int .i64 0, .int .i64 0, .int .i64 0, .int .u64 0, .int .u64 0, .bool false, .bool false], .int .i64 2]) (Now w21 Fp2 qn B4)) from by have h := mat_Step HN.out f_b4 (by omega) 3; rw [b4_s3] at h; exact h)
  go_wp2_with fail
  refine HQ.out.mono ?_
  rintro e w22 ⟨rfl, hg, hm⟩
  have hal : Frm [] w22 (w22.alloc (.cells #[.int .i64 0, .int .i64 0, .int .i64 0, .int .u64 0, .int .u64 0, .bool false, .bool false] 64)) := (Frm.refl _ _).alloc _
  have hal2 : Frm [] w22 ((w22.alloc (.cells #[.int .i64 0, .int .i64 0, .int .i64 0, .int .u64 0, .int .u64 0, .bool false, .bool false] 64)).alloc (.cells #[.int .i64 0, .int .i64 7] 3)) := hal.alloc _
  have hblk : ((w22.alloc (.cells #[.int .i64 0, .int .i64 0, .int .i64 0, .int .u64 0, .int .u64 0, .bool false, .bool false] 64)).alloc (.cells #[.int .i64 0, .int .i64 7] 3)).heap[w22.heap.size + 1]? = some (.cells #[.int .i64 0, .int .i64 7] 3 (0, 0)) := heap_alloc_at _ (by simp)
  have HRN := Lib.hid (runs_err (hm.quiet hal2) f_b4 (li_blk (g := w22.heap.size + 1) (l := [0, 7]) hblk) (by decide) (by decide) (fun _ => lt_of_heap hblk) b4_r (by decide))
  have HF2 := Lib.hid ((HF.out.trans_new hg.frm (fun x hx => .inr (HFN.out x hx))).trans hal2)
  have HN2 := Lib.hid (hm.quiet hal2)
  clear HQ HF HN hg hm hal hal2 hblk
  have HF := HF2
  have HN := HN2
  clear HF2 HN2
  go_wp2_with fail
  refine HRN.out.mono ?_
  rintro e w23 ⟨rfl, hq⟩
  have HF2 := Lib.hid (HF.out.trans hq)
  have HN2 := Lib.hid (HN.out.quiet hq)
  clear HRN HF HN hq
  have HF := HF2
  have HN := HN2
  clear HF2 HN2
  have HQ := Lib.hid (bad_ok (w := w23) (li := []) (a := none) (n := 0) (c := 0) (b := 0) (o := 0) ⟨rfl, fun h => absurd h (by decide), fun i x hx => by simp at hx, Nat.le_refl _⟩ (fun h => absurd h.1 (by decide)) (by decide))
  go_wp2_with fail
  refine HQ.out.mono ?_
  rintro e w24 ⟨rfl, hq⟩
  have HNw24 := Lib.hid (HN.out.quiet hq)
  have HFw24 := Lib.hid (HF.out.trans hq)
  clear hq HQ  HN HF 
  have HN := HNw24
  have HF := HFw24
  clear  HNw24 HFw24 
  have HQ := Lib.hid (instr_any 1 4 0 0 w24)
  go_wp2_with fail
  refine HQ.out.mono ?_
  rintro e w25 ⟨rfl, hq⟩
  have HNw25 := Lib.hid (HN.out.quiet hq)
  have HFw25 := Lib.hid (HF.out.trans hq)
  clear hq HQ  HN HF 
  have HN := HNw25
  have HF := HFw25
  clear  HNw25 HFw25 
  have hal : Frm [] w25 (w25.alloc (.cells #[.int .i64 1, .int .i64 4, .int .i64 0, .int .u64 0] 74)) := (Frm.refl _ _).alloc _
  have HQ := Lib.hid (bad_ok (inl_of (l := [⟨1, 4, 0, 0⟩]) (heap_alloc_new w25 (.cells #[.int .i64 1, .int .i64 4, .int .i64 0, .int .u64 0] 74))) (fun h => absurd (h.2.2 0 ⟨1, 4, 0, 0⟩ rfl) (by decide)) (by decide))
  have HAL := Lib.hid hal
  clear hal
  go_wp2_with fail
  refine HQ.out.mono ?_
  rintro e w26 ⟨rfl, hq⟩
  have HF2 := Lib.hid ((HF.out.trans HAL.out).trans hq)
  have HN2 := Lib.hid ((HN.out.quiet HAL.out).quiet hq)
  clear HQ HF HN hq HAL
  have HF := HF2
  have HN := HN2
  clear HF2 HN2
  have HQ := Lib.hid (instr_any 8 0 1 0 w26)
  go_wp2_with fail
  refine HQ.out.mono ?_
  rintro e w27 ⟨rfl, hq⟩
  have HNw27 := Lib.hid (HN.out.quiet hq)
  have HFw27 := Lib.hid (HF.out.trans hq)
  clear hq HQ  HN HF 
  have HN := HNw27
  have HF := HFw27
  clear  HNw27 HFw27 
  have hal : Frm [] w27 (w27.alloc (.cells #[.int .i64 8, .int .i64 0, .int .i64 1, .int .u64 0] 74)) := (Frm.refl _ _).alloc _
  have HQ := Lib.hid (bad_ok (inl_of (l := [⟨8, 0, 1, 0⟩]) (heap_alloc_new w27 (.cells #[.int .i64 8, .int .i64 0, .int .i64 1, .int .u64 0] 74))) (fun h => absurd (h.2.2 0 ⟨8, 0, 1, 0⟩ rfl) (by decide)) (by decide))
  have HAL := Lib.hid hal
  clear hal
  go_wp2_with fail
  refine HQ.out.mono ?_
  rintro e w28 ⟨rfl, hq⟩
  have HF2 := Lib.hid ((HF.out.trans HAL.out).trans hq)
  have HN2 := Lib.hid ((HN.out.quiet HAL.out).quiet hq)
  clear HQ HF HN hq HAL
  have HF := HF2
  have HN := HN2
  clear HF2 HN2
  go_wp2_with fail
  refine (adds_any _).mono ?_
  rintro e w29 ⟨gb, rfl, hq, hin, hgb⟩
  have hal : Frm [] w29 (w29.alloc (.cells #[.slice (some ⟨gb, 0, none⟩) 4 4] 71)) := (Frm.refl _ _).alloc _
  have HPR := Lib.hid (program_any (lsl_one (heap_alloc_new w29 (.cells #[.slice (some ⟨gb, 0, none⟩) 4 4] 71)) (hin.frm0 hal)) (fun l' hl' => by simp at hl'; subst hl'; exact adds_ok) (by omega) (by omega))
  have HF2 := Lib.hid ((HF.out.trans hq).trans hal)
  have HN2 := Lib.hid ((HN.out.quiet hq).quiet hal)
  clear HF HN hq hal hin hgb
  have HF := HF2
  have HN := HN2
  clear HF2 HN2
  go_wp2_with fail
  refine HPR.out.mono ?_
  rintro e w30 ⟨chd, qd, Bd, rfl, hq, hp, hB⟩
  have HQ := Lib.hid (mat_Put_state (HN.out.quiet hq) b4_t0 b4_e0 hp)
  have HF2 := Lib.hid (HF.out.trans hq)
  have HN2 := Lib.hid (HN.out.quiet hq)
  clear HF HN hq hp hB HPR
  have HF := HF2
  have HN := HN2
  clear HF2 HN2
  go_wp2_with fail
  refine HQ.out.mono ?_
  rintro e w31 ⟨rfl, hq⟩
  have HF2 := Lib.hid (HF.out.trans hq)
  clear HF HN hq HQ HFN
  have HF := HF2
  clear HF2
  go_wp2_with fail
  refine (adds_any _).mono ?_
  rintro e w32 ⟨gc, rfl, hq, hin, hgc⟩
  go_wp2_with fail
  refine (awaits_any _).mono ?_
  rintro e w33 ⟨gd, rfl, hq2, hin2, hgd⟩
  have hal : Frm [] w33 (w33.alloc (.cells #[.slice (some ⟨gc, 0, none⟩) 4 4, .slice (some ⟨gd, 0, none⟩) 2 2] 71)) := (Frm.refl _ _).alloc _
  have HPR := Lib.hid (program_any (lsl_two (heap_alloc_new w33 (.cells #[.slice (some ⟨gc, 0, none⟩) 4 4, .slice (some ⟨gd, 0, none⟩) 2 2] 71)) ((hin.frm0 hq2).frm0 hal) (hin2.frm0 hal)) (fun l' hl' => by simp at hl'; rcases hl' with rfl | rfl; exact adds_ok; exact awaits_ok) (by omega) (by omega))
  have HF2 := Lib.hid (((HF.out.trans hq).trans hq2).trans hal)
  clear HF hq hq2 hal hin hin2 hgc hgd
  have HF := HF2
  clear HF2
  go_wp2_with fail
  refine HPR.out.mono ?_
  rintro e w34 ⟨chp, qp, Bp, rfl, hq, hp, hB⟩
  have hrd : Rd (w34.alloc (.cells #[.int .u64 1] 28)) (.slice (some ⟨w34.heap.size, 0, none⟩) 1 1) (u64s [1]) :=
    .inr ⟨w34.heap.size, 0, 1, rfl, by simp [u64s], by simp, fun i u hu => by rw [Nat.zero_add, cell_of_heap (heap_alloc_new _ _)]; simpa [u64s] using hu⟩
  have HQ := Lib.hid (arena_any hrd (by simp) (by simp))
  have hsz := HF.out.size
  have HNEW := Lib.hid (show ∀ x ∈ Bp, w.heap.size ≤ x from fun x hx => by have := hB x hx; omega)
  have hal : Frm [] w34 (w34.alloc (.cells #[.int .u64 1] 28)) := (Frm.refl _ _).alloc _
  have HF2 := Lib.hid ((HF.out.trans hq).trans hal)
  have HP := Lib.hid (hp.frm0 hal)
  clear HF hq hp hB HPR hrd hsz hal
  have HF := HF2
  clear HF2
  go_wp2_with fail
  refine HQ.out.mono ?_
  rintro e w35 ⟨pa, da, ca, rfl, hq, hM, hpa, hda⟩
  have hms := m_Step chp qp
  have hmd := m_Done chp qp
  have hmr := m_Result chp qp
  have hcs := c_Step chp
  have hcd := c_Done chp
  have hcr := c_Result chp
  have hsz := HF.out.size
  have HP2 := Lib.hid (HP.out.frm0 hq)
  have HMM := Lib.hid hM
  have HDA := Lib.hid (show w.heap.size ≤ da by omega)
  have HF2 := Lib.hid (HF.out.trans hq)
  clear HF HP hq hM hpa hda HQ hsz
  have HF := HF2
  have HP := HP2
  clear HF2 HP2
  go_wp2_with fail
  go_loopw [10] (fun i wr => ∃ (k : Nat) (B : List Nat), k ≤ 6 ∧ i = .int .i64 k ∧ Frm [] w wr ∧ PgAt wr chp qp B (it k).1 ∧ MemAt wr pa da ca (it k).2 ∧ ∀ x ∈ B, w.heap.size ≤ x) (fun i _ => 6 - (intOf i).toNat)
  case atStart => exact ⟨0, Bp, by omega, rfl, HF.out, HP.out, HMM.out, HNEW.out⟩
  case round =>
    obtain ⟨k, B, hk, rfl, hF, hp, hM, hn⟩ := hrel
    by_cases hlt : k < 6
    · obtain ⟨s1, s2, s3, s4⟩ := it_step k hlt
      have hS : Calls Try.prog (fStep chp) #[.pointer (some ⟨qp, 0, none⟩), .iface 34 (.pointer (some ⟨pa, 0, none⟩))] wr (PsQ false wr pa da ca da chp qp B (nxt (it k).1 (it k).2)) := pStep (K := false) hp s1 (Mm.ofMem hM)
      unfold PsQ at hS
      rw [s2, s3] at hS
      have HS := Lib.hid hS
      have HFR := Lib.hid hF
      have HNB := Lib.hid hn
      have S4 := Lib.hid s4
      clear s1 s2 s3 s4 hS hF hp hM hn
      go_wp2_with fail
      refine HS.out.mono ?_
      rintro e x1 ⟨rfl, hF1, hM1, B', hB', hp1⟩
      have hD := pDone hp1
      rw [show (nxt (it k).1 (it k).2).P.en = decide (k = 5) from S4.out] at hD
      have HD := Lib.hid hD
      have HF1 := Lib.hid (HFR.out.trans_new hF1 (fun x hx => by
        simp only [List.mem_cons] at hx
        rcases hx with rfl | rfl | hx
        · exact .inr HDA.out
        · exact .inr HDA.out
        · exact .inr (HNB.out x hx)))
      have HM1 := Lib.hid hM1.mem
      have HP1 := Lib.hid hp1
      have HB1 := Lib.hid (show ∀ x ∈ B', w.heap.size ≤ x from fun x hx => HNB.out x (hB' x hx))
      clear hF1 hM1 hp1 hD hB'
      by_cases h5 : k = 5
      · subst h5
        go_wp2_with fail
        refine HD.out.mono ?_
        rintro e x2 ⟨rfl, hq⟩
        have HF2 := Lib.hid (HF1.out.trans hq)
        have HP2 := Lib.hid (HP1.out.frm0 hq)
        have HM2 := Lib.hid (HM1.out.frm hq (by simp) (by simp))
        clear hq
        go_wp2
        go_roundw
        case rel => exact ⟨6, B', by omega, rfl, HF2.out, HP2.out, HM2.out, HB1.out⟩
        case measure => simp [intOf]
      · have hd5 : decide (k = 5) = false := by simpa using h5
        have hb5 : ((k : Int) == 5) = false := by simp; omega
        rw [hd5] at HD
        clear hd5 h5
        go_wp2_with fail
        refine HD.out.mono ?_
        rintro e x2 ⟨rfl, hq⟩
        have HF2 := Lib.hid (HF1.out.trans hq)
        have HP2 := Lib.hid (HP1.out.frm0 hq)
        have HM2 := Lib.hid (HM1.out.frm hq (by simp) (by simp))
        clear hq
        go_wp2
        go_roundw
        case rel => exact ⟨k + 1, B', by omega, by go_num, HF2.out, HP2.out, HM2.out, HB1.out⟩
        case measure => simp [intOf]; omega
    · obtain rfl : k = 6 := by omega
      have HFR := Lib.hid hF
      have HPR := Lib.hid hp
      clear hF hp hM hn
      go_wp2_with fail
      refine (chain_none _ _ _).mono ?_
      rintro e x1 ⟨rfl, hq⟩
      have hR := pResult (HPR.out.frm0 hq)
      rw [it_res] at hR
      have HR := Lib.hid hR
      have HF1 := Lib.hid (HFR.out.trans hq)
      clear hR hq
      go_wp2_with fail
      refine HR.out.mono ?_
      rintro e x2 ⟨rfl, hq⟩
      have HF2 := Lib.hid (HF1.out.trans hq)
      clear hq
      go_wp2
      go_ret
      exact ⟨rfl, HF2.out⟩
#print axioms known_true
end Go.Proofs.Ytieccmmnfnpcoaa
