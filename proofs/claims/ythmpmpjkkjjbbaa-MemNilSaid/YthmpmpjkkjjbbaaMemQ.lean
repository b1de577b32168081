/- Layer 1: the walk of MemNil. -/
import Derived.Test.YthmpmpjkkjjbbaaMemN
namespace Go.Proofs.Ythmpmpjkkjjbbaa
open Go.ChangeShapes Go.WideShapes Go.ChangeAt Go.RowKit

set_option maxRecDepth 100000 in
set_option maxHeartbeats 6400000 in
theorem walk_MemNil (k : Int) (_wk : (Lit.int .i64 k).wf = true) (x : Int) (_wx : (Lit.int .i64 x).wf = true) (b : Int) (_wb : (Lit.int .u64 b).wf = true) (a : Int) (_wa : (Lit.int .u64 a).wf = true) (w : World) :
    Calls Try.prog 7 #[.agg #[.int .i64 k, .int .i64 x, .int .u64 b, .int .u64 a]] w (Ret (.bool true) (fun w' => Below w.heap.size w w')) := by
  go_enter Try.func7, Try.ntmps7
  go_wp2_with fail
  refine (made_any (xs := [1]) (rd_new (w := (w.alloc _).alloc _) (w.heap.size + 1) [1] (heap_alloc_at _ (by simp))) (by decide) (by decide)).mono ?_
  rintro e w1 ⟨p, d, c, rfl, hF1, hM, hp, hd⟩
  have hx := hF1.heap (heap_alloc_old _ (heap_alloc_new w (.cells #[.int .i64 k, .int .i64 x, .int .u64 b, .int .u64 a] 30))) (by simp)
  have hF : Frm [] w w1 := (((Frm.refl _ _).alloc _).alloc _).trans hF1
  have hp1 : w.heap.size < p := by simp at hp; omega
  have hd1 : w.heap.size < d := by simp at hd; omega
  clear hF1 hp hd
  have HX := Lib.hid hx
  have hxl := lt_of_heap hx
  clear hx
  go_wp2_with fail
  have hz := heap_alloc_old (.cells #[.pointer none, .pointer (some ⟨w1.heap.size, 0, none⟩)] 26) (heap_alloc_new w1 (.cells #[.slice none 0 0] 56))
  have hs := heap_alloc_at (w := w1.alloc (.cells #[.slice none 0 0] 56)) (k := w1.heap.size + 1) (.cells #[.pointer none, .pointer (some ⟨w1.heap.size, 0, none⟩)] 26) (by simp)
  have hM2 := (hM.alloc (.cells #[.slice none 0 0] 56)).alloc (.cells #[.pointer none, .pointer (some ⟨w1.heap.size, 0, none⟩)] 26)
  have hF2 := (hF.alloc (.cells #[.slice none 0 0] 56)).alloc (.cells #[.pointer none, .pointer (some ⟨w1.heap.size, 0, none⟩)] 26)
  have hx2 := heap_alloc_old (.cells #[.pointer none, .pointer (some ⟨w1.heap.size, 0, none⟩)] 26) (heap_alloc_old (.cells #[.slice none 0 0] 56) HX.out)
  generalize (w1.alloc (.cells #[.slice none 0 0] 56)).alloc (.cells #[.pointer none, .pointer (some ⟨w1.heap.size, 0, none⟩)] 26) = w2 at hz hs hM2 hF2 hx2 ⊢
  generalize w1.heap.size + 1 = s19 at hs ⊢
  generalize w1.heap.size = sz at hz hs ⊢
  have HZ := Lib.hid hz
  have HS := Lib.hid hs
  have hsl := lt_of_heap hs
  have hxl2 := lt_of_heap hx2
  have HX2 := Lib.hid hx2
  clear hz hs hx2 hM hF HX hxl
  go_loopw [2, 7, 8, 9, 21, 22, 23, 24, 25, 26, 27, 28, 29, 30, 31, 32, 33, 34, 35, 36, 37, 38, 39, 40, 41, 42, 43, 44, 45, 46, 47, 48, 49, 50, 51, 52, 53, 54, 55, 56, 57, 58, 59, 60, 61, 62, 63, 64, 65, 66, 67, 68, 69, 70, 71, 72, 73, 74, 75, 76, 77, 78, 79, 80, 81] (fun z _ _ _ i _ _ _ _ _ _ _ _ _ _ _ _ _ _ _ _ _ _ _ _ _ _ _ _ _ _ _ _ _ _ _ _ _ _ _ _ _ _ _ _ _ _ _ _ _ _ _ _ _ _ _ _ _ _ _ _ _ _ _ _ wr => ∃ kk : Nat, kk ≤ 2 ∧ z = .bool false ∧ i = .int .i64 kk ∧ Frm [] w2 wr) (fun _ _ _ _ i _ _ _ _ _ _ _ _ _ _ _ _ _ _ _ _ _ _ _ _ _ _ _ _ _ _ _ _ _ _ _ _ _ _ _ _ _ _ _ _ _ _ _ _ _ _ _ _ _ _ _ _ _ _ _ _ _ _ _ _ _ => 2 - (intOf i).toNat)
  case atStart => exact ⟨0, by omega, rfl, rfl, Frm.refl _ _⟩
  case round =>
    obtain ⟨kk, hkk, rfl, rfl, hFr⟩ := hrel
    obtain ⟨b0, b1, b2, b3⟩ := cells4 (hFr.heap HX2.out (by simp))
    by_cases hlt : kk < 2
    · obtain ⟨pa, hcell, hno⟩ : ∃ pa, wr.cell? ⟨s19, kk, none⟩ = some (.pointer pa) ∧ NoMem wr pa := by
        have hs := hFr.heap HS.out (by simp)
        have hz := hFr.heap HZ.out (by simp)
        rcases (show kk = 0 ∨ kk = 1 by omega) with rfl | rfl
        · exact ⟨none, by rw [cell_of_heap hs]; rfl, .inl rfl⟩
        · exact ⟨some ⟨sz, 0, none⟩, by rw [cell_of_heap hs]; rfl, .inr ⟨sz, rfl, hz⟩⟩
      have hMr := hM2.frm hFr (by simp) (by simp)
      go_wp2_with fail
      refine (newonce_no hno).mono ?_
      rintro e w4 ⟨rfl, hF4⟩
      clear b0 b1 b2 b3 hcell
      obtain ⟨b0, b1, b2, b3⟩ := cells4 ((hFr.trans hF4).heap HX2.out (by simp))
      go_wp2_with fail
      refine (makes_no_mem (hno.frm hF4) k x b a).mono ?_
      rintro e w5 ⟨rfl, hF5⟩
      have hG5 := hF4.trans hF5
      clear b0 b1 b2 b3 hF4 hF5
      obtain ⟨b0, b1, b2, b3⟩ := cells4 ((hFr.trans hG5).heap HX2.out (by simp))
      go_wp2_with fail
      refine (does_no (hno.frm hG5) k x b a).mono ?_
      rintro e w6 ⟨rfl, hF6⟩
      have hG6 := hG5.trans hF6
      clear b0 b1 b2 b3 hG5 hF6
      go_wp2_with fail
      refine (len_no_mem (hno.frm hG6)).mono ?_
      rintro e w7 ⟨rfl, hF7⟩
      have hG7 := hG6.trans hF7
      clear hG6 hF7
      go_wp2_with fail
      refine (words_nil (hno.frm hG7)).mono ?_
      rintro e w8 ⟨rfl, hF8⟩
      have hG8 := hG7.trans hF8
      clear hG7 hF8
      go_wp2_with fail
      refine (copy_no (hno.frm hG8)).mono ?_
      rintro e w9 ⟨rfl, hF9⟩
      have hG9 := hG8.trans hF9
      clear hG8 hF9
      go_wp2_with fail
      refine (same_no1 (hno.frm hG9)).mono ?_
      rintro e w10 ⟨rfl, hF10⟩
      have hG10 := hG9.trans hF10
      clear hG9 hF10
      go_wp2_with fail
      refine (same_no1 (hno.frm hG10)).mono ?_
      rintro e w11 ⟨rfl, hF11⟩
      have hG11 := hG10.trans hF11
      clear hG10 hF11
      go_wp2_with fail
      refine (same_no2 (hMr.frm hG11 (by simp) (by simp)) (hno.frm hG11)).mono ?_
      rintro e w12 ⟨rfl, hF12⟩
      have hG12 := hFr.trans (hG11.trans hF12)
      clear hG11 hF12 hMr hno hFr
      go_wp2
      go_roundw
      case rel => exact ⟨kk + 1, by omega, rfl, by go_num, hG12⟩
      case measure => simp [intOf]; omega
    · obtain rfl : kk = 2 := by omega
      rw [show ((2 : Nat) : Int) = 2 from rfl]
      clear b0 b1 b2 b3
      go_wp2_with fail
      have hz := heap_alloc_old (.cells #[.pointer none, .pointer (some ⟨wr.heap.size, 0, none⟩)] 50) (heap_alloc_new wr (.cells #[.pointer none, .int .i64 0, .int .i64 0, .int .u64 0, .int .u64 0] 59))
      have hs := heap_alloc_at (w := wr.alloc (.cells #[.pointer none, .int .i64 0, .int .i64 0, .int .u64 0, .int .u64 0] 59)) (k := wr.heap.size + 1) (.cells #[.pointer none, .pointer (some ⟨wr.heap.size, 0, none⟩)] 50) (by simp)
      have hF3 := ((hF2.trans hFr).alloc (.cells #[.pointer none, .int .i64 0, .int .i64 0, .int .u64 0, .int .u64 0] 59)).alloc (.cells #[.pointer none, .pointer (some ⟨wr.heap.size, 0, none⟩)] 50)
      have hx3 := heap_alloc_old (.cells #[.pointer none, .pointer (some ⟨wr.heap.size, 0, none⟩)] 50) (heap_alloc_old (.cells #[.pointer none, .int .i64 0, .int .i64 0, .int .u64 0, .int .u64 0] 59) (hFr.heap HX2.out (by simp)))
      generalize (wr.alloc (.cells #[.pointer none, .int .i64 0, .int .i64 0, .int .u64 0, .int .u64 0] 59)).alloc (.cells #[.pointer none, .pointer (some ⟨wr.heap.size, 0, none⟩)] 50) = w3 at hz hs hF3 hx3 ⊢
      generalize wr.heap.size + 1 = s85 at hs ⊢
      generalize wr.heap.size = sy at hz hs ⊢
      have HZ3 := Lib.hid hz
      have HS3 := Lib.hid hs
      have HX3 := Lib.hid hx3
      have hsl3 := lt_of_heap hs
      have hxl3 := lt_of_heap hx3
      clear hz hs hx3 hM2 hFr hF2 HX2 HS HZ
      go_loopw [2, 11, 87, 88, 89, 90, 91, 92, 93, 94, 95, 96, 97, 98, 99, 100, 101, 102, 103, 104, 105, 106, 107, 108] (fun z _ i _ _ _ _ _ _ _ _ _ _ _ _ _ _ _ _ _ _ _ _ _ wr => ∃ kk : Nat, kk ≤ 2 ∧ z = .bool false ∧ i = .int .i64 kk ∧ Frm [] w3 wr) (fun _ _ i _ _ _ _ _ _ _ _ _ _ _ _ _ _ _ _ _ _ _ _ _ _ => 2 - (intOf i).toNat)
      case atStart => exact ⟨0, by omega, rfl, rfl, Frm.refl _ _⟩
      case round =>
        obtain ⟨kk, hkk, rfl, rfl, hFr⟩ := hrel
        obtain ⟨b0, b1, b2, b3⟩ := cells4 (hFr.heap HX3.out (by simp))
        by_cases hlt : kk < 2
        · obtain ⟨pa, hcell, hno⟩ : ∃ pa, wr.cell? ⟨s85, kk, none⟩ = some (.pointer pa) ∧ NoOnce wr pa := by
            have hs := hFr.heap HS3.out (by simp)
            have hz := hFr.heap HZ3.out (by simp)
            rcases (show kk = 0 ∨ kk = 1 by omega) with rfl | rfl
            · exact ⟨none, by rw [cell_of_heap hs]; rfl, .inl rfl⟩
            · exact ⟨some ⟨sy, 0, none⟩, by rw [cell_of_heap hs]; rfl, .inr ⟨sy, rfl, hz⟩⟩
          go_wp2_with fail
          refine (makes_no_once hno k x b a).mono ?_
          rintro e w4 ⟨rfl, hF4⟩
          clear b0 b1 b2 b3 hcell
          go_wp2_with fail
          refine (len_no_once (hno.frm hF4)).mono ?_
          rintro e w5 ⟨rfl, hF5⟩
          have hG5 := hF4.trans hF5
          clear hF4 hF5
          go_wp2_with fail
          refine (oaccess_no (hno.frm hG5)).mono ?_
          rintro e w6 ⟨rfl, hF6⟩
          have hG6 := hFr.trans (hG5.trans hF6)
          clear hG5 hF6 hno hFr
          go_wp2
          go_roundw
          case rel => exact ⟨kk + 1, by omega, rfl, by go_num, hG6⟩
          case measure => simp [intOf]; omega
        · obtain rfl : kk = 2 := by omega
          clear b0 b1 b2 b3
          go_wp2_with fail
          refine (known_true _).mono ?_
          rintro e w5 ⟨rfl, hF5⟩
          go_wp2
          go_ret
          exact ⟨rfl, ((hF3.trans hFr).trans hF5).below (Nat.le_refl _) (by simp)⟩
end Go.Proofs.Ythmpmpjkkjjbbaa
