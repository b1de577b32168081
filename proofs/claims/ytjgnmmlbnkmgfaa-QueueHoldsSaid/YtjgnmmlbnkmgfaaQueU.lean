/- Layer 3: the walk of QueueLongs. -/
import Derived.Test.YtjgnmmlbnkmgfaaQueT
namespace Go.Proofs.Ytjgnmmlbnkmgfaa
open Go.ChangeShapes Go.WideShapes Go.ChangeAt Go.RowKit

theorem info_u8 : (Try.prog.info? 5).map (fun i => (i.zero, i.size, i.bytes)) = some (some (.int .u8 0), 1, 1) := by kernel_rfl
theorem make_u8 (n : Nat) (h : n ≤ 2147483647) (w : World) : (Instr.makeSlice 22 (.int .i64 n) (.int .i64 n)).run Try.prog w =
    .ok (.slice (some ⟨w.heap.size, 0, none⟩) n n) (w.alloc (.cells (Array.replicate n (.int .u8 0)) 5)) := by
  obtain ⟨i0, hi, hz0, hz1, hz2⟩ := info_parts info_u8
  have := run_make (P := Try.prog) w 22 5 i0 (.int .u8 0) Try.underlying22 hi hz0 .i64 .i64 (n : Int) (n : Int) (by omega) (by omega) (by rw [hz2]; omega) (by omega)
  rw [this, hz1]
  have e : madeCells (Value.int .u8 0).cells (Int.toNat (n : Int) * 1) = Array.replicate n (.int .u8 0) := by
    apply Array.ext
    · simp [madeCells]
    · intro j h1 h2
      simp [madeCells, Value.cells, Nat.mod_one]
  rw [e]; simp
theorem li_u8z {w : World} {g n : Nat} (h : w.heap[g]? = some (.cells (Array.replicate n (.int .u8 0)) 5 (0, 0))) : Li .u8 w (some ⟨g, 0, none⟩) n n g 0 (List.replicate n 0) :=
  ⟨by simp, fun _ => rfl, fun i x hx => by
    have hi := (List.getElem?_eq_some_iff.1 hx).1
    simp at hi
    rw [List.getElem?_replicate, if_pos hi] at hx
    cases hx
    rw [cell_of_heap h, Nat.zero_add]; simp [hi], Nat.le_refl _⟩

theorem ck_zeros {m : Nat} {t : Int} (hm : mb t = true) (h : m ≤ 100000) : ck (List.replicate m 0) t = 0 :=
  ck_mk hm (by simpa using h) (fun x hx => by have := (List.mem_replicate.1 hx).2; have := (mb_iff.1 hm).1; omega)
theorem ck_rnd {m : Nat} {t : Int} (hm : mb t = true) (h : m ≤ 100000) : ck (rnd t m) t = 0 := by
  have ht := (mb_iff.1 hm).1
  refine ck_mk hm (by rw [rnd_length]; exact h) (fun x hx => ?_)
  obtain ⟨i, hi, rfl⟩ := List.getElem_of_mem hx
  simp [rnd]
  exact ⟨Int.emod_nonneg _ (by omega), Int.emod_lt_of_pos _ (by omega)⟩
theorem win_one {m : Nat} : win (List.replicate m 0) 1 = 1 := by
  have h : AllW (List.replicate m 0) 1 1 := by
    intro i hi j hj
    obtain rfl : j = 0 := by omega
    refine ⟨i, by omega, by omega, ?_⟩
    rw [List.getElem?_replicate, if_pos (by simp at hi; omega)]; rfl
  have := (allW_iff (by omega) (fun x hx => by have := (List.mem_replicate.1 hx).2; omega) (by omega)).1 h
  have := (win_bd (l := List.replicate m 0) (t := 1) (by omega)).1
  omega
theorem win_zeros {m t : Nat} (ht : 1 < t) (hm : 1 ≤ m) : win (List.replicate m 0) t = m + 1 := by
  have h : ¬ AllW (List.replicate m 0) t m := by
    intro h
    obtain ⟨k, _, h2, h3⟩ := h 0 (by simp) 1 ht
    rw [List.getElem?_replicate, if_pos (by omega)] at h3
    simp at h3
  have hh := mt (allW_iff (by omega) (fun x hx => by have := (List.mem_replicate.1 hx).2; omega) hm).2 h
  have := (win_bd (l := List.replicate m 0) (t := t) (by omega)).2
  simp at this
  omega
theorem win_rnd {m t : Nat} (ht : 1 ≤ t) (hm : t ≤ m) : win (rnd t m) t = t := by
  have hl : ∀ x ∈ rnd (t : Int) m, 0 ≤ x ∧ x < (t : Int) := by
    intro x hx
    obtain ⟨i, hi, rfl⟩ := List.getElem_of_mem hx
    simp [rnd]
    exact ⟨Int.emod_nonneg _ (by omega), Int.emod_lt_of_pos _ (by omega)⟩
  have h1 : AllW (rnd (t : Int) m) t t := by
    intro i hi j hj
    rw [rnd_length] at hi
    have hr : i % t < t := Nat.mod_lt _ (by omega)
    have hq := Nat.div_add_mod i t
    by_cases hjr : i % t ≤ j
    · refine ⟨i + (j - i % t), by omega, by omega, ?_⟩
      rw [rnd_get (by omega)]
      have e : (i + (j - i % t)) % t = j := by
        rw [show i + (j - i % t) = t * (i / t) + j by omega, Nat.mul_add_mod, Nat.mod_eq_of_lt hj]
      rw [← Int.natCast_emod, e]
    · refine ⟨i + (t + j - i % t), by omega, by omega, ?_⟩
      rw [rnd_get (by omega)]
      have e : (i + (t + j - i % t)) % t = j := by
        rw [show i + (t + j - i % t) = t * (i / t) + (t + j) by omega, Nat.mul_add_mod, Nat.add_mod_left, Nat.mod_eq_of_lt hj]
      rw [← Int.natCast_emod, e]
  have h2 := (allW_iff ht hl ht).1 h1
  have h3 := (win_bd (l := rnd (t : Int) m) ht).1
  by_cases hc : t = 1
  · omega
  · have hs : (1 : Nat) ≤ t - 1 := by omega
    have h4 : ¬ AllW (rnd (t : Int) m) t (t - 1) := by
      intro h
      obtain ⟨k, _, hk, hx⟩ := h 0 (by rw [rnd_length]; omega) (t - 1) (by omega)
      rw [rnd_get (by omega)] at hx
      have e : k % t = k := Nat.mod_eq_of_lt (by omega)
      rw [← Int.natCast_emod, e] at hx
      have := Option.some.inj hx
      omega
    have h5 := mt (allW_iff ht hl hs).2 h4
    omega

set_option maxRecDepth 100000 in
set_option maxHeartbeats 3200000 in
theorem longs_long (m t : Nat) (w : World) (hm : 100000 < m) (hm2 : m ≤ 100002) (ht : mb (t : Int) = true) :
    Calls Try.prog 5 #[.int .i64 (m : Int), .int .i64 (t : Int)] w (Ret (.bool true) (fun w' => Below w.heap.size w w')) := by
  have d1 : decide ((m : Int) < 99998) = false := by simp; omega
  have d2 : decide ((100002 : Int) < (m : Int)) = false := by simp; omega
  have d3 : decide ((100000 : Int) < (m : Int)) = true := by simp; omega
  have hmk := make_int m (by omega)
  have hmb := make_u8 m (by omega)
  have hck : ck (List.replicate m 0) (t : Int) = 5 := ck_long ht (by simpa using hm)
  have hvl : vld (List.replicate m 0) (t : Int) = false := by unfold vld; rw [hck]; rfl
  have HT := Lib.hid ht
  have HC := Lib.hid hck
  have HV := Lib.hid hvl
  obtain ⟨X, hX⟩ : ∃ X, X = w.alloc (.cells (ints (List.replicate m 0)).toArray 3) := ⟨_, rfl⟩
  have hFX : Frm [] w X := by rw [hX]; exact (Frm.refl _ _).alloc _
  have hL : Li .i64 X (some ⟨w.heap.size, 0, none⟩) m m w.heap.size 0 (List.replicate m 0) := li_block (by simp) (by rw [hX]; exact heap_alloc_new _ _)
  have HX := Lib.hid hX
  have HL := Lib.hid hL
  clear ht hck hvl hX hL
  go_enter Try.func5, Try.ntmps5
  go_wp2_with fail
  refine (rthreads_any _ _).mono ?_
  rintro e w1 ⟨rfl, rfl⟩
  rw [HT.out]
  go_wp2_with fail
  rw [← HX.out]
  refine (valid_is HL.out t false HV.out).mono ?_
  rintro e w1 ⟨rfl, rfl⟩
  go_wp2_with fail
  refine (qcounts_err HL.out t 5 HC.out (by omega)).mono ?_
  rintro e w2 ⟨rfl, hF2⟩
  go_wp2_with fail
  refine (qwindow_err (HL.out.frm0 hF2) t 5 HC.out (by omega)).mono ?_
  rintro e w3 ⟨rfl, hF3⟩
  go_wp2_with fail
  refine (qfair_err ((HL.out.frm0 hF2).frm0 hF3) t 5 5 (by omega) HC.out (by omega)).mono ?_
  rintro e w4 ⟨rfl, hF4⟩
  go_wp2_with fail
  refine (qfrom_err _ _ m m t 5 (.inr ⟨⟨HT.out, hm⟩, rfl⟩)).mono ?_
  rintro e w5 ⟨rfl, hF5⟩
  go_wp2_with fail
  refine (known_true _).mono ?_
  rintro e w6 ⟨rfl, hF6⟩
  go_wp2
  go_ret
  exact ⟨rfl, ((((((hFX.trans hF2).trans hF3).trans hF4).alloc _).trans hF5).trans hF6).below (Nat.le_refl _) (by simp)⟩

set_option maxRecDepth 100000 in
set_option maxHeartbeats 3200000 in
theorem longs_ok (m t : Nat) (w : World) (hm : 99998 ≤ m) (hm2 : m ≤ 100000) (ht : mb (t : Int) = true) :
    Calls Try.prog 5 #[.int .i64 (m : Int), .int .i64 (t : Int)] w (Ret (.bool true) (fun w' => Below w.heap.size w w')) := by
  have d1 : decide ((m : Int) < 99998) = false := by simp; omega
  have d2 : decide ((100002 : Int) < (m : Int)) = false := by simp; omega
  have d3 : decide ((100000 : Int) < (m : Int)) = false := by simp; omega
  obtain ⟨t0, t1⟩ := mb_iff.1 ht
  have hmk := make_int m (by omega)
  have hmb := make_u8 m (by omega)
  have hck : ck (List.replicate m 0) (t : Int) = 0 := ck_zeros ht hm2
  have hvl : vld (List.replicate m 0) (t : Int) = true := by unfold vld; rw [hck]; rfl
  have hckr : ck (rnd (t : Int) m) (t : Int) = 0 := ck_rnd ht hm2
  have hwr := win_rnd (m := m) (t := t) (by omega) (by omega)
  have hw1 : ∀ x : Int, (x = if (1 : Int) < t then (m : Int) + 1 else 1) → win (List.replicate m 0) t = x := by
    rintro x rfl
    split
    · exact win_zeros (by omega) (by omega)
    · obtain rfl : t = 1 := by omega
      exact win_one
  have hsy : sayB (List.replicate m 0) (t : Int) = List.replicate m 0 := by unfold sayB; simp
  have HT := Lib.hid ht
  have HC := Lib.hid hck
  have HV := Lib.hid hvl
  have HCR := Lib.hid hckr
  have HWR := Lib.hid hwr
  have HW1 := Lib.hid hw1
  have HSY := Lib.hid hsy
  obtain ⟨X, hX⟩ : ∃ X, X = w.alloc (.cells (ints (List.replicate m 0)).toArray 3) := ⟨_, rfl⟩
  have hFX : Frm [] w X := by rw [hX]; exact (Frm.refl _ _).alloc _
  have hL : Li .i64 X (some ⟨w.heap.size, 0, none⟩) m m w.heap.size 0 (List.replicate m 0) := li_block (by simp) (by rw [hX]; exact heap_alloc_new _ _)
  have HX := Lib.hid hX
  have HL := Lib.hid hL
  have hmm : ((m : Int) != (m : Int)) = false := by simp
  clear ht hck hvl hX hL hckr hwr hw1 hsy
  have hcs : (decide ((1 : Int) < (t : Int)) = true ∧ (if (1 : Int) < t then (m : Int) + 1 else 1) = (m : Int) + 1) ∨ (decide ((1 : Int) < (t : Int)) = false ∧ (if (1 : Int) < t then (m : Int) + 1 else 1) = 1) := by
    by_cases htt : (1 : Int) < (t : Int)
    · exact .inl ⟨by simpa using htt, if_pos htt⟩
    · exact .inr ⟨by simpa using htt, if_neg htt⟩
  clear t0 t1
  rcases hcs with ⟨d4, hif⟩ | ⟨d4, hif⟩
  all_goals
    have HIF := Lib.hid hif
    clear hif
    go_enter Try.func5, Try.ntmps5
    go_wp2_with fail
    refine (rthreads_any _ _).mono ?_
    rintro e w1 ⟨rfl, rfl⟩
    rw [HT.out]
    go_wp2_with fail
    rw [← HX.out]
    refine (valid_is HL.out t true HV.out).mono ?_
    rintro e w1 ⟨rfl, rfl⟩
    go_wp2_with fail
    refine (qwindow_ok HL.out t HC.out _ (HW1.out _ HIF.out.symm)).mono ?_
    rintro e w2 ⟨rfl, hF2⟩
    go_wp2_with fail
    refine (round_ok _ t m HT.out hm2).mono ?_
    rintro e w3 ⟨rfl, hF3, hB3⟩
    have hLr := li_block (n := m) (rnd_length _ m) hB3
    have HLR := Lib.hid hLr
    clear hB3 hLr
    go_wp2_with fail
    refine (qwindow_ok HLR.out t HCR.out t HWR.out).mono ?_
    rintro e w4 ⟨rfl, hF4⟩
    go_wp2_with fail
    refine (qfrom_ok (li_u8z (heap_alloc_new _ _)) (fun x hx => by have := (List.mem_replicate.1 hx).2; omega) t HT.out (by omega) (by rw [HSY.out]; exact (((HL.out.frm0 hF2).frm0 hF3).frm0 hF4).frm0 ((Frm.refl _ _).alloc _))).mono ?_
    rintro e w5 ⟨rfl, hF5⟩
    go_wp2_with fail
    refine (known_true _).mono ?_
    rintro e w6 ⟨rfl, hF6⟩
    go_wp2
    go_ret
    exact ⟨rfl, ((((((hFX.trans hF2).trans hF3).trans hF4).alloc _).trans hF5).trans hF6).below (Nat.le_refl _) (by simp)⟩

set_option maxHeartbeats 1600000 in
theorem walk_QueueLongs (m : Int) (_wm : (Lit.int .i64 m).wf = true) (t : Int) (_wt : (Lit.int .i64 t).wf = true) (w : World) :
    Calls Try.prog 5 #[.int .i64 m, .int .i64 t] w (Ret (.bool true) (fun w' => Below w.heap.size w w')) := by
  by_cases h1 : m < 99998
  · have d1 : decide (m < 99998) = true := by simpa using h1
    go_enter Try.func5, Try.ntmps5
    go_wp2_with (go_at_call 10; refine (known_true _).mono ?_; rintro e w1 ⟨rfl, hF⟩)
    go_ret
    exact ⟨rfl, hF.below (Nat.le_refl _) (by simp)⟩
  · have d1 : decide (m < 99998) = false := by simpa using h1
    by_cases h2 : 100002 < m
    · have d2 : decide (100002 < m) = true := by simpa using h2
      go_enter Try.func5, Try.ntmps5
      go_wp2_with (go_at_call 10; refine (known_true _).mono ?_; rintro e w1 ⟨rfl, hF⟩)
      go_ret
      exact ⟨rfl, hF.below (Nat.le_refl _) (by simp)⟩
    · have d2 : decide (100002 < m) = false := by simpa using h2
      by_cases ht : mb t = true
      · obtain ⟨t0, t1⟩ := mb_iff.1 ht
        obtain ⟨k, rfl⟩ := Int.eq_ofNat_of_zero_le (show 0 ≤ t by omega)
        obtain ⟨j, rfl⟩ := Int.eq_ofNat_of_zero_le (show 0 ≤ m by omega)
        by_cases h3 : 100000 < j
        · exact longs_long j k w h3 (by omega) ht
        · exact longs_ok j k w (by omega) (by omega) ht
      · have ht : mb t = false := by simpa using ht
        have HT := Lib.hid ht
        clear ht
        go_enter Try.func5, Try.ntmps5
        go_wp2_with fail
        refine (rthreads_any _ _).mono ?_
        rintro e w1 ⟨rfl, rfl⟩
        rw [HT.out]
        go_wp2_with (go_at_call 10; refine (known_true _).mono ?_; rintro e w1 ⟨rfl, hF⟩)
        go_ret
        exact ⟨rfl, hF.below (Nat.le_refl _) (by simp)⟩
end Go.Proofs.Ytjgnmmlbnkmgfaa
