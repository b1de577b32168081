/- Layer 7: the walk of QnodeNew (by gen_qndw.py). -/
import Derived.Test.YtclcgmadilcdgaaQndK
import Derived.Deep.RegionHeld3
namespace Go.Proofs.Ytclcgmadilcdgaa
open Go.ChangeShapes Go.WideShapes Go.ChangeAt Go.RowKit

set_option maxRecDepth 100000 in
set_option maxHeartbeats 8000000 in
theorem walk_QnodeNew (b : Int) (wb : (Lit.int .i64 b).wf = true) (t : Int) (_wt : (Lit.int .i64 t).wf = true) (c : Int) (wc : (Lit.int .i64 c).wf = true) (m : Int) (_wm : (Lit.int .i64 m).wf = true) (w : World) :
    Calls Try.prog 3 #[.int .i64 b, .int .i64 t, .int .i64 c, .int .i64 m] w (Ret (.bool true) (fun w' => Below w.heap.size w w')) := by
  obtain ⟨X, hX⟩ : ∃ X, X = (w.alloc (.cells #[.int .i64 b, .int .i64 t] 23)).alloc (.cells #[.int .i64 c, .int .i64 m] 23) := ⟨_, rfl⟩
  have hFX : Frm [] w X := by rw [hX]; exact ((Frm.refl _ _).alloc _).alloc _
  have hB : X.heap[w.heap.size]? = some (.cells #[.int .i64 b, .int .i64 t] 23 (0, 0)) := by rw [hX]; exact heap_alloc_old _ (heap_alloc_new _ _)
  have hC : X.heap[w.heap.size + 1]? = some (.cells #[.int .i64 c, .int .i64 m] 23 (0, 0)) := by rw [hX]; exact heap_alloc_at _ (by simp)
  have HX := Lib.hid hX
  have HB := Lib.hid hB
  have HC := Lib.hid hC
  have HF := Lib.hid hFX
  clear hX hB hC hFX
  by_cases hr : 0 ≤ b ∧ 1 ≤ t ∧ t ≤ 64 ∧ b + 6 * t ≤ 65536
  · obtain ⟨r0, r1, r2, r3⟩ := hr
    obtain ⟨b, rfl⟩ := Int.eq_ofNat_of_zero_le r0
    obtain ⟨t, rfl⟩ := Int.eq_ofNat_of_zero_le (show 0 ≤ t by omega)
    have t1 : 1 ≤ t := by omega
    have t64 : t ≤ 64 := by omega
    have fit : b + 6 * t ≤ 65536 := by omega
    have hl : ((t : Int) * 2 * 3 != 6 * (t : Int)) = false := by simp; omega
    clear r0 r1 r2 r3 wb _wt
    by_cases hq : 0 ≤ c ∧ 1 ≤ m ∧ m ≤ 64 ∧ c + 6 * m ≤ 65536
    · obtain ⟨r0, r1, r2, r3⟩ := hq
      obtain ⟨c, rfl⟩ := Int.eq_ofNat_of_zero_le r0
      obtain ⟨m, rfl⟩ := Int.eq_ofNat_of_zero_le (show 0 ≤ m by omega)
      have m1 : 1 ≤ m := by omega
      have m64 : m ≤ 64 := by omega
      have fit2 : c + 6 * m ≤ 65536 := by omega
      clear r0 r1 r2 r3 wc _wm
      by_cases he : b = c ∧ t = m
      · obtain ⟨rfl, rfl⟩ := he
        go_enter Try.func3, Try.ntmps3
        go_wp2_with fail
        refine (right_yes _ b t t1 t64 fit).mono ?_
        rintro e w1 ⟨rfl, hF1⟩
        rw [← HX.out] at hF1
        go_wp2_with fail
        refine (new_ok _ b t t1 t64 fit).mono ?_
        rintro e w2 ⟨rfl, hF2, hN⟩
        have HN := Lib.hid hN
        clear hN
        go_wp2_with fail
        refine (base_nd HN.out).mono ?_
        rintro e w' ⟨rfl, rfl⟩
        go_wp2_with fail
        refine (threads_nd HN.out).mono ?_
        rintro e w' ⟨rfl, rfl⟩
        go_wp2_with fail
        refine (len_nd HN.out).mono ?_
        rintro e w' ⟨rfl, rfl⟩
        go_wp2_with fail
        refine (same_eq HN.out HN.out).mono ?_
        rintro e w3 ⟨rfl, hF3⟩
        have hF4 : Frm [] X w3 := (hF1.trans hF2).trans hF3
        have HN3 := Lib.hid (HN.out.frm hF3)
        obtain ⟨c0, c1⟩ := cells2 (hF4.heap HC.out (by simp))
        clear hF1 hF2 hF3
        go_wp2_with fail
        refine (right_yes _ b t t1 t64 fit).mono ?_
        rintro e w4 ⟨rfl, hF5⟩
        go_wp2_with fail
        refine (new_ok _ b t t1 t64 fit).mono ?_
        rintro e w6 ⟨rfl, hF6, hM⟩
        have hF7 : Frm [] X w6 := (hF4.trans hF5).trans hF6
        have HN6 := Lib.hid ((HN3.out.frm hF5).frm hF6)
        have HM6 := Lib.hid hM
        have hB6 := hF7.heap HB.out (by simp)
        have hC6 := hF7.heap HC.out (by simp)
        have kb := fun w' (hw : Frm [] w6 w') => cells2 (hw.heap hB6 (by simp))
        have kc := fun w' (hw : Frm [] w6 w') => cells2 (hw.heap hC6 (by simp))
        have HS1 := Lib.hid (fun w' (hw : Frm [] w6 w') => same_eq (HN6.out.frm hw) (HM6.out.frm hw))
        have HS2 := Lib.hid (fun w' (hw : Frm [] w6 w') => same_eq (HM6.out.frm hw) (HN6.out.frm hw))
        clear c0 c1 hM hB6 hC6 hF5 hF6 hF4
        go_wp2_with fail
        go_region_held3 (fun w' => Frm [] w6 w')
          ((repeat' (first | assumption | exact Frm.refl _ _ | apply Frm.drew | apply Frm.alloc | (refine Frm.trans ?_ g1))))
          (first
            | (go_at_call 15; (with_reducible refine (HS1.out _ (by assumption)).mono ?_); rintro e y1 ⟨rfl, g1⟩)
            | (go_at_call 15; (with_reducible refine (HS2.out _ (by assumption)).mono ?_); rintro e y1 ⟨rfl, g1⟩)
            | (go_at_call 10; refine known_true.mono ?_; rintro e y1 ⟨rfl, g1⟩))
        go_wp2
        go_ret
        exact ⟨rfl, (HF.out.trans (hF7.trans (by assumption))).below (Nat.le_refl _) (by simp)⟩
      · have HNE := Lib.hid he
        have HNE2 : Hid (¬ (c = b ∧ m = t)) := Lib.hid (fun h => he ⟨h.1.symm, h.2.symm⟩)
        by_cases e1 : b = c
        · have e2 : ¬ t = m := fun h => he ⟨e1, h⟩
          have f1 : ((b : Int) == (c : Int)) = true := by rw [e1]; exact beq_self_eq_true _
          have f2 : ((t : Int) == (m : Int)) = false := by simp; omega
          have f1' : (b == c) = true := by rw [e1]; exact beq_self_eq_true _
          have f2' : (t == m) = false := by simpa using e2
          clear he e1
          go_enter Try.func3, Try.ntmps3
          go_wp2_with fail
          refine (right_yes _ b t t1 t64 fit).mono ?_
          rintro e w1 ⟨rfl, hF1⟩
          rw [← HX.out] at hF1
          go_wp2_with fail
          refine (new_ok _ b t t1 t64 fit).mono ?_
          rintro e w2 ⟨rfl, hF2, hN⟩
          have HN := Lib.hid hN
          clear hN
          go_wp2_with fail
          refine (base_nd HN.out).mono ?_
          rintro e w' ⟨rfl, rfl⟩
          go_wp2_with fail
          refine (threads_nd HN.out).mono ?_
          rintro e w' ⟨rfl, rfl⟩
          go_wp2_with fail
          refine (len_nd HN.out).mono ?_
          rintro e w' ⟨rfl, rfl⟩
          go_wp2_with fail
          refine (same_eq HN.out HN.out).mono ?_
          rintro e w3 ⟨rfl, hF3⟩
          have hF4 : Frm [] X w3 := (hF1.trans hF2).trans hF3
          have HN3 := Lib.hid (HN.out.frm hF3)
          obtain ⟨c0, c1⟩ := cells2 (hF4.heap HC.out (by simp))
          clear hF1 hF2 hF3
          go_wp2_with fail
          refine (right_yes _ c m m1 m64 fit2).mono ?_
          rintro e w4 ⟨rfl, hF5⟩
          go_wp2_with fail
          refine (new_ok _ c m m1 m64 fit2).mono ?_
          rintro e w6 ⟨rfl, hF6, hM⟩
          have hF7 : Frm [] X w6 := (hF4.trans hF5).trans hF6
          have HN6 := Lib.hid ((HN3.out.frm hF5).frm hF6)
          have HM6 := Lib.hid hM
          have hB6 := hF7.heap HB.out (by simp)
          have hC6 := hF7.heap HC.out (by simp)
          have kb := fun w' (hw : Frm [] w6 w') => cells2 (hw.heap hB6 (by simp))
          have kc := fun w' (hw : Frm [] w6 w') => cells2 (hw.heap hC6 (by simp))
          have HS1 := Lib.hid (fun w' (hw : Frm [] w6 w') => same_ne (HN6.out.frm hw) (HM6.out.frm hw) HNE.out)
          have HS2 := Lib.hid (fun w' (hw : Frm [] w6 w') => same_ne (HM6.out.frm hw) (HN6.out.frm hw) HNE2.out)
          clear c0 c1 hM hB6 hC6 hF5 hF6 hF4
          go_wp2_with fail
          go_region_held3 (fun w' => Frm [] w6 w')
            ((repeat' (first | assumption | exact Frm.refl _ _ | apply Frm.drew | apply Frm.alloc | (refine Frm.trans ?_ g1))))
            (first
              | (go_at_call 15; (with_reducible refine (HS1.out _ (by assumption)).mono ?_); rintro e y1 ⟨rfl, g1⟩)
              | (go_at_call 15; (with_reducible refine (HS2.out _ (by assumption)).mono ?_); rintro e y1 ⟨rfl, g1⟩)
              | (go_at_call 10; refine known_true.mono ?_; rintro e y1 ⟨rfl, g1⟩))
          go_wp2
          go_ret
          exact ⟨rfl, (HF.out.trans (hF7.trans (by assumption))).below (Nat.le_refl _) (by simp)⟩
        · have f1 : ((b : Int) == (c : Int)) = false := by simp; omega
          have f1' : (b == c) = false := by simpa using e1
          clear he
          go_enter Try.func3, Try.ntmps3
          go_wp2_with fail
          refine (right_yes _ b t t1 t64 fit).mono ?_
          rintro e w1 ⟨rfl, hF1⟩
          rw [← HX.out] at hF1
          go_wp2_with fail
          refine (new_ok _ b t t1 t64 fit).mono ?_
          rintro e w2 ⟨rfl, hF2, hN⟩
          have HN := Lib.hid hN
          clear hN
          go_wp2_with fail
          refine (base_nd HN.out).mono ?_
          rintro e w' ⟨rfl, rfl⟩
          go_wp2_with fail
          refine (threads_nd HN.out).mono ?_
          rintro e w' ⟨rfl, rfl⟩
          go_wp2_with fail
          refine (len_nd HN.out).mono ?_
          rintro e w' ⟨rfl, rfl⟩
          go_wp2_with fail
          refine (same_eq HN.out HN.out).mono ?_
          rintro e w3 ⟨rfl, hF3⟩
          have hF4 : Frm [] X w3 := (hF1.trans hF2).trans hF3
          have HN3 := Lib.hid (HN.out.frm hF3)
          obtain ⟨c0, c1⟩ := cells2 (hF4.heap HC.out (by simp))
          clear hF1 hF2 hF3
          go_wp2_with fail
          refine (right_yes _ c m m1 m64 fit2).mono ?_
          rintro e w4 ⟨rfl, hF5⟩
          go_wp2_with fail
          refine (new_ok _ c m m1 m64 fit2).mono ?_
          rintro e w6 ⟨rfl, hF6, hM⟩
          have hF7 : Frm [] X w6 := (hF4.trans hF5).trans hF6
          have HN6 := Lib.hid ((HN3.out.frm hF5).frm hF6)
          have HM6 := Lib.hid hM
          have hB6 := hF7.heap HB.out (by simp)
          have hC6 := hF7.heap HC.out (by simp)
          have kb := fun w' (hw : Frm [] w6 w') => cells2 (hw.heap hB6 (by simp))
          have kc := fun w' (hw : Frm [] w6 w') => cells2 (hw.heap hC6 (by simp))
          have HS1 := Lib.hid (fun w' (hw : Frm [] w6 w') => same_ne (HN6.out.frm hw) (HM6.out.frm hw) HNE.out)
          have HS2 := Lib.hid (fun w' (hw : Frm [] w6 w') => same_ne (HM6.out.frm hw) (HN6.out.frm hw) HNE2.out)
          clear c0 c1 hM hB6 hC6 hF5 hF6 hF4
          go_wp2_with fail
          go_region_held3 (fun w' => Frm [] w6 w')
            ((repeat' (first | assumption | exact Frm.refl _ _ | apply Frm.drew | apply Frm.alloc | (refine Frm.trans ?_ g1))))
            (first
              | (go_at_call 15; (with_reducible refine (HS1.out _ (by assumption)).mono ?_); rintro e y1 ⟨rfl, g1⟩)
              | (go_at_call 15; (with_reducible refine (HS2.out _ (by assumption)).mono ?_); rintro e y1 ⟨rfl, g1⟩)
              | (go_at_call 10; refine known_true.mono ?_; rintro e y1 ⟨rfl, g1⟩))
          go_wp2
          go_ret
          exact ⟨rfl, (HF.out.trans (hF7.trans (by assumption))).below (Nat.le_refl _) (by simp)⟩
    · have HQ := Lib.hid hq
      clear hq
      go_enter Try.func3, Try.ntmps3
      go_wp2_with fail
      refine (right_yes _ b t t1 t64 fit).mono ?_
      rintro e w1 ⟨rfl, hF1⟩
      rw [← HX.out] at hF1
      go_wp2_with fail
      refine (new_ok _ b t t1 t64 fit).mono ?_
      rintro e w2 ⟨rfl, hF2, hN⟩
      have HN := Lib.hid hN
      clear hN
      go_wp2_with fail
      refine (base_nd HN.out).mono ?_
      rintro e w' ⟨rfl, rfl⟩
      go_wp2_with fail
      refine (threads_nd HN.out).mono ?_
      rintro e w' ⟨rfl, rfl⟩
      go_wp2_with fail
      refine (len_nd HN.out).mono ?_
      rintro e w' ⟨rfl, rfl⟩
      go_wp2_with fail
      refine (same_eq HN.out HN.out).mono ?_
      rintro e w3 ⟨rfl, hF3⟩
      have hF4 : Frm [] X w3 := (hF1.trans hF2).trans hF3
      have HN3 := Lib.hid (HN.out.frm hF3)
      obtain ⟨c0, c1⟩ := cells2 (hF4.heap HC.out (by simp))
      clear hF1 hF2 hF3
      go_wp2_with fail
      refine (right_no _ c m HQ.out).mono ?_
      rintro e w5 ⟨rfl, hF5⟩
      go_wp2_with fail
      refine (qnone c m HQ.out wc).mono ?_
      rintro e w6 ⟨rfl, hF6⟩
      go_wp2_with fail
      refine known_true.mono ?_
      rintro e w9 ⟨rfl, hF9⟩
      go_wp2
      go_ret
      exact ⟨rfl, ((((HF.out.trans hF4).trans hF5).trans hF6).trans hF9).below (Nat.le_refl _) (by simp)⟩
  · have HR := Lib.hid hr
    clear hr
    go_enter Try.func3, Try.ntmps3
    go_wp2_with fail
    refine (right_no _ b t HR.out).mono ?_
    rintro e w1 ⟨rfl, hF1⟩
    rw [← HX.out] at hF1
    go_wp2_with fail
    refine (qnone b t HR.out wb).mono ?_
    rintro e w2 ⟨rfl, hF2⟩
    go_wp2_with fail
    refine known_true.mono ?_
    rintro e w9 ⟨rfl, hF9⟩
    go_wp2
    go_ret
    exact ⟨rfl, (((HF.out.trans hF1).trans hF2).trans hF9).below (Nat.le_refl _) (by simp)⟩
#print axioms walk_QnodeNew
end Go.Proofs.Ytclcgmadilcdgaa
