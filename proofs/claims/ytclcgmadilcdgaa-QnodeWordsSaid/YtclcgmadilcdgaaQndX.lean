/- Layer 7: the walk of QnodeWords (by gen_qndx.py). -/
import Derived.Test.YtclcgmadilcdgaaQndK
import Derived.Deep.RegionHeld3
namespace Go.Proofs.Ytclcgmadilcdgaa
open Go.ChangeShapes Go.WideShapes Go.ChangeAt Go.RowKit

set_option maxRecDepth 100000 in
set_option maxHeartbeats 8000000 in
theorem walk_QnodeWords (b : Int) (wb : (Lit.int .i64 b).wf = true) (t : Int) (_wt : (Lit.int .i64 t).wf = true) (k : Int) (_wk : (Lit.int .i64 k).wf = true) (x : Int) (wx : (Lit.int .u64 x).wf = true) (w : World) :
    Calls Try.prog 5 #[.int .i64 b, .int .i64 t, .int .i64 k, .int .u64 x] w (Ret (.bool true) (fun w' => Below w.heap.size w w')) := by
  by_cases hr : 0 ≤ b ∧ 1 ≤ t ∧ t ≤ 64 ∧ b + 6 * t ≤ 65536
  · obtain ⟨r0, r1, r2, r3⟩ := hr
    obtain ⟨b, rfl⟩ := Int.eq_ofNat_of_zero_le r0
    obtain ⟨t, rfl⟩ := Int.eq_ofNat_of_zero_le (show 0 ≤ t by omega)
    have t1 : 1 ≤ t := by omega
    have t64 : t ≤ 64 := by omega
    have fit : b + 6 * t ≤ 65536 := by omega
    have x0 : 0 ≤ x := by simp [Lit.wf] at wx; exact wx.1
    clear r0 r1 r2 r3 wb _wt wx
    obtain ⟨X, hX⟩ : ∃ X, X = w.alloc (.cells #[.int .i64 (b : Int), .int .i64 (t : Int)] 23) := ⟨_, rfl⟩
    have hFX : Frm [] w X := by rw [hX]; exact (Frm.refl _ _).alloc _
    have hB : X.heap[w.heap.size]? = some (.cells #[.int .i64 b, .int .i64 t] 23 (0, 0)) := by rw [hX]; exact heap_alloc_new _ _
    have HX := Lib.hid hX
    have HB := Lib.hid hB
    have HF := Lib.hid hFX
    have hu : IntKind.u64.wrap (2 * (t : Int)) = 2 * (t : Int) := by rw [IntKind.wrap_u64]; omega
    clear hX hB hFX
    by_cases hk : 0 ≤ k ∧ k < 2 * (t : Int)
    · obtain ⟨k0, k1⟩ := hk
      obtain ⟨k, rfl⟩ := Int.eq_ofNat_of_zero_le k0
      have k2 : k < 2 * t := by omega
      have hu2 := u64_nat k (by omega)
      have hu3 := u64_nat1 k (by omega)
      clear k0 k1 _wk
      by_cases hx : x ≤ 2 * (t : Int)
      · obtain ⟨x, rfl⟩ := Int.eq_ofNat_of_zero_le x0
        have x2 : x ≤ 2 * t := by omega
        have hb : decide (2 * (t : Int) < (x : Int)) = false := by simp; omega
        have hi : IntKind.i64.wrap (x : Int) = (x : Int) := IntWalk.i64_in _ (by omega)
        clear hx
        go_enter Try.func5, Try.ntmps5
        go_wp2_with fail
        refine (right_yes _ b t t1 t64 fit).mono ?_
        rintro e w1 ⟨rfl, hF1⟩
        rw [← HX.out] at hF1
        go_wp2_with fail
        refine (new_ok _ b t t1 t64 fit).mono ?_
        rintro e w2 ⟨rfl, hF2, hN⟩
        have HN := Lib.hid hN
        have hF3 := hF1.trans hF2
        have hB2 := hF3.heap HB.out (by simp)
        have kb := fun w' (hw : Frm [] w2 w') => cells2 (hw.heap hB2 (by simp))
        have HS0 := Lib.hid (fun w' (hw : Frm [] w2 w') => next_yes (HN.out.frm hw) fit k k2)
        have HR0 := Lib.hid (fun (w' : World) => rnext_yes w' b t k t64 fit k2)
        have HS1 := Lib.hid (fun w' (hw : Frm [] w2 w') => wait_yes (HN.out.frm hw) fit k k2)
        have HR1 := Lib.hid (fun (w' : World) => rwait_yes w' b t k t64 fit k2)
        have HS2 := Lib.hid (fun w' (hw : Frm [] w2 w') => mode_yes (HN.out.frm hw) fit k k2)
        have HR2 := Lib.hid (fun (w' : World) => rmode_yes w' b t k t64 fit k2)
        clear hN hB2
        go_wp2_with fail
        go_region_held3 (fun w' => Frm [] w2 w')
          ((repeat' (first | assumption | exact Frm.refl _ _ | apply Frm.drew | apply Frm.alloc | (refine Frm.trans ?_ g1))))
          (first
            | (go_at_call 19; (with_reducible refine (HS0.out _ (by assumption)).mono ?_); rintro e y1 ⟨rfl, rfl⟩)
            | (go_at_call 20; (with_reducible refine (HR0.out _).mono ?_); rintro e y1 ⟨rfl, g1⟩)
            | (go_at_call 21; (with_reducible refine (HS1.out _ (by assumption)).mono ?_); rintro e y1 ⟨rfl, rfl⟩)
            | (go_at_call 22; (with_reducible refine (HR1.out _).mono ?_); rintro e y1 ⟨rfl, g1⟩)
            | (go_at_call 23; (with_reducible refine (HS2.out _ (by assumption)).mono ?_); rintro e y1 ⟨rfl, rfl⟩)
            | (go_at_call 24; (with_reducible refine (HR2.out _).mono ?_); rintro e y1 ⟨rfl, g1⟩))
        have hF4 : Frm [] w2 y1 := by assumption
        have HN4 := Lib.hid (HN.out.frm hF4)
        obtain ⟨c0, c1⟩ := kb _ hF4
        clear kb
        go_wp2_with fail
        refine (rhas_yes _ b t k t64 k2).mono ?_
        rintro e w5 ⟨rfl, hF5⟩
        go_wp2_with fail
        refine (qrefers (ref_yes (HN4.out.frm hF5) k k2)).mono ?_
        rintro e w' ⟨rfl, rfl⟩
        go_wp2_with fail
        refine (qnode (node_yes (HN4.out.frm hF5) x x2)).mono ?_
        rintro e w' ⟨rfl, rfl⟩
        go_wp2_with fail
        refine known_true.mono ?_
        rintro e w6 ⟨rfl, hF6⟩
        go_wp2
        go_ret
        exact ⟨rfl, ((((HF.out.trans hF3).trans hF4).trans hF5).trans hF6).below (Nat.le_refl _) (by simp)⟩
      · have x1 : 2 * (t : Int) < x := by omega
        have hb : decide (2 * (t : Int) < x) = true := by simpa using x1
        clear hx
        go_enter Try.func5, Try.ntmps5
        go_wp2_with fail
        refine (right_yes _ b t t1 t64 fit).mono ?_
        rintro e w1 ⟨rfl, hF1⟩
        rw [← HX.out] at hF1
        go_wp2_with fail
        refine (new_ok _ b t t1 t64 fit).mono ?_
        rintro e w2 ⟨rfl, hF2, hN⟩
        have HN := Lib.hid hN
        have hF3 := hF1.trans hF2
        have hB2 := hF3.heap HB.out (by simp)
        have kb := fun w' (hw : Frm [] w2 w') => cells2 (hw.heap hB2 (by simp))
        have HS0 := Lib.hid (fun w' (hw : Frm [] w2 w') => next_yes (HN.out.frm hw) fit k k2)
        have HR0 := Lib.hid (fun (w' : World) => rnext_yes w' b t k t64 fit k2)
        have HS1 := Lib.hid (fun w' (hw : Frm [] w2 w') => wait_yes (HN.out.frm hw) fit k k2)
        have HR1 := Lib.hid (fun (w' : World) => rwait_yes w' b t k t64 fit k2)
        have HS2 := Lib.hid (fun w' (hw : Frm [] w2 w') => mode_yes (HN.out.frm hw) fit k k2)
        have HR2 := Lib.hid (fun (w' : World) => rmode_yes w' b t k t64 fit k2)
        clear hN hB2
        go_wp2_with fail
        go_region_held3 (fun w' => Frm [] w2 w')
          ((repeat' (first | assumption | exact Frm.refl _ _ | apply Frm.drew | apply Frm.alloc | (refine Frm.trans ?_ g1))))
          (first
            | (go_at_call 19; (with_reducible refine (HS0.out _ (by assumption)).mono ?_); rintro e y1 ⟨rfl, rfl⟩)
            | (go_at_call 20; (with_reducible refine (HR0.out _).mono ?_); rintro e y1 ⟨rfl, g1⟩)
            | (go_at_call 21; (with_reducible refine (HS1.out _ (by assumption)).mono ?_); rintro e y1 ⟨rfl, rfl⟩)
            | (go_at_call 22; (with_reducible refine (HR1.out _).mono ?_); rintro e y1 ⟨rfl, g1⟩)
            | (go_at_call 23; (with_reducible refine (HS2.out _ (by assumption)).mono ?_); rintro e y1 ⟨rfl, rfl⟩)
            | (go_at_call 24; (with_reducible refine (HR2.out _).mono ?_); rintro e y1 ⟨rfl, g1⟩))
        have hF4 : Frm [] w2 y1 := by assumption
        have HN4 := Lib.hid (HN.out.frm hF4)
        obtain ⟨c0, c1⟩ := kb _ hF4
        clear kb
        go_wp2_with fail
        refine (rhas_yes _ b t k t64 k2).mono ?_
        rintro e w5 ⟨rfl, hF5⟩
        go_wp2_with fail
        refine (qrefers (ref_yes (HN4.out.frm hF5) k k2)).mono ?_
        rintro e w' ⟨rfl, rfl⟩
        go_wp2_with fail
        refine (qnode (node_no (HN4.out.frm hF5) x x1)).mono ?_
        rintro e w' ⟨rfl, rfl⟩
        go_wp2_with fail
        refine known_true.mono ?_
        rintro e w6 ⟨rfl, hF6⟩
        go_wp2
        go_ret
        exact ⟨rfl, ((((HF.out.trans hF3).trans hF4).trans hF5).trans hF6).below (Nat.le_refl _) (by simp)⟩
    · have HK : Hid (k < 0 ∨ 2 * (t : Int) ≤ k) := Lib.hid (by omega)
      clear hk
      by_cases hx : x ≤ 2 * (t : Int)
      · obtain ⟨x, rfl⟩ := Int.eq_ofNat_of_zero_le x0
        have x2 : x ≤ 2 * t := by omega
        have hb : decide (2 * (t : Int) < (x : Int)) = false := by simp; omega
        have hi : IntKind.i64.wrap (x : Int) = (x : Int) := IntWalk.i64_in _ (by omega)
        clear hx
        go_enter Try.func5, Try.ntmps5
        go_wp2_with fail
        refine (right_yes _ b t t1 t64 fit).mono ?_
        rintro e w1 ⟨rfl, hF1⟩
        rw [← HX.out] at hF1
        go_wp2_with fail
        refine (new_ok _ b t t1 t64 fit).mono ?_
        rintro e w2 ⟨rfl, hF2, hN⟩
        have HN := Lib.hid hN
        have hF3 := hF1.trans hF2
        have hB2 := hF3.heap HB.out (by simp)
        have kb := fun w' (hw : Frm [] w2 w') => cells2 (hw.heap hB2 (by simp))
        have HS0 := Lib.hid (fun w' (hw : Frm [] w2 w') => next_no (HN.out.frm hw) k HK.out)
        have HR0 := Lib.hid (fun (w' : World) => rnext_no w' b t k t64 HK.out)
        have HS1 := Lib.hid (fun w' (hw : Frm [] w2 w') => wait_no (HN.out.frm hw) k HK.out)
        have HR1 := Lib.hid (fun (w' : World) => rwait_no w' b t k t64 HK.out)
        have HS2 := Lib.hid (fun w' (hw : Frm [] w2 w') => mode_no (HN.out.frm hw) k HK.out)
        have HR2 := Lib.hid (fun (w' : World) => rmode_no w' b t k t64 HK.out)
        clear hN hB2
        go_wp2_with fail
        go_region_held3 (fun w' => Frm [] w2 w')
          ((repeat' (first | assumption | exact Frm.refl _ _ | apply Frm.drew | apply Frm.alloc | (refine Frm.trans ?_ g1))))
          (first
            | (go_at_call 19; (with_reducible refine (HS0.out _ (by assumption)).mono ?_); rintro e y1 ⟨rfl, rfl⟩)
            | (go_at_call 20; (with_reducible refine (HR0.out _).mono ?_); rintro e y1 ⟨rfl, g1⟩)
            | (go_at_call 21; (with_reducible refine (HS1.out _ (by assumption)).mono ?_); rintro e y1 ⟨rfl, rfl⟩)
            | (go_at_call 22; (with_reducible refine (HR1.out _).mono ?_); rintro e y1 ⟨rfl, g1⟩)
            | (go_at_call 23; (with_reducible refine (HS2.out _ (by assumption)).mono ?_); rintro e y1 ⟨rfl, rfl⟩)
            | (go_at_call 24; (with_reducible refine (HR2.out _).mono ?_); rintro e y1 ⟨rfl, g1⟩))
        have hF4 : Frm [] w2 y1 := by assumption
        have HN4 := Lib.hid (HN.out.frm hF4)
        obtain ⟨c0, c1⟩ := kb _ hF4
        clear kb
        go_wp2_with fail
        refine (rhas_no _ b t k t64 HK.out).mono ?_
        rintro e w5 ⟨rfl, hF5⟩
        go_wp2_with fail
        refine (qrefers (ref_no (HN4.out.frm hF5) k HK.out)).mono ?_
        rintro e w' ⟨rfl, rfl⟩
        go_wp2_with fail
        refine (qnode (node_yes (HN4.out.frm hF5) x x2)).mono ?_
        rintro e w' ⟨rfl, rfl⟩
        go_wp2_with fail
        refine known_true.mono ?_
        rintro e w6 ⟨rfl, hF6⟩
        go_wp2
        go_ret
        exact ⟨rfl, ((((HF.out.trans hF3).trans hF4).trans hF5).trans hF6).below (Nat.le_refl _) (by simp)⟩
      · have x1 : 2 * (t : Int) < x := by omega
        have hb : decide (2 * (t : Int) < x) = true := by simpa using x1
        clear hx
        go_enter Try.func5, Try.ntmps5
        go_wp2_with fail
        refine (right_yes _ b t t1 t64 fit).mono ?_
        rintro e w1 ⟨rfl, hF1⟩
        rw [← HX.out] at hF1
        go_wp2_with fail
        refine (new_ok _ b t t1 t64 fit).mono ?_
        rintro e w2 ⟨rfl, hF2, hN⟩
        have HN := Lib.hid hN
        have hF3 := hF1.trans hF2
        have hB2 := hF3.heap HB.out (by simp)
        have kb := fun w' (hw : Frm [] w2 w') => cells2 (hw.heap hB2 (by simp))
        have HS0 := Lib.hid (fun w' (hw : Frm [] w2 w') => next_no (HN.out.frm hw) k HK.out)
        have HR0 := Lib.hid (fun (w' : World) => rnext_no w' b t k t64 HK.out)
        have HS1 := Lib.hid (fun w' (hw : Frm [] w2 w') => wait_no (HN.out.frm hw) k HK.out)
        have HR1 := Lib.hid (fun (w' : World) => rwait_no w' b t k t64 HK.out)
        have HS2 := Lib.hid (fun w' (hw : Frm [] w2 w') => mode_no (HN.out.frm hw) k HK.out)
        have HR2 := Lib.hid (fun (w' : World) => rmode_no w' b t k t64 HK.out)
        clear hN hB2
        go_wp2_with fail
        go_region_held3 (fun w' => Frm [] w2 w')
          ((repeat' (first | assumption | exact Frm.refl _ _ | apply Frm.drew | apply Frm.alloc | (refine Frm.trans ?_ g1))))
          (first
            | (go_at_call 19; (with_reducible refine (HS0.out _ (by assumption)).mono ?_); rintro e y1 ⟨rfl, rfl⟩)
            | (go_at_call 20; (with_reducible refine (HR0.out _).mono ?_); rintro e y1 ⟨rfl, g1⟩)
            | (go_at_call 21; (with_reducible refine (HS1.out _ (by assumption)).mono ?_); rintro e y1 ⟨rfl, rfl⟩)
            | (go_at_call 22; (with_reducible refine (HR1.out _).mono ?_); rintro e y1 ⟨rfl, g1⟩)
            | (go_at_call 23; (with_reducible refine (HS2.out _ (by assumption)).mono ?_); rintro e y1 ⟨rfl, rfl⟩)
            | (go_at_call 24; (with_reducible refine (HR2.out _).mono ?_); rintro e y1 ⟨rfl, g1⟩))
        have hF4 : Frm [] w2 y1 := by assumption
        have HN4 := Lib.hid (HN.out.frm hF4)
        obtain ⟨c0, c1⟩ := kb _ hF4
        clear kb
        go_wp2_with fail
        refine (rhas_no _ b t k t64 HK.out).mono ?_
        rintro e w5 ⟨rfl, hF5⟩
        go_wp2_with fail
        refine (qrefers (ref_no (HN4.out.frm hF5) k HK.out)).mono ?_
        rintro e w' ⟨rfl, rfl⟩
        go_wp2_with fail
        refine (qnode (node_no (HN4.out.frm hF5) x x1)).mono ?_
        rintro e w' ⟨rfl, rfl⟩
        go_wp2_with fail
        refine known_true.mono ?_
        rintro e w6 ⟨rfl, hF6⟩
        go_wp2
        go_ret
        exact ⟨rfl, ((((HF.out.trans hF3).trans hF4).trans hF5).trans hF6).below (Nat.le_refl _) (by simp)⟩
  · have HR := Lib.hid hr
    clear hr
    go_enter Try.func5, Try.ntmps5
    go_wp2_with fail
    refine (right_no _ b t HR.out).mono ?_
    rintro e w1 ⟨rfl, hF1⟩
    go_wp2_with fail
    refine (qnone b t HR.out wb).mono ?_
    rintro e w2 ⟨rfl, hF2⟩
    go_wp2_with fail
    refine known_true.mono ?_
    rintro e w3 ⟨rfl, hF3⟩
    go_wp2
    go_ret
    exact ⟨rfl, ((((Frm.refl _ _).alloc _).trans hF1).trans (hF2.trans hF3)).below (Nat.le_refl _) (by simp)⟩
#print axioms walk_QnodeWords
end Go.Proofs.Ytclcgmadilcdgaa
