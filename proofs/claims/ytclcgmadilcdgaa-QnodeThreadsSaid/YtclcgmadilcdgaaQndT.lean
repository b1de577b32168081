/- Layer 7: the walk of QnodeThreads (by gen_qndt.py). -/
import Derived.Test.YtclcgmadilcdgaaQndK
namespace Go.Proofs.Ytclcgmadilcdgaa
open Go.ChangeShapes Go.WideShapes Go.ChangeAt Go.RowKit

theorem qof_yes {w : World} {p b t : Nat} (h : Nd w p b t) (a k : Nat) (ha : a < t) (hk : k < 2) : Calls Try.prog 16 #[.pointer (some ⟨p, 0, none⟩), .int .i64 a, .int .i64 k, .int .i64 (2 * (a : Int) + (k : Int)), .int .i64 0] w (Ret (.bool true) (fun w' => w = w')) := by
  rw [show 2 * (a : Int) + (k : Int) = (a : Int) * 2 + (k : Int) by omega]
  exact qof (of_yes h a k ha hk)

set_option maxRecDepth 100000 in
set_option maxHeartbeats 4000000 in
theorem walk_QnodeThreads (b : Int) (wb : (Lit.int .i64 b).wf = true) (t : Int) (_wt : (Lit.int .i64 t).wf = true) (a : Int) (_wa : (Lit.int .i64 a).wf = true) (kd : Int) (_wk : (Lit.int .i64 kd).wf = true) (k : Int) (wk : (Lit.int .i64 k).wf = true) (w : World) :
    Calls Try.prog 4 #[.int .i64 b, .int .i64 t, .int .i64 a, .int .i64 kd, .int .i64 k] w (Ret (.bool true) (fun w' => Below w.heap.size w w')) := by
  by_cases hr : 0 ≤ b ∧ 1 ≤ t ∧ t ≤ 64 ∧ b + 6 * t ≤ 65536
  · obtain ⟨r0, r1, r2, r3⟩ := hr
    obtain ⟨b, rfl⟩ := Int.eq_ofNat_of_zero_le r0
    obtain ⟨t, rfl⟩ := Int.eq_ofNat_of_zero_le (show 0 ≤ t by omega)
    have t1 : 1 ≤ t := by omega
    have t64 : t ≤ 64 := by omega
    have fit : b + 6 * t ≤ 65536 := by omega
    clear r0 r1 r2 r3 wb _wt
    obtain ⟨X, hX⟩ : ∃ X, X = w.alloc (.cells #[.int .i64 (b : Int), .int .i64 (t : Int)] 23) := ⟨_, rfl⟩
    have hFX : Frm [] w X := by rw [hX]; exact (Frm.refl _ _).alloc _
    have hB : X.heap[w.heap.size]? = some (.cells #[.int .i64 b, .int .i64 t] 23 (0, 0)) := by rw [hX]; exact heap_alloc_new _ _
    have HX := Lib.hid hX
    have HB := Lib.hid hB
    have HF := Lib.hid hFX
    clear hX hB hFX
    by_cases h1 : a < 0
    · have hb1 : decide (a < 0) = true := by simpa using h1
      have HA : Hid (a < 0 ∨ (t : Int) ≤ a ∨ kd < 0 ∨ 1 < kd) := Lib.hid (by omega)
      by_cases hk : 0 ≤ k ∧ k < 2 * (t : Int)
      · obtain ⟨k0, k1⟩ := hk
        obtain ⟨k, rfl⟩ := Int.eq_ofNat_of_zero_le k0
        have k2 : k < 2 * t := by omega
        clear k0 k1 wk
        go_enter Try.func4, Try.ntmps4
        go_wp2_with fail
        refine (right_yes _ b t t1 t64 fit).mono ?_
        rintro e w1 ⟨rfl, hF1⟩
        rw [← HX.out] at hF1
        go_wp2_with fail
        refine (new_ok _ b t t1 t64 fit).mono ?_
        rintro e w2 ⟨rfl, hF2, hN⟩
        have HN := Lib.hid hN
        clear hN
        obtain ⟨c0, c1⟩ := cells2 ((hF1.trans hF2).heap HB.out (by simp))
        go_wp2_with fail
        refine (qof (of_no HN.out a kd HA.out)).mono ?_
        rintro e w' ⟨rfl, rfl⟩
        go_wp2_with fail
        refine (rhas_yes _ b t k t64 k2).mono ?_
        rintro e w3 ⟨rfl, hF3⟩
        go_wp2_with fail
        refine (qowner (owner_yes (HN.out.frm hF3) k k2)).mono ?_
        rintro e w' ⟨rfl, rfl⟩
        go_wp2_with fail
        refine known_true.mono ?_
        rintro e w4 ⟨rfl, hF4⟩
        go_wp2
        go_ret
        exact ⟨rfl, ((((HF.out.trans hF1).trans hF2).trans hF3).trans hF4).below (Nat.le_refl _) (by simp)⟩
      · have HK : Hid (k < 0 ∨ 2 * (t : Int) ≤ k) := Lib.hid (by omega)
        clear hk
        go_enter Try.func4, Try.ntmps4
        go_wp2_with fail
        refine (right_yes _ b t t1 t64 fit).mono ?_
        rintro e w1 ⟨rfl, hF1⟩
        rw [← HX.out] at hF1
        go_wp2_with fail
        refine (new_ok _ b t t1 t64 fit).mono ?_
        rintro e w2 ⟨rfl, hF2, hN⟩
        have HN := Lib.hid hN
        clear hN
        obtain ⟨c0, c1⟩ := cells2 ((hF1.trans hF2).heap HB.out (by simp))
        go_wp2_with fail
        refine (qof (of_no HN.out a kd HA.out)).mono ?_
        rintro e w' ⟨rfl, rfl⟩
        go_wp2_with fail
        refine (rhas_no _ b t k t64 HK.out).mono ?_
        rintro e w3 ⟨rfl, hF3⟩
        go_wp2_with fail
        refine (qowner (owner_no (HN.out.frm hF3) k HK.out)).mono ?_
        rintro e w' ⟨rfl, rfl⟩
        go_wp2_with fail
        refine known_true.mono ?_
        rintro e w4 ⟨rfl, hF4⟩
        go_wp2
        go_ret
        exact ⟨rfl, ((((HF.out.trans hF1).trans hF2).trans hF3).trans hF4).below (Nat.le_refl _) (by simp)⟩
    · have hb1 : decide (a < 0) = false := by simpa using h1
      by_cases h2 : (t : Int) ≤ a
      · have hb2 : decide ((t : Int) ≤ a) = true := by simpa using h2
        have HA : Hid (a < 0 ∨ (t : Int) ≤ a ∨ kd < 0 ∨ 1 < kd) := Lib.hid (by omega)
        by_cases hk : 0 ≤ k ∧ k < 2 * (t : Int)
        · obtain ⟨k0, k1⟩ := hk
          obtain ⟨k, rfl⟩ := Int.eq_ofNat_of_zero_le k0
          have k2 : k < 2 * t := by omega
          clear k0 k1 wk
          go_enter Try.func4, Try.ntmps4
          go_wp2_with fail
          refine (right_yes _ b t t1 t64 fit).mono ?_
          rintro e w1 ⟨rfl, hF1⟩
          rw [← HX.out] at hF1
          go_wp2_with fail
          refine (new_ok _ b t t1 t64 fit).mono ?_
          rintro e w2 ⟨rfl, hF2, hN⟩
          have HN := Lib.hid hN
          clear hN
          obtain ⟨c0, c1⟩ := cells2 ((hF1.trans hF2).heap HB.out (by simp))
          go_wp2_with fail
          refine (qof (of_no HN.out a kd HA.out)).mono ?_
          rintro e w' ⟨rfl, rfl⟩
          go_wp2_with fail
          refine (rhas_yes _ b t k t64 k2).mono ?_
          rintro e w3 ⟨rfl, hF3⟩
          go_wp2_with fail
          refine (qowner (owner_yes (HN.out.frm hF3) k k2)).mono ?_
          rintro e w' ⟨rfl, rfl⟩
          go_wp2_with fail
          refine known_true.mono ?_
          rintro e w4 ⟨rfl, hF4⟩
          go_wp2
          go_ret
          exact ⟨rfl, ((((HF.out.trans hF1).trans hF2).trans hF3).trans hF4).below (Nat.le_refl _) (by simp)⟩
        · have HK : Hid (k < 0 ∨ 2 * (t : Int) ≤ k) := Lib.hid (by omega)
          clear hk
          go_enter Try.func4, Try.ntmps4
          go_wp2_with fail
          refine (right_yes _ b t t1 t64 fit).mono ?_
          rintro e w1 ⟨rfl, hF1⟩
          rw [← HX.out] at hF1
          go_wp2_with fail
          refine (new_ok _ b t t1 t64 fit).mono ?_
          rintro e w2 ⟨rfl, hF2, hN⟩
          have HN := Lib.hid hN
          clear hN
          obtain ⟨c0, c1⟩ := cells2 ((hF1.trans hF2).heap HB.out (by simp))
          go_wp2_with fail
          refine (qof (of_no HN.out a kd HA.out)).mono ?_
          rintro e w' ⟨rfl, rfl⟩
          go_wp2_with fail
          refine (rhas_no _ b t k t64 HK.out).mono ?_
          rintro e w3 ⟨rfl, hF3⟩
          go_wp2_with fail
          refine (qowner (owner_no (HN.out.frm hF3) k HK.out)).mono ?_
          rintro e w' ⟨rfl, rfl⟩
          go_wp2_with fail
          refine known_true.mono ?_
          rintro e w4 ⟨rfl, hF4⟩
          go_wp2
          go_ret
          exact ⟨rfl, ((((HF.out.trans hF1).trans hF2).trans hF3).trans hF4).below (Nat.le_refl _) (by simp)⟩
      · have hb2 : decide ((t : Int) ≤ a) = false := by simpa using h2
        by_cases h3 : kd < 0
        · have hb3 : decide (kd < 0) = true := by simpa using h3
          have HA : Hid (a < 0 ∨ (t : Int) ≤ a ∨ kd < 0 ∨ 1 < kd) := Lib.hid (by omega)
          by_cases hk : 0 ≤ k ∧ k < 2 * (t : Int)
          · obtain ⟨k0, k1⟩ := hk
            obtain ⟨k, rfl⟩ := Int.eq_ofNat_of_zero_le k0
            have k2 : k < 2 * t := by omega
            clear k0 k1 wk
            go_enter Try.func4, Try.ntmps4
            go_wp2_with fail
            refine (right_yes _ b t t1 t64 fit).mono ?_
            rintro e w1 ⟨rfl, hF1⟩
            rw [← HX.out] at hF1
            go_wp2_with fail
            refine (new_ok _ b t t1 t64 fit).mono ?_
            rintro e w2 ⟨rfl, hF2, hN⟩
            have HN := Lib.hid hN
            clear hN
            obtain ⟨c0, c1⟩ := cells2 ((hF1.trans hF2).heap HB.out (by simp))
            go_wp2_with fail
            refine (qof (of_no HN.out a kd HA.out)).mono ?_
            rintro e w' ⟨rfl, rfl⟩
            go_wp2_with fail
            refine (rhas_yes _ b t k t64 k2).mono ?_
            rintro e w3 ⟨rfl, hF3⟩
            go_wp2_with fail
            refine (qowner (owner_yes (HN.out.frm hF3) k k2)).mono ?_
            rintro e w' ⟨rfl, rfl⟩
            go_wp2_with fail
            refine known_true.mono ?_
            rintro e w4 ⟨rfl, hF4⟩
            go_wp2
            go_ret
            exact ⟨rfl, ((((HF.out.trans hF1).trans hF2).trans hF3).trans hF4).below (Nat.le_refl _) (by simp)⟩
          · have HK : Hid (k < 0 ∨ 2 * (t : Int) ≤ k) := Lib.hid (by omega)
            clear hk
            go_enter Try.func4, Try.ntmps4
            go_wp2_with fail
            refine (right_yes _ b t t1 t64 fit).mono ?_
            rintro e w1 ⟨rfl, hF1⟩
            rw [← HX.out] at hF1
            go_wp2_with fail
            refine (new_ok _ b t t1 t64 fit).mono ?_
            rintro e w2 ⟨rfl, hF2, hN⟩
            have HN := Lib.hid hN
            clear hN
            obtain ⟨c0, c1⟩ := cells2 ((hF1.trans hF2).heap HB.out (by simp))
            go_wp2_with fail
            refine (qof (of_no HN.out a kd HA.out)).mono ?_
            rintro e w' ⟨rfl, rfl⟩
            go_wp2_with fail
            refine (rhas_no _ b t k t64 HK.out).mono ?_
            rintro e w3 ⟨rfl, hF3⟩
            go_wp2_with fail
            refine (qowner (owner_no (HN.out.frm hF3) k HK.out)).mono ?_
            rintro e w' ⟨rfl, rfl⟩
            go_wp2_with fail
            refine known_true.mono ?_
            rintro e w4 ⟨rfl, hF4⟩
            go_wp2
            go_ret
            exact ⟨rfl, ((((HF.out.trans hF1).trans hF2).trans hF3).trans hF4).below (Nat.le_refl _) (by simp)⟩
        · have hb3 : decide (kd < 0) = false := by simpa using h3
          by_cases h4 : 1 < kd
          · have hb4 : decide (1 < kd) = true := by simpa using h4
            have HA : Hid (a < 0 ∨ (t : Int) ≤ a ∨ kd < 0 ∨ 1 < kd) := Lib.hid (by omega)
            by_cases hk : 0 ≤ k ∧ k < 2 * (t : Int)
            · obtain ⟨k0, k1⟩ := hk
              obtain ⟨k, rfl⟩ := Int.eq_ofNat_of_zero_le k0
              have k2 : k < 2 * t := by omega
              clear k0 k1 wk
              go_enter Try.func4, Try.ntmps4
              go_wp2_with fail
              refine (right_yes _ b t t1 t64 fit).mono ?_
              rintro e w1 ⟨rfl, hF1⟩
              rw [← HX.out] at hF1
              go_wp2_with fail
              refine (new_ok _ b t t1 t64 fit).mono ?_
              rintro e w2 ⟨rfl, hF2, hN⟩
              have HN := Lib.hid hN
              clear hN
              obtain ⟨c0, c1⟩ := cells2 ((hF1.trans hF2).heap HB.out (by simp))
              go_wp2_with fail
              refine (qof (of_no HN.out a kd HA.out)).mono ?_
              rintro e w' ⟨rfl, rfl⟩
              go_wp2_with fail
              refine (rhas_yes _ b t k t64 k2).mono ?_
              rintro e w3 ⟨rfl, hF3⟩
              go_wp2_with fail
              refine (qowner (owner_yes (HN.out.frm hF3) k k2)).mono ?_
              rintro e w' ⟨rfl, rfl⟩
              go_wp2_with fail
              refine known_true.mono ?_
              rintro e w4 ⟨rfl, hF4⟩
              go_wp2
              go_ret
              exact ⟨rfl, ((((HF.out.trans hF1).trans hF2).trans hF3).trans hF4).below (Nat.le_refl _) (by simp)⟩
            · have HK : Hid (k < 0 ∨ 2 * (t : Int) ≤ k) := Lib.hid (by omega)
              clear hk
              go_enter Try.func4, Try.ntmps4
              go_wp2_with fail
              refine (right_yes _ b t t1 t64 fit).mono ?_
              rintro e w1 ⟨rfl, hF1⟩
              rw [← HX.out] at hF1
              go_wp2_with fail
              refine (new_ok _ b t t1 t64 fit).mono ?_
              rintro e w2 ⟨rfl, hF2, hN⟩
              have HN := Lib.hid hN
              clear hN
              obtain ⟨c0, c1⟩ := cells2 ((hF1.trans hF2).heap HB.out (by simp))
              go_wp2_with fail
              refine (qof (of_no HN.out a kd HA.out)).mono ?_
              rintro e w' ⟨rfl, rfl⟩
              go_wp2_with fail
              refine (rhas_no _ b t k t64 HK.out).mono ?_
              rintro e w3 ⟨rfl, hF3⟩
              go_wp2_with fail
              refine (qowner (owner_no (HN.out.frm hF3) k HK.out)).mono ?_
              rintro e w' ⟨rfl, rfl⟩
              go_wp2_with fail
              refine known_true.mono ?_
              rintro e w4 ⟨rfl, hF4⟩
              go_wp2
              go_ret
              exact ⟨rfl, ((((HF.out.trans hF1).trans hF2).trans hF3).trans hF4).below (Nat.le_refl _) (by simp)⟩
          · obtain ⟨a, rfl⟩ := Int.eq_ofNat_of_zero_le (show 0 ≤ a by omega)
            obtain ⟨kd, rfl⟩ := Int.eq_ofNat_of_zero_le (show 0 ≤ kd by omega)
            have a2 : a < t := by omega
            have kd2 : kd < 2 := by omega
            have g1 : decide (t ≤ a) = false := by simp; omega
            have g2 : decide (1 < kd) = false := by simp; omega
            have g3 : decide (1 < (kd : Int)) = false := by simp; omega
            clear h1 h2 h3 h4 hb1 hb3 _wa _wk
            by_cases hk : 0 ≤ k ∧ k < 2 * (t : Int)
            · obtain ⟨k0, k1⟩ := hk
              obtain ⟨k, rfl⟩ := Int.eq_ofNat_of_zero_le k0
              have k2 : k < 2 * t := by omega
              clear k0 k1 wk
              go_enter Try.func4, Try.ntmps4
              go_wp2_with fail
              refine (right_yes _ b t t1 t64 fit).mono ?_
              rintro e w1 ⟨rfl, hF1⟩
              rw [← HX.out] at hF1
              go_wp2_with fail
              refine (new_ok _ b t t1 t64 fit).mono ?_
              rintro e w2 ⟨rfl, hF2, hN⟩
              have HN := Lib.hid hN
              clear hN
              obtain ⟨c0, c1⟩ := cells2 ((hF1.trans hF2).heap HB.out (by simp))
              go_wp2_with fail
              refine (qof_yes HN.out a kd a2 kd2).mono ?_
              rintro e w' ⟨rfl, rfl⟩
              go_wp2_with fail
              refine (rhas_yes _ b t k t64 k2).mono ?_
              rintro e w3 ⟨rfl, hF3⟩
              go_wp2_with fail
              refine (qowner (owner_yes (HN.out.frm hF3) k k2)).mono ?_
              rintro e w' ⟨rfl, rfl⟩
              go_wp2_with fail
              refine known_true.mono ?_
              rintro e w4 ⟨rfl, hF4⟩
              go_wp2
              go_ret
              exact ⟨rfl, ((((HF.out.trans hF1).trans hF2).trans hF3).trans hF4).below (Nat.le_refl _) (by simp)⟩
            · have HK : Hid (k < 0 ∨ 2 * (t : Int) ≤ k) := Lib.hid (by omega)
              clear hk
              go_enter Try.func4, Try.ntmps4
              go_wp2_with fail
              refine (right_yes _ b t t1 t64 fit).mono ?_
              rintro e w1 ⟨rfl, hF1⟩
              rw [← HX.out] at hF1
              go_wp2_with fail
              refine (new_ok _ b t t1 t64 fit).mono ?_
              rintro e w2 ⟨rfl, hF2, hN⟩
              have HN := Lib.hid hN
              clear hN
              obtain ⟨c0, c1⟩ := cells2 ((hF1.trans hF2).heap HB.out (by simp))
              go_wp2_with fail
              refine (qof_yes HN.out a kd a2 kd2).mono ?_
              rintro e w' ⟨rfl, rfl⟩
              go_wp2_with fail
              refine (rhas_no _ b t k t64 HK.out).mono ?_
              rintro e w3 ⟨rfl, hF3⟩
              go_wp2_with fail
              refine (qowner (owner_no (HN.out.frm hF3) k HK.out)).mono ?_
              rintro e w' ⟨rfl, rfl⟩
              go_wp2_with fail
              refine known_true.mono ?_
              rintro e w4 ⟨rfl, hF4⟩
              go_wp2
              go_ret
              exact ⟨rfl, ((((HF.out.trans hF1).trans hF2).trans hF3).trans hF4).below (Nat.le_refl _) (by simp)⟩
  · have HR := Lib.hid hr
    clear hr
    go_enter Try.func4, Try.ntmps4
    go_wp2_with fail
    refine (right_no _ b t HR.out).mono ?_
    rintro e w1 ⟨rfl, hF1⟩
    go_wp2_with fail
    refine (qnone b t HR.out wb).mono ?_
    rintro e w2 ⟨rfl, hF2⟩
    go_wp2_with fail
    refine known_true.mono ?_
    rintro e w3 ⟨rfl, hF3⟩
    go_wp2
    go_ret
    exact ⟨rfl, ((((Frm.refl _ _).alloc _).trans hF1).trans (hF2.trans hF3)).below (Nat.le_refl _) (by simp)⟩
#print axioms walk_QnodeThreads
end Go.Proofs.Ytclcgmadilcdgaa
