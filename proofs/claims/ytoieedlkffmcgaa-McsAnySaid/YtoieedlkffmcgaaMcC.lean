/- Package qnode: New, Same; the reference's Right, Has, Word. -/
import Derived.Test.YtoieedlkffmcgaaMcB
namespace Go.Proofs.Ytoieedlkffmcgaa
open Go.ChangeShapes Go.WideShapes Go.ChangeAt Go.RowKit

theorem nodes_new (w : World) (b t : Nat) (t1 : 1 ≤ t) (t64 : t ≤ 64) (fit : b + 6 * t ≤ 65536) : Calls Try.prog 9 #[.int .i64 b, .int .i64 t] w
    (Ret (.tuple #[.pointer (some ⟨w.heap.size, 0, none⟩), .int .i64 0]) (fun w' => Frm [] w w' ∧ Nd w' w.heap.size b t)) := by
  have hN : Nd (w.alloc (.cells #[.int .i64 b, .int .i64 t] 61)) w.heap.size b t := .heap (heap_alloc_new _ _) rfl rfl t1 t64
  have H := Lib.hid hN
  have hb1 : decide ((t : Int) < 1) = false := by simp; omega
  have hb1' : decide (t < 1) = false := by simp; omega
  have hb2 : decide (64 < (t : Int)) = false := by simp; omega
  have hb2' : decide (64 < t) = false := by simp; omega
  have hb3 : decide ((65536 : Int) - (t : Int) * 2 * 3 < (b : Int)) = false := by simp; omega
  clear hN
  go_enter Try.func9, Try.ntmps9
  go_wp2_with fail
  refine (len_nd H.out).mono ?_
  rintro e w' ⟨rfl, rfl⟩
  go_wp2
  go_ret2
  exact ⟨rfl, (Frm.refl _ _).alloc _, H.out⟩
theorem nodes_bad (w : World) (b t : Int) (h : ¬ (0 ≤ b ∧ 1 ≤ t ∧ t ≤ 64 ∧ b + 6 * t ≤ 65536)) (wb : (Lit.int .i64 b).wf = true) : Calls Try.prog 9 #[.int .i64 b, .int .i64 t] w
    (Ret (.tuple #[.pointer none, .int .i64 2]) (fun w' => Frm [] w w')) := by
  by_cases h0 : b < 0
  · have hb0 : decide (b < 0) = true := by simpa using h0
    go_enter Try.func9, Try.ntmps9
    go_wp2
    go_ret2
    exact ⟨rfl, Frm.refl _ _⟩
  · have hb0 : decide (b < 0) = false := by simpa using h0
    by_cases h1 : t < 1
    · have hb1 : decide (t < 1) = true := by simpa using h1
      go_enter Try.func9, Try.ntmps9
      go_wp2
      go_ret2
      exact ⟨rfl, Frm.refl _ _⟩
    · have hb1 : decide (t < 1) = false := by simpa using h1
      by_cases h2 : 64 < t
      · have hb2 : decide (64 < t) = true := by simpa using h2
        go_enter Try.func9, Try.ntmps9
        go_wp2
        go_ret2
        exact ⟨rfl, Frm.refl _ _⟩
      · have hb2 : decide (64 < t) = false := by simpa using h2
        have hb3 : decide ((65536 : Int) - t * 2 * 3 < b) = true := by simp; omega
        obtain ⟨k, rfl⟩ := Int.eq_ofNat_of_zero_le (show 0 ≤ t by omega)
        obtain ⟨c, rfl⟩ := Int.eq_ofNat_of_zero_le (show 0 ≤ b by omega)
        have hN : Nd (w.alloc (.cells #[.int .i64 c, .int .i64 k] 61)) w.heap.size c k := .heap (heap_alloc_new _ _) rfl rfl (by omega) (by omega)
        have H := Lib.hid hN
        have hk : k ≤ 64 := by omega
        clear hN h
        go_enter Try.func9, Try.ntmps9
        go_wp2_with fail
        refine (len_nd H.out).mono ?_
        rintro e w' ⟨rfl, rfl⟩
        go_wp2
        go_ret2
        exact ⟨rfl, (Frm.refl _ _).alloc _⟩

/-! The reference. -/

theorem rhas_yes (w : World) (b : Int) (t k : Nat) (t64 : t ≤ 64) (hk : k < 2 * t) : Calls Try.prog 27 #[.agg #[.int .i64 b, .int .i64 t], .int .i64 k] w (Ret (.bool true) (fun w' => Frm [] w w')) := by
  have hb : decide ((k : Int) < 2 * (t : Int)) = true := by simp; omega
  go_enter Try.func27, Try.ntmps27
  go_wp2
  go_ret
  exact ⟨rfl, (Frm.refl _ _).alloc _⟩
theorem rhas_no (w : World) (b : Int) (t : Nat) (k : Int) (t64 : t ≤ 64) (hk : k < 0 ∨ 2 * (t : Int) ≤ k) : Calls Try.prog 27 #[.agg #[.int .i64 b, .int .i64 t], .int .i64 k] w (Ret (.bool false) (fun w' => Frm [] w w')) := by
  by_cases h0 : 0 ≤ k
  · have h0' : decide (0 ≤ k) = true := by simpa using h0
    have hb : decide (k < 2 * (t : Int)) = false := by simp; omega
    go_enter Try.func27, Try.ntmps27
    go_wp2
    go_ret
    exact ⟨rfl, (Frm.refl _ _).alloc _⟩
  · have h0' : decide (0 ≤ k) = false := by simpa using h0
    go_enter Try.func27, Try.ntmps27
    go_wp2
    go_ret
    exact ⟨rfl, (Frm.refl _ _).alloc _⟩

theorem rword_yes (w : World) (b t k : Nat) (t64 : t ≤ 64) (fit : b + 6 * t ≤ 65536) (hk : k < 2 * t) (i : Nat) (hi : i < 3) : Calls Try.prog 55 #[.agg #[.int .i64 b, .int .i64 t], .int .i64 k, .int .i64 i] w (Ret (.int .i64 ((b : Int) + (k : Int) * 3 + (i : Int))) (fun w' => Frm [] w w')) := by
  obtain ⟨X, hX⟩ : ∃ X, X = w.alloc (.cells #[.int .i64 b, .int .i64 t] 32) := ⟨_, rfl⟩
  have hFX : Frm [] w X := by rw [hX]; exact (Frm.refl _ _).alloc _
  have hB : X.heap[w.heap.size]? = some (.cells #[.int .i64 b, .int .i64 t] 32 (0, 0)) := by rw [hX]; exact heap_alloc_new _ _
  have e3 : 3 * (k : Int) = (k : Int) * 3 := by omega
  have HX := Lib.hid hX
  have HB := Lib.hid hB
  have HF := Lib.hid hFX
  have E3 := Lib.hid e3
  clear hX hB hFX e3
  go_enter Try.func55, Try.ntmps55
  go_wp2_with fail
  refine (rhas_yes _ _ t k t64 hk).mono ?_
  rintro e w1 ⟨rfl, hF1⟩
  rw [← HX.out] at hF1
  obtain ⟨c0, c1⟩ := cells2 (hF1.heap HB.out (by simp))
  go_wp2
  go_ret
  exact ⟨by rw [← E3.out]; rfl, HF.out.trans hF1⟩
theorem rword_no (w : World) (b : Int) (t : Nat) (k : Int) (t64 : t ≤ 64) (hk : k < 0 ∨ 2 * (t : Int) ≤ k) (i : Int) : Calls Try.prog 55 #[.agg #[.int .i64 b, .int .i64 t], .int .i64 k, .int .i64 i] w (Ret (.int .i64 (-1)) (fun w' => Frm [] w w')) := by
  have HK := Lib.hid hk
  clear hk
  go_enter Try.func55, Try.ntmps55
  go_wp2_with fail
  refine (rhas_no _ _ t k t64 HK.out).mono ?_
  rintro e w1 ⟨rfl, hF1⟩
  go_wp2
  go_ret
  exact ⟨rfl, ((Frm.refl _ _).alloc _).trans hF1⟩

theorem rnext_yes (w : World) (b t k : Nat) (t64 : t ≤ 64) (fit : b + 6 * t ≤ 65536) (hk : k < 2 * t) : Calls Try.prog 49 #[.agg #[.int .i64 b, .int .i64 t], .int .i64 k] w (Ret (.int .i64 ((b : Int) + (k : Int) * 3 + 0)) (fun w' => Frm [] w w')) := by
  go_enter Try.func49, Try.ntmps49
  go_wp2_with fail
  refine (rword_yes _ b t k t64 fit hk 0 (by decide)).mono ?_
  rintro e w1 ⟨rfl, hF1⟩
  go_wp2
  go_ret
  exact ⟨rfl, ((Frm.refl _ _).alloc _).trans hF1⟩
theorem rnext_no (w : World) (b : Int) (t : Nat) (k : Int) (t64 : t ≤ 64) (hk : k < 0 ∨ 2 * (t : Int) ≤ k) : Calls Try.prog 49 #[.agg #[.int .i64 b, .int .i64 t], .int .i64 k] w (Ret (.int .i64 (-1)) (fun w' => Frm [] w w')) := by
  have HK := Lib.hid hk
  clear hk
  go_enter Try.func49, Try.ntmps49
  go_wp2_with fail
  refine (rword_no _ b t k t64 HK.out 0).mono ?_
  rintro e w1 ⟨rfl, hF1⟩
  go_wp2
  go_ret
  exact ⟨rfl, ((Frm.refl _ _).alloc _).trans hF1⟩

theorem rwait_yes (w : World) (b t k : Nat) (t64 : t ≤ 64) (fit : b + 6 * t ≤ 65536) (hk : k < 2 * t) : Calls Try.prog 50 #[.agg #[.int .i64 b, .int .i64 t], .int .i64 k] w (Ret (.int .i64 ((b : Int) + (k : Int) * 3 + 1)) (fun w' => Frm [] w w')) := by
  go_enter Try.func50, Try.ntmps50
  go_wp2_with fail
  refine (rword_yes _ b t k t64 fit hk 1 (by decide)).mono ?_
  rintro e w1 ⟨rfl, hF1⟩
  go_wp2
  go_ret
  exact ⟨rfl, ((Frm.refl _ _).alloc _).trans hF1⟩
theorem rwait_no (w : World) (b : Int) (t : Nat) (k : Int) (t64 : t ≤ 64) (hk : k < 0 ∨ 2 * (t : Int) ≤ k) : Calls Try.prog 50 #[.agg #[.int .i64 b, .int .i64 t], .int .i64 k] w (Ret (.int .i64 (-1)) (fun w' => Frm [] w w')) := by
  have HK := Lib.hid hk
  clear hk
  go_enter Try.func50, Try.ntmps50
  go_wp2_with fail
  refine (rword_no _ b t k t64 HK.out 1).mono ?_
  rintro e w1 ⟨rfl, hF1⟩
  go_wp2
  go_ret
  exact ⟨rfl, ((Frm.refl _ _).alloc _).trans hF1⟩

#print axioms rwait_no
end Go.Proofs.Ytoieedlkffmcgaa
