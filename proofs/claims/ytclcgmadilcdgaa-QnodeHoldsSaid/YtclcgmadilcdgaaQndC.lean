/- Package qnode: New, Same; the reference's Right, Has, Word. -/
import Derived.Test.YtclcgmadilcdgaaQndB
namespace Go.Proofs.Ytclcgmadilcdgaa
open Go.ChangeShapes Go.WideShapes Go.ChangeAt Go.RowKit

theorem new_ok (w : World) (b t : Nat) (t1 : 1 ≤ t) (t64 : t ≤ 64) (fit : b + 6 * t ≤ 65536) : Calls Try.prog 11 #[.int .i64 b, .int .i64 t] w
    (Ret (.tuple #[.pointer (some ⟨w.heap.size, 0, none⟩), .int .i64 0]) (fun w' => Frm [] w w' ∧ Nd w' w.heap.size b t)) := by
  have hN : Nd (w.alloc (.cells #[.int .i64 b, .int .i64 t] 43)) w.heap.size b t := ⟨heap_alloc_new _ _, t1, t64⟩
  have H := Lib.hid hN
  have hb1 : decide ((t : Int) < 1) = false := by simp; omega
  have hb1' : decide (t < 1) = false := by simp; omega
  have hb2 : decide (64 < (t : Int)) = false := by simp; omega
  have hb2' : decide (64 < t) = false := by simp; omega
  have hb3 : decide ((65536 : Int) - (t : Int) * 2 * 3 < (b : Int)) = false := by simp; omega
  clear hN
  go_enter Try.func11, Try.ntmps11
  go_wp2_with fail
  refine (len_nd H.out).mono ?_
  rintro e w' ⟨rfl, rfl⟩
  go_wp2
  go_ret2
  exact ⟨rfl, (Frm.refl _ _).alloc _, H.out⟩
theorem new_bad (w : World) (b t : Int) (h : ¬ (0 ≤ b ∧ 1 ≤ t ∧ t ≤ 64 ∧ b + 6 * t ≤ 65536)) (wb : (Lit.int .i64 b).wf = true) : Calls Try.prog 11 #[.int .i64 b, .int .i64 t] w
    (Ret (.tuple #[.pointer none, .int .i64 2]) (fun w' => Frm [] w w')) := by
  by_cases h0 : b < 0
  · have hb0 : decide (b < 0) = true := by simpa using h0
    go_enter Try.func11, Try.ntmps11
    go_wp2
    go_ret2
    exact ⟨rfl, Frm.refl _ _⟩
  · have hb0 : decide (b < 0) = false := by simpa using h0
    by_cases h1 : t < 1
    · have hb1 : decide (t < 1) = true := by simpa using h1
      go_enter Try.func11, Try.ntmps11
      go_wp2
      go_ret2
      exact ⟨rfl, Frm.refl _ _⟩
    · have hb1 : decide (t < 1) = false := by simpa using h1
      by_cases h2 : 64 < t
      · have hb2 : decide (64 < t) = true := by simpa using h2
        go_enter Try.func11, Try.ntmps11
        go_wp2
        go_ret2
        exact ⟨rfl, Frm.refl _ _⟩
      · have hb2 : decide (64 < t) = false := by simpa using h2
        have hb3 : decide ((65536 : Int) - t * 2 * 3 < b) = true := by simp; omega
        obtain ⟨k, rfl⟩ := Int.eq_ofNat_of_zero_le (show 0 ≤ t by omega)
        obtain ⟨c, rfl⟩ := Int.eq_ofNat_of_zero_le (show 0 ≤ b by omega)
        have hN : Nd (w.alloc (.cells #[.int .i64 c, .int .i64 k] 43)) w.heap.size c k := ⟨heap_alloc_new _ _, by omega, by omega⟩
        have H := Lib.hid hN
        have hk : k ≤ 64 := by omega
        clear hN h
        go_enter Try.func11, Try.ntmps11
        go_wp2_with fail
        refine (len_nd H.out).mono ?_
        rintro e w' ⟨rfl, rfl⟩
        go_wp2
        go_ret2
        exact ⟨rfl, (Frm.refl _ _).alloc _⟩

theorem qnone {w : World} (b t : Int) (h : ¬ (0 ≤ b ∧ 1 ≤ t ∧ t ≤ 64 ∧ b + 6 * t ≤ 65536)) (wb : (Lit.int .i64 b).wf = true) :
    Calls Try.prog 9 #[.int .i64 b, .int .i64 t] w (Ret (.bool true) (fun w' => Frm [] w w')) := by
  have H := Lib.hid (fun w => new_bad w b t h wb)
  clear h
  go_enter Try.func9, Try.ntmps9
  go_wp2_with fail
  refine (H.out _).mono ?_
  rintro e w1 ⟨rfl, hF⟩
  go_wp2
  go_ret
  exact ⟨rfl, hF⟩

/-! The reference. -/

theorem right_yes (w : World) (b t : Nat) (t1 : 1 ≤ t) (t64 : t ≤ 64) (fit : b + 6 * t ≤ 65536) : Calls Try.prog 8 #[.agg #[.int .i64 b, .int .i64 t]] w (Ret (.bool true) (fun w' => Frm [] w w')) := by
  have hb1 : decide (1 ≤ (t : Int)) = true := by simp; omega
  have hb1' : decide (1 ≤ t) = true := by simp; omega
  have hb2 : decide ((t : Int) ≤ 64) = true := by simp; omega
  have hb2' : decide (t ≤ 64) = true := by simp; omega
  have hb3 : decide ((b : Int) ≤ 65536) = true := by simp; omega
  have hb3' : decide (b ≤ 65536) = true := by simp; omega
  have hb4 : decide ((b : Int) + 6 * (t : Int) ≤ 65536) = true := by simp; omega
  go_enter Try.func8, Try.ntmps8
  go_wp2
  go_ret
  exact ⟨rfl, (Frm.refl _ _).alloc _⟩
theorem right_no (w : World) (b t : Int) (h : ¬ (0 ≤ b ∧ 1 ≤ t ∧ t ≤ 64 ∧ b + 6 * t ≤ 65536)) : Calls Try.prog 8 #[.agg #[.int .i64 b, .int .i64 t]] w (Ret (.bool false) (fun w' => Frm [] w w')) := by
  by_cases h0 : 0 ≤ b
  · have hb0 : decide (0 ≤ b) = true := by simpa using h0
    by_cases h1 : 1 ≤ t
    · have hb1 : decide (1 ≤ t) = true := by simpa using h1
      by_cases h2 : t ≤ 64
      · have hb2 : decide (t ≤ 64) = true := by simpa using h2
        by_cases h3 : b ≤ 65536
        · have hb3 : decide (b ≤ 65536) = true := by simpa using h3
          have hb4 : decide (b + 6 * t ≤ 65536) = false := by simp; omega
          go_enter Try.func8, Try.ntmps8
          go_wp2
          go_ret
          exact ⟨rfl, (Frm.refl _ _).alloc _⟩
        · have hb3 : decide (b ≤ 65536) = false := by simpa using h3
          go_enter Try.func8, Try.ntmps8
          go_wp2
          go_ret
          exact ⟨rfl, (Frm.refl _ _).alloc _⟩
      · have hb2 : decide (t ≤ 64) = false := by simpa using h2
        go_enter Try.func8, Try.ntmps8
        go_wp2
        go_ret
        exact ⟨rfl, (Frm.refl _ _).alloc _⟩
    · have hb1 : decide (1 ≤ t) = false := by simpa using h1
      go_enter Try.func8, Try.ntmps8
      go_wp2
      go_ret
      exact ⟨rfl, (Frm.refl _ _).alloc _⟩
  · have hb0 : decide (0 ≤ b) = false := by simpa using h0
    go_enter Try.func8, Try.ntmps8
    go_wp2
    go_ret
    exact ⟨rfl, (Frm.refl _ _).alloc _⟩

theorem rhas_yes (w : World) (b : Int) (t k : Nat) (t64 : t ≤ 64) (hk : k < 2 * t) : Calls Try.prog 17 #[.agg #[.int .i64 b, .int .i64 t], .int .i64 k] w (Ret (.bool true) (fun w' => Frm [] w w')) := by
  have hb : decide ((k : Int) < 2 * (t : Int)) = true := by simp; omega
  go_enter Try.func17, Try.ntmps17
  go_wp2
  go_ret
  exact ⟨rfl, (Frm.refl _ _).alloc _⟩
theorem rhas_no (w : World) (b : Int) (t : Nat) (k : Int) (t64 : t ≤ 64) (hk : k < 0 ∨ 2 * (t : Int) ≤ k) : Calls Try.prog 17 #[.agg #[.int .i64 b, .int .i64 t], .int .i64 k] w (Ret (.bool false) (fun w' => Frm [] w w')) := by
  by_cases h0 : 0 ≤ k
  · have h0' : decide (0 ≤ k) = true := by simpa using h0
    have hb : decide (k < 2 * (t : Int)) = false := by simp; omega
    go_enter Try.func17, Try.ntmps17
    go_wp2
    go_ret
    exact ⟨rfl, (Frm.refl _ _).alloc _⟩
  · have h0' : decide (0 ≤ k) = false := by simpa using h0
    go_enter Try.func17, Try.ntmps17
    go_wp2
    go_ret
    exact ⟨rfl, (Frm.refl _ _).alloc _⟩

theorem rword_yes (w : World) (b t k : Nat) (t64 : t ≤ 64) (fit : b + 6 * t ≤ 65536) (hk : k < 2 * t) (i : Nat) (hi : i < 3) : Calls Try.prog 33 #[.agg #[.int .i64 b, .int .i64 t], .int .i64 k, .int .i64 i] w (Ret (.int .i64 ((b : Int) + (k : Int) * 3 + (i : Int))) (fun w' => Frm [] w w')) := by
  obtain ⟨X, hX⟩ : ∃ X, X = w.alloc (.cells #[.int .i64 b, .int .i64 t] 23) := ⟨_, rfl⟩
  have hFX : Frm [] w X := by rw [hX]; exact (Frm.refl _ _).alloc _
  have hB : X.heap[w.heap.size]? = some (.cells #[.int .i64 b, .int .i64 t] 23 (0, 0)) := by rw [hX]; exact heap_alloc_new _ _
  have e3 : 3 * (k : Int) = (k : Int) * 3 := by omega
  have HX := Lib.hid hX
  have HB := Lib.hid hB
  have HF := Lib.hid hFX
  have E3 := Lib.hid e3
  clear hX hB hFX e3
  go_enter Try.func33, Try.ntmps33
  go_wp2_with fail
  refine (rhas_yes _ _ t k t64 hk).mono ?_
  rintro e w1 ⟨rfl, hF1⟩
  rw [← HX.out] at hF1
  obtain ⟨c0, c1⟩ := cells2 (hF1.heap HB.out (by simp))
  go_wp2
  go_ret
  exact ⟨by rw [← E3.out]; rfl, HF.out.trans hF1⟩
theorem rword_no (w : World) (b : Int) (t : Nat) (k : Int) (t64 : t ≤ 64) (hk : k < 0 ∨ 2 * (t : Int) ≤ k) (i : Int) : Calls Try.prog 33 #[.agg #[.int .i64 b, .int .i64 t], .int .i64 k, .int .i64 i] w (Ret (.int .i64 (-1)) (fun w' => Frm [] w w')) := by
  have HK := Lib.hid hk
  clear hk
  go_enter Try.func33, Try.ntmps33
  go_wp2_with fail
  refine (rhas_no _ _ t k t64 HK.out).mono ?_
  rintro e w1 ⟨rfl, hF1⟩
  go_wp2
  go_ret
  exact ⟨rfl, ((Frm.refl _ _).alloc _).trans hF1⟩

theorem rnext_yes (w : World) (b t k : Nat) (t64 : t ≤ 64) (fit : b + 6 * t ≤ 65536) (hk : k < 2 * t) : Calls Try.prog 20 #[.agg #[.int .i64 b, .int .i64 t], .int .i64 k] w (Ret (.int .i64 ((b : Int) + (k : Int) * 3 + 0)) (fun w' => Frm [] w w')) := by
  go_enter Try.func20, Try.ntmps20
  go_wp2_with fail
  refine (rword_yes _ b t k t64 fit hk 0 (by decide)).mono ?_
  rintro e w1 ⟨rfl, hF1⟩
  go_wp2
  go_ret
  exact ⟨rfl, ((Frm.refl _ _).alloc _).trans hF1⟩
theorem rnext_no (w : World) (b : Int) (t : Nat) (k : Int) (t64 : t ≤ 64) (hk : k < 0 ∨ 2 * (t : Int) ≤ k) : Calls Try.prog 20 #[.agg #[.int .i64 b, .int .i64 t], .int .i64 k] w (Ret (.int .i64 (-1)) (fun w' => Frm [] w w')) := by
  have HK := Lib.hid hk
  clear hk
  go_enter Try.func20, Try.ntmps20
  go_wp2_with fail
  refine (rword_no _ b t k t64 HK.out 0).mono ?_
  rintro e w1 ⟨rfl, hF1⟩
  go_wp2
  go_ret
  exact ⟨rfl, ((Frm.refl _ _).alloc _).trans hF1⟩

theorem rwait_yes (w : World) (b t k : Nat) (t64 : t ≤ 64) (fit : b + 6 * t ≤ 65536) (hk : k < 2 * t) : Calls Try.prog 22 #[.agg #[.int .i64 b, .int .i64 t], .int .i64 k] w (Ret (.int .i64 ((b : Int) + (k : Int) * 3 + 1)) (fun w' => Frm [] w w')) := by
  go_enter Try.func22, Try.ntmps22
  go_wp2_with fail
  refine (rword_yes _ b t k t64 fit hk 1 (by decide)).mono ?_
  rintro e w1 ⟨rfl, hF1⟩
  go_wp2
  go_ret
  exact ⟨rfl, ((Frm.refl _ _).alloc _).trans hF1⟩
theorem rwait_no (w : World) (b : Int) (t : Nat) (k : Int) (t64 : t ≤ 64) (hk : k < 0 ∨ 2 * (t : Int) ≤ k) : Calls Try.prog 22 #[.agg #[.int .i64 b, .int .i64 t], .int .i64 k] w (Ret (.int .i64 (-1)) (fun w' => Frm [] w w')) := by
  have HK := Lib.hid hk
  clear hk
  go_enter Try.func22, Try.ntmps22
  go_wp2_with fail
  refine (rword_no _ b t k t64 HK.out 1).mono ?_
  rintro e w1 ⟨rfl, hF1⟩
  go_wp2
  go_ret
  exact ⟨rfl, ((Frm.refl _ _).alloc _).trans hF1⟩

theorem rmode_yes (w : World) (b t k : Nat) (t64 : t ≤ 64) (fit : b + 6 * t ≤ 65536) (hk : k < 2 * t) : Calls Try.prog 24 #[.agg #[.int .i64 b, .int .i64 t], .int .i64 k] w (Ret (.int .i64 ((b : Int) + (k : Int) * 3 + 2)) (fun w' => Frm [] w w')) := by
  go_enter Try.func24, Try.ntmps24
  go_wp2_with fail
  refine (rword_yes _ b t k t64 fit hk 2 (by decide)).mono ?_
  rintro e w1 ⟨rfl, hF1⟩
  go_wp2
  go_ret
  exact ⟨rfl, ((Frm.refl _ _).alloc _).trans hF1⟩
theorem rmode_no (w : World) (b : Int) (t : Nat) (k : Int) (t64 : t ≤ 64) (hk : k < 0 ∨ 2 * (t : Int) ≤ k) : Calls Try.prog 24 #[.agg #[.int .i64 b, .int .i64 t], .int .i64 k] w (Ret (.int .i64 (-1)) (fun w' => Frm [] w w')) := by
  have HK := Lib.hid hk
  clear hk
  go_enter Try.func24, Try.ntmps24
  go_wp2_with fail
  refine (rword_no _ b t k t64 HK.out 2).mono ?_
  rintro e w1 ⟨rfl, hF1⟩
  go_wp2
  go_ret
  exact ⟨rfl, ((Frm.refl _ _).alloc _).trans hF1⟩

/-! Same. -/
theorem none_q {w : World} {v : Value} (h : Zv w v) (n : Nat) : Calls Try.prog 29 #[v] (w.drewN n) fun e w'' => e = .returned (.bool true) ∧ ∃ m, w'' = w.drewN m :=
  Calls.quiet_of_same ((none_z (h.frm ((Frm.refl [] w).drewN n))).mono fun _ _ hh => ⟨hh.1, hh.2.symm⟩)
theorem none_qn {w : World} {p b t : Nat} (h : Nd w p b t) (n : Nat) : Calls Try.prog 29 #[.pointer (some ⟨p, 0, none⟩)] (w.drewN n) fun e w'' => e = .returned (.bool false) ∧ ∃ m, w'' = w.drewN m :=
  Calls.quiet_of_same ((none_nd (h.frm ((Frm.refl [] w).drewN n))).mono fun _ _ hh => ⟨hh.1, hh.2.symm⟩)
theorem same_z1 {w : World} {v : Value} (h : Zv w v) (u : Value) : Calls Try.prog 15 #[v, u] w (Ret (.bool false) (fun w' => Frm [] w w')) := by
  have H := Lib.hid h
  clear h
  go_enter Try.func15, Try.ntmps15
  go_wp2_with fail
  go_quiet ((go_at_call 29; with_reducible exact none_q H.out _))
  go_wp2
  go_ret
  exact ⟨rfl, (Frm.refl _ _).drewN _⟩
theorem same_z2 {w : World} {p b t : Nat} (hN : Nd w p b t) {v : Value} (h : Zv w v) : Calls Try.prog 15 #[.pointer (some ⟨p, 0, none⟩), v] w (Ret (.bool false) (fun w' => Frm [] w w')) := by
  have H := Lib.hid h
  have HN := Lib.hid hN
  clear h hN
  go_enter Try.func15, Try.ntmps15
  go_wp2_with fail
  go_quiet ((go_at_call 29; first | with_reducible exact none_qn HN.out _ | with_reducible exact none_q H.out _))
  go_wp2
  go_ret
  exact ⟨rfl, (Frm.refl _ _).drewN _⟩
theorem same_eq {w : World} {p q b t : Nat} (hP : Nd w p b t) (hQ : Nd w q b t) : Calls Try.prog 15 #[.pointer (some ⟨p, 0, none⟩), .pointer (some ⟨q, 0, none⟩)] w (Ret (.bool true) (fun w' => Frm [] w w')) := by
  obtain ⟨c0, c1⟩ := cells2 hP.at_
  obtain ⟨d0, d1⟩ := cells2 hQ.at_
  have HP := Lib.hid hP
  have HQ := Lib.hid hQ
  clear hP hQ
  go_enter Try.func15, Try.ntmps15
  go_wp2_with fail
  go_quiet ((go_at_call 29; first | with_reducible exact none_qn HP.out _ | with_reducible exact none_qn HQ.out _))
  go_wp2
  go_ret
  exact ⟨rfl, (Frm.refl _ _).drewN _⟩
theorem same_ne {w : World} {p q b t b2 t2 : Nat} (hP : Nd w p b t) (hQ : Nd w q b2 t2) (hne : ¬ (b = b2 ∧ t = t2)) : Calls Try.prog 15 #[.pointer (some ⟨p, 0, none⟩), .pointer (some ⟨q, 0, none⟩)] w (Ret (.bool false) (fun w' => Frm [] w w')) := by
  obtain ⟨c0, c1⟩ := cells2 hP.at_
  obtain ⟨d0, d1⟩ := cells2 hQ.at_
  have HP := Lib.hid hP
  have HQ := Lib.hid hQ
  clear hP hQ
  by_cases h1 : b = b2
  · have h2 : ¬ t = t2 := fun h => hne ⟨h1, h⟩
    have e1 : ((b : Int) == (b2 : Int)) = true := by rw [h1]; exact beq_self_eq_true _
    have e2 : ((t : Int) == (t2 : Int)) = false := by simp; omega
    have e1' : (b == b2) = true := by simpa using h1
    have e2' : (t == t2) = false := by simpa using h2
    clear hne h1
    go_enter Try.func15, Try.ntmps15
    go_wp2_with fail
    go_quiet ((go_at_call 29; first | with_reducible exact none_qn HP.out _ | with_reducible exact none_qn HQ.out _))
    go_wp2
    go_ret
    exact ⟨rfl, (Frm.refl _ _).drewN _⟩
  · have e1 : ((b : Int) == (b2 : Int)) = false := by simp; omega
    have e1' : (b == b2) = false := by simpa using h1
    clear hne
    go_enter Try.func15, Try.ntmps15
    go_wp2_with fail
    go_quiet ((go_at_call 29; first | with_reducible exact none_qn HP.out _ | with_reducible exact none_qn HQ.out _))
    go_wp2
    go_ret
    exact ⟨rfl, (Frm.refl _ _).drewN _⟩
#print axioms same_ne
end Go.Proofs.Ytclcgmadilcdgaa
