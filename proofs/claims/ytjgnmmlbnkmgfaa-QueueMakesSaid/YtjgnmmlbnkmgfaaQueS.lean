/- Layer 3: the walks of QueueNew, QueueNil, QueueMakes. -/
import Derived.Test.YtjgnmmlbnkmgfaaQueK
namespace Go.Proofs.Ytjgnmmlbnkmgfaa
open Go.ChangeShapes Go.WideShapes Go.ChangeAt Go.RowKit

theorem l0_ages (t : Nat) (x : Int) : ageOf (l0 t) 0 x = 0 := by
  unfold ageOf
  split
  · rfl
  · have hb := idx_bd (l0 t) x
    rename_i h
    have hlt : (idx (l0 t) x).toNat < (l0 t).length := by omega
    have hx : (l0 t)[(idx (l0 t) x).toNat]? = some ((l0 t)[(idx (l0 t) x).toNat]'hlt) := List.getElem?_eq_getElem _
    obtain ⟨_, e⟩ := l0_get hx
    rw [List.getD_eq_getElem?_getD, hx, e]
    rfl
theorem li_of_row {k : IntKind} {w : World} {a : Option Addr} {n c : Nat} {zs : List Int} (h : IsRow k w a n c zs) : ∃ b o, Li k w a n c b o (zs.take n) ∧ ∀ x ∈ zs.take n, (Lit.int k x).wf = true := by
  by_cases hn : 0 < n
  · obtain ⟨_, h1, h2, _, h3, b, o, ha, _, hr⟩ := h.rd hn
    exact ⟨b, o, ⟨h1, fun _ => ha, hr, h2⟩, h3⟩
  · obtain rfl : n = 0 := by omega
    exact ⟨0, 0, ⟨rfl, fun h => absurd h hn, fun i x hx => by simp at hx, by omega⟩, fun x hx => by simp at hx⟩

set_option maxHeartbeats 1600000 in
theorem walk_QueueNew (t : Int) (_wt : (Lit.int .i64 t).wf = true) (s : Int) (_ws : (Lit.int .i64 s).wf = true) (w : World) :
    Calls Try.prog 6 #[.int .i64 t, .int .i64 s] w (Ret (.bool true) (fun w' => Below w.heap.size w w')) := by
  by_cases hbad : mb t = false ∨ s < t ∨ 100000 < s
  · have hn := fun w => new_bad w t s hbad
    have HN := Lib.hid hn
    clear hn
    by_cases hm : mb t = true
    · have hor : s < t ∨ 100000 < s := by rcases hbad with h | h; rw [hm] at h; cases h; exact h
      have HM := Lib.hid hm
      clear hbad hm
      by_cases h0 : s < t
      · have hb : decide (s < t) = true := by simpa using h0
        go_enter Try.func6, Try.ntmps6
        go_wp2_with (first | (go_at_call 24; refine (HN.out _).mono ?_; rintro e w1 ⟨rfl, rfl⟩) | (go_at_call 11; refine (rthreads_any _ _).mono ?_; rintro e w1 ⟨rfl, rfl⟩; rw [HM.out]) | (go_at_call 10; refine (known_true _).mono ?_; rintro e w1 ⟨rfl, hF⟩))
        go_ret
        exact ⟨rfl, hF.below (Nat.le_refl _) (by simp)⟩
      · have hb : decide (s < t) = false := by simpa using h0
        have hb2 : decide (100000 < s) = true := by simp; omega
        go_enter Try.func6, Try.ntmps6
        go_wp2_with (first | (go_at_call 24; refine (HN.out _).mono ?_; rintro e w1 ⟨rfl, rfl⟩) | (go_at_call 11; refine (rthreads_any _ _).mono ?_; rintro e w1 ⟨rfl, rfl⟩; rw [HM.out]) | (go_at_call 10; refine (known_true _).mono ?_; rintro e w1 ⟨rfl, hF⟩))
        go_ret
        exact ⟨rfl, hF.below (Nat.le_refl _) (by simp)⟩
    · have hm : mb t = false := by simpa using hm
      have HM := Lib.hid hm
      clear hbad hm
      go_enter Try.func6, Try.ntmps6
      go_wp2_with (first | (go_at_call 24; refine (HN.out _).mono ?_; rintro e w1 ⟨rfl, rfl⟩) | (go_at_call 11; refine (rthreads_any _ _).mono ?_; rintro e w1 ⟨rfl, rfl⟩; rw [HM.out]) | (go_at_call 10; refine (known_true _).mono ?_; rintro e w1 ⟨rfl, hF⟩))
      go_ret
      exact ⟨rfl, hF.below (Nat.le_refl _) (by simp)⟩
  · have hm : mb t = true := by cases h : mb t; exact absurd (.inl h) hbad; rfl
    have h1 : ¬ s < t := fun h => hbad (.inr (.inl h))
    have h2 : ¬ 100000 < s := fun h => hbad (.inr (.inr h))
    obtain ⟨t0, t1⟩ := mb_iff.1 hm
    obtain ⟨k, rfl⟩ := Int.eq_ofNat_of_zero_le (show 0 ≤ t by omega)
    have hb : decide (s < (k : Int)) = false := by simpa using h1
    have hb2 : decide (100000 < s) = false := by simpa using h2
    have hn := new_ok w k s hm (by omega) (by omega)
    have HM := Lib.hid hm
    have HN := Lib.hid hn
    clear hbad hm hn
    go_enter Try.func6, Try.ntmps6
    go_wp2_with fail
    refine HN.out.mono ?_
    rintro e w1 ⟨p, d, rfl, hF1, hP1, hp, hd⟩
    go_wp2_with fail
    refine (rthreads_any _ _).mono ?_
    rintro e w2 ⟨rfl, hE2⟩
    rw [HM.out]
    rw [hE2] at hF1 hP1
    clear hE2
    go_wp2_with fail
    refine (picks_pk hP1).mono ?_
    rintro e w3 ⟨rfl, hE3⟩
    rw [hE3] at hF1 hP1
    clear hE3
    go_wp2_with fail
    refine (age_is hP1 _ 0 (l0_ages _ _)).mono ?_
    rintro e w4 ⟨rfl, hF4⟩
    have hP4 := hP1.frm0 hF4
    go_wp2_with fail
    refine (age_is hP4 _ 0 (l0_ages _ _)).mono ?_
    rintro e w5 ⟨rfl, hF5⟩
    have hP5 := hP4.frm0 hF5
    go_wp2_with fail
    refine (age_is hP5 _ 0 (l0_ages _ _)).mono ?_
    rintro e w6 ⟨rfl, hF6⟩
    have hP6 := hP5.frm0 hF6
    go_wp2_with fail
    refine (age_is hP6 _ 0 (l0_ages _ _)).mono ?_
    rintro e w7 ⟨rfl, hF7⟩
    go_wp2_with fail
    refine (known_true _).mono ?_
    rintro e w8 ⟨rfl, hF8⟩
    go_wp2
    go_ret
    exact ⟨rfl, (((((hF1.trans hF4).trans hF5).trans hF6).trans hF7).trans hF8).below (Nat.le_refl _) (by simp)⟩

set_option maxHeartbeats 1600000 in
theorem walk_QueueNil (n : Int) (_wn : (Lit.int .i64 n).wf = true) (w : World) :
    Calls Try.prog 8 #[.int .i64 n] w (Ret (.bool true) (fun w' => Below w.heap.size w w')) := by
  go_enter Try.func8, Try.ntmps8
  go_wp2_with fail
  obtain ⟨X, hX⟩ : ∃ X, X = (w.alloc (.cells #[.int .i64 0, .int .i64 0, .slice none 0 0] 53)).alloc (.cells #[.pointer none, .pointer (some ⟨w.heap.size, 0, none⟩)] 40) := ⟨_, rfl⟩
  have hFX : Frm [] w X := by rw [hX]; exact ((Frm.refl _ _).alloc _).alloc _
  have hz : X.heap[w.heap.size]? = some (.cells #[.int .i64 0, .int .i64 0, .slice none 0 0] 53 (0, 0)) := by rw [hX]; exact heap_alloc_old _ (heap_alloc_new _ _)
  have hs : X.heap[w.heap.size + 1]? = some (.cells #[.pointer none, .pointer (some ⟨w.heap.size, 0, none⟩)] 40 (0, 0)) := by rw [hX]; exact heap_alloc_at _ (by simp)
  rw [← hX]
  obtain ⟨s0, s1⟩ := cells2 hs
  have z2 : X.cell? ⟨w.heap.size, 2, none⟩ = some (.slice none 0 0) := (cell_of_heap hz).trans rfl
  have zl := lt_of_heap hz
  have sl := lt_of_heap hs
  clear hX hz hs
  go_loop [5, 11] (fun _ i => ∃ k : Nat, k ≤ 2 ∧ i = .int .i64 k) (fun _ i => 2 - (intOf i).toNat)
  case atStart => exact ⟨0, by omega, rfl⟩
  case round =>
    obtain ⟨k, hk, rfl⟩ := hrel
    have hkk : k = 0 ∨ k = 1 ∨ k = 2 := by omega
    rcases hkk with rfl | rfl | rfl
    · go_wp2_with (first | (go_at_call 29; refine (qnext_of (next_nil _ _)).mono ?_; rintro e w1 ⟨rfl, rfl⟩) | (go_at_call 25; refine (picks_nil _).mono ?_; rintro e w1 ⟨rfl, rfl⟩) | (go_at_call 26; refine (age_nil _ _).mono ?_; rintro e w1 ⟨rfl, rfl⟩) | (go_at_call 27; refine (copy_nil _).mono ?_; rintro e w1 ⟨rfl, rfl⟩))
      go_round
      case rel => exact ⟨1, by omega, by go_num⟩
      case measure => simp [intOf]
    · go_wp2_with (first | (go_at_call 29; refine (qnext_of (next_zero _ _ z2 _)).mono ?_; rintro e w1 ⟨rfl, rfl⟩) | (go_at_call 25; refine (picks_zero _ _ z2).mono ?_; rintro e w1 ⟨rfl, rfl⟩) | (go_at_call 26; refine (age_zero _ _ z2 _).mono ?_; rintro e w1 ⟨rfl, rfl⟩) | (go_at_call 27; refine (copy_zero _ _ z2).mono ?_; rintro e w1 ⟨rfl, rfl⟩))
      go_round
      case rel => exact ⟨2, by omega, by go_num⟩
      case measure => simp [intOf]
    · go_wp2_with (go_at_call 10; refine (known_true _).mono ?_; rintro e w1 ⟨rfl, hF⟩)
      go_ret
      exact ⟨rfl, (hFX.trans hF).below (Nat.le_refl _) (by simp)⟩
end Go.Proofs.Ytjgnmmlbnkmgfaa
