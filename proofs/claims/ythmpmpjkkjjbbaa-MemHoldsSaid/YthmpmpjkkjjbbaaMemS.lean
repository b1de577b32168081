/- Layer 1: the walk of MemSizes. -/
import Derived.Test.YthmpmpjkkjjbbaaMemK
namespace Go.Proofs.Ythmpmpjkkjjbbaa
open Go.ChangeShapes Go.WideShapes Go.ChangeAt Go.RowKit

theorem mErr_ok {n : Nat} {k x : Int} (hk1 : 1 ≤ k) (hk4 : k ≤ 4) (h0 : 0 ≤ x) (h1 : x < n) : mErr n k x = 0 := by
  unfold mErr; rw [if_neg (by omega), if_neg (by omega)]
theorem mErr_out {n : Nat} {k x : Int} (hk1 : 1 ≤ k) (hk4 : k ≤ 4) (h : x < 0 ∨ n ≤ x) : mErr n k x = 3 := by
  unfold mErr; rw [if_neg (by omega), if_pos h]
theorem mWs_load {ws : List Int} {x : Int} : mWs ws ⟨1, x, 0, 0⟩ = ws := by
  unfold mWs
  split
  · apply List.ext_getElem?
    intro j
    rw [List.getElem?_set]
    split
    · rename_i hj
      simp only [] at hj
      split
      · rename_i hl
        subst hj
        simp [aft, List.getD_eq_getElem?_getD, List.getElem?_eq_getElem hl]
      · rename_i hl
        subst hj
        rw [List.getElem?_eq_none (by simpa using hl)]
    · rfl
  · rfl
theorem loads_ok {w : World} {p d c : Nat} {ws : List Int} (hM : MemAt w p d c ws) (x v : Int) (h0 : 0 ≤ x) (h1 : x < ws.length) (hv : ws.getD x.toNat 0 = v) :
    Calls Try.prog 22 #[.iface 26 (.pointer (some ⟨p, 0, none⟩)), .int .i64 x, .int .u64 v, .int .i64 0] w (Ret (.bool true) (fun w' => Frm [d] w w' ∧ MemAt w' p d c ws)) := by
  have he : mErr ws.length 1 x = 0 := mErr_ok (by omega) (by omega) h0 h1
  have hr : (mRes ws ⟨1, x, 0, 0⟩).b = v := by unfold mRes; rw [if_pos (by exact he)]; exact hv
  have := loads_mem hM x v 0
  rw [hr, he, mWs_load] at this
  exact step_true this (by simp)
theorem loads_out {w : World} {p d c : Nat} {ws : List Int} (hM : MemAt w p d c ws) (x : Int) (h : x < 0 ∨ ws.length ≤ x) :
    Calls Try.prog 22 #[.iface 26 (.pointer (some ⟨p, 0, none⟩)), .int .i64 x, .int .u64 0, .int .i64 3] w (Ret (.bool true) (fun w' => Frm [d] w w' ∧ MemAt w' p d c ws)) := by
  have he : mErr ws.length 1 x = 3 := mErr_out (by omega) (by omega) h
  have hr : (mRes ws ⟨1, x, 0, 0⟩).b = 0 := by unfold mRes; rw [if_neg (by simp only []; rw [he]; decide)]
  have := loads_mem hM x 0 3
  rw [hr, he, mWs_load] at this
  exact step_true this (by simp)

set_option maxRecDepth 100000 in
set_option maxHeartbeats 1600000 in
theorem walk_MemSizes (n : Int) (_wn : (Lit.int .i64 n).wf = true) (w : World) :
    Calls Try.prog 5 #[.int .i64 n] w (Ret (.bool true) (fun w' => Below w.heap.size w w')) := by
  by_cases hn : n < 1 ∨ 65536 < n
  · have hor : ∀ w, Calls Try.prog 23 #[.int .i64 n] w (Ret (.tuple #[.pointer none, .int .i64 2]) (fun w' => w = w')) := fun w => new_bad w n hn
    by_cases h1 : n < 1
    · have hb1 : decide (n < 1) = true := by simpa using h1
      go_enter Try.func5, Try.ntmps5
      have HO := Lib.hid hor
      clear hor
      go_wp2_with (first | (go_at_call 23; refine (HO.out _).mono ?_; rintro e w' ⟨rfl, rfl⟩) | (go_at_call 9; refine (known_true _).mono ?_; rintro e w' ⟨rfl, hF⟩))
      go_ret
      exact ⟨rfl, hF.below (Nat.le_refl _) (by simp)⟩
    · have hb1 : decide (n < 1) = false := by simpa using h1
      have hb2 : decide (65536 < n) = true := by simp; omega
      go_enter Try.func5, Try.ntmps5
      have HO := Lib.hid hor
      clear hor
      go_wp2_with (first | (go_at_call 23; refine (HO.out _).mono ?_; rintro e w' ⟨rfl, rfl⟩) | (go_at_call 9; refine (known_true _).mono ?_; rintro e w' ⟨rfl, hF⟩))
      go_ret
      exact ⟨rfl, hF.below (Nat.le_refl _) (by simp)⟩
  · obtain ⟨k, rfl⟩ := Int.eq_ofNat_of_zero_le (show 0 ≤ n by omega)
    have hb1 : decide ((k : Int) < 1) = false := by simp; omega
    have hb2 : decide (65536 < (k : Int)) = false := by simp; omega
    have hk1 : 1 ≤ k := by omega
    have hk2 : k ≤ 65536 := by omega
    have hmk := make_u64 k (by omega)
    clear hn
    go_enter Try.func5, Try.ntmps5
    go_wp2_with fail
    refine (new_ok w k hk1 hk2).mono ?_
    rintro e w1 ⟨p, d, rfl, hF1, hM1, hp, hd⟩
    have hlen : (List.replicate k (0 : Int)).length = k := by simp
    have hne : ((k : Int) != k) = false := by simp
    go_wp2_with fail
    refine (len_mem hM1).mono ?_
    rintro e w1' ⟨rfl, rfl⟩
    rw [hlen]
    go_wp2_with fail
    refine (step_true (words_k (ys := List.replicate k 0) (hM1.alloc _) 0 k (by omega) (by rw [hlen]; omega) (by have := rd_new (w := w1.alloc _) w1.heap.size (List.replicate k 0) (heap_alloc_new _ _); rw [hlen] at this; exact this) (by rw [hlen]; omega) 0) (by simp)).mono ?_
    rintro e w2 ⟨rfl, hF2⟩
    have hF : Frm [] w w2 := (hF1.alloc _).trans hF2
    have hM2 : MemAt w2 p d k (List.replicate k 0) := (hM1.alloc _).frm hF2 (by simp) (by simp)
    clear hF1 hF2 hM1 hmk
    go_wp2_with fail
    refine (loads_ok hM2 _ 0 (by omega) (by rw [hlen]; omega) (by rw [List.getD_eq_getElem?_getD, List.getElem?_replicate, if_pos (by omega)]; rfl)).mono ?_
    rintro e w3 ⟨rfl, hF3, hM3⟩
    go_wp2_with fail
    refine (loads_out hM3 _ (.inr (by rw [hlen]; omega))).mono ?_
    rintro e w4 ⟨rfl, hF4, hM4⟩
    have hFF : Frm [] w w4 := (hF.trans_new hF3 (by simp; omega)).trans_new hF4 (by simp; omega)
    clear hF hF3 hF4 hM2 hM3 hM4
    go_wp2_with fail
    refine (known_true _).mono ?_
    rintro e w5 ⟨rfl, hF5⟩
    go_wp2
    go_ret
    exact ⟨rfl, (hFF.trans hF5).below (Nat.le_refl _) (by simp)⟩
end Go.Proofs.Ythmpmpjkkjjbbaa
