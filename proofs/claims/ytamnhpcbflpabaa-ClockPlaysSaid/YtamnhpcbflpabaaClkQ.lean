/- The examples of the chapter hold. -/
import Derived.Test.YtamnhpcbflpabaaClkN
import Derived.Deep.DrawnRows
namespace Go.Proofs.Ytamnhpcbflpabaa
open Go.ChangeShapes Go.WideShapes Go.ChangeAt Go.RowKit

theorem size_alloc' (w : World) (o : Obj) : (w.alloc o).heap.size = w.heap.size + 1 := by simp
set_option maxRecDepth 100000 in
set_option maxHeartbeats 6400000 in
theorem known_true (w : World) : Calls Try.prog 11 #[] w (Ret (.bool true) (fun w' => Frm [] w w')) := by
  go_enter Try.func11, Try.ntmps11
  go_wp2_with fail
  refine (k_due1 _).mono ?_
  rintro e w' ⟨rfl, rfl⟩
  go_wp2_with fail
  refine (k_due2 _).mono ?_
  rintro e w' ⟨rfl, rfl⟩
  go_wp2_with fail
  refine (k_due3 _).mono ?_
  rintro e w' ⟨rfl, rfl⟩
  go_wp2_with fail
  refine (k_due4 _).mono ?_
  rintro e w' ⟨rfl, rfl⟩
  go_wp2_with fail
  refine (k_pas1 _).mono ?_
  rintro e w' ⟨rfl, rfl⟩
  go_wp2_with fail
  refine (k_pas2 _).mono ?_
  rintro e w' ⟨rfl, rfl⟩
  go_wp2_with fail
  refine (k_pas3 _).mono ?_
  rintro e w' ⟨rfl, rfl⟩
  go_wp2_with fail
  refine (new_ok _ 10 tk10).mono ?_
  rintro e w1 ⟨p, rfl, hF1, hK1, hp⟩
  go_wp2_with fail
  have hpl := hK1.plt
  have hk : Kn w w1.heap.size (((w1.alloc (.cells #[.int .i64 9, .int .i64 4] 47)).alloc (.cells #[.int .i64 3, .int .i64 12] 47)).alloc (.cells #[.int .i64 7, .int .i64 12] 47)).drew :=
    ⟨(((hF1.alloc _).alloc _).alloc _).drew, by simp, heap_alloc_old (w := (w1.alloc _).alloc _) _ (heap_alloc_old _ (heap_alloc_new w1 _)), heap_alloc_old (w := (w1.alloc _).alloc _) _ (heap_alloc_at (w := w1.alloc _) _ (by simp)), heap_alloc_at (w := (w1.alloc _).alloc _) _ (by simp)⟩
  have hK : ClockAt (((w1.alloc (.cells #[.int .i64 9, .int .i64 4] 47)).alloc (.cells #[.int .i64 3, .int .i64 12] 47)).alloc (.cells #[.int .i64 7, .int .i64 12] 47)).drew p 10 (.slice none 0 0) [] := (((hK1.alloc _).alloc _).alloc _).drew
  have hA : Away w w1.heap.size (p :: blk (.slice none 0 0)) := fun x hx => by simp [blk] at hx; subst hx; omega
  have kc := fun w' (hq : Kn w w1.heap.size w') => hq.c
  generalize w1.heap.size = s at *
  clear hK1 hF1 hpl
  go_region_held3 (fun w' => Kn w s w')
    ((repeat' (first | assumption | exact Kn.go0 (by assumption) hF2 | apply Kn.drew | apply Kn.alloc)))
    (first
      | (go_at_call 15; (with_reducible refine (k_set1 hK).mono ?_); rintro e w2 ⟨v2, rfl, hF2, hK2, hb2⟩; have hkn := Kn.go (by assumption) hF2 hA; have hA2 := Away.next hA (by assumption) hb2; clear hK hA; have hK := hK2; have hA := hA2; clear hK2 hA2 hF2 hb2)
      | (go_at_call 15; (with_reducible refine (k_set2 hK).mono ?_); rintro e w2 ⟨v2, rfl, hF2, hK2, hb2⟩; have hkn := Kn.go (by assumption) hF2 hA; have hA2 := Away.next hA (by assumption) hb2; clear hK hA; have hK := hK2; have hA := hA2; clear hK2 hA2 hF2 hb2)
      | (go_at_call 15; (with_reducible refine (k_set3 hK).mono ?_); rintro e w2 ⟨v2, rfl, hF2, hK2, hb2⟩; have hkn := Kn.go (by assumption) hF2 hA; have hA2 := Away.next hA (by assumption) hb2; clear hK hA; have hK := hK2; have hA := hA2; clear hK2 hA2 hF2 hb2)
      | (go_at_call 15; (with_reducible refine (k_set4 hK).mono ?_); rintro e w2 ⟨v2, rfl, hF2, hK2, hb2⟩; have hkn := Kn.go (by assumption) hF2 hA; have hA2 := Away.next hA (by assumption) hb2; clear hK hA; have hK := hK2; have hA := hA2; clear hK2 hA2 hF2 hb2)
      | (go_at_call 21; (with_reducible refine (k_next hK).mono ?_); rintro e w2 ⟨rfl, rfl⟩)
      | (go_at_call 19; refine (k_alarms (by first | exact hK | exact hK.alloc _)).mono ?_; rintro e w2 ⟨rfl, hF2, hG⟩; have hkn := Kn.go0 (by assumption) hF2; have hK2 := ClockAt.frm0 (by first | exact hK | exact hK.alloc _) hF2; try (have hH := hF2.heap (heap_alloc_new _ _) (by simp)))
      | (go_at_call 25; refine (k_same (by first | exact hG | exact heap_alloc_old _ hG | (rw [size_alloc'] at hG; exact hG)) (by first | exact heap_alloc_new _ _ | exact hH)).mono ?_; rintro e w3 ⟨rfl, hF2⟩; have hkn3 := Kn.go0 (by assumption) hF2; have hK3 := ClockAt.frm0 (by first | exact hK2 | exact hK2.alloc _) hF2))
  all_goals
    clear hK
    have hK := hK3
    clear hK3 hF2 hG kc
    obtain ⟨⟨c1, c2⟩, ⟨c3, c4⟩, c5, c6⟩ := hkn3.c
    go_wp2_with fail
    refine (k_ticks1 hK).mono ?_
    rintro e w4 ⟨v4, rfl, hF4, hK4, hb4⟩
    have hkn4 := (hkn3.alloc (.cells #[.int .i64 9, .int .i64 4] 47)).go hF4 hA
    have hA4 := hA.next (hkn3.alloc _) hb4
    go_wp2_with fail
    refine (now_clk hK4).mono ?_
    rintro e w4 ⟨rfl, rfl⟩
    obtain ⟨⟨c1, c2⟩, ⟨c3, c4⟩, c5, c6⟩ := hkn4.c
    go_wp2_with fail
    refine (k_ticks2 hK4).mono ?_
    rintro e w5 ⟨v5, rfl, hF5, hK5, hb5⟩
    have hkn5 := (hkn4.alloc (.cells #[.int .i64 3, .int .i64 12, .int .i64 7, .int .i64 12] 47)).go hF5 hA4
    have hA5 := hA4.next (hkn4.alloc _) hb5
    go_wp2_with fail
    refine (now_clk hK5).mono ?_
    rintro e w5 ⟨rfl, rfl⟩
    go_wp2_with fail
    refine (k_next2 hK5).mono ?_
    rintro e w5 ⟨rfl, rfl⟩
    go_wp2_with fail
    refine (k_clear hK5).mono ?_
    rintro e w6 ⟨v6, rfl, hF6, hK6, hb6⟩
    have hkn6 := hkn5.go hF6 hA5
    go_wp2_with fail
    refine (k_ticks3 hK6).mono ?_
    rintro e w7 ⟨rfl, hF7⟩
    go_wp2
    go_ret
    exact ⟨rfl, hkn6.frm.trans hF7⟩
end Go.Proofs.Ytamnhpcbflpabaa
