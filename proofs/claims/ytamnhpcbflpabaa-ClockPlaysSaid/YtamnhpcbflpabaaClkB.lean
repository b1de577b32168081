/- Package clock: comparing, and the search by halves. -/
import Derived.Test.YtamnhpcbflpabaaClkA
namespace Go.Proofs.Ytamnhpcbflpabaa
open Go.ChangeShapes Go.WideShapes Go.ChangeAt Go.RowKit

/-- What cmp.Compare says. -/
def cmpI (a b : Int) : Int := if a < b then -1 else if b < a then 1 else 0
/-- The order of alarms. -/
def orI (x y : Int) : Int := if x = 0 then y else x
def cmpA (x a : Al) : Int := orI (cmpI x.2 a.2) (cmpI x.1 a.1)
def ltb (x a : Al) : Bool := decide (x.2 < a.2 ∨ x.2 = a.2 ∧ x.1 < a.1)
theorem ltb_iff {x a : Al} : ltb x a = true ↔ (x.2 < a.2 ∨ x.2 = a.2 ∧ x.1 < a.1) := by unfold ltb; simp
theorem cmpI_zero {a b : Int} : cmpI a b = 0 ↔ a = b := by unfold cmpI; split <;> (try split) <;> omega
theorem cmpI_neg {a b : Int} : cmpI a b < 0 ↔ a < b := by unfold cmpI; split <;> (try split) <;> omega
theorem cmpA_neg {x a : Al} : cmpA x a < 0 ↔ ltb x a = true := by
  rw [ltb_iff]; unfold cmpA orI
  split
  · rename_i h; rw [cmpI_zero] at h; rw [cmpI_neg]; omega
  · rename_i h; rw [cmpI_zero] at h; rw [cmpI_neg]; omega

theorem isnan_any (w : World) (a : Int) : Calls Try.prog 50 #[.int .i64 a] w (Ret (.bool false) (fun w' => w = w')) := by
  go_enter Try.func50, Try.ntmps50
  go_wp2
  go_ret
  exact ⟨by simp, rfl⟩
theorem cmpi_any (w : World) (a b : Int) : Calls Try.prog 48 #[.int .i64 a, .int .i64 b] w (Ret (.int .i64 (cmpI a b)) (fun w' => w = w')) := by
  by_cases h0 : a < b
  · have he : cmpI a b = -1 := by unfold cmpI; rw [if_pos h0]
    have hb : decide (a < b) = true := by simpa using h0
    rw [he]
    clear he
    go_enter Try.func48, Try.ntmps48
    go_wp2_with (go_at_call 50; refine (isnan_any _ _).mono ?_; rintro e w' ⟨rfl, rfl⟩)
    go_ret
    exact ⟨rfl, rfl⟩
  · have hb : decide (a < b) = false := by simpa using h0
    by_cases h1 : b < a
    · have he : cmpI a b = 1 := by unfold cmpI; rw [if_neg h0, if_pos h1]
      have hb : decide (b < a) = true := by simpa using h1
      rw [he]
      clear he
      go_enter Try.func48, Try.ntmps48
      go_wp2_with (go_at_call 50; refine (isnan_any _ _).mono ?_; rintro e w' ⟨rfl, rfl⟩)
      go_ret
      exact ⟨rfl, rfl⟩
    · have he : cmpI a b = 0 := by unfold cmpI; rw [if_neg h0, if_neg h1]
      have hb : decide (b < a) = false := by simpa using h1
      rw [he]
      clear he
      go_enter Try.func48, Try.ntmps48
      go_wp2_with (go_at_call 50; refine (isnan_any _ _).mono ?_; rintro e w' ⟨rfl, rfl⟩)
      go_ret
      exact ⟨rfl, rfl⟩

theorem or_any (w : World) (b : Nat) (x y : Int) (c0 : w.cell? ⟨b, 0, none⟩ = some (.int .i64 x)) (c1 : w.cell? ⟨b, 1, none⟩ = some (.int .i64 y)) :
    Calls Try.prog 47 #[.slice (some ⟨b, 0, none⟩) 2 2] w (Ret (.int .i64 (if x = 0 then y else x)) (fun w' => w = w')) := by
  by_cases h0 : x = 0
  · subst h0
    rw [if_pos rfl]
    by_cases h1 : y = 0
    · subst h1
      go_enter Try.func47, Try.ntmps47
      go_wp2_with fail
      go_loop [5, 8] (fun _ i => ∃ k : Nat, k ≤ 2 ∧ i = .int .i64 k) (fun _ i => 2 - (intOf i).toNat)
      case atStart => exact ⟨0, by omega, rfl⟩
      case round =>
        obtain ⟨k, hk, rfl⟩ := hrel
        have hkk : k = 0 ∨ k = 1 ∨ k = 2 := by omega
        rcases hkk with rfl | rfl | rfl
        · go_wp2
          go_round
          case rel => exact ⟨1, by omega, by go_num⟩
          case measure => simp [intOf]
        · go_wp2
          go_round
          case rel => exact ⟨2, by omega, by go_num⟩
          case measure => simp [intOf]
        · go_wp2
          go_ret
          exact ⟨rfl, rfl⟩
    · have hy : (y != 0) = true := by simpa using h1
      go_enter Try.func47, Try.ntmps47
      go_wp2_with fail
      go_loop [5, 8] (fun _ i => ∃ k : Nat, k ≤ 1 ∧ i = .int .i64 k) (fun _ i => 2 - (intOf i).toNat)
      case atStart => exact ⟨0, by omega, rfl⟩
      case round =>
        obtain ⟨k, hk, rfl⟩ := hrel
        have hkk : k = 0 ∨ k = 1 := by omega
        rcases hkk with rfl | rfl
        · go_wp2
          go_round
          case rel => exact ⟨1, by omega, by go_num⟩
          case measure => simp [intOf]
        · go_wp2
          go_ret
          exact ⟨rfl, rfl⟩
  · rw [if_neg h0]
    have hx : (x != 0) = true := by simpa using h0
    go_enter Try.func47, Try.ntmps47
    go_wp2_with fail
    go_loop [5, 8] (fun _ i => i = .int .i64 0) (fun _ _ => 0)
    case atStart => exact rfl
    case round =>
      subst hrel
      go_wp2
      go_ret
      exact ⟨rfl, rfl⟩

theorem cells2 {w : World} {b : Nat} {x0 x1 : Value} {t : TypeId} {f : Nat × Nat} (h : w.heap[b]? = some (.cells #[x0, x1] t f)) : w.cell? ⟨b, 0, none⟩ = some x0 ∧ w.cell? ⟨b, 1, none⟩ = some x1 :=
  ⟨by rw [cell_of_heap h]; rfl, by rw [cell_of_heap h]; rfl⟩
theorem or_new (X : World) (x y : Int) : Calls Try.prog 47 #[.slice (some ⟨X.heap.size, 0, none⟩) 2 2] (X.alloc (.cells #[.int .i64 x, .int .i64 y] 3)).drew
    (Ret (.int .i64 (orI x y)) (fun w' => (X.alloc (.cells #[.int .i64 x, .int .i64 y] 3)).drew = w')) := by
  have h : (X.alloc (.cells #[.int .i64 x, .int .i64 y] 3)).drew.heap[X.heap.size]? = some (.cells #[.int .i64 x, .int .i64 y] 3 (0, 0)) := heap_alloc_new X _
  exact or_any _ _ _ _ (cells2 h).1 (cells2 h).2
set_option maxHeartbeats 1000000 in
theorem cmpa_any (w : World) (x a : Al) : Calls Try.prog 44 #[.agg #[.int .i64 x.1, .int .i64 x.2], .agg #[.int .i64 a.1, .int .i64 a.2]] w (Ret (.int .i64 (cmpA x a)) (fun w' => Frm [] w w')) := by
  obtain ⟨x1, x2⟩ := x
  obtain ⟨a1, a2⟩ := a
  show Calls Try.prog 44 #[.agg #[.int .i64 x1, .int .i64 x2], .agg #[.int .i64 a1, .int .i64 a2]] w (Ret (.int .i64 (orI (cmpI x2 a2) (cmpI x1 a1))) (fun w' => Frm [] w w'))
  obtain ⟨X, hX⟩ : ∃ X, X = (w.alloc (.cells #[.int .i64 x1, .int .i64 x2] 62)).alloc (.cells #[.int .i64 a1, .int .i64 a2] 62) := ⟨_, rfl⟩
  have hFX : Frm [] w X := by rw [hX]; exact ((Frm.refl _ _).alloc _).alloc _
  have h1 : X.heap[w.heap.size]? = some (.cells #[.int .i64 x1, .int .i64 x2] 62 (0, 0)) := by rw [hX]; exact heap_alloc_old _ (heap_alloc_new _ _)
  have h2 : X.heap[w.heap.size + 1]? = some (.cells #[.int .i64 a1, .int .i64 a2] 62 (0, 0)) := by rw [hX]; exact heap_alloc_at _ (by simp)
  have k1 := fun w' (hF : Frm [] X w') => cells2 (hF.heap h1 (by simp))
  have k2 := fun w' (hF : Frm [] X w') => cells2 (hF.heap h2 (by simp))
  have HX := Lib.hid hX
  have H1 := Lib.hid h1
  have H2 := Lib.hid h2
  clear hX h1 h2
  go_enter Try.func44, Try.ntmps44
  go_wp2_with fail
  rw [← HX.out]
  go_region_held3 (fun w' => Frm [] X w')
    ((repeat' (first | assumption | exact Frm.refl _ _ | apply Frm.drew | apply Frm.alloc)))
    (first | (go_at_call 48; refine (cmpi_any _ _ _).mono ?_; rintro e w' ⟨rfl, rfl⟩) | (go_at_call 47; refine (or_new _ _ _).mono ?_; rintro e w' ⟨rfl, rfl⟩))
  all_goals go_wp2
  all_goals go_ret
  all_goals exact ⟨rfl, by repeat' (first | assumption | apply Frm.drew | apply Frm.alloc)⟩
end Go.Proofs.Ytamnhpcbflpabaa
