/- Layer 2: the walks of ClockDues and ClockNil. -/
import Derived.Test.YtamnhpcbflpabaaClkQ
namespace Go.Proofs.Ytamnhpcbflpabaa
open Go.ChangeShapes Go.WideShapes Go.ChangeAt Go.RowKit

theorem rtick_any (w : World) (n : Int) : Calls Try.prog 9 #[.int .i64 n] w (Ret (.bool (tk n)) (fun w' => w = w')) := by
  by_cases h0 : 0 ≤ n
  · have hb : decide (0 ≤ n) = true := by simpa using h0
    by_cases h1 : n ≤ 4611686018427387904
    · have ht : tk n = true := tk_iff.2 ⟨h0, h1⟩
      rw [ht]
      clear ht
      go_enter Try.func9, Try.ntmps9
      go_wp2
      go_ret
      exact ⟨rfl, rfl⟩
    · have ht : tk n = false := tk_not.2 (by omega)
      have hc : decide (n ≤ 4611686018427387904) = false := by simpa using h1
      rw [ht]
      clear ht
      go_enter Try.func9, Try.ntmps9
      go_wp2
      go_ret
      exact ⟨rfl, rfl⟩
  · have ht : tk n = false := tk_not.2 (by omega)
    have hc : decide (0 ≤ n) = false := by simpa using h0
    rw [ht]
    clear ht
    go_enter Try.func9, Try.ntmps9
    go_wp2
    go_ret
    exact ⟨rfl, rfl⟩
theorem rdue_any (w : World) (now n : Int) (ht : tk now = true) (hn : 0 ≤ n) : Calls Try.prog 12 #[.int .i64 now, .int .i64 n] w (Ret (.int .i64 (dl now n)) (fun w' => w = w')) := by
  have h0 := (tk_iff.1 ht).1
  have h1 := (tk_iff.1 ht).2
  clear ht
  by_cases hc : 4611686018427387904 - now < n
  · have hd : dl now n = 4611686018427387904 := by unfold dl; rw [if_pos hc]
    rw [hd]
    clear hd
    go_enter Try.func12, Try.ntmps12
    go_wp2
    go_ret
    exact ⟨rfl, rfl⟩
  · have hd : dl now n = now + n := by unfold dl; rw [if_neg hc]
    rw [hd]
    clear hd
    have hc' : n ≤ 4611686018427387904 - now := by omega
    go_enter Try.func12, Try.ntmps12
    go_wp2
    go_ret
    exact ⟨rfl, rfl⟩

theorem pas_cases (d n : Int) : (psd d n = true ∧ decide (d < n) = true ∧ decide (d < 4611686018427387904) = true) ∨ (psd d n = false ∧ decide (d < n) = true ∧ decide (d < 4611686018427387904) = false) ∨ (psd d n = false ∧ decide (d < n) = false) := by
  unfold psd; by_cases h1 : d < n <;> by_cases h2 : d < 4611686018427387904 <;> simp [h1, h2]

set_option maxHeartbeats 2000000 in
theorem walk_ClockDues (now : Int) (_w0 : (Lit.int .i64 now).wf = true) (n : Int) (_w1 : (Lit.int .i64 n).wf = true) (d : Int) (_w2 : (Lit.int .i64 d).wf = true) (w : World) :
    Calls Try.prog 3 #[.int .i64 now, .int .i64 n, .int .i64 d] w (Ret (.bool true) (fun w' => Below w.heap.size w w')) := by
  clear _w0 _w1 _w2
  have hok : tk now = true → 0 ≤ n → ∀ w, Calls Try.prog 10 #[.int .i64 now, .int .i64 n, .int .i64 (dl now n), .int .i64 0] w (Ret (.bool true) (fun w' => w = w')) := fun h1 h2 w =>
    due_law w now n _ _ (by unfold dRes; rw [if_pos ⟨h1, h2⟩]) (by unfold dErr; rw [if_pos ⟨h1, h2⟩])
  have hbad : (tk now = false ∨ n < 0) → ∀ w, Calls Try.prog 10 #[.int .i64 now, .int .i64 n, .int .i64 0, .int .i64 2] w (Ret (.bool true) (fun w' => w = w')) := fun h1 w =>
    due_law w now n _ _ (by unfold dRes; rw [if_neg (by rintro ⟨h2, h3⟩; rcases h1 with h1 | h1; rw [h1] at h2; cases h2; omega)]) (by unfold dErr; rw [if_neg (by rintro ⟨h2, h3⟩; rcases h1 with h1 | h1; rw [h1] at h2; cases h2; omega)])
  have HOK := Lib.hid hok
  have HBAD := Lib.hid hbad
  clear hok hbad
  have key : ∀ b, psd d now = b → Hid (psd d now = b) := fun b hb => Lib.hid hb
  rcases pas_cases d now with ⟨hp, hd1, hd2⟩ | ⟨hp, hd1, hd2⟩ | ⟨hp, hd1⟩
  all_goals
    have HP := key _ hp
    clear hp key
    by_cases ht : tk now = true
    · have HT := Lib.hid ht
      clear ht
      by_cases hn : 0 ≤ n
      · have hnb : decide (n < 0) = false := by simpa using hn
        go_enter Try.func3, Try.ntmps3
        go_wp2_with fail
        refine (passed_any _ _ _).mono ?_
        rintro e w' ⟨rfl, rfl⟩
        rw [HP.out]
        go_wp2_with fail
        refine (rtick_any _ _).mono ?_
        rintro e w' ⟨rfl, rfl⟩
        rw [HT.out]
        go_wp2_with fail
        refine (rdue_any _ _ _ HT.out hn).mono ?_
        rintro e w' ⟨rfl, rfl⟩
        go_wp2_with fail
        refine (HOK.out HT.out hn _).mono ?_
        rintro e w' ⟨rfl, rfl⟩
        go_wp2_with fail
        refine (known_true _).mono ?_
        rintro e w' ⟨rfl, hF⟩
        go_wp2
        go_ret
        exact ⟨rfl, hF.below (Nat.le_refl _) (by simp)⟩
      · have hnb : decide (n < 0) = true := by simpa using hn
        go_enter Try.func3, Try.ntmps3
        go_wp2_with fail
        refine (passed_any _ _ _).mono ?_
        rintro e w' ⟨rfl, rfl⟩
        rw [HP.out]
        go_wp2_with fail
        refine (rtick_any _ _).mono ?_
        rintro e w' ⟨rfl, rfl⟩
        rw [HT.out]
        go_wp2_with fail
        refine (HBAD.out (.inr (by omega)) _).mono ?_
        rintro e w' ⟨rfl, rfl⟩
        go_wp2_with fail
        refine (known_true _).mono ?_
        rintro e w' ⟨rfl, hF⟩
        go_wp2
        go_ret
        exact ⟨rfl, hF.below (Nat.le_refl _) (by simp)⟩
    · have ht : tk now = false := by simpa using ht
      have HT := Lib.hid ht
      clear ht
      go_enter Try.func3, Try.ntmps3
      go_wp2_with fail
      refine (passed_any _ _ _).mono ?_
      rintro e w' ⟨rfl, rfl⟩
      rw [HP.out]
      go_wp2_with fail
      refine (rtick_any _ _).mono ?_
      rintro e w' ⟨rfl, rfl⟩
      rw [HT.out]
      go_wp2_with fail
      refine (HBAD.out (.inl HT.out) _).mono ?_
      rintro e w' ⟨rfl, rfl⟩
      go_wp2_with fail
      refine (known_true _).mono ?_
      rintro e w' ⟨rfl, hF⟩
      go_wp2
      go_ret
      exact ⟨rfl, hF.below (Nat.le_refl _) (by simp)⟩

theorem cells3 {w : World} {b : Nat} {x0 x1 x2 : Value} {t : TypeId} {f : Nat × Nat} (hb : w.heap[b]? = some (.cells #[x0, x1, x2] t f)) : w.cell? ⟨b, 0, none⟩ = some x0 ∧ w.cell? ⟨b, 1, none⟩ = some x1 ∧ w.cell? ⟨b, 2, none⟩ = some x2 :=
  ⟨by rw [cell_of_heap hb]; rfl, by rw [cell_of_heap hb]; rfl, by rw [cell_of_heap hb]; rfl⟩

set_option maxHeartbeats 4000000 in
theorem walk_ClockNil (a : Int) (_w0 : (Lit.int .i64 a).wf = true) (b : Int) (_w1 : (Lit.int .i64 b).wf = true) (w : World) :
    Calls Try.prog 6 #[.int .i64 a, .int .i64 b] w (Ret (.bool true) (fun w' => Below w.heap.size w w')) := by
  clear _w0 _w1
  go_enter Try.func6, Try.ntmps6
  go_wp2_with fail
  obtain ⟨X, hX⟩ : ∃ X, X = (w.alloc (.cells #[.bool false, .int .i64 0, .slice none 0 0] 53)).alloc (.cells #[.pointer none, .pointer (some ⟨w.heap.size, 0, none⟩)] 30) := ⟨_, rfl⟩
  have hFX : Frm [] w X := by rw [hX]; exact ((Frm.refl _ _).alloc _).alloc _
  have hZ : X.heap[w.heap.size]? = some (.cells #[.bool false, .int .i64 0, .slice none 0 0] 53 (0, 0)) := by rw [hX]; exact heap_alloc_old _ (heap_alloc_new _ _)
  have hP : X.heap[w.heap.size + 1]? = some (.cells #[.pointer none, .pointer (some ⟨w.heap.size, 0, none⟩)] 30 (0, 0)) := by rw [hX]; exact heap_alloc_at _ (by simp)
  rw [← hX]
  have HZ := Lib.hid hZ
  have HP := Lib.hid hP
  clear hX hZ hP
  go_loopw [7, 13] (fun _ i w' => ∃ k : Nat, k ≤ 2 ∧ i = .int .i64 k ∧ Frm [] X w') (fun _ i _ => 2 - (intOf i).toNat)
  case atStart => exact ⟨0, by omega, rfl, Frm.refl _ _⟩
  case round =>
    obtain ⟨k, hk, rfl, hF⟩ := hrel
    obtain ⟨c0, c1⟩ := cells2 (hF.heap HP.out (by simp))
    have hz := (cells3 (hF.heap HZ.out (by simp))).1
    have hkk : k = 0 ∨ k = 1 ∨ k = 2 := by omega
    rcases hkk with rfl | rfl | rfl
    · have hz9 := hz
      go_wp2_with fail
      refine (now_nil _).mono ?_
      rintro e w' ⟨rfl, rfl⟩
      go_wp2_with fail
      refine (next_nil _).mono ?_
      rintro e w' ⟨rfl, rfl⟩
      go_wp2_with fail
      refine (alarms_nil _).mono ?_
      rintro e w' ⟨rfl, rfl⟩
      go_wp2_with fail
      refine (copy_nil _).mono ?_
      rintro e w' ⟨rfl, rfl⟩
      go_wp2_with fail
      refine (ticks_err (want := []) (.inl ⟨rfl, rfl⟩) rfl (tick_nil _ _)).mono ?_
      rintro e w2 ⟨rfl, hF2⟩
      have hz2 := (cells3 (hF2.heap (hF.heap HZ.out (by simp)) (by simp))).1
      go_wp2_with fail
      refine (set_nil _ _ _).mono ?_
      rintro e w' ⟨rfl, rfl⟩
      go_wp2_with fail
      refine (clear_nil _ _).mono ?_
      rintro e w' ⟨rfl, rfl⟩
      go_wp2
      go_roundw
      case rel => exact ⟨1, by omega, by go_num, hF.trans hF2⟩
      case measure => simp [intOf]
    · have hz9 := hz
      go_wp2_with fail
      refine (now_zero _ _ hz).mono ?_
      rintro e w' ⟨rfl, rfl⟩
      go_wp2_with fail
      refine (next_zero _ _ hz).mono ?_
      rintro e w' ⟨rfl, rfl⟩
      go_wp2_with fail
      refine (alarms_zero _ _ hz).mono ?_
      rintro e w' ⟨rfl, rfl⟩
      go_wp2_with fail
      refine (copy_zero _ _ hz).mono ?_
      rintro e w' ⟨rfl, rfl⟩
      go_wp2_with fail
      refine (ticks_err (want := []) (.inl ⟨rfl, rfl⟩) rfl (tick_zero _ _ hz _)).mono ?_
      rintro e w2 ⟨rfl, hF2⟩
      have hz2 := (cells3 (hF2.heap (hF.heap HZ.out (by simp)) (by simp))).1
      go_wp2_with fail
      refine (set_zero _ _ hz2 _ _).mono ?_
      rintro e w' ⟨rfl, rfl⟩
      go_wp2_with fail
      refine (clear_zero _ _ hz2 _).mono ?_
      rintro e w' ⟨rfl, rfl⟩
      go_wp2
      go_roundw
      case rel => exact ⟨2, by omega, by go_num, hF.trans hF2⟩
      case measure => simp [intOf]
    · go_wp2_with fail
      refine (known_true _).mono ?_
      rintro e w2 ⟨rfl, hF2⟩
      go_wp2
      go_ret
      exact ⟨rfl, ((hFX.trans hF).trans hF2).below (Nat.le_refl _) (by simp)⟩
end Go.Proofs.Ytamnhpcbflpabaa
