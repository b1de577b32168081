/- Layer 3: the walk of QueueMakes. -/
import Derived.Test.YtjgnmmlbnkmgfaaQueS
namespace Go.Proofs.Ytjgnmmlbnkmgfaa
open Go.ChangeShapes Go.WideShapes Go.ChangeAt Go.RowKit

theorem u8_bd {l : List Int} (h : ∀ x ∈ l, (Lit.int .u8 x).wf = true) : ∀ x ∈ l, 0 ≤ x ∧ x ≤ 255 := by
  intro x hx
  have := h x hx
  simp only [Lit.wf, Bool.and_eq_true, decide_eq_true_eq] at this
  have e1 : IntKind.u8.min = 0 := by decide
  have e2 : IntKind.u8.max = 255 := by decide
  rw [e1, e2] at this
  exact this

set_option maxRecDepth 100000 in
set_option maxHeartbeats 3200000 in
theorem makes_core (t : Int) (m : Int) (a : Option Addr) (n c b o : Nat) (l : List Int) (w : World) (hL : Li .u8 w a n c b o l) (hw : ∀ x ∈ l, 0 ≤ x ∧ x ≤ 255) (hn : n ≤ 300) (hm : m ≤ 300 ∨ 100000 < m) (ht : mb t = true) :
    Calls Try.prog 3 #[.int .i64 t, .int .i64 m, .slice a n c] w (Ret (.bool true) (fun w' => Below w.heap.size w w')) := by
  obtain ⟨t0, t1⟩ := mb_iff.1 ht
  have d3 : decide ((300 : Int) < (n : Int)) = false := by simp; omega
  have HL := Lib.hid hL
  have HW := Lib.hid hw
  have HT := Lib.hid ht
  have hln := hL.len
  have HLN := Lib.hid hln
  clear hL hw ht hln
  have hcond : (decide (300 < m) = false) ∨ (decide (300 < m) = true ∧ decide (m ≤ 100000) = false) := by
    by_cases h : 300 < m
    · exact .inr ⟨by simpa using h, by simp; omega⟩
    · exact .inl (by simpa using h)
  rcases hcond with d1 | ⟨d1, d2⟩
  all_goals
    go_enter Try.func3, Try.ntmps3
    go_wp2_with fail
    refine (rthreads_any _ _).mono ?_
    rintro e w1 ⟨rfl, rfl⟩
    rw [HT.out]
    go_wp2_with fail
    go_loopw [7, 9, 40] (fun v _ i w' => ∃ (k : Nat) (a' : Option Addr) (c' : Nat), k ≤ n ∧ i = .int .i64 k ∧ v = .slice a' k c' ∧ Frm [] w w' ∧ Hid (RowI w.heap.size w' a' k c' (sayB (l.take k) t))) (fun _ _ i _ => n - (intOf i).toNat)
    case atStart => exact ⟨0, none, 0, by omega, rfl, rfl, Frm.refl _ _, Lib.hid (RowI.nil _ _)⟩
    case round =>
      obtain ⟨k, a', c', hk, rfl, rfl, hF, HR⟩ := hrel
      by_cases hlt : k < n
      · have hb0 : (0 : Int) ≤ (k : Int) := by omega
        have hb1 : (k : Int) < (n : Int) := by omega
        obtain ⟨x, hx, hg, hc⟩ := (HL.out.frm0 hF).get hlt
        have hix := ix_u8 (c := c) HL.out.ad hlt
        obtain ⟨x0, x1⟩ := HW.out x (List.mem_of_getElem? hx)
        have hs := sayB_succ (t := t) hx
        have hsl := sayB_length (l.take k) t
        rw [List.length_take] at hsl
        have HS := Lib.hid hs
        clear hx hg hs
        generalize sayB (l.take k) t = A at *
        have hA : A.length ≤ 100000 := by omega
        clear hsl
        go_wp2_with (at_builtin; refine wpl_appI rfl (.tmp 44) (.tmp 49) rfl (B := w.heap.size) (a := a') (n := k) (c := c') (l := A) (by simp [Act.eval]) (by simp [Act.eval]) (HR.out.frm0 ((Frm.refl _ _).alloc _)) (heap_alloc_new _ _) hA (by have := hF.size; simp; omega) ?_; intro a2 c2 w2 hR2 hF2)
        have hF3 : Frm [] w w2 := (hF.alloc _).trans_new hF2 (fun y hy => .inr (HR.out.blk y hy).1)
        have HR2 := Lib.hid hR2
        clear hR2 hF2
        go_wp2
        go_roundw
        case rel => exact ⟨k + 1, a2, c2, by omega, by go_num, by rfl, hF3, by rw [HS.out]; exact HR2⟩
        case measure => simp [intOf]; omega
      · obtain rfl : k = n := by omega
        have hRR := HR.out
        rw [List.take_of_length_le (by have := HLN.out; omega)] at hRR
        obtain ⟨b2, hL2⟩ := hRR.li
        have HL2 := Lib.hid hL2
        clear hRR hL2 HR
        go_wp2_with fail
        refine (qfrom_ok (HL.out.frm0 hF) HW.out t HT.out (by omega) HL2.out).mono ?_
        rintro e w2 ⟨rfl, hF2⟩
        have hF3 := hF.trans hF2
        by_cases hm0 : m < 0
        · have e0 : decide (m < 0) = true := by simpa using hm0
          go_wp2_with fail
          refine (qround_err _ t m 2 (.inr (.inl ⟨hm0, rfl⟩))).mono ?_
          rintro e w4 ⟨rfl, hF4⟩
          go_wp2_with fail
          refine (known_true _).mono ?_
          rintro e w5 ⟨rfl, hF5⟩
          go_wp2
          go_ret
          exact ⟨rfl, ((hF3.trans hF4).trans hF5).below (Nat.le_refl _) (by simp)⟩
        · have e0 : decide (m < 0) = false := by simpa using hm0
          by_cases hm1 : 100000 < m
          · have e1 : decide (100000 < m) = true := by simpa using hm1
            go_wp2_with fail
            refine (qround_err _ t m 5 (.inr (.inr ⟨⟨HT.out, hm1⟩, rfl⟩))).mono ?_
            rintro e w4 ⟨rfl, hF4⟩
            go_wp2_with fail
            refine (known_true _).mono ?_
            rintro e w5 ⟨rfl, hF5⟩
            go_wp2
            go_ret
            exact ⟨rfl, ((hF3.trans hF4).trans hF5).below (Nat.le_refl _) (by simp)⟩
          · have e1 : decide (100000 < m) = false := by simpa using hm1
            obtain ⟨M, rfl⟩ := Int.eq_ofNat_of_zero_le (show 0 ≤ m by omega)
            have hM : M ≤ 300 := by omega
            clear hF2 hF HL2
            go_wp2_with fail
            go_loopw [10, 11] (fun v i w' => ∃ (j : Nat) (a' : Option Addr) (c' : Nat), j ≤ M ∧ i = .int .i64 j ∧ v = .slice a' j c' ∧ Frm [] w w' ∧ Hid (RowI w.heap.size w' a' j c' (rnd t j))) (fun _ i _ => M - (intOf i).toNat)
            case atStart => exact ⟨0, none, 0, by omega, rfl, rfl, hF3, Lib.hid (RowI.nil _ _)⟩
            case round =>
              obtain ⟨j, a3, c3, hj, rfl, rfl, hG, HR⟩ := hrel
              by_cases hlt2 : j < M
              · have hb0 : (0 : Int) ≤ (j : Int) := by omega
                have hb1 : (j : Int) < (M : Int) := by omega
                have hs := rnd_succ t j
                have hsl := rnd_length t j
                have HS := Lib.hid hs
                clear hs
                generalize rnd t j = A at *
                have hA : A.length ≤ 100000 := by omega
                clear hsl
                go_wp2_with (at_builtin; refine wpl_appI rfl (.tmp 78) (.tmp 82) rfl (B := w.heap.size) (a := a3) (n := j) (c := c3) (l := A) (by simp [Act.eval]) (by simp [Act.eval]) (HR.out.frm0 ((Frm.refl _ _).alloc _)) (heap_alloc_new _ _) hA (by have := hG.size; simp; omega) ?_; intro a2 c2 w4 hR2 hF4)
                have hF5 : Frm [] w w4 := (hG.alloc _).trans_new hF4 (fun y hy => .inr (HR.out.blk y hy).1)
                have HR2 := Lib.hid hR2
                clear hR2 hF4
                go_wp2
                go_roundw
                case rel => exact ⟨j + 1, a2, c2, by omega, by go_num, by rfl, hF5, by rw [HS.out]; exact HR2⟩
                case measure => simp [intOf]; omega
              · obtain rfl : j = M := by omega
                obtain ⟨b3, hL3⟩ := HR.out.li
                have HL3 := Lib.hid hL3
                clear hL3 HR
                go_wp2_with fail
                refine (qround_ok _ t j HT.out (by omega) HL3.out).mono ?_
                rintro e w6 ⟨rfl, hF6⟩
                go_wp2_with fail
                refine (known_true _).mono ?_
                rintro e w7 ⟨rfl, hF7⟩
                go_wp2
                go_ret
                exact ⟨rfl, ((hG.trans hF6).trans hF7).below (Nat.le_refl _) (by simp)⟩

set_option maxHeartbeats 1600000 in
theorem walk_QueueMakes (t : Int) (_wt : (Lit.int .i64 t).wf = true) (m : Int) (_wm : (Lit.int .i64 m).wf = true) (a : Option Addr) (n c : Nat) (zs : List Int) (w : World) (hR : IsRow .u8 w a n c zs) :
    Calls Try.prog 3 #[.int .i64 t, .int .i64 m, .slice a n c] w (Ret (.bool true) (fun w' => Below w.heap.size w w')) := by
  obtain ⟨b, o, hL, hw⟩ := li_of_row hR
  have hw := u8_bd hw
  generalize zs.take n = l at hL hw
  clear hR
  by_cases h1 : 300 < m ∧ m ≤ 100000
  · have d1 : decide (300 < m) = true := by simpa using h1.1
    have d2 : decide (m ≤ 100000) = true := by simpa using h1.2
    clear h1 hw hL
    go_enter Try.func3, Try.ntmps3
    go_wp2_with (go_at_call 10; refine (known_true _).mono ?_; rintro e w1 ⟨rfl, hF⟩)
    go_ret
    exact ⟨rfl, hF.below (Nat.le_refl _) (by simp)⟩
  · by_cases h2 : 300 < n
    · have d3 : decide ((300 : Int) < (n : Int)) = true := by simp; omega
      clear hw hL
      by_cases h3 : 300 < m
      · have d1 : decide (300 < m) = true := by simpa using h3
        have d2 : decide (m ≤ 100000) = false := by simp; omega
        clear h1
        go_enter Try.func3, Try.ntmps3
        go_wp2_with (go_at_call 10; refine (known_true _).mono ?_; rintro e w1 ⟨rfl, hF⟩)
        go_ret
        exact ⟨rfl, hF.below (Nat.le_refl _) (by simp)⟩
      · have d1 : decide (300 < m) = false := by simpa using h3
        clear h1
        go_enter Try.func3, Try.ntmps3
        go_wp2_with (go_at_call 10; refine (known_true _).mono ?_; rintro e w1 ⟨rfl, hF⟩)
        go_ret
        exact ⟨rfl, hF.below (Nat.le_refl _) (by simp)⟩
    · by_cases ht : mb t = true
      · exact makes_core t m a n c b o l w hL hw (by omega) (by omega) ht
      · have ht : mb t = false := by simpa using ht
        have d3 : decide ((300 : Int) < (n : Int)) = false := by simp; omega
        have HT := Lib.hid ht
        have HL := Lib.hid hL
        have hcond : (decide (300 < m) = false) ∨ (decide (300 < m) = true ∧ decide (m ≤ 100000) = false) := by
          by_cases h : 300 < m
          · exact .inr ⟨by simpa using h, by simp; omega⟩
          · exact .inl (by simpa using h)
        clear ht hL hw h1
        rcases hcond with d1 | ⟨d1, d2⟩
        all_goals
          go_enter Try.func3, Try.ntmps3
          go_wp2_with fail
          refine (rthreads_any _ _).mono ?_
          rintro e w1 ⟨rfl, rfl⟩
          rw [HT.out]
          go_wp2_with fail
          refine (qround_err _ t m 2 (.inl ⟨HT.out, rfl⟩)).mono ?_
          rintro e w1 ⟨rfl, hF1⟩
          go_wp2_with fail
          refine (qfrom_err _ a n c t 2 (.inl ⟨HT.out, rfl⟩)).mono ?_
          rintro e w2 ⟨rfl, hF2⟩
          go_wp2_with fail
          refine (known_true _).mono ?_
          rintro e w3 ⟨rfl, hF3⟩
          go_wp2
          go_ret
          exact ⟨rfl, ((hF1.trans hF2).trans hF3).below (Nat.le_refl _) (by simp)⟩
end Go.Proofs.Ytjgnmmlbnkmgfaa
