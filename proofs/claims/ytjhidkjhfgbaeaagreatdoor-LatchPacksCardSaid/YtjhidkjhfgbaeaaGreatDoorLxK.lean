/- The reference's Of, of its pieces (by gen_lxk.py). -/
import Derived.Test.YtjhidkjhfgbaeaaGreatDoorLxI
namespace Go.Proofs.YtjhidkjhfgbaeaaGreatDoor
open Go.ChangeShapes Go.WideShapes Go.ChangeAt Go.RowKit
set_option linter.unusedVariables false
set_option linter.unusedSimpArgs false
attribute [local go_sem ↓] ldS_eq stS_eq blS_eq
section
variable {w : World}
set_option maxRecDepth 100000 in
set_option maxHeartbeats 4000000 in
theorem Of_any {w0 w1 : Nat} (h0 : w0 < 18446744073709551616) (h1 : w1 < 18446744073709551616) :
    Calls Tryz.prog 12 #[.int .u64 w0, .int .u64 w1] w (Ret (.tuple #[.agg (rsC (rdLS w0 w1)).toArray, .bool (rdB 64 w0 w1)]) (fun w' => Frm [] w w')) := by
  have hz := zero_s.1
  obtain ⟨X, hX⟩ : ∃ X, X = (w.alloc (.cells (rsC zS).toArray 31)).alloc (.cells (rsC zS).toArray 31) := ⟨_, rfl⟩
  have hFX : Frm [] w X := by rw [hX]; exact ((Frm.refl _ _).alloc _).alloc _
  have g0 : RsAt X w.heap.size zS := by rw [hX]; exact heap_alloc_old _ (rs_new _ _)
  have g1 : RsAt X (w.heap.size + 1) zS := by rw [hX]; exact heap_alloc_at _ (by simp)
  have hl0 := lt_of_heap g0
  have hl1 := lt_of_heap g1
  have HFX := Lib.hid hFX
  have G0 := Lib.hid g0
  have G1 := Lib.hid g1
  clear hFX g0 g1
  go_enter Tryz.func12, Tryz.ntmps12
  refine wp_seq_k ?_
  intro K hK
  have HK := Lib.hid hK
  clear hK
  go_wp2_with fail
  refine HK.out _ _ ?_
  clear HK K
  refine wp_seq_k ?_
  intro K hK
  have HK := Lib.hid hK
  clear hK
  go_wp2_with fail
  refine HK.out _ _ ?_
  clear HK K
  rw [← hX]
  clear hX
  refine wp_seq_k ?_
  intro K hK
  have HK := Lib.hid hK
  clear hK
  go_wp2_with fail
  go_loopw [0, 7] (fun b i wr => ∃ k : Nat, k ≤ 64 ∧ b = .int .u64 ((w0 / 2 ^ k : Nat) : Int) ∧ i = .int .i64 (k : Int) ∧ Frm [w.heap.size + 1] X wr ∧ RsAt wr (w.heap.size + 1) { zS with sh := w0 % 2 ^ k }) (fun _ i _ => 64 - (intOf i).toNat)
  case atStart => exact ⟨0, by decide, by simp, rfl, Frm.refl _ _, by rw [Nat.pow_zero, Nat.mod_one]; exact G1.out⟩
  case round =>
    obtain ⟨k, hk, rfl, rfl, hF, hR⟩ := hrel
    by_cases hlt : k < 64
    · have hc := hR.bit hlt
      have hz2 : wr.frozen? ⟨w.heap.size + 1, k, none⟩ = false := frozen_of_heap hR
      have hlr := lt_of_heap hR
      have hb := bit_eq w0 k
      have hd : ((w0 / 2 ^ k : Nat) : Int) / 2 = ((w0 / 2 ^ (k + 1) : Nat) : Int) := by rw [Nat.pow_succ, ← Nat.div_div_eq_div_mul]; omega
      have hA : w0 / 2 ^ k < 18446744073709551616 := Nat.lt_of_le_of_lt (Nat.div_le_self _ _) h0
      have HF4 := Lib.hid (hF.setCell ⟨w.heap.size + 1, k, none⟩ (.bool (w0.testBit k)) (.inl (by simp)))
      have HR4 := Lib.hid (hR.setV hlt (w0.testBit k) (w0 % 2 ^ (k + 1)) (fun i _ => mod_bit w0 k i))
      have HD := Lib.hid hd
      clear hF hR hd
      generalize w0 / 2 ^ k = A at hb HD hA ⊢
      go_wp2_with fail
      go_roundw
      case rel => exact ⟨k + 1, by omega, by rw [← HD.out], by go_num, HF4.out, HR4.out⟩
      case measure => simp [intOf]; omega
    · obtain rfl : k = 64 := by omega
      rw [Nat.mod_eq_of_lt (show w0 < 2 ^ 64 from h0)] at hR
      have hlr := lt_of_heap hR
      obtain ⟨Y, hY⟩ : ∃ Y, Y = wr.alloc (.cells #[.int .i64 0, .int .i64 0, .int .i64 0, .int .i64 0, .int .i64 0, .int .i64 0] 116) := ⟨_, rfl⟩
      have hFY : Frm [] wr Y := by rw [hY]; exact (Frm.refl _ _).alloc _
      have hA0 : Y.heap[wr.heap.size]? = some (.cells (arr6 w1 0) 116 (0, 0)) := by rw [hY]; exact heap_alloc_new _ _
      have HFY := Lib.hid hFY
      have HA0 := Lib.hid hA0
      have HF := Lib.hid hF
      have HR := Lib.hid (hR.frm hFY (by simp))
      have HR0 := Lib.hid ((G0.out.frm hF (by simp)).frm hFY (by simp))
      clear hFY hA0 hF hR
      have HL1 := Lib.hid hY
      clear hY
      go_wp2_with fail
      refine HK.out _ _ ?_
      clear HK
      refine wp_seq_k ?_
      intro K hK
      have HK := Lib.hid hK
      clear hK
      go_wp2_with fail
      refine HK.out _ _ ?_
      clear HK
      rw [← HL1.out]
      clear HL1
      obtain ⟨q8, hq8⟩ : ∃ q8, q8 = wr.heap.size := ⟨_, rfl⟩
      rw [← hq8] at hlr HA0 ⊢
      have hlq : wr.heap.size ≤ q8 := Nat.le_of_eq hq8.symm
      clear hq8
      refine wp_seq_k ?_
      intro K hK
      have HK := Lib.hid hK
      clear hK
      go_wp2_with fail
      go_loopw [1, 9] (fun b i wr => ∃ k : Nat, k ≤ 6 ∧ b = .int .u64 ((w1 / 2 ^ (8 * k) : Nat) : Int) ∧ i = .int .i64 (k : Int) ∧ Frm [q8] Y wr ∧ wr.heap[q8]? = some (.cells (arr6 w1 k) 116 (0, 0))) (fun _ i _ => 6 - (intOf i).toNat)
      case atStart => exact ⟨0, by decide, by simp, rfl, Frm.refl _ _, HA0.out⟩
      case round =>
        obtain ⟨k, hk, rfl, rfl, hF5, hA⟩ := hrel
        by_cases hlt2 : k < 6
        · obtain ⟨v, cv⟩ : ∃ v, wr.cell? ⟨q8, k, none⟩ = some v := by
            rw [cell_of_heap hA]
            exact ⟨_, Array.getElem?_eq_getElem (by simp [arr6]; omega)⟩
          have hz2 : wr.frozen? ⟨q8, k, none⟩ = false := frozen_of_heap hA
          have hlw := lt_of_heap hA
          have hA5 := heap_setCell_at (i := k) (.int .i64 (nmI w1 k)) hA
          rw [arr6_set w1 k hlt2, nm_eq] at hA5
          have hd : ((w1 / 2 ^ (8 * k) : Nat) : Int) / 256 = ((w1 / 2 ^ (8 * (k + 1)) : Nat) : Int) := by
            rw [show 8 * (k + 1) = 8 * k + 8 by omega, Nat.pow_add, ← Nat.div_div_eq_div_mul]; omega
          have hB : w1 / 2 ^ (8 * k) < 18446744073709551616 := Nat.lt_of_le_of_lt (Nat.div_le_self _ _) h1
          have HA5 := Lib.hid hA5
          have HD := Lib.hid hd
          have HF5 := Lib.hid (hF5.setCell ⟨q8, k, none⟩ (.int .i64 (((w1 / 2 ^ (8 * k) : Nat) : Int) % 256)) (.inl (by simp)))
          clear hd hF5
          generalize w1 / 2 ^ (8 * k) = A at HA5 HD HF5 hB ⊢
          go_wp2_with fail
          go_roundw
          case rel => exact ⟨k + 1, by omega, by rw [← HD.out], by go_num, HF5.out, HA5.out⟩
          case measure => simp [intOf]; omega
        · obtain rfl : k = 6 := by omega
          have hne : w.heap.size + 1 ≠ q8 := by omega
          have hne0 : w.heap.size ≠ q8 := by omega
          have HRb := Lib.hid (HR.out.frm hF5 (by simpa using hne))
          have HR0b := Lib.hid (HR0.out.frm hF5 (by simpa using hne0))
          have HFF := Lib.hid ((HFX.out.trans_new HF.out (fun x hx => .inr (by simp at hx; omega))).trans (HFY.out.trans_new hF5 (fun x hx => .inr (by simp at hx; omega))))
          clear HA0 HF HFX HFY HR HR0 hF5
          go_wp2_with fail
          refine HK.out _ _ ?_
          clear HK
          have hsz := HFF.out.size
          refine of13 _ _ _ _ _ _ _ _ _ _ _ _ _ _ _ _ _ _ _ _ _ _ _ _ _ _ _ _ _ _ _ _ _ _ _ _ _ _ _ _ _ _ _ _ _ _ _ _ _ _ _ _ _ _ _ _ HRb.out hA (Ne.symm hne) ?_
          intro x0 x1 x2 x3 x4 x5 x6 x7 x8 x9 x10 x11 x12 x13 x14 x15 x16 x17 Z hRZ hFZ
          have hFZ0 : Frm [] w Z := HFF.out.trans_new hFZ (fun x hx => .inr (by rw [List.mem_singleton.1 hx]; omega))
          have hR4 := HR0b.out.frm hFZ (by simp)
          have hbd : (-1 ≤ (rdLS w0 w1).up ∧ (rdLS w0 w1).up < 255) ∧ (-1 ≤ (rdLS w0 w1).ex ∧ (rdLS w0 w1).ex < 255) ∧ (-1 ≤ (rdLS w0 w1).wa ∧ (rdLS w0 w1).wa < 255) ∧ (-1 ≤ (rdLS w0 w1).fi ∧ (rdLS w0 w1).fi < 255) ∧ (-1 ≤ (rdLS w0 w1).la ∧ (rdLS w0 w1).la < 255) := by
            have b0 := nmI_bd w1 0
            have b1 := nmI_bd w1 1
            have b2 := nmI_bd w1 2
            have b3 := nmI_bd w1 3
            have b4 := nmI_bd w1 4
            simp only [rdLS]
            omega
          by_cases hB : w1 < 281474976710656
          · have e1 : (((w1 / 2 ^ (8 * 6) : Nat) : Int) == 0) = true := by rw [Nat.div_eq_of_lt (show w1 < 2 ^ (8 * 6) from hB)]; rfl
            have e2 : rdB 64 w0 w1 = (rdLS w0 w1).may 64 := by unfold rdB; rw [decide_eq_true hB]; rfl
            exact of14y _ _ _ _ _ _ _ _ _ _ _ _ _ _ _ _ _ _ _ _ _ _ _ _ _ _ _ _ _ _ _ _ _ _ _ _ _ _ _ _ _ _ _ _ _ _ _ _ _ _ _ _ _ _ _ hFZ0 (Nat.le_refl _) hR4 hRZ (by omega) h0 hbd e1 e2
          · have e1 : (((w1 / 2 ^ (8 * 6) : Nat) : Int) == 0) = false := by
              rw [beq_eq_false_iff_ne]
              have : 0 < w1 / 2 ^ (8 * 6) := Nat.div_pos (show 2 ^ (8 * 6) ≤ w1 from Nat.le_of_not_lt hB) (by decide)
              omega
            have e2 : rdB 64 w0 w1 = false := by unfold rdB; rw [decide_eq_false hB]; rfl
            exact of14n _ _ _ _ _ _ _ _ _ _ _ _ _ _ _ _ _ _ _ _ _ _ _ _ _ _ _ _ _ _ _ _ _ _ _ _ _ _ _ _ _ _ _ _ _ _ _ _ _ _ _ _ _ _ _ hFZ0 (Nat.le_refl _) hR4 hRZ (by omega) h0 hbd e1 e2
end
end Go.Proofs.YtjhidkjhfgbaeaaGreatDoor
