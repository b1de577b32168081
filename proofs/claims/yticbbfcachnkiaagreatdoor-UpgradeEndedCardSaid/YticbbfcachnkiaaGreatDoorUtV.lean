/- Package latch, the state: words. -/
import Derived.Test.YticbbfcachnkiaaGreatDoorUtU
namespace Go.Proofs.YticbbfcachnkiaaGreatDoor
open Go.ChangeShapes Go.WideShapes Go.ChangeAt Go.RowKit
set_option linter.unusedVariables false

theorem ix_6 (v0 v1 v2 v3 v4 v5 : Int) (W : World) :
    (Instr.index 246 (.agg #[.int .u64 v0, .int .u64 v1, .int .u64 v2, .int .u64 v3, .int .u64 v4, .int .u64 v5]) (.int .i64 0)).run Tryz.prog W = .ok (.int .u64 v0) W ∧
    (Instr.index 246 (.agg #[.int .u64 v0, .int .u64 v1, .int .u64 v2, .int .u64 v3, .int .u64 v4, .int .u64 v5]) (.int .i64 1)).run Tryz.prog W = .ok (.int .u64 v1) W ∧
    (Instr.index 246 (.agg #[.int .u64 v0, .int .u64 v1, .int .u64 v2, .int .u64 v3, .int .u64 v4, .int .u64 v5]) (.int .i64 2)).run Tryz.prog W = .ok (.int .u64 v2) W ∧
    (Instr.index 246 (.agg #[.int .u64 v0, .int .u64 v1, .int .u64 v2, .int .u64 v3, .int .u64 v4, .int .u64 v5]) (.int .i64 3)).run Tryz.prog W = .ok (.int .u64 v3) W ∧
    (Instr.index 246 (.agg #[.int .u64 v0, .int .u64 v1, .int .u64 v2, .int .u64 v3, .int .u64 v4, .int .u64 v5]) (.int .i64 4)).run Tryz.prog W = .ok (.int .u64 v4) W ∧
    (Instr.index 246 (.agg #[.int .u64 v0, .int .u64 v1, .int .u64 v2, .int .u64 v3, .int .u64 v4, .int .u64 v5]) (.int .i64 5)).run Tryz.prog W = .ok (.int .u64 v5) W := by
  refine ⟨?_, ?_, ?_, ?_, ?_, ?_⟩ <;> kernel_rfl
theorem or_sum (p v : Int) (i : Nat) (hp : 0 ≤ p) (hp2 : p < 2 ^ i) (hv : 0 ≤ v) (ht : v * 2 ^ i + p < 18446744073709551616) : Go.bits BinOp.or IntKind.u64 p (v * 2 ^ i) = p + v * 2 ^ i := by
  obtain ⟨p, rfl⟩ := Int.eq_ofNat_of_zero_le hp
  obtain ⟨v, rfl⟩ := Int.eq_ofNat_of_zero_le hv
  have e : ((v : Int) * 2 ^ i) = ((2 ^ i * v : Nat) : Int) := by simp [Int.mul_comm]
  have hp3 : p < 2 ^ i := by have : ((2 : Int) ^ i) = ((2 ^ i : Nat) : Int) := by simp
                             rw [this] at hp2; omega
  rw [e] at ht ⊢
  have h1 := Nat.two_pow_add_eq_or_of_lt hp3 v
  rw [u64_or_nat p (2 ^ i * v) (by omega) (by omega), Nat.or_comm, ← h1]
  omega
/-- The numbers of a state, the lowest first; what the first k say. -/
def LS.nums (s : LS) : List Int := [s.up + 1, s.ex + 1, s.wa + 1, s.fi + 1, s.la + 1, s.gr]
set_option maxRecDepth 100000 in
set_option maxHeartbeats 4000000 in
theorem words_any {w : World} {b o p nb T : Nat} {s : LS} (h : StAt w b o s) (hN : Nd w p nb T) (hf : s.Fit) (hfi : s.fi < 2 * T) (hla : s.la < 2 * T) :
    Calls Tryz.prog 179 #[.pointer (some ⟨b, o, none⟩), .pointer (some ⟨p, 0, none⟩)] w (Ret (.agg #[.int .u64 s.sh, .int .u64 s.w1]) (fun w' => Frm [] w w')) := by
  obtain ⟨e1, H1⟩ : ∃ e1, ∀ w', Frm [] w w' → Calls Tryz.prog 180 #[.pointer (some ⟨p, 0, none⟩), .int .i64 s.fi] w' (Ret (.tuple #[.int .u64 (s.fi + 1), .int .i64 e1]) (fun x => w' = x)) := by
    by_cases h : s.fi = -1
    · exact ⟨9, fun w' g => by rw [h]; exact ref_no (hN.frm g) (-1) (.inl (by decide))⟩
    · obtain ⟨k, hk⟩ := Int.eq_ofNat_of_zero_le (show 0 ≤ s.fi by have := hf.fi; omega)
      exact ⟨0, fun w' g => by rw [hk]; exact ref_yes (hN.frm g) k (by omega)⟩
  obtain ⟨e2, H2⟩ : ∃ e2, ∀ w', Frm [] w w' → Calls Tryz.prog 180 #[.pointer (some ⟨p, 0, none⟩), .int .i64 s.la] w' (Ret (.tuple #[.int .u64 (s.la + 1), .int .i64 e2]) (fun x => w' = x)) := by
    by_cases h : s.la = -1
    · exact ⟨9, fun w' g => by rw [h]; exact ref_no (hN.frm g) (-1) (.inl (by decide))⟩
    · obtain ⟨k, hk⟩ := Int.eq_ofNat_of_zero_le (show 0 ≤ s.la by have := hf.la; omega)
      exact ⟨0, fun w' g => by rw [hk]; exact ref_yes (hN.frm g) k (by omega)⟩
  have HS : Hid (∀ w', Frm [] w w' → StAt w' b o s) := Lib.hid fun w' g => h.frm g (by simp)
  have K1 := Lib.hid H1
  have K2 := Lib.hid H2
  have hbl := h.lt
  obtain ⟨u1, u2⟩ := hf.up
  obtain ⟨x1, x2⟩ := hf.ex
  obtain ⟨a1, a2⟩ := hf.wa
  obtain ⟨r1, r2⟩ := hf.gr
  obtain ⟨f1, f2⟩ := hf.fi
  obtain ⟨l1, l2⟩ := hf.la
  obtain ⟨c0, c1, c2, c3, c4, c5, c6⟩ := h
  clear H1 H2 hN hf
  go_enter Tryz.func179, Tryz.ntmps179
  go_wp2_with fail
  refine (K1.out _ ((Frm.refl [] _).alloc _)).mono ?_
  rintro e w1 ⟨rfl, rfl⟩
  go_wp2_with fail
  refine (K2.out _ ((Frm.refl [] _).alloc _)).mono ?_
  rintro e w1 ⟨rfl, rfl⟩
  go_wp2_with fail
  go_quiet (fail)
  go_wp2_with fail
  have g0 : Frm [] w (((w.alloc (.cells #[.int .u64 0, .int .u64 0] 128)).alloc (.cells #[.int .u64 s.sh, .int .u64 0] 128)).drewN nq) := (((Frm.refl _ _).alloc _).alloc _).drewN _
  have b0 : (((w.alloc (.cells #[.int .u64 0, .int .u64 0] 128)).alloc (.cells #[.int .u64 s.sh, .int .u64 0] 128)).drewN nq).heap[w.heap.size]? = some (.cells #[.int .u64 0, .int .u64 0] 128 (0, 0)) := heap_alloc_old _ (heap_alloc_new _ _)
  have b1 : (((w.alloc (.cells #[.int .u64 0, .int .u64 0] 128)).alloc (.cells #[.int .u64 s.sh, .int .u64 0] 128)).drewN nq).heap[w.heap.size + 1]? = some (.cells #[.int .u64 s.sh, .int .u64 0] 128 (0, 0)) := heap_alloc_at _ (by simp)
  generalize (((w.alloc (.cells #[.int .u64 0, .int .u64 0] 128)).alloc (.cells #[.int .u64 s.sh, .int .u64 0] 128)).drewN nq) = X at g0 b0 b1 ⊢
  have hw1 : s.w1 = (s.up + 1) + (s.ex + 1) * 256 + (s.wa + 1) * 65536 + (s.fi + 1) * 16777216 + (s.la + 1) * 4294967296 + s.gr * 1099511627776 := rfl
  have i0 := fun W => (ix_6 (s.up + 1) (s.ex + 1) (s.wa + 1) (s.fi + 1) (s.la + 1) s.gr W).1
  have i1 := fun W => (ix_6 (s.up + 1) (s.ex + 1) (s.wa + 1) (s.fi + 1) (s.la + 1) s.gr W).2.1
  have i2 := fun W => (ix_6 (s.up + 1) (s.ex + 1) (s.wa + 1) (s.fi + 1) (s.la + 1) s.gr W).2.2.1
  have i3 := fun W => (ix_6 (s.up + 1) (s.ex + 1) (s.wa + 1) (s.fi + 1) (s.la + 1) s.gr W).2.2.2.1
  have i4 := fun W => (ix_6 (s.up + 1) (s.ex + 1) (s.wa + 1) (s.fi + 1) (s.la + 1) s.gr W).2.2.2.2.1
  have i5 := fun W => (ix_6 (s.up + 1) (s.ex + 1) (s.wa + 1) (s.fi + 1) (s.la + 1) s.gr W).2.2.2.2.2
  have HB1 := Lib.hid b1
  have HB0 := Lib.hid b0
  have HG0 := Lib.hid g0
  have HW1 := Lib.hid hw1
  clear b0 b1 g0 hw1 HS K1 K2
  have hXs : w.heap.size + 1 < X.heap.size := lt_of_heap HB1.out
  go_loopw [61] (fun i wr => ∃ (k : Nat) (z : Int), Frm [] w wr ∧ Hid (wr.heap[w.heap.size]? = some (.cells #[.int .u64 0, .int .u64 0] 128 (0, 0))) ∧ Hid (wr.heap[w.heap.size + 1]? = some (.cells #[.int .u64 s.sh, .int .u64 z] 128 (0, 0))) ∧ ((k = 0 ∧ i = .int .i64 0 ∧ z = 0) ∨ (k = 1 ∧ i = .int .i64 1 ∧ z = (s.up + 1)) ∨ (k = 2 ∧ i = .int .i64 2 ∧ z = (s.up + 1) + (s.ex + 1) * 256) ∨ (k = 3 ∧ i = .int .i64 3 ∧ z = (s.up + 1) + (s.ex + 1) * 256 + (s.wa + 1) * 65536) ∨ (k = 4 ∧ i = .int .i64 4 ∧ z = (s.up + 1) + (s.ex + 1) * 256 + (s.wa + 1) * 65536 + (s.fi + 1) * 16777216) ∨ (k = 5 ∧ i = .int .i64 5 ∧ z = (s.up + 1) + (s.ex + 1) * 256 + (s.wa + 1) * 65536 + (s.fi + 1) * 16777216 + (s.la + 1) * 4294967296) ∨ (k = 6 ∧ i = .int .i64 6 ∧ z = (s.up + 1) + (s.ex + 1) * 256 + (s.wa + 1) * 65536 + (s.fi + 1) * 16777216 + (s.la + 1) * 4294967296 + s.gr * 1099511627776))) (fun i _ => 6 - (intOf i).toNat)
  case atStart => exact ⟨0, 0, HG0.out, HB0, HB1, .inl ⟨rfl, rfl, rfl⟩⟩
  case round =>
    clear HB1 HB0 HG0
    obtain ⟨k, z, hF, HB0, HB1, hk⟩ := hrel
    obtain ⟨s0, s1⟩ := cells2 HB1.out
    have z1 : wr.frozen? ⟨w.heap.size + 1, 1, none⟩ = false := frozen_of_heap HB1.out
    have hbl1 := lt_of_heap HB1.out
    rcases hk with ⟨rfl, rfl, rfl⟩ | ⟨rfl, rfl, rfl⟩ | ⟨rfl, rfl, rfl⟩ | ⟨rfl, rfl, rfl⟩ | ⟨rfl, rfl, rfl⟩ | ⟨rfl, rfl, rfl⟩ | ⟨rfl, rfl, rfl⟩
    · have ho : Go.bits BinOp.or IntKind.u64 (0) (s.up + 1) = (s.up + 1) := by rw [show (0 : Int) = ((0 : Nat) : Int) from rfl]; obtain ⟨n, hn⟩ := Int.eq_ofNat_of_zero_le (show 0 ≤ s.up + 1 by omega); rw [hn, u64_or_nat _ _ (by decide) (by omega)]; simp
      have HO := Lib.hid ho
      clear ho
      go_wp2_with fail
      go_region
      go_wp2_with fail
      rw [HO.out]
      go_roundw
      case rel => exact ⟨1, _, (hF.setCell _ _ (.inr (by simp))).drewN 1, Lib.hid (heap_setCell_far _ _ (by simp) HB0.out), Lib.hid (heap_setCell_at _ HB1.out), .inr (.inl ⟨rfl, rfl, rfl⟩)⟩
      case measure => simp [intOf]
    · have ho : Go.bits BinOp.or IntKind.u64 ((s.up + 1)) ((s.ex + 1) * 256) = (s.up + 1) + (s.ex + 1) * 256 := by exact or_sum _ _ 8 (by omega) (by omega) (by omega) (by omega)
      have HO := Lib.hid ho
      clear ho
      go_wp2_with fail
      go_region
      go_wp2_with fail
      rw [HO.out]
      go_roundw
      case rel => exact ⟨2, _, (hF.setCell _ _ (.inr (by simp))).drewN 1, Lib.hid (heap_setCell_far _ _ (by simp) HB0.out), Lib.hid (heap_setCell_at _ HB1.out), .inr (.inr (.inl ⟨rfl, rfl, rfl⟩))⟩
      case measure => simp [intOf]
    · have ho : Go.bits BinOp.or IntKind.u64 ((s.up + 1) + (s.ex + 1) * 256) ((s.wa + 1) * 65536) = (s.up + 1) + (s.ex + 1) * 256 + (s.wa + 1) * 65536 := by exact or_sum _ _ 16 (by omega) (by omega) (by omega) (by omega)
      have HO := Lib.hid ho
      clear ho
      go_wp2_with fail
      go_region
      go_wp2_with fail
      rw [HO.out]
      go_roundw
      case rel => exact ⟨3, _, (hF.setCell _ _ (.inr (by simp))).drewN 1, Lib.hid (heap_setCell_far _ _ (by simp) HB0.out), Lib.hid (heap_setCell_at _ HB1.out), .inr (.inr (.inr (.inl ⟨rfl, rfl, rfl⟩)))⟩
      case measure => simp [intOf]
    · have ho : Go.bits BinOp.or IntKind.u64 ((s.up + 1) + (s.ex + 1) * 256 + (s.wa + 1) * 65536) ((s.fi + 1) * 16777216) = (s.up + 1) + (s.ex + 1) * 256 + (s.wa + 1) * 65536 + (s.fi + 1) * 16777216 := by exact or_sum _ _ 24 (by omega) (by omega) (by omega) (by omega)
      have HO := Lib.hid ho
      clear ho
      go_wp2_with fail
      go_region
      go_wp2_with fail
      rw [HO.out]
      go_roundw
      case rel => exact ⟨4, _, (hF.setCell _ _ (.inr (by simp))).drewN 1, Lib.hid (heap_setCell_far _ _ (by simp) HB0.out), Lib.hid (heap_setCell_at _ HB1.out), .inr (.inr (.inr (.inr (.inl ⟨rfl, rfl, rfl⟩))))⟩
      case measure => simp [intOf]
    · have ho : Go.bits BinOp.or IntKind.u64 ((s.up + 1) + (s.ex + 1) * 256 + (s.wa + 1) * 65536 + (s.fi + 1) * 16777216) ((s.la + 1) * 4294967296) = (s.up + 1) + (s.ex + 1) * 256 + (s.wa + 1) * 65536 + (s.fi + 1) * 16777216 + (s.la + 1) * 4294967296 := by exact or_sum _ _ 32 (by omega) (by omega) (by omega) (by omega)
      have HO := Lib.hid ho
      clear ho
      go_wp2_with fail
      go_region
      go_wp2_with fail
      rw [HO.out]
      go_roundw
      case rel => exact ⟨5, _, (hF.setCell _ _ (.inr (by simp))).drewN 1, Lib.hid (heap_setCell_far _ _ (by simp) HB0.out), Lib.hid (heap_setCell_at _ HB1.out), .inr (.inr (.inr (.inr (.inr (.inl ⟨rfl, rfl, rfl⟩)))))⟩
      case measure => simp [intOf]
    · have ho : Go.bits BinOp.or IntKind.u64 ((s.up + 1) + (s.ex + 1) * 256 + (s.wa + 1) * 65536 + (s.fi + 1) * 16777216 + (s.la + 1) * 4294967296) (s.gr * 1099511627776) = (s.up + 1) + (s.ex + 1) * 256 + (s.wa + 1) * 65536 + (s.fi + 1) * 16777216 + (s.la + 1) * 4294967296 + s.gr * 1099511627776 := by exact or_sum _ _ 40 (by omega) (by omega) (by omega) (by omega)
      have HO := Lib.hid ho
      clear ho
      go_wp2_with fail
      go_region
      go_wp2_with fail
      rw [HO.out]
      go_roundw
      case rel => exact ⟨6, _, (hF.setCell _ _ (.inr (by simp))).drewN 1, Lib.hid (heap_setCell_far _ _ (by simp) HB0.out), Lib.hid (heap_setCell_at _ HB1.out), .inr (.inr (.inr (.inr (.inr (.inr (⟨rfl, rfl, rfl⟩))))))⟩
      case measure => simp [intOf]
    · rw [← HW1.out] at s1
      have HW := Lib.hid hF
      obtain ⟨y0, y1⟩ := cells2 HB0.out
      have q0 : wr.frozen? ⟨w.heap.size, 0, none⟩ = false := frozen_of_heap HB0.out
      have q1 : wr.frozen? ⟨w.heap.size, 1, none⟩ = false := frozen_of_heap HB0.out
      have hbl0 := lt_of_heap HB0.out
      clear hF c0 c1 c2 c3 c4 c5 c6
      go_wp2_with fail
      have hB : ((wr.setCell ⟨w.heap.size, 0, none⟩ (.int .u64 s.sh)).setCell ⟨w.heap.size, 1, none⟩ (.int .u64 s.w1)).heap[w.heap.size]? = some (.cells #[.int .u64 s.sh, .int .u64 s.w1] 128 (0, 0)) := heap_setCell_at (i := 1) _ (heap_setCell_at (i := 0) _ HB0.out)
      obtain ⟨t0, t1⟩ := cells2 hB
      exact bodyPost_ret (v := .agg #[.int .u64 s.sh, .int .u64 s.w1]) (by simp [results, Tryz.results179, go_sem, t0, t1]) rfl ⟨rfl, (HW.out.setCell _ _ (.inr (by simp))).setCell _ _ (.inr (by simp))⟩
#print axioms words_any
end Go.Proofs.YticbbfcachnkiaaGreatDoor
