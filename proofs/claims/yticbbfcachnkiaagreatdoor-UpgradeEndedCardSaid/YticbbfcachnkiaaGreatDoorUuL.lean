/- LuL, LuM, LuN, LuO in one text (by mkbundle.py). -/
import Derived.Test.YticbbfcachnkiaaGreatDoorUuK
import Derived.Shelf.Spec.TrailingZeros
/- The bits of a word, from the lowest on; TrailingZeros64. -/
namespace Go.Proofs.YticbbfcachnkiaaGreatDoor
open Go.ChangeShapes Go.WideShapes Go.ChangeAt Go.RowKit
set_option linter.unusedVariables false

/-- The numbers of the bits that are 1. -/
def bitsL (x : Nat) : List Int := ((List.range' 0 64).filter (fun i => x.testBit i)).map (fun i => ((i : Nat) : Int))
theorem bitsL_zero : bitsL 0 = [] := by simp [bitsL]
theorem low_form (x : Nat) (h0 : x ≠ 0) (h : x < 18446744073709551616) : ∃ m, x = 2 ^ Lib.ctz 64 x * (2 * m + 1) ∧ Lib.ctz 64 x < 64 := by
  unfold Lib.ctz
  rw [if_neg h0]
  exact Lib.ctzFrom_spec 64 x (by omega) (by simpa using h)
theorem low_and (x : Nat) (h0 : x ≠ 0) (h : x < 18446744073709551616) (j : Nat) : (x &&& (x - 1)).testBit j = (x.testBit j && decide (Lib.ctz 64 x < j)) := by
  obtain ⟨m, hm, hk⟩ := low_form x h0 h
  generalize Lib.ctz 64 x = k at hm hk ⊢
  have hp : 0 < 2 ^ k := Nat.two_pow_pos k
  have e1 : x - 1 = 2 ^ k * (2 * m) + (2 ^ k - 1) := by rw [hm, Nat.mul_add]; omega
  rw [Nat.testBit_and, e1, Nat.testBit_two_pow_mul_add _ (by omega)]
  have e2 : x.testBit j = (decide (j ≥ k) && (2 * m + 1).testBit (j - k)) := by rw [hm, Nat.testBit_two_pow_mul]
  rw [e2]
  by_cases hj : j < k
  · simp [Nat.not_le.2 hj]
  · rw [if_neg hj]
    by_cases hjk : j = k
    · subst hjk; simp
    · have : k < j := by omega
      obtain ⟨i, hi⟩ : ∃ i, j - k = i + 1 := ⟨j - k - 1, by omega⟩
      rw [hi]
      have h3 : (2 * m + 1).testBit (i + 1) = m.testBit i := by rw [Nat.testBit_succ]; congr 1; omega
      have h4 : (2 * m).testBit (i + 1) = m.testBit i := by rw [Nat.testBit_succ]; congr 1; omega
      rw [h3, h4]
      simp [this, Nat.le_of_lt this]
theorem low_bit (x : Nat) (h0 : x ≠ 0) (h : x < 18446744073709551616) : x.testBit (Lib.ctz 64 x) = true ∧ ∀ j, j < Lib.ctz 64 x → x.testBit j = false := by
  obtain ⟨m, hm, hk⟩ := low_form x h0 h
  generalize Lib.ctz 64 x = k at hm hk ⊢
  rw [hm]
  refine ⟨by rw [Nat.testBit_two_pow_mul]; simp, fun j hj => by rw [Nat.testBit_two_pow_mul]; simp [Nat.not_le.2 hj]⟩
theorem bitsL_step (x : Nat) (h0 : x ≠ 0) (h : x < 18446744073709551616) : bitsL x = ((Lib.ctz 64 x : Nat) : Int) :: bitsL (x &&& (x - 1)) := by
  obtain ⟨m, hm, hk⟩ := low_form x h0 h
  obtain ⟨hb, hlow⟩ := low_bit x h0 h
  have hand := low_and x h0 h
  generalize Lib.ctz 64 x = k at hb hlow hand hk ⊢
  have hs : List.range' 0 64 = List.range' 0 k ++ (k :: List.range' (k + 1) (63 - k)) := by
    have e1 : List.range' 0 64 = List.range' 0 k ++ List.range' (0 + k) (64 - k) := by
      rw [List.range'_append_1]; congr 1; omega
    rw [e1, Nat.zero_add, show 64 - k = (63 - k) + 1 by omega, List.range'_succ]
  have hlt : ∀ i, i ∈ List.range' 0 k → i < k := fun i hi => by rw [List.mem_range'_1] at hi; omega
  have hgt : ∀ i, i ∈ List.range' (k + 1) (63 - k) → k < i := fun i hi => by rw [List.mem_range'_1] at hi; omega
  have a1 : (List.range' 0 k).filter (fun i => x.testBit i) = [] := by
    rw [List.filter_eq_nil_iff]; intro i hi; rw [hlow i (hlt i hi)]; simp
  have a2 : (List.range' 0 k).filter (fun i => (x &&& (x - 1)).testBit i) = [] := by
    rw [List.filter_eq_nil_iff]; intro i hi; rw [hand, hlow i (hlt i hi)]; simp
  have a3 : (List.range' (k + 1) (63 - k)).filter (fun i => (x &&& (x - 1)).testBit i) = (List.range' (k + 1) (63 - k)).filter (fun i => x.testBit i) := by
    apply List.filter_congr; intro i hi; rw [hand]; simp [hgt i hi]
  have hkk : (x &&& (x - 1)).testBit k = false := by rw [hand]; simp
  unfold bitsL
  rw [hs, List.filter_append, List.filter_append, a1, a2, List.filter_cons, List.filter_cons, if_pos hb, hkk, a3]
  simp only [List.nil_append, Bool.false_eq_true, if_false, List.map_cons]
theorem low_lt (x : Nat) (h0 : x ≠ 0) : x &&& (x - 1) < x := by
  have : x &&& (x - 1) ≤ x - 1 := Nat.and_le_right
  omega
theorem db_at : ∀ i, i < 64 → dbT[i]? = some ((Lib.deBruijn64tab.getD i 0 : Nat) : Int) := by decide
theorem ctz_core {w : World} {x k idx : Nat} (hcell : w.cell? ⟨0, idx, none⟩ = some (.int .u8 (k : Int))) (hi : idx < 64) (hk : k < 64) (hx0 : ((x : Int) == 0) = false) (hgl : 1 < w.heap.size)
    (key : IntKind.u64.wrap (Go.bits BinOp.and IntKind.u64 (x : Int) (IntKind.u64.wrap (-(x : Int))) * 285870213051353865) / 288230376151711744 = (idx : Int)) :
    Calls Tryz.prog 108 #[.int .u64 x] w (Ret (.int .i64 (k : Int)) (fun w' => w = w')) := by
  go_enter Tryz.func108, Tryz.ntmps108
  go_wp2_with (simp only [key])
  go_ret
  exact ⟨rfl, rfl⟩
theorem ctz_any {w : World} (hW : Laid w) (x : Nat) (h0 : x ≠ 0) (h : x < 18446744073709551616) : Calls Tryz.prog 108 #[.int .u64 x] w (Ret (.int .i64 ((Lib.ctz 64 x : Nat) : Int)) (fun w' => w = w')) := by
  obtain ⟨hlow, hk⟩ := Lib.lowest_bit 64 x h0 (by simpa using h)
  obtain ⟨hi, htab⟩ := Lib.deBruijn64_at _ hk
  have hd := db_at _ hi
  rw [htab] at hd
  exact ctz_core (hW.db _ _ hd) hi hk (by simp; omega) hW.size (tz64_key x _ h h0 hlow)
#print axioms ctz_any
end Go.Proofs.YticbbfcachnkiaaGreatDoor

/- Package latch, the state: latch. -/
namespace Go.Proofs.YticbbfcachnkiaaGreatDoor
open Go.ChangeShapes Go.WideShapes Go.ChangeAt Go.RowKit
set_option linter.unusedVariables false
set_option linter.unusedSimpArgs false

theorem cells6L {w : World} {b : Nat} {x0 x1 x2 x3 x4 x5 : Value} {t : TypeId} (h : w.heap[b]? = some (.cells #[x0, x1, x2, x3, x4, x5] t (0, 0))) :
    w.cell? ⟨b, 0, none⟩ = some x0 ∧ w.cell? ⟨b, 1, none⟩ = some x1 ∧ w.cell? ⟨b, 2, none⟩ = some x2 ∧ w.cell? ⟨b, 3, none⟩ = some x3 ∧ w.cell? ⟨b, 4, none⟩ = some x4 ∧ w.cell? ⟨b, 5, none⟩ = some x5 := by
  refine ⟨?_, ?_, ?_, ?_, ?_, ?_⟩ <;> rw [cell_of_heap h] <;> rfl
theorem setCells6 {w : World} {b : Nat} {x0 x1 x2 x3 x4 x5 : Value} {t : TypeId} {f : Nat × Nat} (h : w.heap[b]? = some (.cells #[x0, x1, x2, x3, x4, x5] t f)) (y0 y1 y2 y3 y4 y5 : Value) :
    ((((((w.setCell ⟨b, 0, none⟩ y0).setCell ⟨b, 1, none⟩ y1).setCell ⟨b, 2, none⟩ y2).setCell ⟨b, 3, none⟩ y3).setCell ⟨b, 4, none⟩ y4).setCell ⟨b, 5, none⟩ y5).heap[b]? = some (.cells #[y0, y1, y2, y3, y4, y5] t f) := by
  have := heap_setCell_at (i := 5) y5 (heap_setCell_at (i := 4) y4 (heap_setCell_at (i := 3) y3 (heap_setCell_at (i := 2) y2 (heap_setCell_at (i := 1) y1 (heap_setCell_at (i := 0) y0 h)))))
  simpa using this
theorem Frm.set6 {D : List Nat} {a b : World} (h : Frm D a b) (p : Nat) (v0 v1 v2 v3 v4 v5 : Value) (hp : p ∈ D ∨ a.heap.size ≤ p) :
    Frm D a ((((((b.setCell ⟨p, 0, none⟩ v0).setCell ⟨p, 1, none⟩ v1).setCell ⟨p, 2, none⟩ v2).setCell ⟨p, 3, none⟩ v3).setCell ⟨p, 4, none⟩ v4).setCell ⟨p, 5, none⟩ v5) :=
  (((((h.setCell _ v0 hp).setCell _ v1 hp).setCell _ v2 hp).setCell _ v3 hp).setCell _ v4 hp).setCell _ v5 hp
theorem row_lat {w : World} {q B : Nat} {cs : Array Value} {a : Option Addr} {n c : Nat} {l : List Int} (h : w.heap[q]? = some (.cells cs 118 (0, 0))) (hR : Row .i64 3 B w a n c l) : q ∉ blk (.slice a n c) := by
  intro hx
  rcases hR.1.2 with ⟨hv, _⟩ | ⟨g, cap, cur, hv, _, hc, _⟩
  · rw [hv] at hx; cases hx
  · rw [hv] at hx; simp [blk] at hx; subst hx
    have := h.symm.trans hc
    simp at this
theorem bitsL_len (x : Nat) : (bitsL x).length ≤ 64 := by
  unfold bitsL
  rw [List.length_map]
  exact Nat.le_trans (List.length_filter_le _ _) (by simp)
set_option maxRecDepth 1000000 in
set_option maxHeartbeats 4000000 in
theorem latch_any {w : World} {b o : Nat} {s : LS} (h : StAt w b o s) (hW : Laid w) (hsh : s.sh < 18446744073709551616) :
    Calls Tryz.prog 91 #[.pointer (some ⟨b, o, none⟩)] w
      (fun e w' => ∃ a n c, Ret (.agg #[.slice a n c, .int .i64 s.up, .int .i64 s.ex, .int .i64 s.wa, .int .i64 s.gr, .slice none 0 0]) (fun w' => Frm [] w w' ∧ Row .i64 3 w.heap.size w' a n c (bitsL s.sh)) e w') := by
  have hbl := h.lt
  have HW := Lib.hid hW
  obtain ⟨c0, c1, c2, c3, c4, c5, c6⟩ := h
  clear hW
  go_enter Tryz.func91, Tryz.ntmps91
  go_wp2_with fail
  go_region
  go_wp2_with fail
  have f0 : Frm [] w (((w.alloc (.cells #[.slice none 0 0, .int .i64 0, .int .i64 0, .int .i64 0, .int .i64 0, .slice none 0 0] 118)).alloc (.cells #[.slice none 0 0, .int .i64 s.up, .int .i64 s.ex, .int .i64 s.wa, .int .i64 s.gr, .slice none 0 0] 118)).drew) := (((Frm.refl _ _).alloc _).alloc _).drew
  have b0 : (((w.alloc (.cells #[.slice none 0 0, .int .i64 0, .int .i64 0, .int .i64 0, .int .i64 0, .slice none 0 0] 118)).alloc (.cells #[.slice none 0 0, .int .i64 s.up, .int .i64 s.ex, .int .i64 s.wa, .int .i64 s.gr, .slice none 0 0] 118)).drew).heap[w.heap.size]? = some (.cells #[.slice none 0 0, .int .i64 0, .int .i64 0, .int .i64 0, .int .i64 0, .slice none 0 0] 118 (0, 0)) := heap_alloc_old _ (heap_alloc_new _ _)
  have b1 : (((w.alloc (.cells #[.slice none 0 0, .int .i64 0, .int .i64 0, .int .i64 0, .int .i64 0, .slice none 0 0] 118)).alloc (.cells #[.slice none 0 0, .int .i64 s.up, .int .i64 s.ex, .int .i64 s.wa, .int .i64 s.gr, .slice none 0 0] 118)).drew).heap[w.heap.size + 1]? = some (.cells #[.slice none 0 0, .int .i64 s.up, .int .i64 s.ex, .int .i64 s.wa, .int .i64 s.gr, .slice none 0 0] 118 (0, 0)) := heap_alloc_at _ (by simp)
  generalize (((w.alloc (.cells #[.slice none 0 0, .int .i64 0, .int .i64 0, .int .i64 0, .int .i64 0, .slice none 0 0] 118)).alloc (.cells #[.slice none 0 0, .int .i64 s.up, .int .i64 s.ex, .int .i64 s.wa, .int .i64 s.gr, .slice none 0 0] 118)).drew) = X at f0 b0 b1 ⊢
  have HF := Lib.hid f0
  have HB0 := Lib.hid b0
  have HB1 := Lib.hid b1
  clear f0 b0 b1 c0 c1 c2 c3 c4 c5 c6
  go_loopw [4] (fun i wr => ∃ (r : Nat) (D : List Int) (a : Option Addr) (n c : Nat), i = .int .u64 (r : Int) ∧ r < 18446744073709551616 ∧ r ≤ s.sh ∧ Hid (bitsL s.sh = D ++ bitsL r) ∧ Frm [] w wr ∧ Hid (wr.heap[w.heap.size]? = some (.cells #[.slice none 0 0, .int .i64 0, .int .i64 0, .int .i64 0, .int .i64 0, .slice none 0 0] 118 (0, 0))) ∧ Hid (wr.heap[w.heap.size + 1]? = some (.cells #[.slice a n c, .int .i64 s.up, .int .i64 s.ex, .int .i64 s.wa, .int .i64 s.gr, .slice none 0 0] 118 (0, 0))) ∧ Hid (Row .i64 3 w.heap.size wr a n c D)) (fun i _ => (intOf i).toNat)
  case atStart => exact ⟨s.sh, [], none, 0, 0, rfl, hsh, Nat.le_refl _, Lib.hid rfl, HF.out, HB0, HB1, Lib.hid (Row.nil _ _ _ _)⟩
  case round =>
    clear HB0 HB1 HF
    obtain ⟨r, D, a, n, c, rfl, hr, hrs, HD, hF, HB0, HB1, HR⟩ := hrel
    have hl1 := lt_of_heap HB1.out
    obtain ⟨x0, x1, x2, x3, x4, x5⟩ := cells6L HB1.out
    have z0 : wr.frozen? ⟨w.heap.size + 1, 0, none⟩ = false := frozen_of_heap HB1.out
    by_cases h0 : r = 0
    · have e0 : ((r : Int) != 0) = false := by simp [h0]
      have hDD : bitsL s.sh = D := by rw [HD.out, h0, bitsL_zero, List.append_nil]
      have HDD := Lib.hid hDD
      have HFr := Lib.hid hF
      obtain ⟨y0, y1, y2, y3, y4, y5⟩ := cells6L HB0.out
      have hl0 := lt_of_heap HB0.out
      have v0 : wr.frozen? ⟨w.heap.size, 0, none⟩ = false := frozen_of_heap HB0.out
      have v1 : wr.frozen? ⟨w.heap.size, 1, none⟩ = false := frozen_of_heap HB0.out
      have v2 : wr.frozen? ⟨w.heap.size, 2, none⟩ = false := frozen_of_heap HB0.out
      have v3 : wr.frozen? ⟨w.heap.size, 3, none⟩ = false := frozen_of_heap HB0.out
      have v4 : wr.frozen? ⟨w.heap.size, 4, none⟩ = false := frozen_of_heap HB0.out
      have v5 : wr.frozen? ⟨w.heap.size, 5, none⟩ = false := frozen_of_heap HB0.out
      clear h0 hDD hF
      go_wp2_with fail
      have hW0 := setCells6 HB0.out (.slice a n c) (.int .i64 s.up) (.int .i64 s.ex) (.int .i64 s.wa) (.int .i64 s.gr) (.slice none 0 0)
      have hWF := HFr.out.set6 w.heap.size (.slice a n c) (.int .i64 s.up) (.int .i64 s.ex) (.int .i64 s.wa) (.int .i64 s.gr) (.slice none 0 0) (.inr (Nat.le_refl _))
      have hWR := HR.out.frm ((Frm.refl [w.heap.size] _).set6 w.heap.size (.slice a n c) (.int .i64 s.up) (.int .i64 s.ex) (.int .i64 s.wa) (.int .i64 s.gr) (.slice none 0 0) (.inl (by simp))) (fun x hx => by have := row_lat HB0.out HR.out; intro h2; simp at h2; exact this (h2 ▸ hx))
      generalize ((((((wr.setCell ⟨w.heap.size, 0, none⟩ (.slice a n c)).setCell ⟨w.heap.size, 1, none⟩ (.int .i64 s.up)).setCell ⟨w.heap.size, 2, none⟩ (.int .i64 s.ex)).setCell ⟨w.heap.size, 3, none⟩ (.int .i64 s.wa)).setCell ⟨w.heap.size, 4, none⟩ (.int .i64 s.gr)).setCell ⟨w.heap.size, 5, none⟩ (.slice none 0 0)) = W at hW0 hWF hWR ⊢
      obtain ⟨y0, y1, y2, y3, y4, y5⟩ := cells6L hW0
      exact bodyPost_ret (v := .agg #[.slice a n c, .int .i64 s.up, .int .i64 s.ex, .int .i64 s.wa, .int .i64 s.gr, .slice none 0 0]) (by simp [results, Tryz.results91, go_sem, y0, y1, y2, y3, y4, y5]) rfl ⟨a, n, c, rfl, hWF, HDD.out ▸ hWR⟩
    · have e0 : ((r : Int) != 0) = true := by simp [h0]
      have hst := bitsL_step r h0 hr
      have HCT : Hid (∀ w', Frm [] w w' → Calls Tryz.prog 108 #[.int .u64 (r : Int)] w' (Ret (.int .i64 ((Lib.ctz 64 r : Nat) : Int)) (fun x => w' = x))) := Lib.hid fun w' g => ctz_any (HW.out.frm0 g) r h0 hr
      have HST := Lib.hid hst
      have hlt := low_lt r h0
      have hDl : D.length ≤ 64 := by have := bitsL_len s.sh; rw [HD.out] at this; simp at this; omega
      have hb1 : Go.bits BinOp.and IntKind.u64 (r : Int) ((r : Int) - 1) = ((r &&& (r - 1) : Nat) : Int) := by
        rw [show ((r : Int) - 1) = ((r - 1 : Nat) : Int) by omega, u64_and_nat _ _ hr (by omega)]
      obtain ⟨r', hr'⟩ : ∃ r', r' = r &&& (r - 1) := ⟨_, rfl⟩
      rw [← hr'] at hb1 hlt hst
      have HRR := Lib.hid hr'
      have HST := Lib.hid hst
      have hr1 : 1 ≤ (r : Int) := by omega
      have HFr := Lib.hid hF
      clear h0 hst hr' hF
      go_wp2_with fail
      have hq0 := row_lat HB0.out HR.out
      have hq1 := row_lat HB1.out HR.out
      have HQ0 := Lib.hid hq0
      have HQ1 := Lib.hid hq1
      have hl0 := lt_of_heap HB0.out
      have hBw : w.heap.size ≤ wr.heap.size := HFr.out.size
      clear hq0 hq1
      go_region_law (first
        | (refine step_appW Tryz.underlying48 info_int (by decide) (by decide) rfl (.tmp 33) (.tmp 36) rfl (B := w.heap.size) (a := a) (n := n) (c := c) (m := 1) (l := D) (l2 := [((Lib.ctz 64 r : Nat) : Int)]) (by simp [Act.eval]) (by simp [Act.eval]) (HR.out.frm0 (by (repeat' (first | exact Frm.refl _ _ | apply Frm.drew | apply Frm.drewN | apply Frm.alloc)))) (li_new rfl (heap_alloc_new _ _)) (by omega) (by have := HFr.out.size; simp; omega) ?_; intro a1 k1 w1 hR1 f1 p1; have F1 : Frm (blk (.slice a n c)) wr w1 := Frm.trans (Frm.nil (by (repeat' (first | exact Frm.refl _ _ | apply Frm.drew | apply Frm.drewN | apply Frm.alloc)))) f1; have HC1 := Lib.hid ((F1.block _ hl1 HQ1.out).trans HB1.out); have HC0 := Lib.hid ((F1.block _ hl0 HQ0.out).trans HB0.out); have HF1 := Lib.hid (HFr.out.trans_new F1 (fun x hx => .inr ((HR.out.blk x hx).1))); have HR1 := Lib.hid hR1; have hk1 := lt_of_heap HC1.out; obtain ⟨d0, d1, d2, d3, d4, d5⟩ := cells6L HC1.out; have kz : w1.frozen? ⟨w.heap.size + 1, 0, none⟩ = false := frozen_of_heap HC1.out; have HX1 := Lib.hid (row_lat HC1.out hR1); clear F1 f1 p1 hR1)
        | (go_simp; go_at_call 108; refine (HCT.out _ (HFr.out.trans (by (repeat' (first | exact Frm.refl _ _ | apply Frm.drew | apply Frm.drewN | apply Frm.alloc))))).mono ?_; rintro e w' ⟨rfl, rfl⟩))
      go_wp2_with (simp only [hb1])
      go_roundw
      all_goals (first
        | exact ⟨r', D ++ [((Lib.ctz 64 r : Nat) : Int)], a1, n + 1, k1, rfl, by omega, by omega, Lib.hid (by rw [HD.out, HST.out, List.append_assoc]; rfl), HF1.out.setCell _ _ (.inr (by simp)), Lib.hid (heap_setCell_far _ _ (by simp) HC0.out), Lib.hid (heap_setCell_at _ HC1.out), Lib.hid (HR1.out.frm ((Frm.refl [w.heap.size + 1] _).setCell _ _ (.inl (by simp))) (fun x hx => by have := HX1.out; intro h2; simp at h2; exact this (h2 ▸ hx)))⟩
        | (simp [intOf]; omega)
        | exact ⟨⟨r', D ++ [((Lib.ctz 64 r : Nat) : Int)], a1, n + 1, k1, rfl, by omega, by omega, Lib.hid (by rw [HD.out, HST.out, List.append_assoc]; rfl), HF1.out.setCell _ _ (.inr (by simp)), Lib.hid (heap_setCell_far _ _ (by simp) HC0.out), Lib.hid (heap_setCell_at _ HC1.out), Lib.hid (HR1.out.frm ((Frm.refl [w.heap.size + 1] _).setCell _ _ (.inl (by simp))) (fun x hx => by have := HX1.out; intro h2; simp at h2; exact this (h2 ▸ hx)))⟩, by simp [intOf]; omega⟩)
end Go.Proofs.YticbbfcachnkiaaGreatDoor

/- Package latch: waiter. -/
namespace Go.Proofs.YticbbfcachnkiaaGreatDoor
open Go.ChangeShapes Go.WideShapes Go.ChangeAt Go.RowKit
set_option linter.unusedVariables false
set_option linter.unusedSimpArgs false

theorem cells2L {w : World} {b : Nat} {x0 x1 : Value} {t : TypeId} {f : Nat × Nat} (h : w.heap[b]? = some (.cells #[x0, x1] t f)) :
    w.cell? ⟨b, 0, none⟩ = some x0 ∧ w.cell? ⟨b, 1, none⟩ = some x1 := by
  refine ⟨?_, ?_⟩ <;> rw [cell_of_heap h] <;> rfl
theorem setCells2L {w : World} {b : Nat} {x0 x1 : Value} {t : TypeId} {f : Nat × Nat} (h : w.heap[b]? = some (.cells #[x0, x1] t f)) (y0 y1 : Value) :
    ((w.setCell ⟨b, 0, none⟩ y0).setCell ⟨b, 1, none⟩ y1).heap[b]? = some (.cells #[y0, y1] t f) := by
  have := heap_setCell_at (i := 1) y1 (heap_setCell_at (i := 0) y0 h)
  simpa using this
section
variable {w : World} {p d c np nb T : Nat} {ws : List Int}
set_option maxRecDepth 1000000 in
set_option maxHeartbeats 4000000 in
theorem waiter_ok (hM : MemAt w p d c ws) (hN : Nd w np nb T) (hnd : np ≠ d) (fit : nb + 6 * T ≤ 65536) (k : Nat) (hk : k < 2 * T) (v : Int) (hv : v = 1 ∨ v = 2 ∨ v = 3) (hx : ws[mdW nb k]? = some v) :
    Calls Tryz.prog 109 #[.iface 24 (.pointer (some ⟨p, 0, none⟩)), .pointer (some ⟨np, 0, none⟩), .int .i64 (k : Int)] w (Ret (.tuple #[.agg #[.int .i64 ((k : Int) / 2), .int .i64 v], .int .i64 0]) (fun w' => Frm [d] w w' ∧ MemAt w' p d c ws)) := by
  have hd := hM.dlt
  have hp := hM.plt
  have f0 : Frm [] w (w.alloc (.cells #[.int .i64 0, .int .i64 0] 150)) := (Frm.refl _ _).alloc _
  have b0 : (w.alloc (.cells #[.int .i64 0, .int .i64 0] 150)).heap[w.heap.size]? = some (.cells #[.int .i64 0, .int .i64 0] 150 (0, 0)) := heap_alloc_new _ _
  have H := Lib.hid (wanted_ok (hM.frm f0 (by simp) (by simp)) (hN.frm f0) hnd fit k hk v hv hx)
  have HN := Lib.hid (hN.frm f0)
  have HF := Lib.hid f0
  have HB := Lib.hid b0
  clear hM hN hv hx b0 f0
  go_enter Tryz.func109, Tryz.ntmps109
  go_wp2_with fail
  refine H.out.mono ?_
  rintro e w1 ⟨rfl, hF1, hM1⟩
  have HF1 := Lib.hid hF1
  have HM1 := Lib.hid hM1
  have HN1 := Lib.hid (HN.out.frmD hF1 (by simpa using hnd))
  have hB1 := (hF1.block w.heap.size (by simp) (by simp; omega)).trans HB.out
  obtain ⟨c0, c1⟩ := cells2L hB1
  have hl1 := lt_of_heap hB1
  have z0 : w1.frozen? ⟨w.heap.size, 0, none⟩ = false := frozen_of_heap hB1
  have z1 : w1.frozen? ⟨w.heap.size, 1, none⟩ = false := frozen_of_heap hB1
  have HB1 := Lib.hid hB1
  clear hF1 hM1 hB1
  go_wp2_with fail
  refine (owner_yes HN1.out k hk).mono ?_
  rintro e w2 ⟨rfl, rfl⟩
  go_wp2_with fail
  have hW0 := setCells2L HB1.out (.int .i64 ((k : Int) / 2)) (.int .i64 v)
  have hWF := (((Frm.refl [w.heap.size] w1).setCell ⟨w.heap.size, 0, none⟩ (.int .i64 ((k : Int) / 2)) (.inl (by simp))).setCell ⟨w.heap.size, 1, none⟩ (.int .i64 v) (.inl (by simp)))
  generalize ((w1.setCell ⟨w.heap.size, 0, none⟩ (.int .i64 ((k : Int) / 2))).setCell ⟨w.heap.size, 1, none⟩ (.int .i64 v)) = W at hW0 hWF ⊢
  obtain ⟨y0, y1⟩ := cells2L hW0
  exact bodyPost_ret (v := .tuple #[.agg #[.int .i64 ((k : Int) / 2), .int .i64 v], .int .i64 0]) (by simp [results, Tryz.results109, go_sem, y0, y1]) rfl ⟨rfl, ((HF.out.nil).trans HF1.out).trans_new hWF (fun x hx => .inr (by simp at hx; omega)), HM1.out.frm hWF (by simp; omega) (by simp; omega)⟩
set_option maxRecDepth 1000000 in
set_option maxHeartbeats 4000000 in
theorem waiter_bad (hM : MemAt w p d c ws) (hN : Nd w np nb T) (hnd : np ≠ d) (fit : nb + 6 * T ≤ 65536) (k : Nat) (hk : k < 2 * T) (v : Int) (h0 : 0 ≤ v) (h64 : v < 18446744073709551616) (hv : ¬ (v = 1 ∨ v = 2 ∨ v = 3)) (hx : ws[mdW nb k]? = some v) :
    Calls Tryz.prog 109 #[.iface 24 (.pointer (some ⟨p, 0, none⟩)), .pointer (some ⟨np, 0, none⟩), .int .i64 (k : Int)] w (Ret (.tuple #[.agg #[.int .i64 0, .int .i64 0], .int .i64 12]) (fun w' => Frm [d] w w' ∧ MemAt w' p d c ws)) := by
  have hd := hM.dlt
  have hp := hM.plt
  have f0 : Frm [] w (w.alloc (.cells #[.int .i64 0, .int .i64 0] 150)) := (Frm.refl _ _).alloc _
  have b0 : (w.alloc (.cells #[.int .i64 0, .int .i64 0] 150)).heap[w.heap.size]? = some (.cells #[.int .i64 0, .int .i64 0] 150 (0, 0)) := heap_alloc_new _ _
  have H := Lib.hid (wanted_bad (hM.frm f0 (by simp) (by simp)) (hN.frm f0) hnd fit k hk v h0 h64 hv hx)
  have HN := Lib.hid (hN.frm f0)
  have HF := Lib.hid f0
  have HB := Lib.hid b0
  clear hM hN hv hx b0 f0
  go_enter Tryz.func109, Tryz.ntmps109
  go_wp2_with fail
  refine H.out.mono ?_
  rintro e w1 ⟨rfl, hF1, hM1⟩
  have HF1 := Lib.hid hF1
  have HM1 := Lib.hid hM1
  have HN1 := Lib.hid (HN.out.frmD hF1 (by simpa using hnd))
  have hB1 := (hF1.block w.heap.size (by simp) (by simp; omega)).trans HB.out
  obtain ⟨c0, c1⟩ := cells2L hB1
  have hl1 := lt_of_heap hB1
  have z0 : w1.frozen? ⟨w.heap.size, 0, none⟩ = false := frozen_of_heap hB1
  have z1 : w1.frozen? ⟨w.heap.size, 1, none⟩ = false := frozen_of_heap hB1
  have HB1 := Lib.hid hB1
  clear hF1 hM1 hB1
  go_wp2_with fail
  have hW0 := setCells2L HB1.out (.int .i64 0) (.int .i64 0)
  have hWF := (((Frm.refl [w.heap.size] w1).setCell ⟨w.heap.size, 0, none⟩ (.int .i64 0) (.inl (by simp))).setCell ⟨w.heap.size, 1, none⟩ (.int .i64 0) (.inl (by simp)))
  generalize ((w1.setCell ⟨w.heap.size, 0, none⟩ (.int .i64 0)).setCell ⟨w.heap.size, 1, none⟩ (.int .i64 0)) = W at hW0 hWF ⊢
  obtain ⟨y0, y1⟩ := cells2L hW0
  exact bodyPost_ret (v := .tuple #[.agg #[.int .i64 0, .int .i64 0], .int .i64 12]) (by simp [results, Tryz.results109, go_sem, y0, y1]) rfl ⟨rfl, ((HF.out.nil).trans HF1.out).trans_new hWF (fun x hx => .inr (by simp at hx; omega)), HM1.out.frm hWF (by simp; omega) (by simp; omega)⟩
end
end Go.Proofs.YticbbfcachnkiaaGreatDoor

/- Rows of pairs of integers that a call makes for itself: api.Waiter. -/
namespace Go.Proofs.YticbbfcachnkiaaGreatDoor
open Go.ChangeShapes Go.WideShapes Go.ChangeAt Go.RowKit
set_option linter.unusedVariables false
set_option linter.unusedSimpArgs false

/-- The cells of a list of pairs. -/
def prs (l : List (Int × Int)) : List Value := l.flatMap (fun a => [Value.int .i64 a.1, Value.int .i64 a.2])
theorem prs_cons (a : Int × Int) (l : List (Int × Int)) : prs (a :: l) = Value.int .i64 a.1 :: Value.int .i64 a.2 :: prs l := rfl
theorem prs_append (l m : List (Int × Int)) : prs (l ++ m) = prs l ++ prs m := by unfold prs; simp
theorem prs_length (l : List (Int × Int)) : (prs l).length = l.length * 2 := by
  induction l with
  | nil => rfl
  | cons a l ih => rw [prs_cons]; simp [ih]; omega
theorem prs_one (l : List (Int × Int)) : ∀ u ∈ prs l, u.oneCell' = true := by
  intro u hu
  unfold prs at hu
  obtain ⟨a, _, ha⟩ := List.mem_flatMap.1 hu
  simp at ha
  rcases ha with rfl | rfl <;> rfl
theorem info_wtr : (Tryz.prog.info? 150).map (fun i => (i.zero, i.size, i.bytes)) = some (some (.agg #[.int .i64 0, .int .i64 0]), 2, 16) := by kernel_rfl

/-- A row of pairs of the call's own, from block B on. -/
def Row2 (B : Nat) (w : World) (a : Option Addr) (n c : Nat) (l : List (Int × Int)) : Prop := w.ownsRow B 150 2 (.slice a n c) l.length (prs l) ∧ n = l.length
namespace Row2
variable {B : Nat} {w w' : World} {a : Option Addr} {n c : Nat} {l : List (Int × Int)}
theorem nil (B : Nat) (w : World) : Row2 B w none 0 0 [] := ⟨World.ownsRow_nil _ _ _ _, rfl⟩
theorem frm {D : List Nat} (h : Row2 B w a n c l) (hf : Frm D w w') (hd : ∀ x ∈ Go.Proofs.YticbbfcachnkiaaGreatDoor.blk (.slice a n c), x ∉ D) : Row2 B w' a n c l := ⟨own_frm h.1 hf hd, h.2⟩
theorem frm0 (h : Row2 B w a n c l) (hf : Frm [] w w') : Row2 B w' a n c l := h.frm hf (by simp)
theorem blk (h : Row2 B w a n c l) : ∀ x ∈ Go.Proofs.YticbbfcachnkiaaGreatDoor.blk (.slice a n c), B ≤ x ∧ x < w.heap.size := own_blk h.1
theorem len (h : Row2 B w a n c l) : n = l.length := h.2
end Row2
/-- append of one pair, and where the new slice lies. -/
theorem run_app2 {T : TypeId} (hT : Tryz.prog.underlying T = some (.slice 150)) {B : Nat} {w : World} {a : Option Addr} {n c c2 g : Nat} {l : List (Int × Int)} {x : Int × Int} {sv : Value} (hsv : sv = .slice (some ⟨g, 0, none⟩) 1 c2) (hR : Row2 B w a n c l) (h0 : w.cell? ⟨g, 0, none⟩ = some (.int .i64 x.1)) (h1 : w.cell? ⟨g, 1, none⟩ = some (.int .i64 x.2)) (hn : l.length ≤ 1000000) (hB : B ≤ w.heap.size) (ty : TypeId) :
    ∃ a' c' w', (Builtin.append_ #[T, T] ty #[.slice a n c, sv]).run Tryz.prog w = .ok (.slice a' (n + 1) c') w' ∧ Row2 B w' a' (n + 1) c' (l ++ [x]) ∧ Frm (blk (.slice a n c)) w w' ∧
      ∀ x ∈ blk (.slice a' (n + 1) c'), x ∈ blk (.slice a n c) ∨ w.heap.size ≤ x := by
  subst hsv
  obtain ⟨i0, hi, hz0, hz1, hz2⟩ := info_parts info_wtr
  obtain ⟨hO, rfl⟩ := hR
  obtain ⟨v', w', hr, hO2, hg, _, hat⟩ := run_append_own_at (P := Tryz.prog) w B T ty 150 i0 _ 2 16 hT hi hz0 hz1 hz2 rfl (by decide) _ _ _ hO ⟨g, 0, none⟩ 1 c2 (prs [x]) rfl
    (fun j u hj => by
      rw [Addr.add_lit]
      match j, hj with
      | 0, hj => cases hj; exact h0
      | 1, hj => cases hj; exact h1
      | j + 2, hj => simp [prs] at hj) (prs_one [x]) (by unfold maxLen; omega) (by omega) hB
  obtain ⟨a', c', rfl, _, _⟩ := own_form hO2
  refine ⟨a', c', w', hr, ⟨?_, by simp⟩, Frm.grown hg (fun k hk => own_ownb hO k hk), fun x hx => ?_⟩
  · rw [prs_append, List.length_append]; exact hO2
  · cases a' with
    | none => cases hx
    | some a'' =>
      simp [blk] at hx
      subst hx
      rcases hat with hat | hat
      · exact .inl (own_ownb hO _ hat.symm)
      · simp [Value.ownBlock] at hat; right; omega
theorem step_app2 {T : TypeId} (hT : Tryz.prog.underlying T = some (.slice 150)) {w : World} {ops : Array Oper} {o : Oper} {x : Act} {K : Act → World → Prop} {Q : Exit → Act → World → Prop} {E : Prop} (hw : Region.wanted o (yielded ops x.tmps) = true) (p q : Operand)
    (ho : o.op = .call { callee := .builtin .append, args := #[p, q], argTypes := #[T, T] }) {B : Nat} {a : Option Addr} {n c c2 g : Nat} {l : List (Int × Int)} {y : Int × Int}
    (hd : x.eval p = .slice a n c) {sv : Value} (hq : x.eval q = sv) (hsv : sv = .slice (some ⟨g, 0, none⟩) 1 c2) (hR : Row2 B w a n c l) (h0 : w.cell? ⟨g, 0, none⟩ = some (.int .i64 y.1)) (h1 : w.cell? ⟨g, 1, none⟩ = some (.int .i64 y.2)) (hn : l.length ≤ 1000000) (hB : B ≤ w.heap.size)
    (hK : ∀ a' c' w', Row2 B w' a' (n + 1) c' (l ++ [y]) → Frm (blk (.slice a n c)) w w' → (∀ x ∈ blk (.slice a' (n + 1) c'), x ∈ blk (.slice a n c) ∨ w.heap.size ≤ x) → K (x.put o.dst (.slice a' (n + 1 : Nat) c')) w') :
    if Region.wanted o (yielded ops x.tmps) = true then Oper.wp Tryz.prog o x w K Q else E := by
  rw [if_pos hw]
  obtain ⟨a', c', w', hr, g1, g2, g3⟩ := run_app2 hT hsv hR h0 h1 hn hB o.type
  unfold Oper.wp
  simp [execOp, ho, resolve, invoke, builtin, hd, hq, hr, Result.andThen]
  exact hK _ _ _ g1 g2 g3
theorem wpl_app2 {T : TypeId} (hT : Tryz.prog.underlying T = some (.slice 150)) {w : World} {ops : Array Oper} {rest : List Oper} {o : Oper} {x : Act} {Q : Exit → Act → World → Prop} (hgd : o.guard = none) (p q : Operand)
    (ho : o.op = .call { callee := .builtin .append, args := #[p, q], argTypes := #[T, T] }) {B : Nat} {a : Option Addr} {n c c2 g : Nat} {l : List (Int × Int)} {y : Int × Int}
    (hd : x.eval p = .slice a n c) {sv : Value} (hq : x.eval q = sv) (hsv : sv = .slice (some ⟨g, 0, none⟩) 1 c2) (hR : Row2 B w a n c l) (h0 : w.cell? ⟨g, 0, none⟩ = some (.int .i64 y.1)) (h1 : w.cell? ⟨g, 1, none⟩ = some (.int .i64 y.2)) (hn : l.length ≤ 1000000) (hB : B ≤ w.heap.size)
    (hK : ∀ a' c' w', Row2 B w' a' (n + 1) c' (l ++ [y]) → Frm (blk (.slice a n c)) w w' → (∀ x ∈ blk (.slice a' (n + 1) c'), x ∈ blk (.slice a n c) ∨ w.heap.size ≤ x) → wpList Tryz.prog ops Q rest (x.put o.dst (.slice a' (n + 1 : Nat) c')) w') : wpList Tryz.prog ops Q (o :: rest) x w := by
  refine wpList_plain hgd fun K hK' => ?_
  obtain ⟨a', c', w', hr, g1, g2, g3⟩ := run_app2 hT hsv hR h0 h1 hn hB o.type
  unfold Oper.wp
  simp [execOp, ho, resolve, invoke, builtin, hd, hq, hr, Result.andThen]
  exact hK' _ _ (hK _ _ _ g1 g2 g3)
end Go.Proofs.YticbbfcachnkiaaGreatDoor
