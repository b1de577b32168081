/- The law's begin, of one that writes. (By gen_vpd.py.) -/
import Derived.Test.YtbhnijkphkkalaaVpL
namespace Go.Proofs.Ytbhnijkphkkalaa
open Go.ChangeShapes Go.WideShapes Go.ChangeAt Go.RowKit
set_option linter.unusedVariables false
section
variable {w : World} {F many tries : Int} {la : Option Addr} {ln lc : Nat}


set_option maxRecDepth 100000 in
set_option maxHeartbeats 4000000 in
theorem begin_w_yes (L : Nat) {lb lo : Nat} {l : List Int} (hL : Li .u64 w la ln lc lb lo l) (hln : ln ≤ 10) (hr : rOk (L : Nat) F ln) :
    Calls Try.prog 21 #[.agg #[.int .i64 1, .int .i64 L, .int .i64 F, .int .i64 many, .int .i64 tries, .slice la ln lc]] w (fun e w' => ∃ q b, Ret (.tuple #[.iface 33 (.pointer (some ⟨q, 0, none⟩)), (R0 true L F la ln lc many tries).v, .bool true]) (fun w' => Frm [] w w' ∧ At w' q b ln ⟨false, L, F, l, 0, 1, 0, 0, 0⟩ ∧ w.heap.size ≤ q ∧ w.heap.size ≤ b) e w') := by
  have HR : Hid (∀ w, _) := Lib.hid fun w => Right_yes L F ln w hr
  have HRK := Lib.hid hr
  obtain ⟨X, hX⟩ : ∃ X, X = (((w.alloc (.cells #[.int .i64 1, .int .i64 L, .int .i64 F, .int .i64 many, .int .i64 tries, .slice la ln lc] 44)).alloc (.cells #[.bool false, .int .i64 0, .int .i64 0, .slice none 0 0, .int .i64 0, .int .i64 0, .int .i64 0, .int .u64 0, .slice none 0 0, .int .u64 0, .bool false] 48)).alloc (.cells #[.bool true, .int .i64 L, .int .i64 F, .slice la ln lc, .int .i64 many, .int .i64 tries, .int .i64 0, .int .u64 0, .slice none 0 0, .int .u64 0, .bool false] 48)) := ⟨_, rfl⟩
  have hFX : Frm [] w X := by rw [hX]; exact (((Frm.refl [] w).alloc _).alloc _).alloc _
  have hX1 : X.heap[w.heap.size]? = some (.cells #[.int .i64 1, .int .i64 L, .int .i64 F, .int .i64 many, .int .i64 tries, .slice la ln lc] 44 (0, 0)) := by rw [hX]; exact heap_alloc_old _ (heap_alloc_old _ (heap_alloc_new _ _))
  have hX3 : X.heap[w.heap.size + 1]? = some (.cells #[.bool false, .int .i64 0, .int .i64 0, .slice none 0 0, .int .i64 0, .int .i64 0, .int .i64 0, .int .u64 0, .slice none 0 0, .int .u64 0, .bool false] 48 (0, 0)) := by rw [hX]; exact heap_alloc_old _ (heap_alloc_at _ (by simp))
  have hX5 : X.heap[w.heap.size + 1 + 1]? = some (.cells #[.bool true, .int .i64 L, .int .i64 F, .slice la ln lc, .int .i64 many, .int .i64 tries, .int .i64 0, .int .u64 0, .slice none 0 0, .int .u64 0, .bool false] 48 (0, 0)) := by rw [hX]; exact heap_alloc_at _ (by simp)
  have HX := Lib.hid hX
  have HFX := Lib.hid hFX
  have HX1 := Lib.hid hX1
  have HX3 := Lib.hid hX3
  have HX5 := Lib.hid hX5
  have HLX := Lib.hid (hL.frm0 hFX)
  obtain ⟨p0, p1, p2, p3, p4, p5⟩ := cells6 hX1
  have hlen := Lib.hid hL.len
  have hXs : w.heap.size + 3 ≤ X.heap.size := by have := lt_of_heap hX5; omega
  unfold R0 RV.v
  simp only
  clear hr hL hX hFX hX1 hX3 hX5
  go_enter Try.func21, Try.ntmps21
  go_upto_region 2 with fail
  rw [← HX.out]
  go_wp2_with (at_builtin; refine wpl_app_at Try.underlying23 info_u64 (by decide) (by decide) rfl (.const (.slice none 0 0)) (.tmp 30) rfl (B := X.heap.size) (a := none) (n := 0) (c := 0) (m := ln) (l := []) (l2 := l) (by rfl) (by simp [Act.eval]) (Row.nil _ _ _ _) HLX.out (by simp; omega) (Nat.le_refl _) ?_; intro a1 k1 w1 hRow hF1 hx1; simp only [Nat.zero_add, List.nil_append] at hRow; have HROW := Lib.hid hRow; have hF1' : Frm [] X w1 := hF1; have HF1 := Lib.hid hF1'; clear p0 p1 p2 p3 p4 p5; obtain ⟨p0, p1, p2, p3, p4, p5⟩ := cells6 (hF1'.heap HX1.out (by simp)); clear hRow hF1 hF1' hx1)
  obtain ⟨ob, hLi⟩ := HROW.out.li
  have HLI := Lib.hid hLi
  have hmx : ln ≤ maxLen := by unfold maxLen; omega
  have HMX := Lib.hid hmx
  clear hLi hmx
  refine (newWrite_yes HLI.out L F HRK.out).mono ?_
  rintro e w2 ⟨q, b, rfl, hF2, hP, hq, hb⟩
  have hF2w : Frm [] w w2 := HFX.out.trans (HF1.out.trans hF2)
  have hA1 := hF2.heap (HF1.out.heap HX1.out (by simp)) (by simp)
  have hA3 := hF2.heap (HF1.out.heap HX3.out (by simp)) (by simp)
  have hA5 := hF2.heap (HF1.out.heap HX5.out (by simp)) (by simp)
  have hRow2 := HROW.out.frm0 hF2
  have hblk := fun x (hx : x ∈ blk (.slice a1 ln k1)) => HROW.out.blk x hx
  have hq3 : X.heap.size ≤ q ∧ ∀ x ∈ blk (.slice a1 ln k1), x ≠ q := ⟨by have := HF1.out.size; omega, fun x hx => by have := (hblk x hx).2; omega⟩
  have hb3 : X.heap.size ≤ b ∧ ∀ x ∈ blk (.slice a1 ln k1), x ≠ b := ⟨by have := HF1.out.size; omega, fun x hx => by have := (hblk x hx).2; omega⟩
  have HBLK : Hid (∀ x ∈ blk (.slice a1 ln k1), X.heap.size ≤ x) := Lib.hid fun x hx => (hblk x hx).1
  have HF2W := Lib.hid hF2w
  have HA1 := Lib.hid hA1
  have HA3 := Lib.hid hA3
  have HA5 := Lib.hid hA5
  have HROW2 := Lib.hid hRow2
  have HP := Lib.hid hP
  clear hF2 hF2w hA1 hA3 hA5 hRow2 hblk p0 p1 p2 p3 p4 p5 HX1 HX3 HX5 HLI HROW HF1 hP hq hb
  go_wp2_with fail
  have HROW3 : Hid (Row .u64 22 X.heap.size w2 a1 ln k1 (upk l 0)) := Lib.hid (by rw [upk_zero]; exact HROW2.out)
  go_loopw [43] (fun i wr => ∃ k : Nat, k ≤ ln ∧ i = .int .i64 k ∧ Hid (Frm (blk (.slice a1 ln k1)) w2 wr) ∧ Hid (Row .u64 22 X.heap.size wr a1 ln k1 (upk l k))) (fun i _ => ln - (intOf i).toNat)
  case atStart => exact ⟨0, Nat.zero_le _, rfl, Lib.hid (Frm.refl _ _), HROW3⟩
  case round =>
    clear HROW3 HROW2
    obtain ⟨k, hk, rfl, HFR, HRW⟩ := hrel
    by_cases hlt : k < ln
    · obtain ⟨g, cs, ha, hB, hh, hn, htk⟩ := HRW.out.block (by omega)
      subst ha
      obtain ⟨x, hx⟩ : ∃ x, l[k]? = some x := ⟨_, List.getElem?_eq_getElem (by have := hlen.out; omega)⟩
      have hz := row_frozen HRW.out (by omega) k
      obtain ⟨ob2, hl2⟩ := HRW.out.li
      have hob : ob2 = g := by have := hl2.ad (by omega); cases this; rfl
      subst hob
      have hc := hl2.cell k x (upk_get hx)
      rw [Nat.zero_add] at hc
      have hs := row_set (i := k) HRW.out (IntKind.u64.wrap (x + 1))
      rw [upk_step hx] at hs
      have HS := Lib.hid hs
      clear hs hx hh htk hl2 hn
      go_wp2
      go_roundw
      case rel => exact ⟨k + 1, by omega, by go_num, Lib.hid (HFR.out.setCell _ _ (.inl (by simp [blk]))), HS⟩
      case measure => simp [intOf]; omega
    · obtain rfl : k = ln := by omega
      have hb1 : w.heap.size ∉ blk (.slice a1 k k1) := fun hx => by have := HBLK.out _ hx; omega
      have hb2 : w.heap.size + 1 ∉ blk (.slice a1 k k1) := fun hx => by have := HBLK.out _ hx; omega
      have hb5 : w.heap.size + 1 + 1 ∉ blk (.slice a1 k k1) := fun hx => by have := HBLK.out _ hx; omega
      have hFw : Frm [] w wr := HF2W.out.trans_new HFR.out (fun x hx => .inr (by have := HBLK.out x hx; omega))
      have hC1 := HFR.out.heap HA1.out hb1
      have hC3 := HFR.out.heap HA3.out hb2
      have hC5 := HFR.out.heap HA5.out hb5
      have hPr := HP.out.frm HFR.out (fun hx => hq3.2 _ hx rfl) (fun hx => hb3.2 _ hx rfl)
      obtain ⟨p0, p1, p2, p3, p4, p5⟩ := cells6 hC1
      obtain ⟨t0, t1, t2, t3, t4, t5, t6, t7, t8, t9, t10⟩ := cells11 hC3
      obtain ⟨g0, g1, g2, g3, g4, g5, g6, g7, g8, g9, g10⟩ := frozen11 hC3
      obtain ⟨q0, q1, q2, q3, q4, q5, q6, q7, q8, q9, q10⟩ := cells11 hC5
      have hqa := hq3.1
      have hba := hb3.1
      have HC3 := Lib.hid hC3
      have HFW := Lib.hid hFw
      have HPR := Lib.hid hPr
      clear hC1 hC3 hC5 hFw HFR HRW hb1 hb2 hb5 hPr hq3 hb3
      go_wp2_with fail
      refine (HR.out _).mono ?_
      rintro e w' ⟨rfl, rfl⟩
      go_wp2_with fail
      go_region
      all_goals
        have hR4 := setCells11 HC3.out (.bool true) (.int .i64 L) (.int .i64 F) (.slice la k lc) (.int .i64 many) (.int .i64 tries) (.int .i64 0) (.int .u64 0) (.slice none 0 0) (.int .u64 0) (.bool false)
        have hF4 := HFW.out.set11 (w.heap.size + 1) (.bool true) (.int .i64 L) (.int .i64 F) (.slice la k lc) (.int .i64 many) (.int .i64 tries) (.int .i64 0) (.int .u64 0) (.slice none 0 0) (.int .u64 0) (.bool false) (.inr (Nat.le_succ _))
        have hP4 := HPR.out.frm ((Frm.refl [w.heap.size + 1] wr).set11 (w.heap.size + 1) (.bool true) (.int .i64 L) (.int .i64 F) (.slice la k lc) (.int .i64 many) (.int .i64 tries) (.int .i64 0) (.int .u64 0) (.slice none 0 0) (.int .u64 0) (.bool false) (.inl (by simp))) (by simp; omega) (by simp; omega)
        generalize (((((((((((wr.setCell ⟨w.heap.size + 1, 0, none⟩ (.bool true)).setCell ⟨w.heap.size + 1, 1, none⟩ (.int .i64 L)).setCell ⟨w.heap.size + 1, 2, none⟩ (.int .i64 F)).setCell ⟨w.heap.size + 1, 3, none⟩ (.slice la k lc)).setCell ⟨w.heap.size + 1, 4, none⟩ (.int .i64 many)).setCell ⟨w.heap.size + 1, 5, none⟩ (.int .i64 tries)).setCell ⟨w.heap.size + 1, 6, none⟩ (.int .i64 0)).setCell ⟨w.heap.size + 1, 7, none⟩ (.int .u64 0)).setCell ⟨w.heap.size + 1, 8, none⟩ (.slice none 0 0)).setCell ⟨w.heap.size + 1, 9, none⟩ (.int .u64 0)).setCell ⟨w.heap.size + 1, 10, none⟩ (.bool false)) = w9 at *
        obtain ⟨z0, z1, z2, z3, z4, z5, z6, z7, z8, z9, z10⟩ := cells11 hR4
        go_wp2
        refine bodyPost_ret (v := .tuple #[.iface 33 (.pointer (some ⟨q, 0, none⟩)), .agg #[.bool true, .int .i64 L, .int .i64 F, .slice la k lc, .int .i64 many, .int .i64 tries, .int .i64 0, .int .u64 0, .slice none 0 0, .int .u64 0, .bool false], .bool true]) ?_ rfl ?_
        · simp [results, Try.results21, go_sem, z0, z1, z2, z3, z4, z5, z6, z7, z8, z9, z10]
        exact ⟨q, b, rfl, hF4.drew, hP4.frm0 ((Frm.refl [] _).drew), by omega, by omega⟩

set_option maxRecDepth 100000 in
set_option maxHeartbeats 4000000 in
theorem begin_w_no (L : Int) {lb lo : Nat} {l : List Int} (hL : Li .u64 w la ln lc lb lo l) (hln : ln ≤ 10) (hr : ¬ rOk L F ln) :
    Calls Try.prog 21 #[.agg #[.int .i64 1, .int .i64 L, .int .i64 F, .int .i64 many, .int .i64 tries, .slice la ln lc]] w (Ret (.tuple #[.nilIface, (R0 true L F la ln lc many tries).v, .bool true]) (fun w' => Frm [] w w')) := by
  have HR : Hid (∀ w, _) := Lib.hid fun w => Right_no L F ln w hr
  have HRK := Lib.hid hr
  obtain ⟨X, hX⟩ : ∃ X, X = (((w.alloc (.cells #[.int .i64 1, .int .i64 L, .int .i64 F, .int .i64 many, .int .i64 tries, .slice la ln lc] 44)).alloc (.cells #[.bool false, .int .i64 0, .int .i64 0, .slice none 0 0, .int .i64 0, .int .i64 0, .int .i64 0, .int .u64 0, .slice none 0 0, .int .u64 0, .bool false] 48)).alloc (.cells #[.bool true, .int .i64 L, .int .i64 F, .slice la ln lc, .int .i64 many, .int .i64 tries, .int .i64 0, .int .u64 0, .slice none 0 0, .int .u64 0, .bool false] 48)) := ⟨_, rfl⟩
  have hFX : Frm [] w X := by rw [hX]; exact (((Frm.refl [] w).alloc _).alloc _).alloc _
  have hX1 : X.heap[w.heap.size]? = some (.cells #[.int .i64 1, .int .i64 L, .int .i64 F, .int .i64 many, .int .i64 tries, .slice la ln lc] 44 (0, 0)) := by rw [hX]; exact heap_alloc_old _ (heap_alloc_old _ (heap_alloc_new _ _))
  have hX3 : X.heap[w.heap.size + 1]? = some (.cells #[.bool false, .int .i64 0, .int .i64 0, .slice none 0 0, .int .i64 0, .int .i64 0, .int .i64 0, .int .u64 0, .slice none 0 0, .int .u64 0, .bool false] 48 (0, 0)) := by rw [hX]; exact heap_alloc_old _ (heap_alloc_at _ (by simp))
  have hX5 : X.heap[w.heap.size + 1 + 1]? = some (.cells #[.bool true, .int .i64 L, .int .i64 F, .slice la ln lc, .int .i64 many, .int .i64 tries, .int .i64 0, .int .u64 0, .slice none 0 0, .int .u64 0, .bool false] 48 (0, 0)) := by rw [hX]; exact heap_alloc_at _ (by simp)
  have HX := Lib.hid hX
  have HFX := Lib.hid hFX
  have HX1 := Lib.hid hX1
  have HX3 := Lib.hid hX3
  have HX5 := Lib.hid hX5
  have HLX := Lib.hid (hL.frm0 hFX)
  obtain ⟨p0, p1, p2, p3, p4, p5⟩ := cells6 hX1
  have hlen := Lib.hid hL.len
  have hXs : w.heap.size + 3 ≤ X.heap.size := by have := lt_of_heap hX5; omega
  unfold R0 RV.v
  simp only
  clear hr hL hX hFX hX1 hX3 hX5
  go_enter Try.func21, Try.ntmps21
  go_upto_region 2 with fail
  rw [← HX.out]
  go_wp2_with (at_builtin; refine wpl_app_at Try.underlying23 info_u64 (by decide) (by decide) rfl (.const (.slice none 0 0)) (.tmp 30) rfl (B := X.heap.size) (a := none) (n := 0) (c := 0) (m := ln) (l := []) (l2 := l) (by rfl) (by simp [Act.eval]) (Row.nil _ _ _ _) HLX.out (by simp; omega) (Nat.le_refl _) ?_; intro a1 k1 w1 hRow hF1 hx1; simp only [Nat.zero_add, List.nil_append] at hRow; have HROW := Lib.hid hRow; have hF1' : Frm [] X w1 := hF1; have HF1 := Lib.hid hF1'; clear p0 p1 p2 p3 p4 p5; obtain ⟨p0, p1, p2, p3, p4, p5⟩ := cells6 (hF1'.heap HX1.out (by simp)); clear hRow hF1 hF1' hx1)
  obtain ⟨ob, hLi⟩ := HROW.out.li
  have HLI := Lib.hid hLi
  have hmx : ln ≤ maxLen := by unfold maxLen; omega
  have HMX := Lib.hid hmx
  clear hLi hmx
  refine (newWrite_bad HLI.out HMX.out L F HRK.out).mono ?_
  rintro e w2 ⟨rfl, hF2⟩
  have hF2w : Frm [] w w2 := HFX.out.trans (HF1.out.trans hF2)
  have hA1 := hF2.heap (HF1.out.heap HX1.out (by simp)) (by simp)
  have hA3 := hF2.heap (HF1.out.heap HX3.out (by simp)) (by simp)
  have hA5 := hF2.heap (HF1.out.heap HX5.out (by simp)) (by simp)
  have hRow2 := HROW.out.frm0 hF2
  have hblk := fun x (hx : x ∈ blk (.slice a1 ln k1)) => HROW.out.blk x hx
  skip
  skip
  have HBLK : Hid (∀ x ∈ blk (.slice a1 ln k1), X.heap.size ≤ x) := Lib.hid fun x hx => (hblk x hx).1
  have HF2W := Lib.hid hF2w
  have HA1 := Lib.hid hA1
  have HA3 := Lib.hid hA3
  have HA5 := Lib.hid hA5
  have HROW2 := Lib.hid hRow2
  skip
  clear hF2 hF2w hA1 hA3 hA5 hRow2 hblk p0 p1 p2 p3 p4 p5 HX1 HX3 HX5 HLI HROW HF1 
  go_wp2_with fail
  have HROW3 : Hid (Row .u64 22 X.heap.size w2 a1 ln k1 (upk l 0)) := Lib.hid (by rw [upk_zero]; exact HROW2.out)
  go_loopw [43] (fun i wr => ∃ k : Nat, k ≤ ln ∧ i = .int .i64 k ∧ Hid (Frm (blk (.slice a1 ln k1)) w2 wr) ∧ Hid (Row .u64 22 X.heap.size wr a1 ln k1 (upk l k))) (fun i _ => ln - (intOf i).toNat)
  case atStart => exact ⟨0, Nat.zero_le _, rfl, Lib.hid (Frm.refl _ _), HROW3⟩
  case round =>
    clear HROW3 HROW2
    obtain ⟨k, hk, rfl, HFR, HRW⟩ := hrel
    by_cases hlt : k < ln
    · obtain ⟨g, cs, ha, hB, hh, hn, htk⟩ := HRW.out.block (by omega)
      subst ha
      obtain ⟨x, hx⟩ : ∃ x, l[k]? = some x := ⟨_, List.getElem?_eq_getElem (by have := hlen.out; omega)⟩
      have hz := row_frozen HRW.out (by omega) k
      obtain ⟨ob2, hl2⟩ := HRW.out.li
      have hob : ob2 = g := by have := hl2.ad (by omega); cases this; rfl
      subst hob
      have hc := hl2.cell k x (upk_get hx)
      rw [Nat.zero_add] at hc
      have hs := row_set (i := k) HRW.out (IntKind.u64.wrap (x + 1))
      rw [upk_step hx] at hs
      have HS := Lib.hid hs
      clear hs hx hh htk hl2 hn
      go_wp2
      go_roundw
      case rel => exact ⟨k + 1, by omega, by go_num, Lib.hid (HFR.out.setCell _ _ (.inl (by simp [blk]))), HS⟩
      case measure => simp [intOf]; omega
    · obtain rfl : k = ln := by omega
      have hb1 : w.heap.size ∉ blk (.slice a1 k k1) := fun hx => by have := HBLK.out _ hx; omega
      have hb2 : w.heap.size + 1 ∉ blk (.slice a1 k k1) := fun hx => by have := HBLK.out _ hx; omega
      have hb5 : w.heap.size + 1 + 1 ∉ blk (.slice a1 k k1) := fun hx => by have := HBLK.out _ hx; omega
      have hFw : Frm [] w wr := HF2W.out.trans_new HFR.out (fun x hx => .inr (by have := HBLK.out x hx; omega))
      have hC1 := HFR.out.heap HA1.out hb1
      have hC3 := HFR.out.heap HA3.out hb2
      have hC5 := HFR.out.heap HA5.out hb5
      skip
      obtain ⟨p0, p1, p2, p3, p4, p5⟩ := cells6 hC1
      obtain ⟨t0, t1, t2, t3, t4, t5, t6, t7, t8, t9, t10⟩ := cells11 hC3
      obtain ⟨g0, g1, g2, g3, g4, g5, g6, g7, g8, g9, g10⟩ := frozen11 hC3
      obtain ⟨q0, q1, q2, q3, q4, q5, q6, q7, q8, q9, q10⟩ := cells11 hC5
      skip
      skip
      have HC3 := Lib.hid hC3
      have HFW := Lib.hid hFw
      skip
      clear hC1 hC3 hC5 hFw HFR HRW hb1 hb2 hb5 
      go_wp2_with fail
      refine (HR.out _).mono ?_
      rintro e w' ⟨rfl, rfl⟩
      go_wp2_with fail
      go_region
      all_goals
        have hR4 := setCells11 HC3.out (.bool true) (.int .i64 L) (.int .i64 F) (.slice la k lc) (.int .i64 many) (.int .i64 tries) (.int .i64 0) (.int .u64 0) (.slice none 0 0) (.int .u64 0) (.bool false)
        have hF4 := HFW.out.set11 (w.heap.size + 1) (.bool true) (.int .i64 L) (.int .i64 F) (.slice la k lc) (.int .i64 many) (.int .i64 tries) (.int .i64 0) (.int .u64 0) (.slice none 0 0) (.int .u64 0) (.bool false) (.inr (Nat.le_succ _))
        skip
        generalize (((((((((((wr.setCell ⟨w.heap.size + 1, 0, none⟩ (.bool true)).setCell ⟨w.heap.size + 1, 1, none⟩ (.int .i64 L)).setCell ⟨w.heap.size + 1, 2, none⟩ (.int .i64 F)).setCell ⟨w.heap.size + 1, 3, none⟩ (.slice la k lc)).setCell ⟨w.heap.size + 1, 4, none⟩ (.int .i64 many)).setCell ⟨w.heap.size + 1, 5, none⟩ (.int .i64 tries)).setCell ⟨w.heap.size + 1, 6, none⟩ (.int .i64 0)).setCell ⟨w.heap.size + 1, 7, none⟩ (.int .u64 0)).setCell ⟨w.heap.size + 1, 8, none⟩ (.slice none 0 0)).setCell ⟨w.heap.size + 1, 9, none⟩ (.int .u64 0)).setCell ⟨w.heap.size + 1, 10, none⟩ (.bool false)) = w9 at *
        obtain ⟨z0, z1, z2, z3, z4, z5, z6, z7, z8, z9, z10⟩ := cells11 hR4
        go_wp2
        refine bodyPost_ret (v := .tuple #[.nilIface, .agg #[.bool true, .int .i64 L, .int .i64 F, .slice la k lc, .int .i64 many, .int .i64 tries, .int .i64 0, .int .u64 0, .slice none 0 0, .int .u64 0, .bool false], .bool true]) ?_ rfl ?_
        · simp [results, Try.results21, go_sem, z0, z1, z2, z3, z4, z5, z6, z7, z8, z9, z10]
        exact ⟨rfl, hF4.drew⟩
end
#print axioms begin_w_no
end Go.Proofs.Ytbhnijkphkkalaa
