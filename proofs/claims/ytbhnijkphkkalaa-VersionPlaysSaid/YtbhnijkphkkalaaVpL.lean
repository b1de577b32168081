/- The law's begin. (By gen_vpd.py.) -/
import Derived.Test.YtbhnijkphkkalaaVpK
import Derived.Test.YtbhnijkphkkalaaAp
import Derived.Deep.DeepCutAuto
namespace Go.Proofs.Ytbhnijkphkkalaa
open Go.ChangeShapes Go.WideShapes Go.ChangeAt Go.RowKit
set_option linter.unusedVariables false

/-- A new program of the reference. -/
def R0 (W : Bool) (L F : Int) (la : Option Addr) (ln lc : Nat) (many tries : Int) : RV := ⟨W, L, F, la, ln, lc, many, tries, 0, 0, none, 0, 0, 0, false⟩
theorem cells6 {w : World} {b : Nat} {x0 x1 x2 x3 x4 x5 : Value} {t : TypeId} (h : w.heap[b]? = some (.cells #[x0, x1, x2, x3, x4, x5] t (0, 0))) :
    w.cell? ⟨b, 0, none⟩ = some x0 ∧ w.cell? ⟨b, 1, none⟩ = some x1 ∧ w.cell? ⟨b, 2, none⟩ = some x2 ∧ w.cell? ⟨b, 3, none⟩ = some x3 ∧ w.cell? ⟨b, 4, none⟩ = some x4 ∧ w.cell? ⟨b, 5, none⟩ = some x5 := by
  refine ⟨?_, ?_, ?_, ?_, ?_, ?_⟩ <;> rw [cell_of_heap h] <;> rfl
section
variable {w : World} {F many tries : Int} {la : Option Addr} {ln lc : Nat}

set_option maxRecDepth 100000 in
set_option maxHeartbeats 4000000 in
theorem begin_r_yes (what : Int) (hwh : (what == 1) = false) (L : Nat) (hr : rOk (L : Nat) F many) (ht : 1 ≤ tries) :
    Calls Try.prog 21 #[.agg #[.int .i64 what, .int .i64 L, .int .i64 F, .int .i64 many, .int .i64 tries, .slice la ln lc]] w (fun e w' => ∃ q b, Ret (.tuple #[.iface 26 (.pointer (some ⟨q, 0, none⟩)), (R0 false L F la ln lc many tries).v, .bool true]) (fun w' => Frm [] w w' ∧ At w' q b many.toNat ⟨true, L, F, List.replicate many.toNat 0, 0, 1, 0, 0, tries⟩ ∧ w.heap.size ≤ q ∧ w.heap.size ≤ b) e w') := by
  obtain ⟨nm, rfl⟩ := Int.eq_ofNat_of_zero_le hr.2.2.1
  rw [Int.toNat_natCast]
  have HN : Hid (∀ w, _) := Lib.hid fun w => newRead_yes L F nm tries w hr ht
  have HR : Hid (∀ w, _) := Lib.hid fun w => Right_yes L F nm w hr
  have hb : decide (tries < 1) = false := by simp; omega
  unfold R0 RV.v
  simp only
  clear hr ht
  go_enter Try.func21, Try.ntmps21
  go_wp2_with fail
  refine (HN.out _).mono ?_
  rintro e w1 ⟨q, b, rfl, hF, hP, hq, hb2⟩
  have hA1 := hF.heap (heap_alloc_old _ (heap_alloc_old _ (heap_alloc_new w (.cells #[.int .i64 what, .int .i64 L, .int .i64 F, .int .i64 (nm : Int), .int .i64 tries, .slice la ln lc] 44)))) (by simp)
  have hA3 := hF.heap (heap_alloc_old _ (heap_alloc_at (k := w.heap.size + 1) (.cells #[.bool false, .int .i64 0, .int .i64 0, .slice none 0 0, .int .i64 0, .int .i64 0, .int .i64 0, .int .u64 0, .slice none 0 0, .int .u64 0, .bool false] 48) (by simp))) (by simp)
  have hA5 := hF.heap (heap_alloc_at (k := w.heap.size + 1 + 1) (.cells #[.bool false, .int .i64 L, .int .i64 F, .slice la ln lc, .int .i64 (nm : Int), .int .i64 tries, .int .i64 0, .int .u64 0, .slice none 0 0, .int .u64 0, .bool false] 48) (by simp)) (by simp)
  have hFw : Frm [] w w1 := ((((Frm.refl [] w).alloc _).alloc _).alloc _).trans hF
  have hsz := ((((Frm.refl [] w).alloc (.cells #[.int .i64 what, .int .i64 L, .int .i64 F, .int .i64 (nm : Int), .int .i64 tries, .slice la ln lc] 44)).alloc (.cells #[.bool false, .int .i64 0, .int .i64 0, .slice none 0 0, .int .i64 0, .int .i64 0, .int .i64 0, .int .u64 0, .slice none 0 0, .int .u64 0, .bool false] 48)).alloc (.cells #[.bool false, .int .i64 L, .int .i64 F, .slice la ln lc, .int .i64 (nm : Int), .int .i64 tries, .int .i64 0, .int .u64 0, .slice none 0 0, .int .u64 0, .bool false] 48)).size
  have hqw := Nat.le_trans hsz hq
  have hbw := Nat.le_trans hsz hb2
  have hq3 : q ≠ w.heap.size + 1 := by simp at hq; omega
  have hb3 : b ≠ w.heap.size + 1 := by simp at hb2; omega
  obtain ⟨p0, p1, p2, p3, p4, p5⟩ := cells6 hA1
  obtain ⟨t0, t1, t2, t3, t4, t5, t6, t7, t8, t9, t10⟩ := cells11 hA3
  obtain ⟨g0, g1, g2, g3, g4, g5, g6, g7, g8, g9, g10⟩ := frozen11 hA3
  obtain ⟨q0, q1, q2, q3, q4, q5, q6, q7, q8, q9, q10⟩ := cells11 hA5
  have HA3 := Lib.hid hA3
  have HFW := Lib.hid hFw
  have HP := Lib.hid hP
  clear hA1 hA3 hA5 hF hFw hP hq hb2 hsz
  go_wp2_with fail
  refine (HR.out _).mono ?_
  rintro e w' ⟨rfl, rfl⟩
  go_wp2_with fail
  go_region
  all_goals
    have hR4 := setCells11 HA3.out (.bool false) (.int .i64 L) (.int .i64 F) (.slice la ln lc) (.int .i64 (nm : Int)) (.int .i64 tries) (.int .i64 0) (.int .u64 0) (.slice none 0 0) (.int .u64 0) (.bool false)
    have hF4 := HFW.out.set11 (w.heap.size + 1) (.bool false) (.int .i64 L) (.int .i64 F) (.slice la ln lc) (.int .i64 (nm : Int)) (.int .i64 tries) (.int .i64 0) (.int .u64 0) (.slice none 0 0) (.int .u64 0) (.bool false) (.inr (Nat.le_succ _))
    have hP4 := HP.out.frm ((Frm.refl [w.heap.size + 1] w1).set11 (w.heap.size + 1) (.bool false) (.int .i64 L) (.int .i64 F) (.slice la ln lc) (.int .i64 (nm : Int)) (.int .i64 tries) (.int .i64 0) (.int .u64 0) (.slice none 0 0) (.int .u64 0) (.bool false) (.inl (by simp))) (by simpa using hq3) (by simpa using hb3)
    generalize (((((((((((w1.setCell ⟨w.heap.size + 1, 0, none⟩ (.bool false)).setCell ⟨w.heap.size + 1, 1, none⟩ (.int .i64 L)).setCell ⟨w.heap.size + 1, 2, none⟩ (.int .i64 F)).setCell ⟨w.heap.size + 1, 3, none⟩ (.slice la ln lc)).setCell ⟨w.heap.size + 1, 4, none⟩ (.int .i64 (nm : Int))).setCell ⟨w.heap.size + 1, 5, none⟩ (.int .i64 tries)).setCell ⟨w.heap.size + 1, 6, none⟩ (.int .i64 0)).setCell ⟨w.heap.size + 1, 7, none⟩ (.int .u64 0)).setCell ⟨w.heap.size + 1, 8, none⟩ (.slice none 0 0)).setCell ⟨w.heap.size + 1, 9, none⟩ (.int .u64 0)).setCell ⟨w.heap.size + 1, 10, none⟩ (.bool false)) = w9 at *
    obtain ⟨z0, z1, z2, z3, z4, z5, z6, z7, z8, z9, z10⟩ := cells11 hR4
    go_wp2
    refine bodyPost_ret (v := .tuple #[.iface 26 (.pointer (some ⟨q, 0, none⟩)), .agg #[.bool false, .int .i64 L, .int .i64 F, .slice la ln lc, .int .i64 (nm : Int), .int .i64 tries, .int .i64 0, .int .u64 0, .slice none 0 0, .int .u64 0, .bool false], .bool true]) ?_ rfl ?_
    · simp [results, Try.results21, go_sem, z0, z1, z2, z3, z4, z5, z6, z7, z8, z9, z10]
    exact ⟨q, b, rfl, hF4.drew, hP4.frm0 ((Frm.refl [] _).drew), hqw, hbw⟩

set_option maxRecDepth 100000 in
set_option maxHeartbeats 4000000 in
theorem begin_r_no1 (what : Int) (hwh : (what == 1) = false) (L : Int) (hr : ¬ rOk L F many) :
    Calls Try.prog 21 #[.agg #[.int .i64 what, .int .i64 L, .int .i64 F, .int .i64 many, .int .i64 tries, .slice la ln lc]] w (Ret (.tuple #[.nilIface, (R0 false L F la ln lc many tries).v, .bool true]) (fun w' => Frm [] w w')) := by
  have HN : Hid (∀ w, _) := Lib.hid fun w => newRead_bad L F many tries w (fun h => hr h.1)
  have HR : Hid (∀ w, _) := Lib.hid fun w => Right_no L F many w hr
  unfold R0 RV.v
  simp only
  clear hr 
  go_enter Try.func21, Try.ntmps21
  go_wp2_with fail
  refine (HN.out _).mono ?_
  rintro e w1 ⟨rfl, hF⟩
  have hA1 := hF.heap (heap_alloc_old _ (heap_alloc_old _ (heap_alloc_new w (.cells #[.int .i64 what, .int .i64 L, .int .i64 F, .int .i64 many, .int .i64 tries, .slice la ln lc] 44)))) (by simp)
  have hA3 := hF.heap (heap_alloc_old _ (heap_alloc_at (k := w.heap.size + 1) (.cells #[.bool false, .int .i64 0, .int .i64 0, .slice none 0 0, .int .i64 0, .int .i64 0, .int .i64 0, .int .u64 0, .slice none 0 0, .int .u64 0, .bool false] 48) (by simp))) (by simp)
  have hA5 := hF.heap (heap_alloc_at (k := w.heap.size + 1 + 1) (.cells #[.bool false, .int .i64 L, .int .i64 F, .slice la ln lc, .int .i64 many, .int .i64 tries, .int .i64 0, .int .u64 0, .slice none 0 0, .int .u64 0, .bool false] 48) (by simp)) (by simp)
  have hFw : Frm [] w w1 := ((((Frm.refl [] w).alloc _).alloc _).alloc _).trans hF
  skip
  skip
  skip
  skip
  skip
  obtain ⟨p0, p1, p2, p3, p4, p5⟩ := cells6 hA1
  obtain ⟨t0, t1, t2, t3, t4, t5, t6, t7, t8, t9, t10⟩ := cells11 hA3
  obtain ⟨g0, g1, g2, g3, g4, g5, g6, g7, g8, g9, g10⟩ := frozen11 hA3
  obtain ⟨q0, q1, q2, q3, q4, q5, q6, q7, q8, q9, q10⟩ := cells11 hA5
  have HA3 := Lib.hid hA3
  have HFW := Lib.hid hFw
  skip
  clear hA1 hA3 hA5 hF hFw 
  go_wp2_with fail
  refine (HR.out _).mono ?_
  rintro e w' ⟨rfl, rfl⟩
  go_wp2_with fail
  go_region
  all_goals
    have hR4 := setCells11 HA3.out (.bool false) (.int .i64 L) (.int .i64 F) (.slice la ln lc) (.int .i64 many) (.int .i64 tries) (.int .i64 0) (.int .u64 0) (.slice none 0 0) (.int .u64 0) (.bool false)
    have hF4 := HFW.out.set11 (w.heap.size + 1) (.bool false) (.int .i64 L) (.int .i64 F) (.slice la ln lc) (.int .i64 many) (.int .i64 tries) (.int .i64 0) (.int .u64 0) (.slice none 0 0) (.int .u64 0) (.bool false) (.inr (Nat.le_succ _))
    skip
    generalize (((((((((((w1.setCell ⟨w.heap.size + 1, 0, none⟩ (.bool false)).setCell ⟨w.heap.size + 1, 1, none⟩ (.int .i64 L)).setCell ⟨w.heap.size + 1, 2, none⟩ (.int .i64 F)).setCell ⟨w.heap.size + 1, 3, none⟩ (.slice la ln lc)).setCell ⟨w.heap.size + 1, 4, none⟩ (.int .i64 many)).setCell ⟨w.heap.size + 1, 5, none⟩ (.int .i64 tries)).setCell ⟨w.heap.size + 1, 6, none⟩ (.int .i64 0)).setCell ⟨w.heap.size + 1, 7, none⟩ (.int .u64 0)).setCell ⟨w.heap.size + 1, 8, none⟩ (.slice none 0 0)).setCell ⟨w.heap.size + 1, 9, none⟩ (.int .u64 0)).setCell ⟨w.heap.size + 1, 10, none⟩ (.bool false)) = w9 at *
    obtain ⟨z0, z1, z2, z3, z4, z5, z6, z7, z8, z9, z10⟩ := cells11 hR4
    go_wp2
    refine bodyPost_ret (v := .tuple #[.nilIface, .agg #[.bool false, .int .i64 L, .int .i64 F, .slice la ln lc, .int .i64 many, .int .i64 tries, .int .i64 0, .int .u64 0, .slice none 0 0, .int .u64 0, .bool false], .bool true]) ?_ rfl ?_
    · simp [results, Try.results21, go_sem, z0, z1, z2, z3, z4, z5, z6, z7, z8, z9, z10]
    exact ⟨rfl, hF4.drew⟩

set_option maxRecDepth 100000 in
set_option maxHeartbeats 4000000 in
theorem begin_r_no2 (what : Int) (hwh : (what == 1) = false) (L : Nat) (hr : rOk (L : Nat) F many) (ht : tries < 1) :
    Calls Try.prog 21 #[.agg #[.int .i64 what, .int .i64 L, .int .i64 F, .int .i64 many, .int .i64 tries, .slice la ln lc]] w (Ret (.tuple #[.nilIface, (R0 false L F la ln lc many tries).v, .bool true]) (fun w' => Frm [] w w')) := by
  have HN : Hid (∀ w, _) := Lib.hid fun w => newRead_bad (L : Int) F many tries w (fun h => by omega)
  have HR : Hid (∀ w, _) := Lib.hid fun w => Right_yes (L : Int) F many w hr
  have hb : decide (tries < 1) = true := by simp; omega
  unfold R0 RV.v
  simp only
  clear hr ht
  go_enter Try.func21, Try.ntmps21
  go_wp2_with fail
  refine (HN.out _).mono ?_
  rintro e w1 ⟨rfl, hF⟩
  have hA1 := hF.heap (heap_alloc_old _ (heap_alloc_old _ (heap_alloc_new w (.cells #[.int .i64 what, .int .i64 L, .int .i64 F, .int .i64 many, .int .i64 tries, .slice la ln lc] 44)))) (by simp)
  have hA3 := hF.heap (heap_alloc_old _ (heap_alloc_at (k := w.heap.size + 1) (.cells #[.bool false, .int .i64 0, .int .i64 0, .slice none 0 0, .int .i64 0, .int .i64 0, .int .i64 0, .int .u64 0, .slice none 0 0, .int .u64 0, .bool false] 48) (by simp))) (by simp)
  have hA5 := hF.heap (heap_alloc_at (k := w.heap.size + 1 + 1) (.cells #[.bool false, .int .i64 L, .int .i64 F, .slice la ln lc, .int .i64 many, .int .i64 tries, .int .i64 0, .int .u64 0, .slice none 0 0, .int .u64 0, .bool false] 48) (by simp)) (by simp)
  have hFw : Frm [] w w1 := ((((Frm.refl [] w).alloc _).alloc _).alloc _).trans hF
  skip
  skip
  skip
  skip
  skip
  obtain ⟨p0, p1, p2, p3, p4, p5⟩ := cells6 hA1
  obtain ⟨t0, t1, t2, t3, t4, t5, t6, t7, t8, t9, t10⟩ := cells11 hA3
  obtain ⟨g0, g1, g2, g3, g4, g5, g6, g7, g8, g9, g10⟩ := frozen11 hA3
  obtain ⟨q0, q1, q2, q3, q4, q5, q6, q7, q8, q9, q10⟩ := cells11 hA5
  have HA3 := Lib.hid hA3
  have HFW := Lib.hid hFw
  skip
  clear hA1 hA3 hA5 hF hFw 
  go_wp2_with fail
  refine (HR.out _).mono ?_
  rintro e w' ⟨rfl, rfl⟩
  go_wp2_with fail
  go_region
  all_goals
    have hR4 := setCells11 HA3.out (.bool false) (.int .i64 L) (.int .i64 F) (.slice la ln lc) (.int .i64 many) (.int .i64 tries) (.int .i64 0) (.int .u64 0) (.slice none 0 0) (.int .u64 0) (.bool false)
    have hF4 := HFW.out.set11 (w.heap.size + 1) (.bool false) (.int .i64 L) (.int .i64 F) (.slice la ln lc) (.int .i64 many) (.int .i64 tries) (.int .i64 0) (.int .u64 0) (.slice none 0 0) (.int .u64 0) (.bool false) (.inr (Nat.le_succ _))
    skip
    generalize (((((((((((w1.setCell ⟨w.heap.size + 1, 0, none⟩ (.bool false)).setCell ⟨w.heap.size + 1, 1, none⟩ (.int .i64 L)).setCell ⟨w.heap.size + 1, 2, none⟩ (.int .i64 F)).setCell ⟨w.heap.size + 1, 3, none⟩ (.slice la ln lc)).setCell ⟨w.heap.size + 1, 4, none⟩ (.int .i64 many)).setCell ⟨w.heap.size + 1, 5, none⟩ (.int .i64 tries)).setCell ⟨w.heap.size + 1, 6, none⟩ (.int .i64 0)).setCell ⟨w.heap.size + 1, 7, none⟩ (.int .u64 0)).setCell ⟨w.heap.size + 1, 8, none⟩ (.slice none 0 0)).setCell ⟨w.heap.size + 1, 9, none⟩ (.int .u64 0)).setCell ⟨w.heap.size + 1, 10, none⟩ (.bool false)) = w9 at *
    obtain ⟨z0, z1, z2, z3, z4, z5, z6, z7, z8, z9, z10⟩ := cells11 hR4
    go_wp2
    refine bodyPost_ret (v := .tuple #[.nilIface, .agg #[.bool false, .int .i64 L, .int .i64 F, .slice la ln lc, .int .i64 many, .int .i64 tries, .int .i64 0, .int .u64 0, .slice none 0 0, .int .u64 0, .bool false], .bool true]) ?_ rfl ?_
    · simp [results, Try.results21, go_sem, z0, z1, z2, z3, z4, z5, z6, z7, z8, z9, z10]
    exact ⟨rfl, hF4.drew⟩
end
#print axioms begin_r_no2
end Go.Proofs.Ytbhnijkphkkalaa
