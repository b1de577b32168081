/- Package script: the reader's op, Next. -/
import Derived.Test.YtegoggnocpgoiaaScrC
namespace Go.Proofs.Ytegoggnocpgoiaa
open Go.ChangeShapes Go.WideShapes Go.ChangeAt Go.RowKit

variable {B : Nat}
theorem nx_start {l : List Int} {t : Int} (h : 5 ≤ l.getD 0 0 % 8) : nx l t = rq (l.getD 0 0 / 8 % t) (l.getD 1 0) (l.drop 2) ∧ nxN l = 2 + vlen (l.getD 1 0 % 8 + 1) := by
  unfold nx nxN; rw [if_pos h, if_pos h]; exact ⟨rfl, rfl⟩
theorem nx_round {l : List Int} {t : Int} (h : l.getD 0 0 % 8 = 4) : nx l t = ⟨4, 0, l.getD 1 0 % 8 + 1, 0, noB, noB, noB, 0⟩ ∧ nxN l = 2 := by
  unfold nx nxN; rw [if_neg (by omega), if_pos h, if_neg (by omega)]; exact ⟨rfl, rfl⟩
theorem nx_tick {l : List Int} {t : Int} (h : l.getD 0 0 % 8 = 3) : nx l t = ⟨2, 0, l.getD 1 0, 0, noB, noB, noB, 0⟩ ∧ nxN l = 2 := by
  unfold nx nxN; rw [if_neg (by omega), if_neg (by omega), if_pos h, if_neg (by omega)]; exact ⟨rfl, rfl⟩
theorem nx_pick {l : List Int} {t : Int} (h0 : 0 ≤ l.getD 0 0) (h : l.getD 0 0 % 8 < 3) : nx l t = ⟨1, l.getD 0 0 / 8 % t, l.getD 1 0 % 16 + 1, 0, noB, noB, noB, 0⟩ ∧ nxN l = 2 := by
  unfold nx nxN; rw [if_neg (by omega), if_neg (by omega), if_neg (by omega), if_neg (by omega)]; exact ⟨rfl, rfl⟩
theorem Frm.set8 {D : List Nat} {w X : World} {b : Nat} {v0 v1 v2 v3 v4 v5 v6 v7 : Value} (h : Frm D w X) (hb : w.heap.size ≤ b) :
    Frm D w ((((((((X.setCell ⟨b, 0, none⟩ v0).setCell ⟨b, 1, none⟩ v1).setCell ⟨b, 2, none⟩ v2).setCell ⟨b, 3, none⟩ v3).setCell ⟨b, 4, none⟩ v4).setCell ⟨b, 5, none⟩ v5).setCell ⟨b, 6, none⟩ v6).setCell ⟨b, 7, none⟩ v7) := frm_set8 h hb

set_option maxHeartbeats 4000000 in
theorem op_start {w : World} {p : Nat} {l : List Int} (h : RdAt B w p l) (hB : Byt l) (t : Int) (t0 : 1 ≤ t) (t1 : t ≤ 64) (hc : 5 ≤ l.getD 0 0 % 8) :
    Calls Try.prog 33 #[.pointer (some ⟨p, 0, none⟩), .int .i64 t] w (Ret (.agg #[.int .i64 (nx l t).k, .int .i64 (nx l t).t, .int .i64 (nx l t).n, .int .i64 (nx l t).v, .string (nx l t).key, .string (nx l t).val, .string (nx l t).old, .int .i64 (nx l t).tk]) (fun w' => Frm [p] w w' ∧ RdAt B w' p (l.drop (nxN l)))) := by
  obtain ⟨hn, hN⟩ := nx_start (t := t) hc
  rw [hn, hN]
  have hg0 := hB.getD 0
  have hg1 := hB.getD 1
  have he1 : (l.drop 1).getD 0 0 = l.getD 1 0 := by rw [getD_drop]
  have hB2 := hB.drop 2
  obtain ⟨x, hx⟩ : ∃ x, x = l.getD 0 0 := ⟨_, rfl⟩
  obtain ⟨q, hq⟩ : ∃ q, q = l.getD 1 0 := ⟨_, rfl⟩
  rw [← hx] at hg0 hc
  rw [← hq] at hg1 he1
  try rw [← hx]
  try rw [← hq]
  have hpl : p < w.heap.size := by obtain ⟨_, _, _, _, _, hp, _, _⟩ := h; exact lt_of_heap hp
  have d0 : (t == 0) = false := by simp; omega
  have dn : 0 ≤ x / 8 := by omega
  have d2 : 0 ≤ x / 8 % t := Int.emod_nonneg _ (by omega)
  have d1 : decide (5 ≤ x % 8) = true := by simpa using hc
  obtain ⟨o, ho⟩ : ∃ o, rq (x / 8 % t) q (l.drop 2) = o := ⟨_, rfl⟩
  rw [ho]
  have Ho := Lib.hid ho
  clear ho
  have HR := Lib.hid h
  have Hx := Lib.hid hx
  have Hq := Lib.hid hq
  have He := Lib.hid he1
  have HC := Lib.hid hc
  have HBl := Lib.hid hB
  clear h hx hq he1 hc hn hN hB
  go_enter Try.func33, Try.ntmps33
  go_wp2_with fail
  have hR := HR.out.frm0 ((Frm.refl [] w).alloc (.cells #[.int .i64 0, .int .i64 0, .int .i64 0, .int .i64 0, .string ⟨#[]⟩, .string ⟨#[]⟩, .string ⟨#[]⟩, .int .i64 0] 30))
  have e4 := heap_alloc_new w (.cells #[.int .i64 0, .int .i64 0, .int .i64 0, .int .i64 0, .string ⟨#[]⟩, .string ⟨#[]⟩, .string ⟨#[]⟩, .int .i64 0] 30)
  have hF := ((Frm.refl [p] w).alloc (.cells #[.int .i64 0, .int .i64 0, .int .i64 0, .int .i64 0, .string ⟨#[]⟩, .string ⟨#[]⟩, .string ⟨#[]⟩, .int .i64 0] 30))
  generalize w.alloc (.cells #[.int .i64 0, .int .i64 0, .int .i64 0, .int .i64 0, .string ⟨#[]⟩, .string ⟨#[]⟩, .string ⟨#[]⟩, .int .i64 0] 30) = X0 at hR e4 hF ⊢
  have hbp : w.heap.size ≠ p := by omega
  refine (rnext_any hR).mono ?_
  rintro e X1 ⟨rfl, hF1, hR1⟩
  rw [← Hx.out]
  replace e4 := hF1.heap e4 (by simpa using hbp)
  replace hF := hF.trans hF1
  clear hR hF1 X0
  go_wp2_with fail
  refine (rnext_any hR1).mono ?_
  rintro e X2 ⟨rfl, hF1, hR2⟩
  rw [He.out]
  rw [List.drop_drop] at hR2
  replace e4 := hF1.heap e4 (by simpa using hbp)
  replace hF := hF.trans hF1
  clear hR1 hF1 X1
  go_wp2_with fail
  refine (request_any hR2 hB2 (x / 8 % t) q hg1.1 hg1.2).mono ?_
  rintro e X3 ⟨rfl, hF1, hR3⟩
  rw [List.drop_drop] at hR3
  replace e4 := hF1.heap e4 (by simpa using hbp)
  replace hF := hF.trans hF1
  clear hR2 hF1 X2
  rw [Ho.out]
  obtain ⟨z0, z1, z2, z3, z4, z5, z6, z7⟩ := cells_z e4
  have f4 : ∀ i, X3.frozen? ⟨w.heap.size, i, none⟩ = false := fun i => frozen_of_heap e4
  have hpost := And.intro hF (And.intro hR3 e4)
  have HP := Lib.hid hpost
  clear hpost hF hR3 e4
  go_wp2
  exact bodyPost_ret (v := .agg #[.int .i64 o.k, .int .i64 o.t, .int .i64 o.n, .int .i64 o.v, .string o.key, .string o.val, .string o.old, .int .i64 o.tk]) (by simp [results, Try.results33, go_sem, z0, z1, z2, z3, z4, z5, z6, z7]) rfl ⟨rfl, frm_set8 HP.out.1 (Nat.le_refl _), rd_set8 HP.out.2.1 HP.out.2.2 hbp⟩

set_option maxHeartbeats 4000000 in
theorem op_round {w : World} {p : Nat} {l : List Int} (h : RdAt B w p l) (hB : Byt l) (t : Int) (t0 : 1 ≤ t) (t1 : t ≤ 64) (hc : l.getD 0 0 % 8 = 4) :
    Calls Try.prog 33 #[.pointer (some ⟨p, 0, none⟩), .int .i64 t] w (Ret (.agg #[.int .i64 (nx l t).k, .int .i64 (nx l t).t, .int .i64 (nx l t).n, .int .i64 (nx l t).v, .string (nx l t).key, .string (nx l t).val, .string (nx l t).old, .int .i64 (nx l t).tk]) (fun w' => Frm [p] w w' ∧ RdAt B w' p (l.drop (nxN l)))) := by
  obtain ⟨hn, hN⟩ := nx_round (t := t) hc
  rw [hn, hN]
  have hg0 := hB.getD 0
  have hg1 := hB.getD 1
  have he1 : (l.drop 1).getD 0 0 = l.getD 1 0 := by rw [getD_drop]
  obtain ⟨x, hx⟩ : ∃ x, x = l.getD 0 0 := ⟨_, rfl⟩
  obtain ⟨q, hq⟩ : ∃ q, q = l.getD 1 0 := ⟨_, rfl⟩
  rw [← hx] at hg0 hc
  rw [← hq] at hg1 he1
  try rw [← hx]
  try rw [← hq]
  have hpl : p < w.heap.size := by obtain ⟨_, _, _, _, _, hp, _, _⟩ := h; exact lt_of_heap hp
  have d0 : (t == 0) = false := by simp; omega
  have dn : 0 ≤ x / 8 := by omega
  have d2 : 0 ≤ x / 8 % t := Int.emod_nonneg _ (by omega)
  have d1 : decide (5 ≤ x % 8) = false := by simp; omega
  have d3 : (x % 8 == 4) = true := by simpa using hc
  have HR := Lib.hid h
  have Hx := Lib.hid hx
  have Hq := Lib.hid hq
  have He := Lib.hid he1
  have HC := Lib.hid hc
  have HBl := Lib.hid hB
  clear h hx hq he1 hc hn hN hB
  go_enter Try.func33, Try.ntmps33
  go_wp2_with fail
  have hR := HR.out.frm0 ((Frm.refl [] w).alloc (.cells #[.int .i64 0, .int .i64 0, .int .i64 0, .int .i64 0, .string ⟨#[]⟩, .string ⟨#[]⟩, .string ⟨#[]⟩, .int .i64 0] 30))
  have e4 := heap_alloc_new w (.cells #[.int .i64 0, .int .i64 0, .int .i64 0, .int .i64 0, .string ⟨#[]⟩, .string ⟨#[]⟩, .string ⟨#[]⟩, .int .i64 0] 30)
  have hF := ((Frm.refl [p] w).alloc (.cells #[.int .i64 0, .int .i64 0, .int .i64 0, .int .i64 0, .string ⟨#[]⟩, .string ⟨#[]⟩, .string ⟨#[]⟩, .int .i64 0] 30))
  generalize w.alloc (.cells #[.int .i64 0, .int .i64 0, .int .i64 0, .int .i64 0, .string ⟨#[]⟩, .string ⟨#[]⟩, .string ⟨#[]⟩, .int .i64 0] 30) = X0 at hR e4 hF ⊢
  have hbp : w.heap.size ≠ p := by omega
  refine (rnext_any hR).mono ?_
  rintro e X1 ⟨rfl, hF1, hR1⟩
  rw [← Hx.out]
  replace e4 := hF1.heap e4 (by simpa using hbp)
  replace hF := hF.trans hF1
  clear hR hF1 X0
  go_wp2_with fail
  refine (rnext_any hR1).mono ?_
  rintro e X2 ⟨rfl, hF1, hR2⟩
  rw [He.out]
  rw [List.drop_drop] at hR2
  replace e4 := hF1.heap e4 (by simpa using hbp)
  replace hF := hF.trans hF1
  clear hR1 hF1 X1
  obtain ⟨z0, z1, z2, z3, z4, z5, z6, z7⟩ := cells_z e4
  have f4 : ∀ i, X2.frozen? ⟨w.heap.size, i, none⟩ = false := fun i => frozen_of_heap e4
  have hpost := And.intro hF (And.intro hR2 e4)
  have HP := Lib.hid hpost
  clear hpost hF hR2 e4
  go_wp2
  exact bodyPost_ret (v := .agg #[.int .i64 4, .int .i64 0, .int .i64 (q % 8 + 1), .int .i64 0, .string noB, .string noB, .string noB, .int .i64 0]) (by simp [results, Try.results33, go_sem, z0, z1, z2, z3, z4, z5, z6, z7]) rfl ⟨rfl, frm_set8 HP.out.1 (Nat.le_refl _), rd_set8 HP.out.2.1 HP.out.2.2 hbp⟩

set_option maxHeartbeats 4000000 in
theorem op_tick {w : World} {p : Nat} {l : List Int} (h : RdAt B w p l) (hB : Byt l) (t : Int) (t0 : 1 ≤ t) (t1 : t ≤ 64) (hc : l.getD 0 0 % 8 = 3) :
    Calls Try.prog 33 #[.pointer (some ⟨p, 0, none⟩), .int .i64 t] w (Ret (.agg #[.int .i64 (nx l t).k, .int .i64 (nx l t).t, .int .i64 (nx l t).n, .int .i64 (nx l t).v, .string (nx l t).key, .string (nx l t).val, .string (nx l t).old, .int .i64 (nx l t).tk]) (fun w' => Frm [p] w w' ∧ RdAt B w' p (l.drop (nxN l)))) := by
  obtain ⟨hn, hN⟩ := nx_tick (t := t) hc
  rw [hn, hN]
  have hg0 := hB.getD 0
  have hg1 := hB.getD 1
  have he1 : (l.drop 1).getD 0 0 = l.getD 1 0 := by rw [getD_drop]
  obtain ⟨x, hx⟩ : ∃ x, x = l.getD 0 0 := ⟨_, rfl⟩
  obtain ⟨q, hq⟩ : ∃ q, q = l.getD 1 0 := ⟨_, rfl⟩
  rw [← hx] at hg0 hc
  rw [← hq] at hg1 he1
  try rw [← hx]
  try rw [← hq]
  have hpl : p < w.heap.size := by obtain ⟨_, _, _, _, _, hp, _, _⟩ := h; exact lt_of_heap hp
  have d0 : (t == 0) = false := by simp; omega
  have dn : 0 ≤ x / 8 := by omega
  have d2 : 0 ≤ x / 8 % t := Int.emod_nonneg _ (by omega)
  have d1 : decide (5 ≤ x % 8) = false := by simp; omega
  have d3 : (x % 8 == 4) = false := by simp; omega
  have d4 : (x % 8 == 3) = true := by simpa using hc
  have HR := Lib.hid h
  have Hx := Lib.hid hx
  have Hq := Lib.hid hq
  have He := Lib.hid he1
  have HC := Lib.hid hc
  have HBl := Lib.hid hB
  clear h hx hq he1 hc hn hN hB
  go_enter Try.func33, Try.ntmps33
  go_wp2_with fail
  have hR := HR.out.frm0 ((Frm.refl [] w).alloc (.cells #[.int .i64 0, .int .i64 0, .int .i64 0, .int .i64 0, .string ⟨#[]⟩, .string ⟨#[]⟩, .string ⟨#[]⟩, .int .i64 0] 30))
  have e4 := heap_alloc_new w (.cells #[.int .i64 0, .int .i64 0, .int .i64 0, .int .i64 0, .string ⟨#[]⟩, .string ⟨#[]⟩, .string ⟨#[]⟩, .int .i64 0] 30)
  have hF := ((Frm.refl [p] w).alloc (.cells #[.int .i64 0, .int .i64 0, .int .i64 0, .int .i64 0, .string ⟨#[]⟩, .string ⟨#[]⟩, .string ⟨#[]⟩, .int .i64 0] 30))
  generalize w.alloc (.cells #[.int .i64 0, .int .i64 0, .int .i64 0, .int .i64 0, .string ⟨#[]⟩, .string ⟨#[]⟩, .string ⟨#[]⟩, .int .i64 0] 30) = X0 at hR e4 hF ⊢
  have hbp : w.heap.size ≠ p := by omega
  refine (rnext_any hR).mono ?_
  rintro e X1 ⟨rfl, hF1, hR1⟩
  rw [← Hx.out]
  replace e4 := hF1.heap e4 (by simpa using hbp)
  replace hF := hF.trans hF1
  clear hR hF1 X0
  go_wp2_with fail
  refine (rnext_any hR1).mono ?_
  rintro e X2 ⟨rfl, hF1, hR2⟩
  rw [He.out]
  rw [List.drop_drop] at hR2
  replace e4 := hF1.heap e4 (by simpa using hbp)
  replace hF := hF.trans hF1
  clear hR1 hF1 X1
  obtain ⟨z0, z1, z2, z3, z4, z5, z6, z7⟩ := cells_z e4
  have f4 : ∀ i, X2.frozen? ⟨w.heap.size, i, none⟩ = false := fun i => frozen_of_heap e4
  have hpost := And.intro hF (And.intro hR2 e4)
  have HP := Lib.hid hpost
  clear hpost hF hR2 e4
  go_wp2
  exact bodyPost_ret (v := .agg #[.int .i64 2, .int .i64 0, .int .i64 q, .int .i64 0, .string noB, .string noB, .string noB, .int .i64 0]) (by simp [results, Try.results33, go_sem, z0, z1, z2, z3, z4, z5, z6, z7]) rfl ⟨rfl, frm_set8 HP.out.1 (Nat.le_refl _), rd_set8 HP.out.2.1 HP.out.2.2 hbp⟩

set_option maxHeartbeats 4000000 in
theorem op_pick {w : World} {p : Nat} {l : List Int} (h : RdAt B w p l) (hB : Byt l) (t : Int) (t0 : 1 ≤ t) (t1 : t ≤ 64) (hc : l.getD 0 0 % 8 < 3) :
    Calls Try.prog 33 #[.pointer (some ⟨p, 0, none⟩), .int .i64 t] w (Ret (.agg #[.int .i64 (nx l t).k, .int .i64 (nx l t).t, .int .i64 (nx l t).n, .int .i64 (nx l t).v, .string (nx l t).key, .string (nx l t).val, .string (nx l t).old, .int .i64 (nx l t).tk]) (fun w' => Frm [p] w w' ∧ RdAt B w' p (l.drop (nxN l)))) := by
  obtain ⟨hn, hN⟩ := nx_pick (t := t) (hB.getD 0).1 hc
  rw [hn, hN]
  have hg0 := hB.getD 0
  have hg1 := hB.getD 1
  have he1 : (l.drop 1).getD 0 0 = l.getD 1 0 := by rw [getD_drop]
  obtain ⟨x, hx⟩ : ∃ x, x = l.getD 0 0 := ⟨_, rfl⟩
  obtain ⟨q, hq⟩ : ∃ q, q = l.getD 1 0 := ⟨_, rfl⟩
  rw [← hx] at hg0 hc
  rw [← hq] at hg1 he1
  try rw [← hx]
  try rw [← hq]
  have hpl : p < w.heap.size := by obtain ⟨_, _, _, _, _, hp, _, _⟩ := h; exact lt_of_heap hp
  have d0 : (t == 0) = false := by simp; omega
  have dn : 0 ≤ x / 8 := by omega
  have d2 : 0 ≤ x / 8 % t := Int.emod_nonneg _ (by omega)
  have d1 : decide (5 ≤ x % 8) = false := by simp; omega
  have d3 : (x % 8 == 4) = false := by simp; omega
  have d4 : (x % 8 == 3) = false := by simp; omega
  have HR := Lib.hid h
  have Hx := Lib.hid hx
  have Hq := Lib.hid hq
  have He := Lib.hid he1
  have HC := Lib.hid hc
  have HBl := Lib.hid hB
  clear h hx hq he1 hc hn hN hB
  go_enter Try.func33, Try.ntmps33
  go_wp2_with fail
  have hR := HR.out.frm0 ((Frm.refl [] w).alloc (.cells #[.int .i64 0, .int .i64 0, .int .i64 0, .int .i64 0, .string ⟨#[]⟩, .string ⟨#[]⟩, .string ⟨#[]⟩, .int .i64 0] 30))
  have e4 := heap_alloc_new w (.cells #[.int .i64 0, .int .i64 0, .int .i64 0, .int .i64 0, .string ⟨#[]⟩, .string ⟨#[]⟩, .string ⟨#[]⟩, .int .i64 0] 30)
  have hF := ((Frm.refl [p] w).alloc (.cells #[.int .i64 0, .int .i64 0, .int .i64 0, .int .i64 0, .string ⟨#[]⟩, .string ⟨#[]⟩, .string ⟨#[]⟩, .int .i64 0] 30))
  generalize w.alloc (.cells #[.int .i64 0, .int .i64 0, .int .i64 0, .int .i64 0, .string ⟨#[]⟩, .string ⟨#[]⟩, .string ⟨#[]⟩, .int .i64 0] 30) = X0 at hR e4 hF ⊢
  have hbp : w.heap.size ≠ p := by omega
  refine (rnext_any hR).mono ?_
  rintro e X1 ⟨rfl, hF1, hR1⟩
  rw [← Hx.out]
  replace e4 := hF1.heap e4 (by simpa using hbp)
  replace hF := hF.trans hF1
  clear hR hF1 X0
  go_wp2_with fail
  refine (rnext_any hR1).mono ?_
  rintro e X2 ⟨rfl, hF1, hR2⟩
  rw [He.out]
  rw [List.drop_drop] at hR2
  replace e4 := hF1.heap e4 (by simpa using hbp)
  replace hF := hF.trans hF1
  clear hR1 hF1 X1
  obtain ⟨z0, z1, z2, z3, z4, z5, z6, z7⟩ := cells_z e4
  have f4 : ∀ i, X2.frozen? ⟨w.heap.size, i, none⟩ = false := fun i => frozen_of_heap e4
  have hpost := And.intro hF (And.intro hR2 e4)
  have HP := Lib.hid hpost
  clear hpost hF hR2 e4
  go_wp2
  exact bodyPost_ret (v := .agg #[.int .i64 1, .int .i64 (x / 8 % t), .int .i64 (q % 16 + 1), .int .i64 0, .string noB, .string noB, .string noB, .int .i64 0]) (by simp [results, Try.results33, go_sem, z0, z1, z2, z3, z4, z5, z6, z7]) rfl ⟨rfl, frm_set8 HP.out.1 (Nat.le_refl _), rd_set8 HP.out.2.1 HP.out.2.2 hbp⟩

theorem op_any {w : World} {p : Nat} {l : List Int} (h : RdAt B w p l) (hB : Byt l) (t : Int) (t0 : 1 ≤ t) (t1 : t ≤ 64) :
    Calls Try.prog 33 #[.pointer (some ⟨p, 0, none⟩), .int .i64 t] w (Ret (.agg #[.int .i64 (nx l t).k, .int .i64 (nx l t).t, .int .i64 (nx l t).n, .int .i64 (nx l t).v, .string (nx l t).key, .string (nx l t).val, .string (nx l t).old, .int .i64 (nx l t).tk]) (fun w' => Frm [p] w w' ∧ RdAt B w' p (l.drop (nxN l)))) := by
  have := hB.getD 0
  by_cases h5 : 5 ≤ l.getD 0 0 % 8
  · exact op_start h hB t t0 t1 h5
  · by_cases h4 : l.getD 0 0 % 8 = 4
    · exact op_round h hB t t0 t1 h4
    · by_cases h3 : l.getD 0 0 % 8 = 3
      · exact op_tick h hB t t0 t1 h3
      · exact op_pick h hB t t0 t1 (by omega)
end Go.Proofs.Ytegoggnocpgoiaa
