/- Package script: the reader's request. -/
import Derived.Test.YtegoggnocpgoiaaScrB
namespace Go.Proofs.Ytegoggnocpgoiaa
open Go.ChangeShapes Go.WideShapes Go.ChangeAt Go.RowKit

variable {B : Nat}
/-- What a request knows while it reads: the reader at p, the result at b6, the operation at b7, what it needs at b8. -/
structure QAt (B : Nat) (w : World) (p b6 b7 b8 : Nat) (l : List Int) (o : Opr) (k1 k2 k3 k4 : Bool) : Prop where
  rd : RdAt B w p l
  h6 : w.heap[b6]? = some (.cells #[.int .i64 0, .int .i64 0, .int .i64 0, .int .i64 0, .string ⟨#[]⟩, .string ⟨#[]⟩, .string ⟨#[]⟩, .int .i64 0] 30 (0, 0))
  h7 : w.heap[b7]? = some (.cells #[.int .i64 o.k, .int .i64 o.t, .int .i64 o.n, .int .i64 o.v, .string o.key, .string o.val, .string o.old, .int .i64 o.tk] 30 (0, 0))
  h8 : w.heap[b8]? = some (.cells #[.bool k1, .bool k2, .bool k3, .bool k4] 91 (0, 0))
  n67 : b6 ≠ b7
  n68 : b6 ≠ b8
  n78 : b7 ≠ b8

namespace QAt
variable {w w' : World} {p b6 b7 b8 : Nat} {l l' : List Int} {o : Opr} {k1 k2 k3 k4 : Bool}
theorem np (h : QAt B w p b6 b7 b8 l o k1 k2 k3 k4) : b6 ≠ p ∧ b7 ≠ p ∧ b8 ≠ p := by
  obtain ⟨a, n, c, b, o', hp, _, _⟩ := h.rd
  refine ⟨?_, ?_, ?_⟩
  · rintro rfl
    have := h.h6.symm.trans hp
    simp at this
  · rintro rfl
    have := h.h7.symm.trans hp
    simp at this
  · rintro rfl
    have := h.h8.symm.trans hp
    simp at this
theorem call (h : QAt B w p b6 b7 b8 l o k1 k2 k3 k4) (hf : Frm [p] w w') (hr : RdAt B w' p l') : QAt B w' p b6 b7 b8 l' o k1 k2 k3 k4 := by
  obtain ⟨n1, n2, n3⟩ := h.np
  exact ⟨hr, hf.heap h.h6 (by simpa using n1), hf.heap h.h7 (by simpa using n2), hf.heap h.h8 (by simpa using n3), h.n67, h.n68, h.n78⟩
theorem quiet (h : QAt B w p b6 b7 b8 l o k1 k2 k3 k4) (hf : Frm [] w w') : QAt B w' p b6 b7 b8 l o k1 k2 k3 k4 := h.call hf.nil (h.rd.frm0 hf)
theorem set (h : QAt B w p b6 b7 b8 l o k1 k2 k3 k4) (i : Nat) (v : Value) (o' : Opr) (ho : (#[.int .i64 o.k, .int .i64 o.t, .int .i64 o.n, .int .i64 o.v, .string o.key, .string o.val, .string o.old, .int .i64 o.tk] : Array Value).setIfInBounds i v = #[.int .i64 o'.k, .int .i64 o'.t, .int .i64 o'.n, .int .i64 o'.v, .string o'.key, .string o'.val, .string o'.old, .int .i64 o'.tk]) : QAt B (w.setCell ⟨b7, i, none⟩ v) p b6 b7 b8 l o' k1 k2 k3 k4 := by
  obtain ⟨n1, n2, n3⟩ := h.np
  refine ⟨h.rd.set h.h7 n2 ?_, heap_setCell_far _ _ h.n67.symm h.h6, by rw [← ho]; exact heap_setCell_at v h.h7, heap_setCell_far _ _ h.n78 h.h8, h.n67, h.n68, h.n78⟩
  intro j y
  match j with
  | 0 => simp
  | 1 => simp
  | 2 => simp
  | 3 => simp
  | 4 => simp
  | 5 => simp
  | 6 => simp
  | 7 => simp
  | j + 8 => simp
theorem cells7 (h : QAt B w p b6 b7 b8 l o k1 k2 k3 k4) : OpAt w b7 0 o := OpAt.block h.h7
theorem fz7 (h : QAt B w p b6 b7 b8 l o k1 k2 k3 k4) (i : Nat) : w.frozen? ⟨b7, i, none⟩ = false := frozen_of_heap h.h7
theorem cells8 (h : QAt B w p b6 b7 b8 l o k1 k2 k3 k4) : w.cell? ⟨b8, 0, none⟩ = some (.bool k1) ∧ w.cell? ⟨b8, 1, none⟩ = some (.bool k2) ∧ w.cell? ⟨b8, 2, none⟩ = some (.bool k3) ∧ w.cell? ⟨b8, 3, none⟩ = some (.bool k4) := cells4 h.h8
end QAt

theorem frm_set7 {D : List Nat} {w X : World} {b i : Nat} {v : Value} (h : Frm D w X) (hb : w.heap.size ≤ b) : Frm D w (X.setCell ⟨b, i, none⟩ v) := h.setCell ⟨b, i, none⟩ v (.inr hb)
theorem frm_set8 {D : List Nat} {w X : World} {b : Nat} {v0 v1 v2 v3 v4 v5 v6 v7 : Value} (h : Frm D w X) (hb : w.heap.size ≤ b) :
    Frm D w ((((((((X.setCell ⟨b, 0, none⟩ v0).setCell ⟨b, 1, none⟩ v1).setCell ⟨b, 2, none⟩ v2).setCell ⟨b, 3, none⟩ v3).setCell ⟨b, 4, none⟩ v4).setCell ⟨b, 5, none⟩ v5).setCell ⟨b, 6, none⟩ v6).setCell ⟨b, 7, none⟩ v7) :=
  frm_set7 (frm_set7 (frm_set7 (frm_set7 (frm_set7 (frm_set7 (frm_set7 (frm_set7 h hb) hb) hb) hb) hb) hb) hb) hb
theorem rd_set8 {w : World} {p b : Nat} {l : List Int} {v0 v1 v2 v3 v4 v5 v6 v7 : Value} (h : RdAt B w p l) (h6 : w.heap[b]? = some (.cells #[.int .i64 0, .int .i64 0, .int .i64 0, .int .i64 0, .string ⟨#[]⟩, .string ⟨#[]⟩, .string ⟨#[]⟩, .int .i64 0] 30 (0, 0))) (hbp : b ≠ p) :
    RdAt B ((((((((w.setCell ⟨b, 0, none⟩ v0).setCell ⟨b, 1, none⟩ v1).setCell ⟨b, 2, none⟩ v2).setCell ⟨b, 3, none⟩ v3).setCell ⟨b, 4, none⟩ v4).setCell ⟨b, 5, none⟩ v5).setCell ⟨b, 6, none⟩ v6).setCell ⟨b, 7, none⟩ v7) p l := by
  have hF : Frm [b] w ((((((((w.setCell ⟨b, 0, none⟩ v0).setCell ⟨b, 1, none⟩ v1).setCell ⟨b, 2, none⟩ v2).setCell ⟨b, 3, none⟩ v3).setCell ⟨b, 4, none⟩ v4).setCell ⟨b, 5, none⟩ v5).setCell ⟨b, 6, none⟩ v6).setCell ⟨b, 7, none⟩ v7) := by
    have st : ∀ {X : World} (i : Nat) (v : Value), Frm [b] w X → Frm [b] w (X.setCell ⟨b, i, none⟩ v) := fun i v h => h.setCell ⟨b, i, none⟩ v (.inl (by simp))
    exact st 7 _ (st 6 _ (st 5 _ (st 4 _ (st 3 _ (st 2 _ (st 1 _ (st 0 _ (Frm.refl _ _))))))))
  refine h.frm hF (by simpa using hbp.symm) (fun a n c b' o hn _ hL => ?_)
  simp
  rintro rfl
  obtain ⟨x, _, _, hc⟩ := hL.get hn
  rw [cell_of_heap h6] at hc
  revert hc
  generalize o + 0 = j
  intro hc
  match j, hc with
  | 0, hc => simp at hc
  | 1, hc => simp at hc
  | 2, hc => simp at hc
  | 3, hc => simp at hc
  | 4, hc => simp at hc
  | 5, hc => simp at hc
  | 6, hc => simp at hc
  | 7, hc => simp at hc
  | j + 8, hc => simp at hc

theorem cells_z {w : World} {b : Nat} (h : w.heap[b]? = some (.cells #[.int .i64 0, .int .i64 0, .int .i64 0, .int .i64 0, .string ⟨#[]⟩, .string ⟨#[]⟩, .string ⟨#[]⟩, .int .i64 0] 30 (0, 0))) :
    w.cell? ⟨b, 0, none⟩ = some (.int .i64 0) ∧ w.cell? ⟨b, 1, none⟩ = some (.int .i64 0) ∧ w.cell? ⟨b, 2, none⟩ = some (.int .i64 0) ∧ w.cell? ⟨b, 3, none⟩ = some (.int .i64 0) ∧ w.cell? ⟨b, 4, none⟩ = some (.string ⟨#[]⟩) ∧ w.cell? ⟨b, 5, none⟩ = some (.string ⟨#[]⟩) ∧ w.cell? ⟨b, 6, none⟩ = some (.string ⟨#[]⟩) ∧ w.cell? ⟨b, 7, none⟩ = some (.int .i64 0) := by
  refine ⟨?_, ?_, ?_, ?_, ?_, ?_, ?_, ?_⟩ <;> rw [cell_of_heap h] <;> rfl

set_option maxHeartbeats 4000000 in
theorem request_0 {w : World} {p : Nat} {l : List Int} (h : RdAt B w p l) (hB : Byt l) (th q : Int) (q0 : 0 ≤ q) (q1 : q ≤ 255) (hv : vc (q % 8 + 1) = 0) :
    Calls Try.prog 42 #[.pointer (some ⟨p, 0, none⟩), .int .i64 th, .int .i64 q] w (Ret (.agg #[.int .i64 (rq th q l).k, .int .i64 (rq th q l).t, .int .i64 (rq th q l).n, .int .i64 (rq th q l).v, .string (rq th q l).key, .string (rq th q l).val, .string (rq th q l).old, .int .i64 (rq th q l).tk]) (fun w' => Frm [p] w w' ∧ RdAt B w' p (l.drop 0))) := by
  have hq : rq th q l = ⟨3, th, 0, q % 8 + 1, noB, noB, noB, q / 8⟩ := by unfold rq; simp [hv]
  rw [hq]
  have hN := fun w => needs_0 w (q % 8 + 1) hv
  have hpl : p < w.heap.size := by obtain ⟨_, _, _, _, _, hp, _, _⟩ := h; exact lt_of_heap hp
  have HN := Lib.hid hN
  have HR := Lib.hid h
  clear hN h hq hv 
  go_enter Try.func42, Try.ntmps42
  go_wp2_with fail
  refine (HN.out _).mono ?_
  rintro e W1 ⟨rfl, hF1⟩
  have hQ : QAt B (W1.alloc (.cells #[.bool false, .bool false, .bool false, .bool false] 91)) p w.heap.size (w.heap.size + 1) W1.heap.size l ⟨3, th, 0, q % 8 + 1, noB, noB, noB, q / 8⟩ false false false false := by
    have hFa : Frm [] w W1 := (((Frm.refl [] w).alloc _).alloc _).trans hF1
    have e6 := hF1.heap (heap_alloc_old (.cells #[.int .i64 3, .int .i64 th, .int .i64 0, .int .i64 (q % 8 + 1), .string noB, .string noB, .string noB, .int .i64 (q / 8)] 30) (heap_alloc_new w (.cells #[.int .i64 0, .int .i64 0, .int .i64 0, .int .i64 0, .string ⟨#[]⟩, .string ⟨#[]⟩, .string ⟨#[]⟩, .int .i64 0] 30))) (by simp)
    have e7 := hF1.heap (heap_alloc_at (k := w.heap.size + 1) (.cells #[.int .i64 3, .int .i64 th, .int .i64 0, .int .i64 (q % 8 + 1), .string noB, .string noB, .string noB, .int .i64 (q / 8)] 30) (by simp)) (by simp)
    have l7 := lt_of_heap e7
    exact ⟨(HR.out.frm0 hFa).frm0 ((Frm.refl [] W1).alloc _), heap_alloc_old _ e6, heap_alloc_old _ e7, heap_alloc_new _ _, by omega, by omega, by omega⟩
  have hF : Frm [p] w (W1.alloc (.cells #[.bool false, .bool false, .bool false, .bool false] 91)) := (((((Frm.refl [] w).alloc _).alloc _).trans hF1).alloc _).nil
  have g7 : w.heap.size ≤ w.heap.size + 1 := by omega
  have g6 : w.heap.size ≤ w.heap.size := by omega
  have e6 := hF1.heap (heap_alloc_old (.cells #[.int .i64 3, .int .i64 th, .int .i64 0, .int .i64 (q % 8 + 1), .string noB, .string noB, .string noB, .int .i64 (q / 8)] 30) (heap_alloc_new w (.cells #[.int .i64 0, .int .i64 0, .int .i64 0, .int .i64 0, .string ⟨#[]⟩, .string ⟨#[]⟩, .string ⟨#[]⟩, .int .i64 0] 30))) (by simp)
  have e7 := hF1.heap (heap_alloc_at (k := w.heap.size + 1) (.cells #[.int .i64 3, .int .i64 th, .int .i64 0, .int .i64 (q % 8 + 1), .string noB, .string noB, .string noB, .int .i64 (q / 8)] 30) (by simp)) (by simp)
  obtain ⟨z0, z1, z2, z3, z4, z5, z6, z7⟩ := cells_z e6
  obtain ⟨c0, c1, c2, c3, c4, c5, c6, c7⟩ := OpAt.block (x := ⟨3, th, 0, q % 8 + 1, noB, noB, noB, q / 8⟩) e7
  simp only [Nat.zero_add] at c0 c1 c2 c3 c4 c5 c6 c7
  have f6 : ∀ i, W1.frozen? ⟨w.heap.size, i, none⟩ = false := fun i => frozen_of_heap e6
  have f7 : ∀ i, W1.frozen? ⟨w.heap.size + 1, i, none⟩ = false := fun i => frozen_of_heap e7
  have l7 := lt_of_heap e7
  have l6 := lt_of_heap e6
  have hFW : Frm [p] w W1 := ((((Frm.refl [] w).alloc _).alloc _).trans hF1).nil
  have hRW : RdAt B W1 p l := HR.out.frm0 ((((Frm.refl [] w).alloc _).alloc _).trans hF1)
  have He6 := Lib.hid e6
  clear hQ e6 e7 hF1 hF g7
  go_wp2
  exact bodyPost_ret (v := .agg #[.int .i64 3, .int .i64 th, .int .i64 0, .int .i64 (q % 8 + 1), .string noB, .string noB, .string noB, .int .i64 (q / 8)]) (by simp [results, Try.results42, go_sem, z0, z1, z2, z3, z4, z5, z6, z7, l6, Nat.ne_of_lt l6]) rfl ⟨rfl, (frm_set8 hFW g6).alloc _, (rd_set8 hRW He6.out (by omega)).frm0 ((Frm.refl _ _).alloc _)⟩

set_option maxHeartbeats 4000000 in
theorem request_1 {w : World} {p : Nat} {l : List Int} (h : RdAt B w p l) (hB : Byt l) (th q : Int) (q0 : 0 ≤ q) (q1 : q ≤ 255) (hv : vc (q % 8 + 1) = 1) :
    Calls Try.prog 42 #[.pointer (some ⟨p, 0, none⟩), .int .i64 th, .int .i64 q] w (Ret (.agg #[.int .i64 (rq th q l).k, .int .i64 (rq th q l).t, .int .i64 (rq th q l).n, .int .i64 (rq th q l).v, .string (rq th q l).key, .string (rq th q l).val, .string (rq th q l).old, .int .i64 (rq th q l).tk]) (fun w' => Frm [p] w w' ∧ RdAt B w' p (l.drop 1))) := by
  have hq : rq th q l = ⟨3, th, 0, q % 8 + 1, keyB (l.getD 0 0), noB, noB, q / 8⟩ := by unfold rq; simp [hv]
  rw [hq]
  have hN := fun w => needs_1 w (q % 8 + 1) hv
  have hg0 := hB.getD 0
  obtain ⟨x0, hx0⟩ : ∃ x, x = l.getD 0 0 := ⟨_, rfl⟩
  rw [← hx0] at hg0 ⊢
  have hpl : p < w.heap.size := by obtain ⟨_, _, _, _, _, hp, _, _⟩ := h; exact lt_of_heap hp
  have HN := Lib.hid hN
  have HR := Lib.hid h
  have Hhx0 := Lib.hid hx0
  clear hN h hq hv hx0
  go_enter Try.func42, Try.ntmps42
  go_wp2_with fail
  refine (HN.out _).mono ?_
  rintro e W1 ⟨rfl, hF1⟩
  have hQ : QAt B (W1.alloc (.cells #[.bool true, .bool false, .bool false, .bool false] 91)) p w.heap.size (w.heap.size + 1) W1.heap.size l ⟨3, th, 0, q % 8 + 1, noB, noB, noB, q / 8⟩ true false false false := by
    have hFa : Frm [] w W1 := (((Frm.refl [] w).alloc _).alloc _).trans hF1
    have e6 := hF1.heap (heap_alloc_old (.cells #[.int .i64 3, .int .i64 th, .int .i64 0, .int .i64 (q % 8 + 1), .string noB, .string noB, .string noB, .int .i64 (q / 8)] 30) (heap_alloc_new w (.cells #[.int .i64 0, .int .i64 0, .int .i64 0, .int .i64 0, .string ⟨#[]⟩, .string ⟨#[]⟩, .string ⟨#[]⟩, .int .i64 0] 30))) (by simp)
    have e7 := hF1.heap (heap_alloc_at (k := w.heap.size + 1) (.cells #[.int .i64 3, .int .i64 th, .int .i64 0, .int .i64 (q % 8 + 1), .string noB, .string noB, .string noB, .int .i64 (q / 8)] 30) (by simp)) (by simp)
    have l7 := lt_of_heap e7
    exact ⟨(HR.out.frm0 hFa).frm0 ((Frm.refl [] W1).alloc _), heap_alloc_old _ e6, heap_alloc_old _ e7, heap_alloc_new _ _, by omega, by omega, by omega⟩
  have hF : Frm [p] w (W1.alloc (.cells #[.bool true, .bool false, .bool false, .bool false] 91)) := (((((Frm.refl [] w).alloc _).alloc _).trans hF1).alloc _).nil
  have g7 : w.heap.size ≤ w.heap.size + 1 := by omega
  have g6 : w.heap.size ≤ w.heap.size := by omega
  clear hF1
  go_wp2_with fail
  generalize W1.alloc (.cells #[.bool true, .bool false, .bool false, .bool false] 91) = wX at hQ hF ⊢
  generalize W1.heap.size = b8 at hQ ⊢
  generalize w.heap.size + 1 = b7 at hQ g7 ⊢
  generalize hb6 : w.heap.size = b6 at hQ ⊢
  rw [hb6] at g6
  replace g6 : w.heap.size ≤ b6 := by omega
  clear hb6
  refine (rnext_any hQ.rd).mono ?_
  rintro e w2 ⟨rfl, hF2, hR2⟩
  replace hQ := hQ.call hF2 hR2
  replace hF := hF.trans hF2
  clear hF2 hR2 wX
  rw [← Hhx0.out]
  go_wp2_with fail
  refine (key_any x0 hg0.1 hg0.2 _).mono ?_
  rintro e wX ⟨rfl, hF3⟩
  replace hQ := hQ.quiet hF3
  replace hF := hF.trans hF3.nil
  clear hF3 w2
  obtain ⟨z0, z1, z2, z3, z4, z5, z6, z7⟩ := cells_z hQ.h6
  obtain ⟨c0, c1, c2, c3, c4, c5, c6, c7⟩ := hQ.cells7
  simp only [Nat.zero_add] at c0 c1 c2 c3 c4 c5 c6 c7
  obtain ⟨d0, d1, d2, d3⟩ := hQ.cells8
  have f7 := hQ.fz7
  have m1 := hQ.n78
  have m2 := hQ.n78.symm
  have m3 := hQ.n67
  have m4 := hQ.n68
  have f6 : ∀ i, wX.frozen? ⟨b6, i, none⟩ = false := fun i => frozen_of_heap hQ.h6
  have e6 := hQ.h6
  have hQQ := Lib.hid hQ
  clear hQ
  go_wp2
  have hQ := (hQQ.out).set 4 (.string (keyB x0)) ⟨3, th, 0, q % 8 + 1, keyB x0, noB, noB, q / 8⟩ rfl
  exact bodyPost_ret (v := .agg #[.int .i64 3, .int .i64 th, .int .i64 0, .int .i64 (q % 8 + 1), .string (keyB x0), .string noB, .string noB, .int .i64 (q / 8)]) (by simp [results, Try.results42, go_sem, z0, z1, z2, z3, z4, z5, z6, z7]) rfl ⟨rfl, frm_set8 (frm_set7 hF g7) g6, rd_set8 hQ.rd hQ.h6 hQ.np.1⟩

set_option maxHeartbeats 4000000 in
theorem request_2 {w : World} {p : Nat} {l : List Int} (h : RdAt B w p l) (hB : Byt l) (th q : Int) (q0 : 0 ≤ q) (q1 : q ≤ 255) (hv : vc (q % 8 + 1) = 2) :
    Calls Try.prog 42 #[.pointer (some ⟨p, 0, none⟩), .int .i64 th, .int .i64 q] w (Ret (.agg #[.int .i64 (rq th q l).k, .int .i64 (rq th q l).t, .int .i64 (rq th q l).n, .int .i64 (rq th q l).v, .string (rq th q l).key, .string (rq th q l).val, .string (rq th q l).old, .int .i64 (rq th q l).tk]) (fun w' => Frm [p] w w' ∧ RdAt B w' p (l.drop 2))) := by
  have hq : rq th q l = ⟨3, th, 0, q % 8 + 1, keyB (l.getD 0 0), valB (l.getD 1 0), noB, q / 8⟩ := by unfold rq; simp [hv]
  rw [hq]
  have hN := fun w => needs_2 w (q % 8 + 1) hv
  have hg0 := hB.getD 0
  have hg1 := hB.getD 1
  have he1 : (l.drop 1).getD 0 0 = l.getD 1 0 := by rw [getD_drop]
  obtain ⟨x0, hx0⟩ : ∃ x, x = l.getD 0 0 := ⟨_, rfl⟩
  rw [← hx0] at hg0 ⊢
  obtain ⟨x1, hx1⟩ : ∃ x, x = l.getD 1 0 := ⟨_, rfl⟩
  rw [← hx1] at hg1 ⊢
  rw [← hx1] at he1
  have hpl : p < w.heap.size := by obtain ⟨_, _, _, _, _, hp, _, _⟩ := h; exact lt_of_heap hp
  have HN := Lib.hid hN
  have HR := Lib.hid h
  have Hhx0 := Lib.hid hx0
  have Hhx1 := Lib.hid hx1
  have Hhe1 := Lib.hid he1
  clear hN h hq hv hx0 hx1 he1
  go_enter Try.func42, Try.ntmps42
  go_wp2_with fail
  refine (HN.out _).mono ?_
  rintro e W1 ⟨rfl, hF1⟩
  have hQ : QAt B (W1.alloc (.cells #[.bool true, .bool false, .bool true, .bool false] 91)) p w.heap.size (w.heap.size + 1) W1.heap.size l ⟨3, th, 0, q % 8 + 1, noB, noB, noB, q / 8⟩ true false true false := by
    have hFa : Frm [] w W1 := (((Frm.refl [] w).alloc _).alloc _).trans hF1
    have e6 := hF1.heap (heap_alloc_old (.cells #[.int .i64 3, .int .i64 th, .int .i64 0, .int .i64 (q % 8 + 1), .string noB, .string noB, .string noB, .int .i64 (q / 8)] 30) (heap_alloc_new w (.cells #[.int .i64 0, .int .i64 0, .int .i64 0, .int .i64 0, .string ⟨#[]⟩, .string ⟨#[]⟩, .string ⟨#[]⟩, .int .i64 0] 30))) (by simp)
    have e7 := hF1.heap (heap_alloc_at (k := w.heap.size + 1) (.cells #[.int .i64 3, .int .i64 th, .int .i64 0, .int .i64 (q % 8 + 1), .string noB, .string noB, .string noB, .int .i64 (q / 8)] 30) (by simp)) (by simp)
    have l7 := lt_of_heap e7
    exact ⟨(HR.out.frm0 hFa).frm0 ((Frm.refl [] W1).alloc _), heap_alloc_old _ e6, heap_alloc_old _ e7, heap_alloc_new _ _, by omega, by omega, by omega⟩
  have hF : Frm [p] w (W1.alloc (.cells #[.bool true, .bool false, .bool true, .bool false] 91)) := (((((Frm.refl [] w).alloc _).alloc _).trans hF1).alloc _).nil
  have g7 : w.heap.size ≤ w.heap.size + 1 := by omega
  have g6 : w.heap.size ≤ w.heap.size := by omega
  clear hF1
  go_wp2_with fail
  generalize W1.alloc (.cells #[.bool true, .bool false, .bool true, .bool false] 91) = wX at hQ hF ⊢
  generalize W1.heap.size = b8 at hQ ⊢
  generalize w.heap.size + 1 = b7 at hQ g7 ⊢
  generalize hb6 : w.heap.size = b6 at hQ ⊢
  rw [hb6] at g6
  replace g6 : w.heap.size ≤ b6 := by omega
  clear hb6
  refine (rnext_any hQ.rd).mono ?_
  rintro e w2 ⟨rfl, hF2, hR2⟩
  replace hQ := hQ.call hF2 hR2
  replace hF := hF.trans hF2
  clear hF2 hR2 wX
  rw [← Hhx0.out]
  go_wp2_with fail
  refine (key_any x0 hg0.1 hg0.2 _).mono ?_
  rintro e wX ⟨rfl, hF3⟩
  replace hQ := hQ.quiet hF3
  replace hF := hF.trans hF3.nil
  clear hF3 w2
  obtain ⟨z0, z1, z2, z3, z4, z5, z6, z7⟩ := cells_z hQ.h6
  obtain ⟨c0, c1, c2, c3, c4, c5, c6, c7⟩ := hQ.cells7
  simp only [Nat.zero_add] at c0 c1 c2 c3 c4 c5 c6 c7
  obtain ⟨d0, d1, d2, d3⟩ := hQ.cells8
  have f7 := hQ.fz7
  have m1 := hQ.n78
  have m2 := hQ.n78.symm
  have m3 := hQ.n67
  have m4 := hQ.n68
  have f6 : ∀ i, wX.frozen? ⟨b6, i, none⟩ = false := fun i => frozen_of_heap hQ.h6
  have e6 := hQ.h6
  have hQQ := Lib.hid hQ
  clear hQ
  go_wp2_with fail
  clear z0 z1 z2 z3 z4 z5 z6 z7 c0 c1 c2 c3 c4 c5 c6 c7 d0 d1 d2 d3 f7 m1 m2 m3 m4 f6 e6
  have hQ := hQQ.out
  clear hQQ
  replace hQ := hQ.set 4 (.string (keyB x0)) ⟨3, th, 0, q % 8 + 1, keyB x0, noB, noB, q / 8⟩ rfl
  replace hF := frm_set7 (i := 4) (v := .string (keyB x0)) hF g7
  generalize wX.setCell ⟨b7, 4, none⟩ (.string (keyB x0)) = wY at hQ hF ⊢
  clear wX
  obtain ⟨wX, rfl⟩ : ∃ wX, wX = wY := ⟨_, rfl⟩
  refine (rnext_any hQ.rd).mono ?_
  rintro e w2 ⟨rfl, hF2, hR2⟩
  replace hQ := hQ.call hF2 hR2
  replace hF := hF.trans hF2
  clear hF2 hR2 wX
  rw [List.drop_drop] at hQ
  rw [Hhe1.out]
  go_wp2_with fail
  refine (value_any x1 hg1.1 hg1.2 _).mono ?_
  rintro e wX ⟨rfl, hF3⟩
  replace hQ := hQ.quiet hF3
  replace hF := hF.trans hF3.nil
  clear hF3 w2
  obtain ⟨z0, z1, z2, z3, z4, z5, z6, z7⟩ := cells_z hQ.h6
  obtain ⟨c0, c1, c2, c3, c4, c5, c6, c7⟩ := hQ.cells7
  simp only [Nat.zero_add] at c0 c1 c2 c3 c4 c5 c6 c7
  obtain ⟨d0, d1, d2, d3⟩ := hQ.cells8
  have f7 := hQ.fz7
  have m1 := hQ.n78
  have m2 := hQ.n78.symm
  have m3 := hQ.n67
  have m4 := hQ.n68
  have f6 : ∀ i, wX.frozen? ⟨b6, i, none⟩ = false := fun i => frozen_of_heap hQ.h6
  have e6 := hQ.h6
  have hQQ := Lib.hid hQ
  clear hQ
  go_wp2
  have hQ := (hQQ.out).set 5 (.string (valB x1)) ⟨3, th, 0, q % 8 + 1, keyB x0, valB x1, noB, q / 8⟩ rfl
  exact bodyPost_ret (v := .agg #[.int .i64 3, .int .i64 th, .int .i64 0, .int .i64 (q % 8 + 1), .string (keyB x0), .string (valB x1), .string noB, .int .i64 (q / 8)]) (by simp [results, Try.results42, go_sem, z0, z1, z2, z3, z4, z5, z6, z7]) rfl ⟨rfl, frm_set8 (frm_set7 hF g7) g6, rd_set8 hQ.rd hQ.h6 hQ.np.1⟩

set_option maxHeartbeats 4000000 in
theorem request_3 {w : World} {p : Nat} {l : List Int} (h : RdAt B w p l) (hB : Byt l) (th q : Int) (q0 : 0 ≤ q) (q1 : q ≤ 255) (hv : vc (q % 8 + 1) = 3) :
    Calls Try.prog 42 #[.pointer (some ⟨p, 0, none⟩), .int .i64 th, .int .i64 q] w (Ret (.agg #[.int .i64 (rq th q l).k, .int .i64 (rq th q l).t, .int .i64 (rq th q l).n, .int .i64 (rq th q l).v, .string (rq th q l).key, .string (rq th q l).val, .string (rq th q l).old, .int .i64 (rq th q l).tk]) (fun w' => Frm [p] w w' ∧ RdAt B w' p (l.drop 3))) := by
  have hq : rq th q l = ⟨3, th, 0, q % 8 + 1, keyB (l.getD 0 0), valB (l.getD 2 0), valB (l.getD 1 0), q / 8⟩ := by unfold rq; simp [hv]
  rw [hq]
  have hN := fun w => needs_3 w (q % 8 + 1) hv
  have hg0 := hB.getD 0
  have hg1 := hB.getD 1
  have hg2 := hB.getD 2
  have he1 : (l.drop 1).getD 0 0 = l.getD 1 0 := by rw [getD_drop]
  have he2 : (l.drop 2).getD 0 0 = l.getD 2 0 := by rw [getD_drop]
  obtain ⟨x0, hx0⟩ : ∃ x, x = l.getD 0 0 := ⟨_, rfl⟩
  rw [← hx0] at hg0 ⊢
  obtain ⟨x1, hx1⟩ : ∃ x, x = l.getD 1 0 := ⟨_, rfl⟩
  rw [← hx1] at hg1 ⊢
  rw [← hx1] at he1
  obtain ⟨x2, hx2⟩ : ∃ x, x = l.getD 2 0 := ⟨_, rfl⟩
  rw [← hx2] at hg2 ⊢
  rw [← hx2] at he2
  have hpl : p < w.heap.size := by obtain ⟨_, _, _, _, _, hp, _, _⟩ := h; exact lt_of_heap hp
  have HN := Lib.hid hN
  have HR := Lib.hid h
  have Hhx0 := Lib.hid hx0
  have Hhx1 := Lib.hid hx1
  have Hhx2 := Lib.hid hx2
  have Hhe1 := Lib.hid he1
  have Hhe2 := Lib.hid he2
  clear hN h hq hv hx0 hx1 hx2 he1 he2
  go_enter Try.func42, Try.ntmps42
  go_wp2_with fail
  refine (HN.out _).mono ?_
  rintro e W1 ⟨rfl, hF1⟩
  have hQ : QAt B (W1.alloc (.cells #[.bool true, .bool true, .bool true, .bool false] 91)) p w.heap.size (w.heap.size + 1) W1.heap.size l ⟨3, th, 0, q % 8 + 1, noB, noB, noB, q / 8⟩ true true true false := by
    have hFa : Frm [] w W1 := (((Frm.refl [] w).alloc _).alloc _).trans hF1
    have e6 := hF1.heap (heap_alloc_old (.cells #[.int .i64 3, .int .i64 th, .int .i64 0, .int .i64 (q % 8 + 1), .string noB, .string noB, .string noB, .int .i64 (q / 8)] 30) (heap_alloc_new w (.cells #[.int .i64 0, .int .i64 0, .int .i64 0, .int .i64 0, .string ⟨#[]⟩, .string ⟨#[]⟩, .string ⟨#[]⟩, .int .i64 0] 30))) (by simp)
    have e7 := hF1.heap (heap_alloc_at (k := w.heap.size + 1) (.cells #[.int .i64 3, .int .i64 th, .int .i64 0, .int .i64 (q % 8 + 1), .string noB, .string noB, .string noB, .int .i64 (q / 8)] 30) (by simp)) (by simp)
    have l7 := lt_of_heap e7
    exact ⟨(HR.out.frm0 hFa).frm0 ((Frm.refl [] W1).alloc _), heap_alloc_old _ e6, heap_alloc_old _ e7, heap_alloc_new _ _, by omega, by omega, by omega⟩
  have hF : Frm [p] w (W1.alloc (.cells #[.bool true, .bool true, .bool true, .bool false] 91)) := (((((Frm.refl [] w).alloc _).alloc _).trans hF1).alloc _).nil
  have g7 : w.heap.size ≤ w.heap.size + 1 := by omega
  have g6 : w.heap.size ≤ w.heap.size := by omega
  clear hF1
  go_wp2_with fail
  generalize W1.alloc (.cells #[.bool true, .bool true, .bool true, .bool false] 91) = wX at hQ hF ⊢
  generalize W1.heap.size = b8 at hQ ⊢
  generalize w.heap.size + 1 = b7 at hQ g7 ⊢
  generalize hb6 : w.heap.size = b6 at hQ ⊢
  rw [hb6] at g6
  replace g6 : w.heap.size ≤ b6 := by omega
  clear hb6
  refine (rnext_any hQ.rd).mono ?_
  rintro e w2 ⟨rfl, hF2, hR2⟩
  replace hQ := hQ.call hF2 hR2
  replace hF := hF.trans hF2
  clear hF2 hR2 wX
  rw [← Hhx0.out]
  go_wp2_with fail
  refine (key_any x0 hg0.1 hg0.2 _).mono ?_
  rintro e wX ⟨rfl, hF3⟩
  replace hQ := hQ.quiet hF3
  replace hF := hF.trans hF3.nil
  clear hF3 w2
  obtain ⟨z0, z1, z2, z3, z4, z5, z6, z7⟩ := cells_z hQ.h6
  obtain ⟨c0, c1, c2, c3, c4, c5, c6, c7⟩ := hQ.cells7
  simp only [Nat.zero_add] at c0 c1 c2 c3 c4 c5 c6 c7
  obtain ⟨d0, d1, d2, d3⟩ := hQ.cells8
  have f7 := hQ.fz7
  have m1 := hQ.n78
  have m2 := hQ.n78.symm
  have m3 := hQ.n67
  have m4 := hQ.n68
  have f6 : ∀ i, wX.frozen? ⟨b6, i, none⟩ = false := fun i => frozen_of_heap hQ.h6
  have e6 := hQ.h6
  have hQQ := Lib.hid hQ
  clear hQ
  go_wp2_with fail
  clear z0 z1 z2 z3 z4 z5 z6 z7 c0 c1 c2 c3 c4 c5 c6 c7 d0 d1 d2 d3 f7 m1 m2 m3 m4 f6 e6
  have hQ := hQQ.out
  clear hQQ
  replace hQ := hQ.set 4 (.string (keyB x0)) ⟨3, th, 0, q % 8 + 1, keyB x0, noB, noB, q / 8⟩ rfl
  replace hF := frm_set7 (i := 4) (v := .string (keyB x0)) hF g7
  generalize wX.setCell ⟨b7, 4, none⟩ (.string (keyB x0)) = wY at hQ hF ⊢
  clear wX
  obtain ⟨wX, rfl⟩ : ∃ wX, wX = wY := ⟨_, rfl⟩
  refine (rnext_any hQ.rd).mono ?_
  rintro e w2 ⟨rfl, hF2, hR2⟩
  replace hQ := hQ.call hF2 hR2
  replace hF := hF.trans hF2
  clear hF2 hR2 wX
  rw [List.drop_drop] at hQ
  rw [Hhe1.out]
  go_wp2_with fail
  refine (value_any x1 hg1.1 hg1.2 _).mono ?_
  rintro e wX ⟨rfl, hF3⟩
  replace hQ := hQ.quiet hF3
  replace hF := hF.trans hF3.nil
  clear hF3 w2
  obtain ⟨z0, z1, z2, z3, z4, z5, z6, z7⟩ := cells_z hQ.h6
  obtain ⟨c0, c1, c2, c3, c4, c5, c6, c7⟩ := hQ.cells7
  simp only [Nat.zero_add] at c0 c1 c2 c3 c4 c5 c6 c7
  obtain ⟨d0, d1, d2, d3⟩ := hQ.cells8
  have f7 := hQ.fz7
  have m1 := hQ.n78
  have m2 := hQ.n78.symm
  have m3 := hQ.n67
  have m4 := hQ.n68
  have f6 : ∀ i, wX.frozen? ⟨b6, i, none⟩ = false := fun i => frozen_of_heap hQ.h6
  have e6 := hQ.h6
  have hQQ := Lib.hid hQ
  clear hQ
  go_wp2_with fail
  clear z0 z1 z2 z3 z4 z5 z6 z7 c0 c1 c2 c3 c4 c5 c6 c7 d0 d1 d2 d3 f7 m1 m2 m3 m4 f6 e6
  have hQ := hQQ.out
  clear hQQ
  replace hQ := hQ.set 6 (.string (valB x1)) ⟨3, th, 0, q % 8 + 1, keyB x0, noB, valB x1, q / 8⟩ rfl
  replace hF := frm_set7 (i := 6) (v := .string (valB x1)) hF g7
  generalize wX.setCell ⟨b7, 6, none⟩ (.string (valB x1)) = wY at hQ hF ⊢
  clear wX
  obtain ⟨wX, rfl⟩ : ∃ wX, wX = wY := ⟨_, rfl⟩
  refine (rnext_any hQ.rd).mono ?_
  rintro e w2 ⟨rfl, hF2, hR2⟩
  replace hQ := hQ.call hF2 hR2
  replace hF := hF.trans hF2
  clear hF2 hR2 wX
  rw [List.drop_drop] at hQ
  rw [Hhe2.out]
  go_wp2_with fail
  refine (value_any x2 hg2.1 hg2.2 _).mono ?_
  rintro e wX ⟨rfl, hF3⟩
  replace hQ := hQ.quiet hF3
  replace hF := hF.trans hF3.nil
  clear hF3 w2
  obtain ⟨z0, z1, z2, z3, z4, z5, z6, z7⟩ := cells_z hQ.h6
  obtain ⟨c0, c1, c2, c3, c4, c5, c6, c7⟩ := hQ.cells7
  simp only [Nat.zero_add] at c0 c1 c2 c3 c4 c5 c6 c7
  obtain ⟨d0, d1, d2, d3⟩ := hQ.cells8
  have f7 := hQ.fz7
  have m1 := hQ.n78
  have m2 := hQ.n78.symm
  have m3 := hQ.n67
  have m4 := hQ.n68
  have f6 : ∀ i, wX.frozen? ⟨b6, i, none⟩ = false := fun i => frozen_of_heap hQ.h6
  have e6 := hQ.h6
  have hQQ := Lib.hid hQ
  clear hQ
  go_wp2
  have hQ := (hQQ.out).set 5 (.string (valB x2)) ⟨3, th, 0, q % 8 + 1, keyB x0, valB x2, valB x1, q / 8⟩ rfl
  exact bodyPost_ret (v := .agg #[.int .i64 3, .int .i64 th, .int .i64 0, .int .i64 (q % 8 + 1), .string (keyB x0), .string (valB x2), .string (valB x1), .int .i64 (q / 8)]) (by simp [results, Try.results42, go_sem, z0, z1, z2, z3, z4, z5, z6, z7]) rfl ⟨rfl, frm_set8 (frm_set7 hF g7) g6, rd_set8 hQ.rd hQ.h6 hQ.np.1⟩

set_option maxHeartbeats 4000000 in
theorem request_4 {w : World} {p : Nat} {l : List Int} (h : RdAt B w p l) (hB : Byt l) (th q : Int) (q0 : 0 ≤ q) (q1 : q ≤ 255) (hv : vc (q % 8 + 1) = 4) :
    Calls Try.prog 42 #[.pointer (some ⟨p, 0, none⟩), .int .i64 th, .int .i64 q] w (Ret (.agg #[.int .i64 (rq th q l).k, .int .i64 (rq th q l).t, .int .i64 (rq th q l).n, .int .i64 (rq th q l).v, .string (rq th q l).key, .string (rq th q l).val, .string (rq th q l).old, .int .i64 (rq th q l).tk]) (fun w' => Frm [p] w w' ∧ RdAt B w' p (l.drop 2))) := by
  have hq : rq th q l = ⟨3, th, l.getD 1 0 % 32 + 1, q % 8 + 1, keyB (l.getD 0 0), noB, noB, q / 8⟩ := by unfold rq; simp [hv]
  rw [hq]
  have hN := fun w => needs_4 w (q % 8 + 1) hv
  have hg0 := hB.getD 0
  have hg1 := hB.getD 1
  have he1 : (l.drop 1).getD 0 0 = l.getD 1 0 := by rw [getD_drop]
  obtain ⟨x0, hx0⟩ : ∃ x, x = l.getD 0 0 := ⟨_, rfl⟩
  rw [← hx0] at hg0 ⊢
  obtain ⟨x1, hx1⟩ : ∃ x, x = l.getD 1 0 := ⟨_, rfl⟩
  rw [← hx1] at hg1 ⊢
  rw [← hx1] at he1
  have hpl : p < w.heap.size := by obtain ⟨_, _, _, _, _, hp, _, _⟩ := h; exact lt_of_heap hp
  have HN := Lib.hid hN
  have HR := Lib.hid h
  have Hhx0 := Lib.hid hx0
  have Hhx1 := Lib.hid hx1
  have Hhe1 := Lib.hid he1
  clear hN h hq hv hx0 hx1 he1
  go_enter Try.func42, Try.ntmps42
  go_wp2_with fail
  refine (HN.out _).mono ?_
  rintro e W1 ⟨rfl, hF1⟩
  have hQ : QAt B (W1.alloc (.cells #[.bool true, .bool false, .bool false, .bool true] 91)) p w.heap.size (w.heap.size + 1) W1.heap.size l ⟨3, th, 0, q % 8 + 1, noB, noB, noB, q / 8⟩ true false false true := by
    have hFa : Frm [] w W1 := (((Frm.refl [] w).alloc _).alloc _).trans hF1
    have e6 := hF1.heap (heap_alloc_old (.cells #[.int .i64 3, .int .i64 th, .int .i64 0, .int .i64 (q % 8 + 1), .string noB, .string noB, .string noB, .int .i64 (q / 8)] 30) (heap_alloc_new w (.cells #[.int .i64 0, .int .i64 0, .int .i64 0, .int .i64 0, .string ⟨#[]⟩, .string ⟨#[]⟩, .string ⟨#[]⟩, .int .i64 0] 30))) (by simp)
    have e7 := hF1.heap (heap_alloc_at (k := w.heap.size + 1) (.cells #[.int .i64 3, .int .i64 th, .int .i64 0, .int .i64 (q % 8 + 1), .string noB, .string noB, .string noB, .int .i64 (q / 8)] 30) (by simp)) (by simp)
    have l7 := lt_of_heap e7
    exact ⟨(HR.out.frm0 hFa).frm0 ((Frm.refl [] W1).alloc _), heap_alloc_old _ e6, heap_alloc_old _ e7, heap_alloc_new _ _, by omega, by omega, by omega⟩
  have hF : Frm [p] w (W1.alloc (.cells #[.bool true, .bool false, .bool false, .bool true] 91)) := (((((Frm.refl [] w).alloc _).alloc _).trans hF1).alloc _).nil
  have g7 : w.heap.size ≤ w.heap.size + 1 := by omega
  have g6 : w.heap.size ≤ w.heap.size := by omega
  clear hF1
  go_wp2_with fail
  generalize W1.alloc (.cells #[.bool true, .bool false, .bool false, .bool true] 91) = wX at hQ hF ⊢
  generalize W1.heap.size = b8 at hQ ⊢
  generalize w.heap.size + 1 = b7 at hQ g7 ⊢
  generalize hb6 : w.heap.size = b6 at hQ ⊢
  rw [hb6] at g6
  replace g6 : w.heap.size ≤ b6 := by omega
  clear hb6
  refine (rnext_any hQ.rd).mono ?_
  rintro e w2 ⟨rfl, hF2, hR2⟩
  replace hQ := hQ.call hF2 hR2
  replace hF := hF.trans hF2
  clear hF2 hR2 wX
  rw [← Hhx0.out]
  go_wp2_with fail
  refine (key_any x0 hg0.1 hg0.2 _).mono ?_
  rintro e wX ⟨rfl, hF3⟩
  replace hQ := hQ.quiet hF3
  replace hF := hF.trans hF3.nil
  clear hF3 w2
  obtain ⟨z0, z1, z2, z3, z4, z5, z6, z7⟩ := cells_z hQ.h6
  obtain ⟨c0, c1, c2, c3, c4, c5, c6, c7⟩ := hQ.cells7
  simp only [Nat.zero_add] at c0 c1 c2 c3 c4 c5 c6 c7
  obtain ⟨d0, d1, d2, d3⟩ := hQ.cells8
  have f7 := hQ.fz7
  have m1 := hQ.n78
  have m2 := hQ.n78.symm
  have m3 := hQ.n67
  have m4 := hQ.n68
  have f6 : ∀ i, wX.frozen? ⟨b6, i, none⟩ = false := fun i => frozen_of_heap hQ.h6
  have e6 := hQ.h6
  have hQQ := Lib.hid hQ
  clear hQ
  go_wp2_with fail
  clear z0 z1 z2 z3 z4 z5 z6 z7 c0 c1 c2 c3 c4 c5 c6 c7 d0 d1 d2 d3 f7 m1 m2 m3 m4 f6 e6
  have hQ := hQQ.out
  clear hQQ
  replace hQ := hQ.set 4 (.string (keyB x0)) ⟨3, th, 0, q % 8 + 1, keyB x0, noB, noB, q / 8⟩ rfl
  replace hF := frm_set7 (i := 4) (v := .string (keyB x0)) hF g7
  generalize wX.setCell ⟨b7, 4, none⟩ (.string (keyB x0)) = wY at hQ hF ⊢
  clear wX
  obtain ⟨wX, rfl⟩ : ∃ wX, wX = wY := ⟨_, rfl⟩
  refine (rnext_any hQ.rd).mono ?_
  rintro e w2 ⟨rfl, hF2, hR2⟩
  replace hQ := hQ.call hF2 hR2
  replace hF := hF.trans hF2
  clear hF2 hR2 wX
  rw [List.drop_drop] at hQ
  rw [Hhe1.out]
  obtain ⟨wX, hwX⟩ : ∃ wX, wX = w2 := ⟨_, rfl⟩
  subst hwX
  obtain ⟨z0, z1, z2, z3, z4, z5, z6, z7⟩ := cells_z hQ.h6
  obtain ⟨c0, c1, c2, c3, c4, c5, c6, c7⟩ := hQ.cells7
  simp only [Nat.zero_add] at c0 c1 c2 c3 c4 c5 c6 c7
  obtain ⟨d0, d1, d2, d3⟩ := hQ.cells8
  have f7 := hQ.fz7
  have m1 := hQ.n78
  have m2 := hQ.n78.symm
  have m3 := hQ.n67
  have m4 := hQ.n68
  have f6 : ∀ i, wX.frozen? ⟨b6, i, none⟩ = false := fun i => frozen_of_heap hQ.h6
  have e6 := hQ.h6
  have hQQ := Lib.hid hQ
  clear hQ
  go_wp2
  have hQ := (hQQ.out).set 2 (.int .i64 (x1 % 32 + 1)) ⟨3, th, x1 % 32 + 1, q % 8 + 1, keyB x0, noB, noB, q / 8⟩ rfl
  exact bodyPost_ret (v := .agg #[.int .i64 3, .int .i64 th, .int .i64 (x1 % 32 + 1), .int .i64 (q % 8 + 1), .string (keyB x0), .string noB, .string noB, .int .i64 (q / 8)]) (by simp [results, Try.results42, go_sem, z0, z1, z2, z3, z4, z5, z6, z7]) rfl ⟨rfl, frm_set8 (frm_set7 hF g7) g6, rd_set8 hQ.rd hQ.h6 hQ.np.1⟩

theorem request_any {w : World} {p : Nat} {l : List Int} (h : RdAt B w p l) (hB : Byt l) (th q : Int) (q0 : 0 ≤ q) (q1 : q ≤ 255) :
    Calls Try.prog 42 #[.pointer (some ⟨p, 0, none⟩), .int .i64 th, .int .i64 q] w (Ret (.agg #[.int .i64 (rq th q l).k, .int .i64 (rq th q l).t, .int .i64 (rq th q l).n, .int .i64 (rq th q l).v, .string (rq th q l).key, .string (rq th q l).val, .string (rq th q l).old, .int .i64 (rq th q l).tk]) (fun w' => Frm [p] w w' ∧ RdAt B w' p (l.drop (vlen (q % 8 + 1))))) := by
  rcases vc_cases (q % 8 + 1) with hv | hv | hv | hv | hv
  · have e : vlen (q % 8 + 1) = 0 := by unfold vlen; rw [hv]; rfl
    rw [e]; exact request_0 h hB th q q0 q1 hv
  · have e : vlen (q % 8 + 1) = 1 := by unfold vlen; rw [hv]; rfl
    rw [e]; exact request_1 h hB th q q0 q1 hv
  · have e : vlen (q % 8 + 1) = 2 := by unfold vlen; rw [hv]; rfl
    rw [e]; exact request_2 h hB th q q0 q1 hv
  · have e : vlen (q % 8 + 1) = 3 := by unfold vlen; rw [hv]; rfl
    rw [e]; exact request_3 h hB th q q0 q1 hv
  · have e : vlen (q % 8 + 1) = 2 := by unfold vlen; rw [hv]; rfl
    rw [e]; exact request_4 h hB th q q0 q1 hv
end Go.Proofs.Ytegoggnocpgoiaa
