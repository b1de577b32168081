/- The reference's clock: Set. -/
import Derived.Test.YtamnhpcbflpabaaClkR
namespace Go.Proofs.Ytamnhpcbflpabaa
open Go.ChangeShapes Go.WideShapes Go.ChangeAt Go.RowKit

/-- What a method of the reference's clock returns: a clock, and an error. -/
def RPost (w : World) (v : Value) (now : Int) (l : List Al) (err : Int) (e : Ending) (w' : World) : Prop :=
  ∃ a n c, Ret (.tuple #[.agg #[.int .i64 now, .slice a n c], .int .i64 err]) (fun w' => Frm [] w w' ∧ Als w' (.slice a n c) l ∧ ∀ x ∈ blk (.slice a n c), x ∈ blk v ∨ w.heap.size ≤ x) e w'

set_option maxHeartbeats 1000000 in
theorem rset_arg {w : World} {now : Int} {a : Option Addr} {n c : Nat} {l : List Al} (hA : Als w (.slice a n c) l) (id at' : Int) (hb : id < 0 ∨ tk at' = false) :
    Calls Try.prog 34 #[.agg #[.int .i64 now, .slice a n c], .int .i64 id, .int .i64 at'] w (RPost w (.slice a n c) now l 2) := by
  by_cases h0 : id < 0
  · have e1 : decide (id < 0) = true := by simpa using h0
    clear hb
    go_enter Try.func34, Try.ntmps34
    go_wp2
    refine bodyPost_ret (v := .tuple #[.agg #[.int .i64 now, .slice a n c], .int .i64 2]) (by simp [results, Try.results34, go_sem]) rfl ⟨a, n, c, rfl, ((Frm.refl _ _).alloc _).alloc _, (hA.alloc _).alloc _, fun x hx => .inl hx⟩
  · have e1 : decide (id < 0) = false := by simpa using h0
    have ht : tk at' = false := hb.resolve_left h0
    have HT := Lib.hid ht
    clear hb ht
    go_enter Try.func34, Try.ntmps34
    go_wp2_with (go_at_call 9; refine (rtick_any _ _).mono ?_; rintro e w' ⟨rfl, rfl⟩; rw [HT.out])
    refine bodyPost_ret (v := .tuple #[.agg #[.int .i64 now, .slice a n c], .int .i64 2]) (by simp [results, Try.results34, go_sem]) rfl ⟨a, n, c, rfl, ((Frm.refl _ _).alloc _).alloc _, (hA.alloc _).alloc _, fun x hx => .inl hx⟩

theorem rclock_cells {w : World} {b : Nat} {x0 x1 : Value} {t : TypeId} (hb : w.heap[b]? = some (.cells #[x0, x1] t (0, 0))) :
    w.cell? ⟨b, 0, none⟩ = some x0 ∧ w.cell? ⟨b, 1, none⟩ = some x1 ∧ w.frozen? ⟨b, 0, none⟩ = false ∧ w.frozen? ⟨b, 1, none⟩ = false :=
  ⟨(cells2 hb).1, (cells2 hb).2, frozen_of_heap hb, frozen_of_heap hb⟩
theorem setCells2 {w : World} {b : Nat} {x0 x1 : Value} {t : TypeId} {f : Nat × Nat} (h : w.heap[b]? = some (.cells #[x0, x1] t f)) (y0 y1 : Value) :
    ((w.setCell ⟨b, 0, none⟩ y0).setCell ⟨b, 1, none⟩ y1).heap[b]? = some (.cells #[y0, y1] t f) := by
  have := heap_setCell_at (i := 1) y1 (heap_setCell_at (i := 0) y0 h)
  simpa using this

set_option maxHeartbeats 2000000 in
theorem rset_err {w : World} {now : Int} {a : Option Addr} {n c : Nat} {l : List Al} (hA : Als w (.slice a n c) l) (hl : l.length ≤ 5000) (id at' : Int) (h0 : ¬ id < 0) (ht : tk at' = true) :
    (hasB l id = true → Calls Try.prog 34 #[.agg #[.int .i64 now, .slice a n c], .int .i64 id, .int .i64 at'] w (RPost w (.slice a n c) now l 11)) ∧
    (hasB l id = false → l.length = 4096 → Calls Try.prog 34 #[.agg #[.int .i64 now, .slice a n c], .int .i64 id, .int .i64 at'] w (RPost w (.slice a n c) now l 7)) := by
  have e1 : decide (id < 0) = false := by simpa using h0
  have HT := Lib.hid ht
  have hA2 := fun o1 o2 => (hA.alloc o1).alloc o2
  have hlen : n = l.length := by obtain ⟨_, _, e⟩ := als_slice hA; cases e; rfl
  clear ht
  refine ⟨fun hh => ?_, fun hh hfull => ?_⟩
  · have HH := Lib.hid hh
    clear hh hlen
    go_enter Try.func34, Try.ntmps34
    go_wp2_with fail
    refine (rtick_any _ _).mono ?_
    rintro e w' ⟨rfl, rfl⟩
    rw [HT.out]
    go_wp2_with fail
    refine (has_any (hA2 _ _) hl id).mono ?_
    rintro e w1 ⟨rfl, hF1⟩
    rw [HH.out]
    have hT3 : w1.heap[w.heap.size]? = some (.cells #[.int .i64 now, .slice a n c] 35 (0, 0)) := hF1.heap (heap_alloc_old _ (heap_alloc_new w _)) (by simp)
    have hT6 : w1.heap[w.heap.size + 1]? = some (.cells #[.int .i64 0, .slice none 0 0] 35 (0, 0)) := hF1.heap (heap_alloc_at _ (by simp)) (by simp)
    have hF : Frm [] w w1 := (((Frm.refl _ w).alloc _).alloc _).trans hF1
    have hA1 := (hA2 _ _).frm hF1 (by simp)
    obtain ⟨k1, k2, k3, k4⟩ := rclock_cells hT3
    obtain ⟨k5, k6, k7, k8⟩ := rclock_cells hT6
    have HT6 := Lib.hid hT6
    clear hT3 hT6 hF1
    go_wp2
    have hE := setCells2 HT6.out (.int .i64 now) (.slice a n c)
    have hFE : Frm [] w ((w1.setCell ⟨w.heap.size + 1, 0, none⟩ (.int .i64 now)).setCell ⟨w.heap.size + 1, 1, none⟩ (.slice a n c)) := (hF.setCell _ _ (.inr (by simp))).setCell _ _ (.inr (by simp))
    have hAE : Als ((w1.setCell ⟨w.heap.size + 1, 0, none⟩ (.int .i64 now)).setCell ⟨w.heap.size + 1, 1, none⟩ (.slice a n c)) (.slice a n c) l := hA.frm hFE (by simp)
    generalize ((w1.setCell ⟨w.heap.size + 1, 0, none⟩ (.int .i64 now)).setCell ⟨w.heap.size + 1, 1, none⟩ (.slice a n c)) = w2 at hE hFE hAE ⊢
    obtain ⟨r0, r1⟩ := cells2 hE
    refine bodyPost_ret (v := .tuple #[.agg #[.int .i64 now, .slice a n c], .int .i64 11]) (by simp [results, Try.results34, go_sem, r0, r1]) rfl ⟨a, n, c, rfl, hFE, hAE, fun x hx => .inl hx⟩
  · have HH := Lib.hid hh
    have hnf : ((n : Int) == 4096) = true := by simp; omega
    clear hh hlen hfull
    go_enter Try.func34, Try.ntmps34
    go_wp2_with fail
    refine (rtick_any _ _).mono ?_
    rintro e w' ⟨rfl, rfl⟩
    rw [HT.out]
    go_wp2_with fail
    refine (has_any (hA2 _ _) hl id).mono ?_
    rintro e w1 ⟨rfl, hF1⟩
    rw [HH.out]
    have hT3 : w1.heap[w.heap.size]? = some (.cells #[.int .i64 now, .slice a n c] 35 (0, 0)) := hF1.heap (heap_alloc_old _ (heap_alloc_new w _)) (by simp)
    have hT6 : w1.heap[w.heap.size + 1]? = some (.cells #[.int .i64 0, .slice none 0 0] 35 (0, 0)) := hF1.heap (heap_alloc_at _ (by simp)) (by simp)
    have hF : Frm [] w w1 := (((Frm.refl _ w).alloc _).alloc _).trans hF1
    obtain ⟨k1, k2, k3, k4⟩ := rclock_cells hT3
    obtain ⟨k5, k6, k7, k8⟩ := rclock_cells hT6
    have HT6 := Lib.hid hT6
    clear hT3 hT6 hF1
    go_wp2
    have hE := setCells2 HT6.out (.int .i64 now) (.slice a n c)
    have hFE : Frm [] w ((w1.setCell ⟨w.heap.size + 1, 0, none⟩ (.int .i64 now)).setCell ⟨w.heap.size + 1, 1, none⟩ (.slice a n c)) := (hF.setCell _ _ (.inr (by simp))).setCell _ _ (.inr (by simp))
    have hAE : Als ((w1.setCell ⟨w.heap.size + 1, 0, none⟩ (.int .i64 now)).setCell ⟨w.heap.size + 1, 1, none⟩ (.slice a n c)) (.slice a n c) l := hA.frm hFE (by simp)
    generalize ((w1.setCell ⟨w.heap.size + 1, 0, none⟩ (.int .i64 now)).setCell ⟨w.heap.size + 1, 1, none⟩ (.slice a n c)) = w2 at hE hFE hAE ⊢
    obtain ⟨r0, r1⟩ := cells2 hE
    refine bodyPost_ret (v := .tuple #[.agg #[.int .i64 now, .slice a n c], .int .i64 7]) (by simp [results, Try.results34, go_sem, r0, r1]) rfl ⟨a, n, c, rfl, hFE, hAE, fun x hx => .inl hx⟩
end Go.Proofs.Ytamnhpcbflpabaa
