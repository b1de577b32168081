/- Package mem: an arena that allows one access. -/
import Derived.Test.YtieccmmnfnpcoaaThS
import Derived.Deep.RegionHeld3
namespace Go.Proofs.Ytieccmmnfnpcoaa
open Go.ChangeShapes Go.WideShapes Go.ChangeAt Go.RowKit

/-- An Once at block q of the arena at block p, with the access a noted. -/
def OnceAt (w : World) (q p : Nat) (a : Acc) : Prop :=
  w.heap[q]? = some (.cells #[.pointer (some ⟨p, 0, none⟩), .int .i64 a.k, .int .i64 a.w, .int .u64 a.b, .int .u64 a.a] 150 (0, 0))
theorem OnceAt.frm {D : List Nat} {w w' : World} {q p : Nat} {a : Acc} (ho : OnceAt w q p a) (hf : Frm D w w') (hq : q ∉ D) : OnceAt w' q p a := hf.heap ho hq
theorem OnceAt.lt {w : World} {q p : Nat} {a : Acc} (ho : OnceAt w q p a) : q < w.heap.size := lt_of_heap ho
theorem cells5 {w : World} {b : Nat} {x0 x1 x2 x3 x4 : Value} {t : TypeId} (h : w.heap[b]? = some (.cells #[x0, x1, x2, x3, x4] t (0, 0))) :
    w.cell? ⟨b, 0, none⟩ = some x0 ∧ w.cell? ⟨b, 1, none⟩ = some x1 ∧ w.cell? ⟨b, 2, none⟩ = some x2 ∧ w.cell? ⟨b, 3, none⟩ = some x3 ∧ w.cell? ⟨b, 4, none⟩ = some x4 := by
  refine ⟨?_, ?_, ?_, ?_, ?_⟩ <;> rw [cell_of_heap h] <;> rfl

def oErr (a : Acc) (n : Nat) (k wd : Int) : Int := if a.k = 0 then mErr n k wd else 11
def oRes (a : Acc) (ws : List Int) (b : Acc) : Acc := if a.k = 0 then mRes ws b else ⟨0, 0, 0, 0⟩
def oWs (a : Acc) (ws : List Int) (b : Acc) : List Int := if a.k = 0 then mWs ws b else ws
def oAcc (a : Acc) (ws : List Int) (b : Acc) : Acc := if a.k = 0 then (if mErr ws.length b.k b.w = 0 then mRes ws b else a) else a

theorem setCells5 {w : World} {b : Nat} {x0 x1 x2 x3 x4 : Value} {t : TypeId} {f : Nat × Nat} (h : w.heap[b]? = some (.cells #[x0, x1, x2, x3, x4] t f)) (y1 y2 y3 y4 : Value) :
    ((((w.setCell ⟨b, 1, none⟩ y1).setCell ⟨b, 2, none⟩ y2).setCell ⟨b, 3, none⟩ y3).setCell ⟨b, 4, none⟩ y4).heap[b]? = some (.cells #[x0, y1, y2, y3, y4] t f) := by
  have := heap_setCell_at (i := 4) y4 (heap_setCell_at (i := 3) y3 (heap_setCell_at (i := 2) y2 (heap_setCell_at (i := 1) y1 h)))
  simpa using this
theorem onone_nil (w : World) : Calls Try.prog 88 #[.pointer none] w (Ret (.bool true) (fun w' => w = w')) := by
  go_enter Try.func88, Try.ntmps88
  go_wp2
  go_ret
  exact ⟨rfl, rfl⟩
theorem onone_zero (w : World) (q : Nat) (hq : w.cell? ⟨q, 0, none⟩ = some (.pointer none)) : Calls Try.prog 88 #[.pointer (some ⟨q, 0, none⟩)] w (Ret (.bool true) (fun w' => w = w')) := by
  go_enter Try.func88, Try.ntmps88
  go_wp2
  go_ret
  exact ⟨rfl, rfl⟩
theorem onone_some {w : World} {q p : Nat} {a : Acc} (ho : OnceAt w q p a) : Calls Try.prog 88 #[.pointer (some ⟨q, 0, none⟩)] w (Ret (.bool false) (fun w' => w = w')) := by
  obtain ⟨h0, h1, h2, h3, h4⟩ := cells5 ho
  go_enter Try.func88, Try.ntmps88
  go_wp2
  go_ret
  exact ⟨rfl, rfl⟩

theorem newonce_ok {w : World} {p d c : Nat} {ws : List Int} (hM : MemAt w p d c ws) :
    Calls Try.prog 72 #[.pointer (some ⟨p, 0, none⟩)] w
    (fun e w' => ∃ q, Ret (.tuple #[.pointer (some ⟨q, 0, none⟩), .int .i64 0]) (fun w' => Frm [] w w' ∧ OnceAt w' q p ⟨0, 0, 0, 0⟩ ∧ w.heap.size ≤ q) e w') := by
  have hcp := hM.cellp
  go_enter Try.func72, Try.ntmps72
  go_wp2_with (go_at_call 53; refine (none_mem hM).mono ?_; rintro e w' ⟨rfl, rfl⟩)
  go_ret2
  exact ⟨_, rfl, (Frm.refl _ _).alloc _, heap_alloc_new _ _, Nat.le_refl _⟩

theorem oaccess_ok {w : World} {q p : Nat} {a : Acc} (ho : OnceAt w q p a) :
    Calls Try.prog 75 #[.pointer (some ⟨q, 0, none⟩)] w (Ret (.agg #[.int .i64 a.k, .int .i64 a.w, .int .u64 a.b, .int .u64 a.a]) (fun w' => Frm [] w w')) := by
  obtain ⟨h0, h1, h2, h3, h4⟩ := cells5 ho
  have hq := ho.lt
  have hal : ∀ o, OnceAt (w.alloc o) q p a := fun o => ho.frm ((Frm.refl [] w).alloc o) (by simp)
  go_enter Try.func75, Try.ntmps75
  go_wp2_with (go_at_call 88; refine (onone_some (hal _)).mono ?_; rintro e w' ⟨rfl, rfl⟩)
  refine bodyPost_ret (v := .agg #[.int .i64 a.k, .int .i64 a.w, .int .u64 a.b, .int .u64 a.a]) (by simp [results, Try.results75, go_sem]) rfl ⟨rfl, (Frm.refl _ _).alloc _⟩

set_option maxHeartbeats 3200000 in
theorem odo_any {w : World} {q p d c : Nat} {a : Acc} {ws : List Int} (ho : OnceAt w q p a) (hM : MemAt w p d c ws) (hqp : q ≠ p) (hqd : q ≠ d) (k wd bf af : Int) :
    Calls Try.prog 126 #[.pointer (some ⟨q, 0, none⟩), .agg #[.int .i64 k, .int .i64 wd, .int .u64 bf, .int .u64 af]] w
    (Ret (.tuple #[.agg #[.int .i64 (oRes a ws ⟨k, wd, bf, af⟩).k, .int .i64 (oRes a ws ⟨k, wd, bf, af⟩).w, .int .u64 (oRes a ws ⟨k, wd, bf, af⟩).b, .int .u64 (oRes a ws ⟨k, wd, bf, af⟩).a], .int .i64 (oErr a ws.length k wd)])
      (fun w' => Frm [d, q] w w' ∧ MemAt w' p d c (oWs a ws ⟨k, wd, bf, af⟩) ∧ OnceAt w' q p (oAcc a ws ⟨k, wd, bf, af⟩))) := by
  obtain ⟨h0, h1, h2, h3, h4⟩ := cells5 ho
  have hq := ho.lt
  have hdl := hM.dlt
  have hal : ∀ o1 o2, OnceAt ((w.alloc o1).alloc o2) q p a := fun o1 o2 => ho.frm (((Frm.refl [] w).alloc o1).alloc o2) (by simp)
  have hml : ∀ o1 o2, MemAt ((w.alloc o1).alloc o2) p d c ws := fun o1 o2 => (hM.alloc o1).alloc o2
  by_cases ha : a.k = 0
  · have hr : oRes a ws ⟨k, wd, bf, af⟩ = mRes ws ⟨k, wd, bf, af⟩ := by simp [oRes, ha]
    have hw : oWs a ws ⟨k, wd, bf, af⟩ = mWs ws ⟨k, wd, bf, af⟩ := by simp [oWs, ha]
    have he : oErr a ws.length k wd = mErr ws.length k wd := by simp [oErr, ha]
    have hb : (a.k != 0) = false := by simp [ha]
    rw [hr, hw, he]
    clear hr hw he
    go_enter Try.func126, Try.ntmps126
    have HA := Lib.hid ha
    clear ha
    go_wp2_with (go_at_call 88; refine (onone_some (hal _ _)).mono ?_; rintro e w' ⟨rfl, rfl⟩)
    have kS : ∀ w1, Frm [d] (((w.alloc (.cells #[.int .i64 k, .int .i64 wd, .int .u64 bf, .int .u64 af] 43)).alloc (.cells #[.int .i64 0, .int .i64 0, .int .u64 0, .int .u64 0] 43)).alloc (.cells #[.int .i64 0, .int .i64 0, .int .u64 0, .int .u64 0] 43)).drew w1 → w1.heap[w.heap.size + 1 + 1]? = some (.cells #[.int .i64 0, .int .i64 0, .int .u64 0, .int .u64 0] 43) := fun w1 hF =>
      hF.heap (heap_alloc_at _ (by simp)) (by simp; omega)
    have kc := fun w1 hF => cells4 (kS w1 hF)
    have kf := fun w1 hF => frozen4 (kS w1 hF)
    have KS := Lib.hid kS
    clear kS
    have kq : ∀ w', Frm [d] ((w.alloc (.cells #[.int .i64 k, .int .i64 wd, .int .u64 bf, .int .u64 af] 43)).alloc (.cells #[.int .i64 0, .int .i64 0, .int .u64 0, .int .u64 0] 43)) w' → w'.cell? ⟨q, 0, none⟩ = some (.pointer (some ⟨p, 0, none⟩)) := fun w' hF => by
      rw [hF.cell (by simp; omega) (by simp; omega)]; simpa [World.cell?_alloc_lt, Nat.lt_succ_of_lt hq, hq] using h0
    have kb := fun w' (hF : Frm [d] ((w.alloc (.cells #[.int .i64 k, .int .i64 wd, .int .u64 bf, .int .u64 af] 43)).alloc (.cells #[.int .i64 0, .int .i64 0, .int .u64 0, .int .u64 0] 43)) w') => cells4 (hF.heap (heap_alloc_old _ (heap_alloc_new w (.cells #[.int .i64 k, .int .i64 wd, .int .u64 bf, .int .u64 af] 43))) (by simp; omega))
    go_region_held3 (fun w' => Frm [d] ((w.alloc (.cells #[.int .i64 k, .int .i64 wd, .int .u64 bf, .int .u64 af] 43)).alloc (.cells #[.int .i64 0, .int .i64 0, .int .u64 0, .int .u64 0] 43)) w')
      ((repeat' (first | assumption | exact Frm.refl _ _ | apply Frm.drew | apply Frm.alloc | (refine Frm.trans ?_ hF1) | (refine Frm.setCell ?_ _ _ (.inr (by simp))) | (refine Frm.setCell ?_ _ _ (.inr (by have := hF1.size; simp at this ⊢; omega))))))
      ((go_at_call 78; refine (do_mem (p := p) (d := d) (c := c) (ws := ws) (by repeat' (first | exact hM | apply MemAt.alloc | apply MemAt.drewN | apply MemAt.drew)) _ _ _ _).mono ?_; rintro e w1 ⟨rfl, hF1, hM1⟩))
    · have hF2 : Frm [d] ((w.alloc (.cells #[.int .i64 k, .int .i64 wd, .int .u64 bf, .int .u64 af] 43)).alloc (.cells #[.int .i64 0, .int .i64 0, .int .u64 0, .int .u64 0] 43)) (w1.alloc (.cells #[.int .i64 (mRes ws ⟨k, wd, bf, af⟩).k, .int .i64 (mRes ws ⟨k, wd, bf, af⟩).w, .int .u64 (mRes ws ⟨k, wd, bf, af⟩).b, .int .u64 (mRes ws ⟨k, wd, bf, af⟩).a] 43)) := ((Frm.refl _ _).drew.trans hF1).alloc _
      have hM2 := hM1.alloc (.cells #[.int .i64 (mRes ws ⟨k, wd, bf, af⟩).k, .int .i64 (mRes ws ⟨k, wd, bf, af⟩).w, .int .u64 (mRes ws ⟨k, wd, bf, af⟩).b, .int .u64 (mRes ws ⟨k, wd, bf, af⟩).a] 43)
      have hS2 := heap_alloc_new w1 (.cells #[.int .i64 (mRes ws ⟨k, wd, bf, af⟩).k, .int .i64 (mRes ws ⟨k, wd, bf, af⟩).w, .int .u64 (mRes ws ⟨k, wd, bf, af⟩).b, .int .u64 (mRes ws ⟨k, wd, bf, af⟩).a] 43)
      have hsz : w.heap.size + 1 < w1.heap.size := by have := hF1.size; simp at this; omega
      generalize (w1.alloc (.cells #[.int .i64 (mRes ws ⟨k, wd, bf, af⟩).k, .int .i64 (mRes ws ⟨k, wd, bf, af⟩).w, .int .u64 (mRes ws ⟨k, wd, bf, af⟩).b, .int .u64 (mRes ws ⟨k, wd, bf, af⟩).a] 43)) = w2 at hF2 hM2 hS2 ⊢
      generalize w1.heap.size = s6 at hS2 hsz ⊢
      clear hF1 hM1
      have hqp' : q < w2.heap.size := Nat.lt_of_lt_of_le (by simp; omega) hF2.size
      have hplt := hM2.plt
      have hpq := hM.plt
      have hO2 : w2.heap[q]? = some (.cells #[.pointer (some ⟨p, 0, none⟩), .int .i64 a.k, .int .i64 a.w, .int .u64 a.b, .int .u64 a.a] 150 (0, 0)) := hF2.heap (heap_alloc_old _ (heap_alloc_old _ ho)) (by simp; omega)
      have hR2 : w2.heap[w.heap.size + 1]? = some (.cells #[.int .i64 0, .int .i64 0, .int .u64 0, .int .u64 0] 43) := hF2.heap (heap_alloc_at _ (by simp)) (by simp; omega)
      have hFw : Frm [d, q] w w2 := (((Frm.refl _ w).alloc _).alloc _).trans (hF2.weak (by simp))
      obtain ⟨s0, s1, s2, s3⟩ := cells4 hS2
      obtain ⟨r0, r1, r2, r3⟩ := cells4 hR2
      obtain ⟨f0, f1, f2, f3⟩ := frozen4 hR2
      obtain ⟨o0, o1, o2, o3, o4⟩ := cells5 hO2
      have g1 : w2.frozen? ⟨q, 1, none⟩ = false := frozen_of_heap hO2
      have g2 : w2.frozen? ⟨q, 2, none⟩ = false := frozen_of_heap hO2
      have g3 : w2.frozen? ⟨q, 3, none⟩ = false := frozen_of_heap hO2
      have g4 : w2.frozen? ⟨q, 4, none⟩ = false := frozen_of_heap hO2
      have HO := Lib.hid hO2
      have HR := Lib.hid hR2
      have HS := Lib.hid hS2
      clear hO2 hR2 hS2 hF2 h0 h1 h2 h3 h4 kq kb hal hml
      by_cases he : mErr ws.length k wd = 0
      · have hb0 : (mErr ws.length k wd == 0) = true := by simp [he]
        have HE := Lib.hid he
        clear he
        go_wp2_with fail
        have hO3 := setCells5 HO.out (.int .i64 (mRes ws ⟨k, wd, bf, af⟩).k) (.int .i64 (mRes ws ⟨k, wd, bf, af⟩).w) (.int .u64 (mRes ws ⟨k, wd, bf, af⟩).b) (.int .u64 (mRes ws ⟨k, wd, bf, af⟩).a)
        have hO3' : OnceAt ((((w2.setCell ⟨q, 1, none⟩ (.int .i64 (mRes ws ⟨k, wd, bf, af⟩).k)).setCell ⟨q, 2, none⟩ (.int .i64 (mRes ws ⟨k, wd, bf, af⟩).w)).setCell ⟨q, 3, none⟩ (.int .u64 (mRes ws ⟨k, wd, bf, af⟩).b)).setCell ⟨q, 4, none⟩ (.int .u64 (mRes ws ⟨k, wd, bf, af⟩).a)) q p (oAcc a ws ⟨k, wd, bf, af⟩) := by
          have e : oAcc a ws ⟨k, wd, bf, af⟩ = mRes ws ⟨k, wd, bf, af⟩ := by simp [oAcc, HA.out, HE.out]
          rw [e]; exact hO3
        have hF3 : Frm [d, q] w ((((w2.setCell ⟨q, 1, none⟩ (.int .i64 (mRes ws ⟨k, wd, bf, af⟩).k)).setCell ⟨q, 2, none⟩ (.int .i64 (mRes ws ⟨k, wd, bf, af⟩).w)).setCell ⟨q, 3, none⟩ (.int .u64 (mRes ws ⟨k, wd, bf, af⟩).b)).setCell ⟨q, 4, none⟩ (.int .u64 (mRes ws ⟨k, wd, bf, af⟩).a)) := by
          exact hFw.set4 _ _ _ _ _ _ _ _ _ (.inl (by simp))
        have hM3 : MemAt ((((w2.setCell ⟨q, 1, none⟩ (.int .i64 (mRes ws ⟨k, wd, bf, af⟩).k)).setCell ⟨q, 2, none⟩ (.int .i64 (mRes ws ⟨k, wd, bf, af⟩).w)).setCell ⟨q, 3, none⟩ (.int .u64 (mRes ws ⟨k, wd, bf, af⟩).b)).setCell ⟨q, 4, none⟩ (.int .u64 (mRes ws ⟨k, wd, bf, af⟩).a)) p d c (mWs ws ⟨k, wd, bf, af⟩) := by
          exact hM2.setFar4 _ _ _ _ _ _ _ _ _ hqp hqd
        have hR3 : (((((w2.setCell ⟨q, 1, none⟩ (.int .i64 (mRes ws ⟨k, wd, bf, af⟩).k)).setCell ⟨q, 2, none⟩ (.int .i64 (mRes ws ⟨k, wd, bf, af⟩).w)).setCell ⟨q, 3, none⟩ (.int .u64 (mRes ws ⟨k, wd, bf, af⟩).b)).setCell ⟨q, 4, none⟩ (.int .u64 (mRes ws ⟨k, wd, bf, af⟩).a))).heap[w.heap.size + 1]? = some (.cells #[.int .i64 0, .int .i64 0, .int .u64 0, .int .u64 0] 43) := by
          exact heap_set4_far _ _ _ _ _ _ _ _ _ (by omega) HR.out
        generalize ((((w2.setCell ⟨q, 1, none⟩ (.int .i64 (mRes ws ⟨k, wd, bf, af⟩).k)).setCell ⟨q, 2, none⟩ (.int .i64 (mRes ws ⟨k, wd, bf, af⟩).w)).setCell ⟨q, 3, none⟩ (.int .u64 (mRes ws ⟨k, wd, bf, af⟩).b)).setCell ⟨q, 4, none⟩ (.int .u64 (mRes ws ⟨k, wd, bf, af⟩).a)) = w3 at hO3 hO3' hF3 hM3 hR3 ⊢
        have hRz := setCells4 hR3 (.int .i64 (mRes ws ⟨k, wd, bf, af⟩).k) (.int .i64 (mRes ws ⟨k, wd, bf, af⟩).w) (.int .u64 (mRes ws ⟨k, wd, bf, af⟩).b) (.int .u64 (mRes ws ⟨k, wd, bf, af⟩).a)
        have hFz : Frm [d, q] w ((((w3.setCell ⟨w.heap.size + 1, 0, none⟩ (.int .i64 (mRes ws ⟨k, wd, bf, af⟩).k)).setCell ⟨w.heap.size + 1, 1, none⟩ (.int .i64 (mRes ws ⟨k, wd, bf, af⟩).w)).setCell ⟨w.heap.size + 1, 2, none⟩ (.int .u64 (mRes ws ⟨k, wd, bf, af⟩).b)).setCell ⟨w.heap.size + 1, 3, none⟩ (.int .u64 (mRes ws ⟨k, wd, bf, af⟩).a)) := by
          exact hF3.set4 _ _ _ _ _ _ _ _ _ (.inr (Nat.le_succ _))
        have hMz : MemAt ((((w3.setCell ⟨w.heap.size + 1, 0, none⟩ (.int .i64 (mRes ws ⟨k, wd, bf, af⟩).k)).setCell ⟨w.heap.size + 1, 1, none⟩ (.int .i64 (mRes ws ⟨k, wd, bf, af⟩).w)).setCell ⟨w.heap.size + 1, 2, none⟩ (.int .u64 (mRes ws ⟨k, wd, bf, af⟩).b)).setCell ⟨w.heap.size + 1, 3, none⟩ (.int .u64 (mRes ws ⟨k, wd, bf, af⟩).a)) p d c (mWs ws ⟨k, wd, bf, af⟩) := by
          exact hM3.setFar4 _ _ _ _ _ _ _ _ _ (by omega) (by omega)
        have hOz : OnceAt ((((w3.setCell ⟨w.heap.size + 1, 0, none⟩ (.int .i64 (mRes ws ⟨k, wd, bf, af⟩).k)).setCell ⟨w.heap.size + 1, 1, none⟩ (.int .i64 (mRes ws ⟨k, wd, bf, af⟩).w)).setCell ⟨w.heap.size + 1, 2, none⟩ (.int .u64 (mRes ws ⟨k, wd, bf, af⟩).b)).setCell ⟨w.heap.size + 1, 3, none⟩ (.int .u64 (mRes ws ⟨k, wd, bf, af⟩).a)) q p (oAcc a ws ⟨k, wd, bf, af⟩) := by
          exact heap_set4_far _ _ _ _ _ _ _ _ _ (by omega) hO3'
        generalize ((((w3.setCell ⟨w.heap.size + 1, 0, none⟩ (.int .i64 (mRes ws ⟨k, wd, bf, af⟩).k)).setCell ⟨w.heap.size + 1, 1, none⟩ (.int .i64 (mRes ws ⟨k, wd, bf, af⟩).w)).setCell ⟨w.heap.size + 1, 2, none⟩ (.int .u64 (mRes ws ⟨k, wd, bf, af⟩).b)).setCell ⟨w.heap.size + 1, 3, none⟩ (.int .u64 (mRes ws ⟨k, wd, bf, af⟩).a)) = wz at hRz hFz hMz hOz ⊢
        obtain ⟨z0, z1, z2, z3⟩ := cells4 hRz
        refine bodyPost_ret (v := .tuple #[.agg #[.int .i64 (mRes ws ⟨k, wd, bf, af⟩).k, .int .i64 (mRes ws ⟨k, wd, bf, af⟩).w, .int .u64 (mRes ws ⟨k, wd, bf, af⟩).b, .int .u64 (mRes ws ⟨k, wd, bf, af⟩).a], .int .i64 (mErr ws.length k wd)]) (by simp [results, Try.results126, go_sem, z0, z1, z2, z3]) rfl ⟨rfl, hFz, hMz, hOz⟩
      · have hb0 : (mErr ws.length k wd == 0) = false := by simp [he]
        have hOq : OnceAt w2 q p (oAcc a ws ⟨k, wd, bf, af⟩) := by
          have : oAcc a ws ⟨k, wd, bf, af⟩ = a := by simp [oAcc, he]
          rw [this]; exact HO.out
        go_wp2
        have hRz := setCells4 HR.out (.int .i64 (mRes ws ⟨k, wd, bf, af⟩).k) (.int .i64 (mRes ws ⟨k, wd, bf, af⟩).w) (.int .u64 (mRes ws ⟨k, wd, bf, af⟩).b) (.int .u64 (mRes ws ⟨k, wd, bf, af⟩).a)
        have hFz : Frm [d, q] w ((((w2.setCell ⟨w.heap.size + 1, 0, none⟩ (.int .i64 (mRes ws ⟨k, wd, bf, af⟩).k)).setCell ⟨w.heap.size + 1, 1, none⟩ (.int .i64 (mRes ws ⟨k, wd, bf, af⟩).w)).setCell ⟨w.heap.size + 1, 2, none⟩ (.int .u64 (mRes ws ⟨k, wd, bf, af⟩).b)).setCell ⟨w.heap.size + 1, 3, none⟩ (.int .u64 (mRes ws ⟨k, wd, bf, af⟩).a)) := by
          exact hFw.set4 _ _ _ _ _ _ _ _ _ (.inr (Nat.le_succ _))
        have hMz : MemAt ((((w2.setCell ⟨w.heap.size + 1, 0, none⟩ (.int .i64 (mRes ws ⟨k, wd, bf, af⟩).k)).setCell ⟨w.heap.size + 1, 1, none⟩ (.int .i64 (mRes ws ⟨k, wd, bf, af⟩).w)).setCell ⟨w.heap.size + 1, 2, none⟩ (.int .u64 (mRes ws ⟨k, wd, bf, af⟩).b)).setCell ⟨w.heap.size + 1, 3, none⟩ (.int .u64 (mRes ws ⟨k, wd, bf, af⟩).a)) p d c (mWs ws ⟨k, wd, bf, af⟩) := by
          exact hM2.setFar4 _ _ _ _ _ _ _ _ _ (by omega) (by omega)
        have hOz : OnceAt ((((w2.setCell ⟨w.heap.size + 1, 0, none⟩ (.int .i64 (mRes ws ⟨k, wd, bf, af⟩).k)).setCell ⟨w.heap.size + 1, 1, none⟩ (.int .i64 (mRes ws ⟨k, wd, bf, af⟩).w)).setCell ⟨w.heap.size + 1, 2, none⟩ (.int .u64 (mRes ws ⟨k, wd, bf, af⟩).b)).setCell ⟨w.heap.size + 1, 3, none⟩ (.int .u64 (mRes ws ⟨k, wd, bf, af⟩).a)) q p (oAcc a ws ⟨k, wd, bf, af⟩) := by
          exact heap_set4_far _ _ _ _ _ _ _ _ _ (by omega) hOq
        generalize ((((w2.setCell ⟨w.heap.size + 1, 0, none⟩ (.int .i64 (mRes ws ⟨k, wd, bf, af⟩).k)).setCell ⟨w.heap.size + 1, 1, none⟩ (.int .i64 (mRes ws ⟨k, wd, bf, af⟩).w)).setCell ⟨w.heap.size + 1, 2, none⟩ (.int .u64 (mRes ws ⟨k, wd, bf, af⟩).b)).setCell ⟨w.heap.size + 1, 3, none⟩ (.int .u64 (mRes ws ⟨k, wd, bf, af⟩).a)) = wz at hRz hFz hMz hOz ⊢
        obtain ⟨z0, z1, z2, z3⟩ := cells4 hRz
        refine bodyPost_ret (v := .tuple #[.agg #[.int .i64 (mRes ws ⟨k, wd, bf, af⟩).k, .int .i64 (mRes ws ⟨k, wd, bf, af⟩).w, .int .u64 (mRes ws ⟨k, wd, bf, af⟩).b, .int .u64 (mRes ws ⟨k, wd, bf, af⟩).a], .int .i64 (mErr ws.length k wd)]) (by simp [results, Try.results126, go_sem, z0, z1, z2, z3]) rfl ⟨rfl, hFz, hMz, hOz⟩
    · have hF2 : Frm [d] ((w.alloc (.cells #[.int .i64 k, .int .i64 wd, .int .u64 bf, .int .u64 af] 43)).alloc (.cells #[.int .i64 0, .int .i64 0, .int .u64 0, .int .u64 0] 43)) ((((w1.setCell ⟨w.heap.size + 1 + 1, 0, none⟩ (.int .i64 (mRes ws ⟨k, wd, bf, af⟩).k)).setCell ⟨w.heap.size + 1 + 1, 1, none⟩ (.int .i64 (mRes ws ⟨k, wd, bf, af⟩).w)).setCell ⟨w.heap.size + 1 + 1, 2, none⟩ (.int .u64 (mRes ws ⟨k, wd, bf, af⟩).b)).setCell ⟨w.heap.size + 1 + 1, 3, none⟩ (.int .u64 (mRes ws ⟨k, wd, bf, af⟩).a)) := by
        exact (((Frm.refl _ _).alloc _).drew.trans hF1).set4 _ _ _ _ _ _ _ _ _ (.inr (by simp))
      have hM2 : MemAt ((((w1.setCell ⟨w.heap.size + 1 + 1, 0, none⟩ (.int .i64 (mRes ws ⟨k, wd, bf, af⟩).k)).setCell ⟨w.heap.size + 1 + 1, 1, none⟩ (.int .i64 (mRes ws ⟨k, wd, bf, af⟩).w)).setCell ⟨w.heap.size + 1 + 1, 2, none⟩ (.int .u64 (mRes ws ⟨k, wd, bf, af⟩).b)).setCell ⟨w.heap.size + 1 + 1, 3, none⟩ (.int .u64 (mRes ws ⟨k, wd, bf, af⟩).a)) p d c (mWs ws ⟨k, wd, bf, af⟩) := by
        have hpp := hM.plt
        exact hM1.setFar4 _ _ _ _ _ _ _ _ _ (by omega) (by omega)
      have hS2 := setCells4 (KS.out w1 hF1) (.int .i64 (mRes ws ⟨k, wd, bf, af⟩).k) (.int .i64 (mRes ws ⟨k, wd, bf, af⟩).w) (.int .u64 (mRes ws ⟨k, wd, bf, af⟩).b) (.int .u64 (mRes ws ⟨k, wd, bf, af⟩).a)
      have hsz : w.heap.size + 1 < w.heap.size + 1 + 1 := by omega
      generalize ((((w1.setCell ⟨w.heap.size + 1 + 1, 0, none⟩ (.int .i64 (mRes ws ⟨k, wd, bf, af⟩).k)).setCell ⟨w.heap.size + 1 + 1, 1, none⟩ (.int .i64 (mRes ws ⟨k, wd, bf, af⟩).w)).setCell ⟨w.heap.size + 1 + 1, 2, none⟩ (.int .u64 (mRes ws ⟨k, wd, bf, af⟩).b)).setCell ⟨w.heap.size + 1 + 1, 3, none⟩ (.int .u64 (mRes ws ⟨k, wd, bf, af⟩).a)) = w2 at hF2 hM2 hS2 ⊢
      clear kc kf
      generalize w.heap.size + 1 + 1 = s6 at hS2 hsz ⊢
      clear hF1 hM1
      have hqp' : q < w2.heap.size := Nat.lt_of_lt_of_le (by simp; omega) hF2.size
      have hplt := hM2.plt
      have hpq := hM.plt
      have hO2 : w2.heap[q]? = some (.cells #[.pointer (some ⟨p, 0, none⟩), .int .i64 a.k, .int .i64 a.w, .int .u64 a.b, .int .u64 a.a] 150 (0, 0)) := hF2.heap (heap_alloc_old _ (heap_alloc_old _ ho)) (by simp; omega)
      have hR2 : w2.heap[w.heap.size + 1]? = some (.cells #[.int .i64 0, .int .i64 0, .int .u64 0, .int .u64 0] 43) := hF2.heap (heap_alloc_at _ (by simp)) (by simp; omega)
      have hFw : Frm [d, q] w w2 := (((Frm.refl _ w).alloc _).alloc _).trans (hF2.weak (by simp))
      obtain ⟨s0, s1, s2, s3⟩ := cells4 hS2
      obtain ⟨r0, r1, r2, r3⟩ := cells4 hR2
      obtain ⟨f0, f1, f2, f3⟩ := frozen4 hR2
      obtain ⟨o0, o1, o2, o3, o4⟩ := cells5 hO2
      have g1 : w2.frozen? ⟨q, 1, none⟩ = false := frozen_of_heap hO2
      have g2 : w2.frozen? ⟨q, 2, none⟩ = false := frozen_of_heap hO2
      have g3 : w2.frozen? ⟨q, 3, none⟩ = false := frozen_of_heap hO2
      have g4 : w2.frozen? ⟨q, 4, none⟩ = false := frozen_of_heap hO2
      have HO := Lib.hid hO2
      have HR := Lib.hid hR2
      have HS := Lib.hid hS2
      clear hO2 hR2 hS2 hF2 h0 h1 h2 h3 h4 kq kb hal hml
      by_cases he : mErr ws.length k wd = 0
      · have hb0 : (mErr ws.length k wd == 0) = true := by simp [he]
        have HE := Lib.hid he
        clear he
        go_wp2_with fail
        have hO3 := setCells5 HO.out (.int .i64 (mRes ws ⟨k, wd, bf, af⟩).k) (.int .i64 (mRes ws ⟨k, wd, bf, af⟩).w) (.int .u64 (mRes ws ⟨k, wd, bf, af⟩).b) (.int .u64 (mRes ws ⟨k, wd, bf, af⟩).a)
        have hO3' : OnceAt ((((w2.setCell ⟨q, 1, none⟩ (.int .i64 (mRes ws ⟨k, wd, bf, af⟩).k)).setCell ⟨q, 2, none⟩ (.int .i64 (mRes ws ⟨k, wd, bf, af⟩).w)).setCell ⟨q, 3, none⟩ (.int .u64 (mRes ws ⟨k, wd, bf, af⟩).b)).setCell ⟨q, 4, none⟩ (.int .u64 (mRes ws ⟨k, wd, bf, af⟩).a)) q p (oAcc a ws ⟨k, wd, bf, af⟩) := by
          have e : oAcc a ws ⟨k, wd, bf, af⟩ = mRes ws ⟨k, wd, bf, af⟩ := by simp [oAcc, HA.out, HE.out]
          rw [e]; exact hO3
        have hF3 : Frm [d, q] w ((((w2.setCell ⟨q, 1, none⟩ (.int .i64 (mRes ws ⟨k, wd, bf, af⟩).k)).setCell ⟨q, 2, none⟩ (.int .i64 (mRes ws ⟨k, wd, bf, af⟩).w)).setCell ⟨q, 3, none⟩ (.int .u64 (mRes ws ⟨k, wd, bf, af⟩).b)).setCell ⟨q, 4, none⟩ (.int .u64 (mRes ws ⟨k, wd, bf, af⟩).a)) := by
          exact hFw.set4 _ _ _ _ _ _ _ _ _ (.inl (by simp))
        have hM3 : MemAt ((((w2.setCell ⟨q, 1, none⟩ (.int .i64 (mRes ws ⟨k, wd, bf, af⟩).k)).setCell ⟨q, 2, none⟩ (.int .i64 (mRes ws ⟨k, wd, bf, af⟩).w)).setCell ⟨q, 3, none⟩ (.int .u64 (mRes ws ⟨k, wd, bf, af⟩).b)).setCell ⟨q, 4, none⟩ (.int .u64 (mRes ws ⟨k, wd, bf, af⟩).a)) p d c (mWs ws ⟨k, wd, bf, af⟩) := by
          exact hM2.setFar4 _ _ _ _ _ _ _ _ _ hqp hqd
        have hR3 : (((((w2.setCell ⟨q, 1, none⟩ (.int .i64 (mRes ws ⟨k, wd, bf, af⟩).k)).setCell ⟨q, 2, none⟩ (.int .i64 (mRes ws ⟨k, wd, bf, af⟩).w)).setCell ⟨q, 3, none⟩ (.int .u64 (mRes ws ⟨k, wd, bf, af⟩).b)).setCell ⟨q, 4, none⟩ (.int .u64 (mRes ws ⟨k, wd, bf, af⟩).a))).heap[w.heap.size + 1]? = some (.cells #[.int .i64 0, .int .i64 0, .int .u64 0, .int .u64 0] 43) := by
          exact heap_set4_far _ _ _ _ _ _ _ _ _ (by omega) HR.out
        generalize ((((w2.setCell ⟨q, 1, none⟩ (.int .i64 (mRes ws ⟨k, wd, bf, af⟩).k)).setCell ⟨q, 2, none⟩ (.int .i64 (mRes ws ⟨k, wd, bf, af⟩).w)).setCell ⟨q, 3, none⟩ (.int .u64 (mRes ws ⟨k, wd, bf, af⟩).b)).setCell ⟨q, 4, none⟩ (.int .u64 (mRes ws ⟨k, wd, bf, af⟩).a)) = w3 at hO3 hO3' hF3 hM3 hR3 ⊢
        have hRz := setCells4 hR3 (.int .i64 (mRes ws ⟨k, wd, bf, af⟩).k) (.int .i64 (mRes ws ⟨k, wd, bf, af⟩).w) (.int .u64 (mRes ws ⟨k, wd, bf, af⟩).b) (.int .u64 (mRes ws ⟨k, wd, bf, af⟩).a)
        have hFz : Frm [d, q] w ((((w3.setCell ⟨w.heap.size + 1, 0, none⟩ (.int .i64 (mRes ws ⟨k, wd, bf, af⟩).k)).setCell ⟨w.heap.size + 1, 1, none⟩ (.int .i64 (mRes ws ⟨k, wd, bf, af⟩).w)).setCell ⟨w.heap.size + 1, 2, none⟩ (.int .u64 (mRes ws ⟨k, wd, bf, af⟩).b)).setCell ⟨w.heap.size + 1, 3, none⟩ (.int .u64 (mRes ws ⟨k, wd, bf, af⟩).a)) := by
          exact hF3.set4 _ _ _ _ _ _ _ _ _ (.inr (Nat.le_succ _))
        have hMz : MemAt ((((w3.setCell ⟨w.heap.size + 1, 0, none⟩ (.int .i64 (mRes ws ⟨k, wd, bf, af⟩).k)).setCell ⟨w.heap.size + 1, 1, none⟩ (.int .i64 (mRes ws ⟨k, wd, bf, af⟩).w)).setCell ⟨w.heap.size + 1, 2, none⟩ (.int .u64 (mRes ws ⟨k, wd, bf, af⟩).b)).setCell ⟨w.heap.size + 1, 3, none⟩ (.int .u64 (mRes ws ⟨k, wd, bf, af⟩).a)) p d c (mWs ws ⟨k, wd, bf, af⟩) := by
          exact hM3.setFar4 _ _ _ _ _ _ _ _ _ (by omega) (by omega)
        have hOz : OnceAt ((((w3.setCell ⟨w.heap.size + 1, 0, none⟩ (.int .i64 (mRes ws ⟨k, wd, bf, af⟩).k)).setCell ⟨w.heap.size + 1, 1, none⟩ (.int .i64 (mRes ws ⟨k, wd, bf, af⟩).w)).setCell ⟨w.heap.size + 1, 2, none⟩ (.int .u64 (mRes ws ⟨k, wd, bf, af⟩).b)).setCell ⟨w.heap.size + 1, 3, none⟩ (.int .u64 (mRes ws ⟨k, wd, bf, af⟩).a)) q p (oAcc a ws ⟨k, wd, bf, af⟩) := by
          exact heap_set4_far _ _ _ _ _ _ _ _ _ (by omega) hO3'
        generalize ((((w3.setCell ⟨w.heap.size + 1, 0, none⟩ (.int .i64 (mRes ws ⟨k, wd, bf, af⟩).k)).setCell ⟨w.heap.size + 1, 1, none⟩ (.int .i64 (mRes ws ⟨k, wd, bf, af⟩).w)).setCell ⟨w.heap.size + 1, 2, none⟩ (.int .u64 (mRes ws ⟨k, wd, bf, af⟩).b)).setCell ⟨w.heap.size + 1, 3, none⟩ (.int .u64 (mRes ws ⟨k, wd, bf, af⟩).a)) = wz at hRz hFz hMz hOz ⊢
        obtain ⟨z0, z1, z2, z3⟩ := cells4 hRz
        refine bodyPost_ret (v := .tuple #[.agg #[.int .i64 (mRes ws ⟨k, wd, bf, af⟩).k, .int .i64 (mRes ws ⟨k, wd, bf, af⟩).w, .int .u64 (mRes ws ⟨k, wd, bf, af⟩).b, .int .u64 (mRes ws ⟨k, wd, bf, af⟩).a], .int .i64 (mErr ws.length k wd)]) (by simp [results, Try.results126, go_sem, z0, z1, z2, z3]) rfl ⟨rfl, hFz, hMz, hOz⟩
      · have hb0 : (mErr ws.length k wd == 0) = false := by simp [he]
        have hOq : OnceAt w2 q p (oAcc a ws ⟨k, wd, bf, af⟩) := by
          have : oAcc a ws ⟨k, wd, bf, af⟩ = a := by simp [oAcc, he]
          rw [this]; exact HO.out
        go_wp2
        have hRz := setCells4 HR.out (.int .i64 (mRes ws ⟨k, wd, bf, af⟩).k) (.int .i64 (mRes ws ⟨k, wd, bf, af⟩).w) (.int .u64 (mRes ws ⟨k, wd, bf, af⟩).b) (.int .u64 (mRes ws ⟨k, wd, bf, af⟩).a)
        have hFz : Frm [d, q] w ((((w2.setCell ⟨w.heap.size + 1, 0, none⟩ (.int .i64 (mRes ws ⟨k, wd, bf, af⟩).k)).setCell ⟨w.heap.size + 1, 1, none⟩ (.int .i64 (mRes ws ⟨k, wd, bf, af⟩).w)).setCell ⟨w.heap.size + 1, 2, none⟩ (.int .u64 (mRes ws ⟨k, wd, bf, af⟩).b)).setCell ⟨w.heap.size + 1, 3, none⟩ (.int .u64 (mRes ws ⟨k, wd, bf, af⟩).a)) := by
          exact hFw.set4 _ _ _ _ _ _ _ _ _ (.inr (Nat.le_succ _))
        have hMz : MemAt ((((w2.setCell ⟨w.heap.size + 1, 0, none⟩ (.int .i64 (mRes ws ⟨k, wd, bf, af⟩).k)).setCell ⟨w.heap.size + 1, 1, none⟩ (.int .i64 (mRes ws ⟨k, wd, bf, af⟩).w)).setCell ⟨w.heap.size + 1, 2, none⟩ (.int .u64 (mRes ws ⟨k, wd, bf, af⟩).b)).setCell ⟨w.heap.size + 1, 3, none⟩ (.int .u64 (mRes ws ⟨k, wd, bf, af⟩).a)) p d c (mWs ws ⟨k, wd, bf, af⟩) := by
          exact hM2.setFar4 _ _ _ _ _ _ _ _ _ (by omega) (by omega)
        have hOz : OnceAt ((((w2.setCell ⟨w.heap.size + 1, 0, none⟩ (.int .i64 (mRes ws ⟨k, wd, bf, af⟩).k)).setCell ⟨w.heap.size + 1, 1, none⟩ (.int .i64 (mRes ws ⟨k, wd, bf, af⟩).w)).setCell ⟨w.heap.size + 1, 2, none⟩ (.int .u64 (mRes ws ⟨k, wd, bf, af⟩).b)).setCell ⟨w.heap.size + 1, 3, none⟩ (.int .u64 (mRes ws ⟨k, wd, bf, af⟩).a)) q p (oAcc a ws ⟨k, wd, bf, af⟩) := by
          exact heap_set4_far _ _ _ _ _ _ _ _ _ (by omega) hOq
        generalize ((((w2.setCell ⟨w.heap.size + 1, 0, none⟩ (.int .i64 (mRes ws ⟨k, wd, bf, af⟩).k)).setCell ⟨w.heap.size + 1, 1, none⟩ (.int .i64 (mRes ws ⟨k, wd, bf, af⟩).w)).setCell ⟨w.heap.size + 1, 2, none⟩ (.int .u64 (mRes ws ⟨k, wd, bf, af⟩).b)).setCell ⟨w.heap.size + 1, 3, none⟩ (.int .u64 (mRes ws ⟨k, wd, bf, af⟩).a)) = wz at hRz hFz hMz hOz ⊢
        obtain ⟨z0, z1, z2, z3⟩ := cells4 hRz
        refine bodyPost_ret (v := .tuple #[.agg #[.int .i64 (mRes ws ⟨k, wd, bf, af⟩).k, .int .i64 (mRes ws ⟨k, wd, bf, af⟩).w, .int .u64 (mRes ws ⟨k, wd, bf, af⟩).b, .int .u64 (mRes ws ⟨k, wd, bf, af⟩).a], .int .i64 (mErr ws.length k wd)]) (by simp [results, Try.results126, go_sem, z0, z1, z2, z3]) rfl ⟨rfl, hFz, hMz, hOz⟩
  · have hr : oRes a ws ⟨k, wd, bf, af⟩ = ⟨0, 0, 0, 0⟩ := by simp [oRes, ha]
    have hw : oWs a ws ⟨k, wd, bf, af⟩ = ws := by simp [oWs, ha]
    have he : oErr a ws.length k wd = 11 := by simp [oErr, ha]
    have hc : oAcc a ws ⟨k, wd, bf, af⟩ = a := by simp [oAcc, ha]
    have hb : (a.k != 0) = true := by simp [ha]
    rw [hr, hw, he, hc]
    clear hr hw he hc
    go_enter Try.func126, Try.ntmps126
    go_wp2_with (go_at_call 88; refine (onone_some (hal _ _)).mono ?_; rintro e w' ⟨rfl, rfl⟩)
    refine bodyPost_ret (v := .tuple #[.agg #[.int .i64 0, .int .i64 0, .int .u64 0, .int .u64 0], .int .i64 11]) (by simp [results, Try.results126, go_sem]) rfl ⟨rfl, ((Frm.refl _ _).alloc _).alloc _, hml _ _, hal _ _⟩
end Go.Proofs.Ytieccmmnfnpcoaa
