/- Package version: Done, Result, Words, Version, Copy of programs that were made. -/
import Derived.Test.YtbhnijkphkkalaaVeH
namespace Go.Proofs.Ytbhnijkphkkalaa
open Go.ChangeShapes Go.WideShapes Go.ChangeAt Go.RowKit
set_option linter.unusedVariables false

theorem setCells7 {w : World} {b : Nat} {x0 x1 x2 x3 x4 x5 x6 : Value} {t : TypeId} {f : Nat × Nat} (h : w.heap[b]? = some (.cells #[x0, x1, x2, x3, x4, x5, x6] t f)) (y0 y1 y2 y3 y4 y5 y6 : Value) :
    (((((((w.setCell ⟨b, 0, none⟩ y0).setCell ⟨b, 1, none⟩ y1).setCell ⟨b, 2, none⟩ y2).setCell ⟨b, 3, none⟩ y3).setCell ⟨b, 4, none⟩ y4).setCell ⟨b, 5, none⟩ y5).setCell ⟨b, 6, none⟩ y6).heap[b]? = some (.cells #[y0, y1, y2, y3, y4, y5, y6] t f) := by
  have := heap_setCell_at (i := 6) y6 (heap_setCell_at (i := 5) y5 (heap_setCell_at (i := 4) y4 (heap_setCell_at (i := 3) y3 (heap_setCell_at (i := 2) y2 (heap_setCell_at (i := 1) y1 (heap_setCell_at (i := 0) y0 h))))))
  simpa using this
theorem Frm.set7 {D : List Nat} {a b : World} (h : Frm D a b) (p o1 o2 o3 o4 o5 o6 o7 : Nat) (v1 v2 v3 v4 v5 v6 v7 : Value) (hp : p ∈ D ∨ a.heap.size ≤ p) :
    Frm D a (((((((b.setCell ⟨p, o1, none⟩ v1).setCell ⟨p, o2, none⟩ v2).setCell ⟨p, o3, none⟩ v3).setCell ⟨p, o4, none⟩ v4).setCell ⟨p, o5, none⟩ v5).setCell ⟨p, o6, none⟩ v6).setCell ⟨p, o7, none⟩ v7) :=
  ((((((h.setCell ⟨p, o1, none⟩ v1 hp).setCell ⟨p, o2, none⟩ v2 hp).setCell ⟨p, o3, none⟩ v3 hp).setCell ⟨p, o4, none⟩ v4 hp).setCell ⟨p, o5, none⟩ v5 hp).setCell ⟨p, o6, none⟩ v6 hp).setCell ⟨p, o7, none⟩ v7 hp
theorem heap_set7_far {w : World} {k : Nat} {o : Obj} (p o1 o2 o3 o4 o5 o6 o7 : Nat) (v1 v2 v3 v4 v5 v6 v7 : Value) (hp : p ≠ k) (h : w.heap[k]? = some o) :
    (((((((w.setCell ⟨p, o1, none⟩ v1).setCell ⟨p, o2, none⟩ v2).setCell ⟨p, o3, none⟩ v3).setCell ⟨p, o4, none⟩ v4).setCell ⟨p, o5, none⟩ v5).setCell ⟨p, o6, none⟩ v6).setCell ⟨p, o7, none⟩ v7).heap[k]? = some o :=
  heap_setCell_far _ _ hp (heap_setCell_far _ _ hp (heap_setCell_far _ _ hp (heap_setCell_far _ _ hp (heap_setCell_far _ _ hp (heap_setCell_far _ _ hp (heap_setCell_far _ _ hp h))))))
section
variable {w : World} {q b c : Nat} {T : TypeId} {tl : List Value} {L : Nat} {F : Int} {buf : List Int} {k : Nat} {st was res : Int}

theorem Done_pg (R : Bool) (hP : PgAt w q b c T tl L F buf k st was res) (hst : st ≠ 0) : Calls Try.prog (fDone R) #[.pointer (some ⟨q, 0, none⟩)] w (Ret (.bool (decide (st = 5))) (fun w' => w = w')) := by
  have H := Lib.hid (cdone_any hP hst)
  clear hP hst
  cases R
  · go_enter Try.func17, Try.ntmps17
    go_wp2_with fail
    refine H.out.mono ?_
    rintro e w1 ⟨rfl, rfl⟩
    go_wp2
    go_ret
    exact ⟨rfl, rfl⟩
  · go_enter Try.func12, Try.ntmps12
    go_wp2_with fail
    refine H.out.mono ?_
    rintro e w1 ⟨rfl, rfl⟩
    go_wp2
    go_ret
    exact ⟨rfl, rfl⟩
theorem Result_pg (R : Bool) (hP : PgAt w q b c T tl L F buf k st was res) : Calls Try.prog (fResult R) #[.pointer (some ⟨q, 0, none⟩)] w (Ret (.int .u64 res) (fun w' => w = w')) := by
  obtain ⟨c0, c1, c2, c3, c4, c5, c6⟩ := hP.cells
  clear hP
  cases R
  · go_enter Try.func18, Try.ntmps18
    go_wp2
    go_ret
    exact ⟨rfl, rfl⟩
  · go_enter Try.func13, Try.ntmps13
    go_wp2
    go_ret
    exact ⟨rfl, rfl⟩
theorem Version_0 (hP : PgAt w q b c T tl L F buf k st was 0) : Calls Try.prog 15 #[.pointer (some ⟨q, 0, none⟩)] w (Ret (.int .u64 0) (fun w' => w = w')) := by
  have H := Lib.hid (Result_pg true hP)
  clear hP
  go_enter Try.func15, Try.ntmps15
  go_wp2_with fail
  refine H.out.mono ?_
  rintro e w1 ⟨rfl, rfl⟩
  go_wp2
  go_ret
  exact ⟨rfl, rfl⟩
theorem Version_1 (hP : PgAt w q b c T tl L F buf k st was 1) : Calls Try.prog 15 #[.pointer (some ⟨q, 0, none⟩)] w (Ret (.int .u64 was) (fun w' => w = w')) := by
  obtain ⟨c0, c1, c2, c3, c4, c5, c6⟩ := hP.cells
  have H := Lib.hid (Result_pg true hP)
  clear hP
  go_enter Try.func15, Try.ntmps15
  go_wp2_with fail
  refine H.out.mono ?_
  rintro e w1 ⟨rfl, rfl⟩
  go_wp2
  go_ret
  exact ⟨rfl, rfl⟩
theorem Words_0 (hP : PgAt w q b c T tl L F buf k st was 0) : Calls Try.prog 14 #[.pointer (some ⟨q, 0, none⟩)] w (Ret (.slice none 0 0) (fun w' => w = w')) := by
  have H := Lib.hid (Result_pg true hP)
  clear hP
  go_enter Try.func14, Try.ntmps14
  go_wp2_with fail
  refine H.out.mono ?_
  rintro e w1 ⟨rfl, rfl⟩
  go_wp2
  go_ret
  exact ⟨rfl, rfl⟩
/-- A clone's block. -/
theorem clone_buf (hP : PgAt w q b c T tl L F buf k st was res) : Calls Try.prog 36 #[.slice (some ⟨b, 0, none⟩) buf.length c] w
    (fun e w' => ∃ g cc, Ret (.slice (some ⟨g, 0, none⟩) buf.length cc) (fun w' => Frm [] w w' ∧ w.heap.size ≤ g ∧ buf.length ≤ cc ∧ g < w'.heap.size ∧
      ∃ cs : Array Value, w'.heap[g]? = some (.cells cs 22 (0, 0)) ∧ buf.length ≤ cs.size ∧ ∀ (i : Nat) (x : Int), buf[i]? = some x → cs[i]? = some (Value.int .u64 x)) e w') := by
  have hle := hP.le
  refine (clone_any (xs := buf) rfl (by omega) (fun i x hx => by rw [Nat.zero_add]; exact hP.get hx) hP.blt).mono ?_
  rintro e w1 ⟨v, rfl, hF, hO, hv⟩
  obtain ⟨h0, hO | ⟨g, cap, cur, rfl, hg, hh, hcap, hmax, hsz, htk⟩⟩ := hO
  · exact absurd hO.1 hv
  refine ⟨g, cap, rfl, hF, hg, hcap, lt_of_heap hh, cur, hh, by omega, fun i x hx => ?_⟩
  have hi : i < buf.length := (List.getElem?_eq_some_iff.1 hx).1
  have : (u64s buf)[i]? = some (Value.int .u64 x) := by rw [u64s, List.getElem?_map, hx]; rfl
  rw [← htk, List.getElem?_take, if_pos (by omega)] at this
  rw [← Array.getElem?_toList]; exact this
/-- A slice of words of a call's own that is not nil. -/
def Sl (w : World) (v : Value) (B : Nat) (xs : List Int) : Prop := ∃ g cc, v = .slice (some ⟨g, 0, none⟩) xs.length cc ∧ B ≤ g ∧ xs.length ≤ cc ∧
  ∃ cs : Array Value, w.heap[g]? = some (.cells cs 22 (0, 0)) ∧ xs.length ≤ cs.size ∧ ∀ (i : Nat) (x : Int), xs[i]? = some x → cs[i]? = some (Value.int .u64 x)
theorem Sl.rd {w : World} {v : Value} {B : Nat} {xs : List Int} (h : Sl w v B xs) : Rd w v (u64s xs) := by
  obtain ⟨g, cc, rfl, hB, hc, cs, h1, h2, h3⟩ := h
  refine .inr ⟨g, 0, cc, by simp [u64s], by simpa [u64s] using hc, lt_of_heap h1, fun i u hu => ?_⟩
  obtain ⟨x, hx, rfl⟩ := u64s_get hu
  rw [Nat.zero_add, cell_of_heap h1]; exact h3 i x hx
theorem Words_1 (hP : PgAt w q b c T tl L F buf k st was 1) : Calls Try.prog 14 #[.pointer (some ⟨q, 0, none⟩)] w (fun e w' => ∃ g cc, Ret (.slice (some ⟨g, 0, none⟩) buf.length cc) (fun w' => Frm [] w w' ∧ Sl w' (.slice (some ⟨g, 0, none⟩) buf.length cc) w.heap.size buf) e w') := by
  obtain ⟨c0, c1, c2, c3, c4, c5, c6⟩ := hP.cells
  have H := Lib.hid (Result_pg true hP)
  have HC := Lib.hid (clone_buf hP)
  clear hP
  go_enter Try.func14, Try.ntmps14
  go_wp2_with fail
  refine H.out.mono ?_
  rintro e w1 ⟨rfl, rfl⟩
  go_wp2_with fail
  refine HC.out.mono ?_
  rintro e w1 ⟨g, cc, rfl, hF, hg, hc, hgl, hcs⟩
  have HF := Lib.hid hF
  have HS := Lib.hid hcs
  clear hF hcs
  go_wp2
  go_ret
  exact ⟨g, cc, rfl, HF.out, g, cc, rfl, hg, hc, HS.out⟩
def CpQ (w : World) (L : Nat) (F : Int) (buf : List Int) (k : Nat) (st was res : Int) (e : Ending) (w' : World) : Prop :=
  ∃ g cc, Ret (.agg #[.int .i64 L, .int .i64 F, .slice (some ⟨g, 0, none⟩) buf.length cc, .int .i64 k, .int .i64 st, .int .u64 was, .int .u64 res]) (fun w' => Frm [] w w' ∧ w.heap.size ≤ g ∧ buf.length ≤ cc ∧ g < w'.heap.size ∧
      ∃ cs : Array Value, w'.heap[g]? = some (.cells cs 22 (0, 0)) ∧ buf.length ≤ cs.size ∧ ∀ (i : Nat) (x : Int), buf[i]? = some x → cs[i]? = some (Value.int .u64 x)) e w'
set_option maxRecDepth 100000 in
theorem copied_pg (hP : PgAt w q b c T tl L F buf k st was res) : Calls Try.prog 74 #[.agg #[.int .i64 L, .int .i64 F, .slice (some ⟨b, 0, none⟩) buf.length c, .int .i64 k, .int .i64 st, .int .u64 was, .int .u64 res]] w
    (CpQ w L F buf k st was res) := by
  have H : Hid (∀ o1 o2, Calls Try.prog 36 #[.slice (some ⟨b, 0, none⟩) buf.length c] ((w.alloc o1).alloc o2) _) := Lib.hid (fun o1 o2 => clone_buf (hP.frm0 (((Frm.refl [] w).alloc o1).alloc o2)))
  clear hP
  go_enter Try.func74, Try.ntmps74
  go_wp2_with fail
  refine (H.out _ _).mono ?_
  rintro e w1 ⟨g, cc, rfl, hF, hg, hc, hgl, hcs⟩
  have hp := hF.heap (heap_alloc_old _ (heap_alloc_new w _)) (by simp)
  have hr := hF.heap (heap_alloc_at _ (k := w.heap.size + 1) (by simp)) (by simp)
  have p0 := (cell_of_heap (i := 0) hp)
  have p1 := (cell_of_heap (i := 1) hp)
  have p2 := (cell_of_heap (i := 2) hp)
  have p3 := (cell_of_heap (i := 3) hp)
  have p4 := (cell_of_heap (i := 4) hp)
  have p5 := (cell_of_heap (i := 5) hp)
  have p6 := (cell_of_heap (i := 6) hp)
  have r0 := (cell_of_heap (i := 0) hr)
  have r1 := (cell_of_heap (i := 1) hr)
  have r2 := (cell_of_heap (i := 2) hr)
  have r3 := (cell_of_heap (i := 3) hr)
  have r4 := (cell_of_heap (i := 4) hr)
  have r5 := (cell_of_heap (i := 5) hr)
  have r6 := (cell_of_heap (i := 6) hr)
  have zp : ∀ i, w1.frozen? ⟨w.heap.size, i, none⟩ = false := fun i => frozen_of_heap hp
  have zr : ∀ i, w1.frozen? ⟨w.heap.size + 1, i, none⟩ = false := fun i => frozen_of_heap hr
  have zp2 := zp 2
  have z0 := zr 0
  have z1 := zr 1
  have z2 := zr 2
  have z3 := zr 3
  have z4 := zr 4
  have z5 := zr 5
  have z6 := zr 6
  simp only [List.getElem?_toArray, List.getElem?_cons_zero, List.getElem?_cons_succ] at p0 p1 p2 p3 p4 p5 p6 r0 r1 r2 r3 r4 r5 r6
  have HF := Lib.hid hF
  have HS := Lib.hid hcs
  have hsz : w.heap.size + 2 ≤ g := by simpa using hg
  have HR := Lib.hid hr
  clear hF hcs hp hr zp zr
  go_wp2
  have hR2 := setCells7 (heap_setCell_far (w := w1) ⟨w.heap.size, 2, none⟩ (.slice (some ⟨g, 0, none⟩) buf.length cc) (by simp) HR.out) (.int .i64 L) (.int .i64 F) (.slice (some ⟨g, 0, none⟩) buf.length cc) (.int .i64 k) (.int .i64 st) (.int .u64 was) (.int .u64 res)
  have hF2 : Frm [] w _ := ((((Frm.refl [] w).alloc _).alloc _).trans HF.out).setCell ⟨w.heap.size, 2, none⟩ (.slice (some ⟨g, 0, none⟩) buf.length cc) (.inr (Nat.le_refl _))
  have hF3 := hF2.set7 (w.heap.size + 1) 0 1 2 3 4 5 6 (.int .i64 L) (.int .i64 F) (.slice (some ⟨g, 0, none⟩) buf.length cc) (.int .i64 k) (.int .i64 st) (.int .u64 was) (.int .u64 res) (.inr (Nat.le_succ _))
  have hS2 : ∃ cs : Array Value, (((((((w1.setCell ⟨w.heap.size, 2, none⟩ (.slice (some ⟨g, 0, none⟩) buf.length cc)).setCell ⟨w.heap.size + 1, 0, none⟩ (.int .i64 L)).setCell ⟨w.heap.size + 1, 1, none⟩ (.int .i64 F)).setCell ⟨w.heap.size + 1, 2, none⟩ (.slice (some ⟨g, 0, none⟩) buf.length cc)).setCell ⟨w.heap.size + 1, 3, none⟩ (.int .i64 k)).setCell ⟨w.heap.size + 1, 4, none⟩ (.int .i64 st)).setCell ⟨w.heap.size + 1, 5, none⟩ (.int .u64 was)).setCell ⟨w.heap.size + 1, 6, none⟩ (.int .u64 res) |>.heap[g]? = some (.cells cs 22 (0, 0)) ∧ buf.length ≤ cs.size ∧ ∀ (i : Nat) (x : Int), buf[i]? = some x → cs[i]? = some (Value.int .u64 x) := by
    obtain ⟨cs, h1, h2⟩ := HS.out
    exact ⟨cs, heap_set7_far (w.heap.size + 1) 0 1 2 3 4 5 6 _ _ _ _ _ _ _ (by omega) (heap_setCell_far _ _ (by show w.heap.size ≠ g; omega) h1), h2⟩
  generalize (((((((w1.setCell ⟨w.heap.size, 2, none⟩ (.slice (some ⟨g, 0, none⟩) buf.length cc)).setCell ⟨w.heap.size + 1, 0, none⟩ (.int .i64 L)).setCell ⟨w.heap.size + 1, 1, none⟩ (.int .i64 F)).setCell ⟨w.heap.size + 1, 2, none⟩ (.slice (some ⟨g, 0, none⟩) buf.length cc)).setCell ⟨w.heap.size + 1, 3, none⟩ (.int .i64 k)).setCell ⟨w.heap.size + 1, 4, none⟩ (.int .i64 st)).setCell ⟨w.heap.size + 1, 5, none⟩ (.int .u64 was)).setCell ⟨w.heap.size + 1, 6, none⟩ (.int .u64 res) = w9 at hR2 hF3 hS2 ⊢
  have r0 := (cell_of_heap (i := 0) hR2)
  have r1 := (cell_of_heap (i := 1) hR2)
  have r2 := (cell_of_heap (i := 2) hR2)
  have r3 := (cell_of_heap (i := 3) hR2)
  have r4 := (cell_of_heap (i := 4) hR2)
  have r5 := (cell_of_heap (i := 5) hR2)
  have r6 := (cell_of_heap (i := 6) hR2)
  simp only [List.getElem?_toArray, List.getElem?_cons_zero, List.getElem?_cons_succ] at r0 r1 r2 r3 r4 r5 r6
  refine bodyPost_ret (v := .agg #[.int .i64 L, .int .i64 F, .slice (some ⟨g, 0, none⟩) buf.length cc, .int .i64 k, .int .i64 st, .int .u64 was, .int .u64 res]) ?_ rfl ?_
  · simp [results, Try.results74, go_sem, r0, r1, r2, r3, r4, r5, r6]
  exact ⟨g, cc, rfl, hF3, by omega, hc, lt_of_heap hS2.choose_spec.1, hS2⟩
set_option maxRecDepth 100000 in
theorem wCopy (hP : PgAt w q b c 73 [] L F buf k st was res) (hst : st ≠ 0) : Calls Try.prog 75 #[.pointer (some ⟨q, 0, none⟩)] w
    (fun e w' => ∃ q' b' c', Ret (.iface 33 (.pointer (some ⟨q', 0, none⟩))) (fun w' => Frm [] w w' ∧ PgAt w' q' b' c' 73 [] L F buf k st was res ∧ w.heap.size ≤ q' ∧ w.heap.size ≤ b') e w') := by
  obtain ⟨c0, c1, c2, c3, c4, c5, c6⟩ := hP.cells
  have HN := Lib.hid (cnone_1 hP hst)
  have HC := Lib.hid (copied_pg hP)
  have HP := Lib.hid hP
  clear hP hst
  go_enter Try.func75, Try.ntmps75
  go_wp2_with fail
  refine HN.out.mono ?_
  rintro e w1 ⟨rfl, rfl⟩
  go_wp2_with fail
  refine HC.out.mono ?_
  rintro e w1 ⟨g, cc, rfl, hF, hg, hc, hgl, hcs⟩
  have HF := Lib.hid hF
  have HS := Lib.hid hcs
  clear hF hcs
  go_wp2
  go_ret
  obtain ⟨cs, h1, h2, h3⟩ := HS.out
  have hp := HP.out
  exact ⟨_, g, cc, rfl, HF.out.alloc _, ⟨heap_alloc_new _ _, ⟨cs, heap_alloc_old _ h1, h2, h3⟩, by omega, hc, hp.le, hp.kle, hp.Llt, hp.fit⟩, HF.out.size, hg⟩
set_option maxRecDepth 100000 in
set_option maxHeartbeats 1000000 in
theorem rCopy {tr : Int} (hP : PgAt w q b c 71 [.int .i64 tr] L F buf k st was res) (hst : st ≠ 0) : Calls Try.prog 73 #[.pointer (some ⟨q, 0, none⟩)] w
    (fun e w' => ∃ q' b' c', Ret (.iface 26 (.pointer (some ⟨q', 0, none⟩))) (fun w' => Frm [] w w' ∧ PgAt w' q' b' c' 71 [.int .i64 tr] L F buf k st was res ∧ w.heap.size ≤ q' ∧ w.heap.size ≤ b') e w') := by
  have HN := Lib.hid (cnone_1 hP hst)
  have hcell : ∀ w', Frm [] w w' → w'.cell? ⟨q, 0, none⟩ = some (.int .i64 L) ∧ w'.cell? ⟨q, 1, none⟩ = some (.int .i64 F) ∧ w'.cell? ⟨q, 2, none⟩ = some (.slice (some ⟨b, 0, none⟩) buf.length c) ∧ w'.cell? ⟨q, 3, none⟩ = some (.int .i64 k) ∧ w'.cell? ⟨q, 4, none⟩ = some (.int .i64 st) ∧ w'.cell? ⟨q, 5, none⟩ = some (.int .u64 was) ∧ w'.cell? ⟨q, 6, none⟩ = some (.int .u64 res) := fun w' hf => (hP.frm0 hf).cells
  have k0 : ∀ w', Frm [] w w' → w'.cell? ⟨q, 0, none⟩ = some (.int .i64 L) := fun w' hf => (hcell w' hf).1
  have k1 : ∀ w', Frm [] w w' → w'.cell? ⟨q, 1, none⟩ = some (.int .i64 F) := fun w' hf => (hcell w' hf).2.1
  have k2 : ∀ w', Frm [] w w' → w'.cell? ⟨q, 2, none⟩ = some (.slice (some ⟨b, 0, none⟩) buf.length c) := fun w' hf => (hcell w' hf).2.2.1
  have k3 : ∀ w', Frm [] w w' → w'.cell? ⟨q, 3, none⟩ = some (.int .i64 k) := fun w' hf => (hcell w' hf).2.2.2.1
  have k4 : ∀ w', Frm [] w w' → w'.cell? ⟨q, 4, none⟩ = some (.int .i64 st) := fun w' hf => (hcell w' hf).2.2.2.2.1
  have k5 : ∀ w', Frm [] w w' → w'.cell? ⟨q, 5, none⟩ = some (.int .u64 was) := fun w' hf => (hcell w' hf).2.2.2.2.2.1
  have k6 : ∀ w', Frm [] w w' → w'.cell? ⟨q, 6, none⟩ = some (.int .u64 res) := fun w' hf => (hcell w' hf).2.2.2.2.2.2
  have k7 : ∀ w', Frm [] w w' → w'.cell? ⟨q, 7, none⟩ = some (.int .i64 tr) := fun w' hf => (hP.frm0 hf).cell7
  have HC : Hid (∀ w', Frm [] w w' → PgAt w' q b c 71 [.int .i64 tr] L F buf k st was res) := Lib.hid fun w' hf => hP.frm0 hf
  have HP := Lib.hid hP
  clear hP hst hcell
  go_enter Try.func73, Try.ntmps73
  go_wp2_with fail
  refine HN.out.mono ?_
  rintro e w1 ⟨rfl, rfl⟩
  go_wp2_with fail
  go_region_held3 (fun w' => Frm [] w w') (repeat' (first | assumption | exact Frm.refl _ _ | apply Frm.drew | apply Frm.drewN | apply Frm.alloc)) (first
    | (go_at_call 74; (with_reducible refine (copied_pg (HC.out _ (by assumption))).mono ?_); rintro e w1 ⟨g, cc, rfl, hF, hg, hc, hgl, hcs⟩; have hFw : Frm [] w w1 := Frm.trans (by assumption) hF; have hgg : w.heap.size ≤ g := Nat.le_trans (Frm.size (by assumption)) hg))
  all_goals
    have HW := Lib.hid hFw
    have HS := Lib.hid hcs
    have HH : Hid (Frm [] w (w1.alloc _)) := Lib.hid ‹Frm [] w (w1.alloc _)›
    clear k0 k1 k2 k3 k4 k5 k6 k7 hFw hF hcs
    go_wp2
    go_ret
    obtain ⟨cs, h1, h2, h3⟩ := HS.out
    have hp := HP.out
    exact ⟨_, g, cc, rfl, HH.out, ⟨heap_alloc_new _ _, ⟨cs, heap_alloc_old _ h1, h2, h3⟩, by omega, hc, hp.le, hp.kle, hp.Llt, hp.fit⟩, HW.out.size, hgg⟩
end
#print axioms rCopy
end Go.Proofs.Ytbhnijkphkkalaa
