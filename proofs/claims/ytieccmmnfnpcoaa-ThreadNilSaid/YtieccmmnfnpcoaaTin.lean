/- Stage 12: nil and zero codes, machines, memories. -/
import Derived.Test.YtieccmmnfnpcoaaTim
namespace Go.Proofs.Ytieccmmnfnpcoaa
open Go.ChangeShapes Go.WideShapes Go.ChangeAt Go.RowKit
set_option linter.unusedVariables false
/-- A nil code, or a zero one. -/
def Zc (w : World) (v : Value) : Prop := v = .pointer none ∨ ∃ z, v = .pointer (some ⟨z, 0, none⟩) ∧ w.heap[z]? = some (.cells #[.slice none 0 0, .int .u64 0, .int .u64 0, .int .u64 0, .int .u64 0, .int .i64 0, .int .u64 0] 89 (0, 0))
/-- A nil machine, or a zero one. -/
def Zm (w : World) (v : Value) : Prop := v = .pointer none ∨ ∃ z, v = .pointer (some ⟨z, 0, none⟩) ∧ w.heap[z]? = some (.cells #[.pointer none, .slice none 0 0] 93 (0, 0))
theorem Zc.frm0 {w w' : World} {v : Value} (h : Zc w v) (hf : Frm [] w w') : Zc w' v := by
  rcases h with h | ⟨z, h1, h2⟩
  · exact .inl h
  · exact .inr ⟨z, h1, hf.heap h2 (by simp)⟩
theorem Zm.frm0 {w w' : World} {v : Value} (h : Zm w v) (hf : Frm [] w w') : Zm w' v := by
  rcases h with h | ⟨z, h1, h2⟩
  · exact .inl h
  · exact .inr ⟨z, h1, hf.heap h2 (by simp)⟩
section
variable {w : World} {v : Value}

theorem zc_none (h : Zc w v) : Calls Try.prog 69 #[v] w (Ret (.bool true) (fun w' => Frm [] w w')) := by
  rcases h with rfl | ⟨z, rfl, hz⟩
  · go_enter Try.func69, Try.ntmps69
    go_wp2
    go_ret
    exact ⟨rfl, Frm.refl _ _⟩
  · obtain ⟨c0, c1, c2, c3, c4, c5, c6⟩ := cells7 hz
    go_enter Try.func69, Try.ntmps69
    go_wp2
    go_ret
    exact ⟨rfl, Frm.refl _ _⟩

theorem zc_result (h : Zc w v) : Calls Try.prog 33 #[v] w (Ret (.int .u64 0) (fun w' => Frm [] w w')) := by
  rcases h with rfl | ⟨z, rfl, hz⟩
  · go_enter Try.func33, Try.ntmps33
    go_wp2
    go_ret
    exact ⟨rfl, Frm.refl _ _⟩
  · obtain ⟨c0, c1, c2, c3, c4, c5, c6⟩ := cells7 hz
    go_enter Try.func33, Try.ntmps33
    go_wp2
    go_ret
    exact ⟨rfl, Frm.refl _ _⟩

theorem zc_done (h : Zc w v) : Calls Try.prog 32 #[v] w (Ret (.bool true) (fun w' => Frm [] w w')) := by
  rcases h with rfl | ⟨z, rfl, hz⟩
  · go_enter Try.func32, Try.ntmps32
    go_wp2_with fail
    go_quiet (fail)
    go_wp2
    go_ret
    exact ⟨rfl, (Frm.refl _ _).drewN _⟩
  · obtain ⟨c0, c1, c2, c3, c4, c5, c6⟩ := cells7 hz
    go_enter Try.func32, Try.ntmps32
    go_wp2_with fail
    go_quiet (fail)
    go_wp2
    go_ret
    exact ⟨rfl, (Frm.refl _ _).drewN _⟩

theorem zc_copy (h : Zc w v) : Calls Try.prog 34 #[v] w (Ret .nilIface (fun w' => Frm [] w w')) := by
  have H := Lib.hid (zc_none h)
  clear h
  go_enter Try.func34, Try.ntmps34
  go_wp2_with fail
  refine H.out.mono ?_
  rintro e w1 ⟨rfl, hF⟩
  have HF := Lib.hid hF
  clear hF
  go_wp2
  go_ret
  exact ⟨rfl, HF.out⟩

set_option maxRecDepth 100000 in
theorem zc_step (h : Zc w v) (m : Value) : Calls Try.prog 31 #[v, m] w (Ret (.tuple #[.bool false, .int .i64 1]) (fun w' => Frm [] w w')) := by
  obtain ⟨X, hX⟩ : ∃ X, X = (w.alloc (.cells #[.bool false] 4)).alloc (.cells #[.int .i64 0] 38) := ⟨_, rfl⟩
  have hFX : Frm [] w X := by rw [hX]; exact ((Frm.refl _ _).alloc _).alloc _
  have hb0 : X.heap[w.heap.size]? = some (.cells #[.bool false] 4 (0, 0)) := by rw [hX]; exact heap_alloc_old _ (heap_alloc_new _ _)
  have hb1 : X.heap[w.heap.size + 1]? = some (.cells #[.int .i64 0] 38 (0, 0)) := by rw [hX]; exact heap_alloc_at _ (by simp)
  have H := Lib.hid (zc_none (h.frm0 hFX))
  have HFX := Lib.hid hFX
  have HB0 := Lib.hid hb0
  have HB1 := Lib.hid hb1
  clear h hFX hb0 hb1
  go_enter_defers Try.func31, Try.ntmps31
  go_wp2_with fail
  rw [← hX]
  clear hX
  refine H.out.mono ?_
  rintro e x1 ⟨rfl, hF1⟩
  have g0 := hF1.heap HB0.out (by simp)
  have g1 := hF1.heap HB1.out (by simp)
  have k0 : x1.cell? ⟨w.heap.size, 0, none⟩ = some (.bool false) := by rw [cell_of_heap g0]; rfl
  have z0 : x1.frozen? ⟨w.heap.size, 0, none⟩ = false := frozen_of_heap g0
  have k1 : x1.cell? ⟨w.heap.size + 1, 0, none⟩ = some (.int .i64 0) := by rw [cell_of_heap g1]; rfl
  have z1 : x1.frozen? ⟨w.heap.size + 1, 0, none⟩ = false := frozen_of_heap g1
  have hA : Frm [] w ((x1.setCell ⟨w.heap.size, 0, none⟩ (.bool false)).setCell ⟨w.heap.size + 1, 0, none⟩ (.int .i64 1)) :=
    ((HFX.out.trans hF1).setCell _ _ (.inr (Nat.le_refl _))).setCell _ _ (.inr (Nat.le_succ _))
  have HA := Lib.hid hA
  clear hA g0 g1 hF1
  go_wp2
  simp only [bodyPostD, Leaves]
  exact ⟨.tuple #[.bool false, .int .i64 1], by simp [results, Try.results31, go_sem, k0, k1], rfl, HA.out⟩

set_option maxRecDepth 100000 in
theorem cStep_nilmem {q b c : Nat} {x : Cd} (h : CodeAt w q b c x) : Calls Try.prog 31 #[.pointer (some ⟨q, 0, none⟩), .nilIface] w (Ret (.tuple #[.bool false, .int .i64 1]) (fun w' => Frm [] w w')) := by
  obtain ⟨X, hX⟩ : ∃ X, X = (w.alloc (.cells #[.bool false] 4)).alloc (.cells #[.int .i64 0] 38) := ⟨_, rfl⟩
  have hFX : Frm [] w X := by rw [hX]; exact ((Frm.refl _ _).alloc _).alloc _
  have hb0 : X.heap[w.heap.size]? = some (.cells #[.bool false] 4 (0, 0)) := by rw [hX]; exact heap_alloc_old _ (heap_alloc_new _ _)
  have hb1 : X.heap[w.heap.size + 1]? = some (.cells #[.int .i64 0] 38 (0, 0)) := by rw [hX]; exact heap_alloc_at _ (by simp)
  have H : Hid (Calls Try.prog 69 #[.pointer (some ⟨q, 0, none⟩)] X (Ret (.bool false) (fun w' => Frm [] X w'))) := Lib.hid ((cnone_at (h.frm0 hFX)).mono fun e w' hh => ⟨hh.1, by rw [← hh.2]; exact Frm.refl _ _⟩)
  have HFX := Lib.hid hFX
  have HB0 := Lib.hid hb0
  have HB1 := Lib.hid hb1
  clear h hFX hb0 hb1
  go_enter_defers Try.func31, Try.ntmps31
  go_wp2_with fail
  rw [← hX]
  clear hX
  refine H.out.mono ?_
  rintro e x1 ⟨rfl, hF1⟩
  have g0 := hF1.heap HB0.out (by simp)
  have g1 := hF1.heap HB1.out (by simp)
  have k0 : x1.cell? ⟨w.heap.size, 0, none⟩ = some (.bool false) := by rw [cell_of_heap g0]; rfl
  have z0 : x1.frozen? ⟨w.heap.size, 0, none⟩ = false := frozen_of_heap g0
  have k1 : x1.cell? ⟨w.heap.size + 1, 0, none⟩ = some (.int .i64 0) := by rw [cell_of_heap g1]; rfl
  have z1 : x1.frozen? ⟨w.heap.size + 1, 0, none⟩ = false := frozen_of_heap g1
  have hA : Frm [] w ((x1.setCell ⟨w.heap.size, 0, none⟩ (.bool false)).setCell ⟨w.heap.size + 1, 0, none⟩ (.int .i64 1)) :=
    ((HFX.out.trans hF1).setCell _ _ (.inr (Nat.le_refl _))).setCell _ _ (.inr (Nat.le_succ _))
  have HA := Lib.hid hA
  clear hA g0 g1 hF1
  go_wp2
  simp only [bodyPostD, Leaves]
  exact ⟨.tuple #[.bool false, .int .i64 1], by simp [results, Try.results31, go_sem, k0, k1], rfl, HA.out⟩

theorem hStep_nilmem (q : Nat) : Calls Try.prog 119 #[.pointer (some ⟨q, 0, none⟩), .nilIface] w (Ret (.tuple #[.bool false, .int .i64 1]) (fun w' => Frm [] w w')) := by
  go_enter Try.func119, Try.ntmps119
  go_wp2
  go_ret2
  exact ⟨rfl, Frm.refl _ _⟩
theorem pStep_nilmem {ch : Bool} {q : Nat} {B : List Nat} {P : Rp} (h : PgAt w ch q B P) : Calls Try.prog (fStep ch) #[.pointer (some ⟨q, 0, none⟩), .nilIface] w (Ret (.tuple #[.bool false, .int .i64 1]) (fun w' => Frm [] w w')) := by
  cases h with
  | code h ok r => exact cStep_nilmem h
  | chain h ok hl r => exact hStep_nilmem q
theorem mcopy_nil : Calls Try.prog 12 #[.pointer none] w (Ret (.pointer none) (fun w' => w = w')) := by
  go_enter Try.func12, Try.ntmps12
  go_wp2_with fail
  refine (none_nil _).mono ?_
  rintro e w' ⟨rfl, rfl⟩
  go_wp2
  go_ret
  exact ⟨rfl, rfl⟩
theorem mnew_nil : Calls Try.prog 17 #[.pointer none] w (Ret (.tuple #[.pointer none, .int .i64 1]) (fun w' => w = w')) := by
  go_enter Try.func17, Try.ntmps17
  go_wp2_with fail
  refine mcopy_nil.mono ?_
  rintro e w' ⟨rfl, rfl⟩
  go_wp2
  go_ret2
  exact ⟨rfl, rfl⟩

theorem zm_none (h : Zm w v) : Calls Try.prog 58 #[v] w (Ret (.bool true) (fun w' => w = w')) := by
  rcases h with rfl | ⟨z, rfl, hz⟩
  · go_enter Try.func58, Try.ntmps58
    go_wp2
    go_ret
    exact ⟨rfl, rfl⟩
  · have c0 : w.cell? ⟨z, 0, none⟩ = some (.pointer none) := by rw [cell_of_heap hz]; rfl
    have c1 : w.cell? ⟨z, 1, none⟩ = some (.slice none 0 0) := by rw [cell_of_heap hz]; rfl
    go_enter Try.func58, Try.ntmps58
    go_wp2
    go_ret
    exact ⟨rfl, rfl⟩

theorem zm_threads (h : Zm w v) : Calls Try.prog 38 #[v] w (Ret (.int .i64 0) (fun w' => w = w')) := by
  rcases h with rfl | ⟨z, rfl, hz⟩
  · go_enter Try.func38, Try.ntmps38
    go_wp2
    go_ret
    exact ⟨rfl, rfl⟩
  · have c0 : w.cell? ⟨z, 0, none⟩ = some (.pointer none) := by rw [cell_of_heap hz]; rfl
    have c1 : w.cell? ⟨z, 1, none⟩ = some (.slice none 0 0) := by rw [cell_of_heap hz]; rfl
    go_enter Try.func38, Try.ntmps38
    go_wp2
    go_ret
    exact ⟨rfl, rfl⟩

theorem zm_no (h : Zm w v) (t : Int) : Calls Try.prog 59 #[v, .int .i64 t] w (Ret (.bool true) (fun w' => w = w')) := by
  have H := Lib.hid (zm_threads h)
  clear h
  by_cases ht : t < 0
  · have hb : decide (t < 0) = true := by simpa using ht
    go_enter Try.func59, Try.ntmps59
    go_wp2
    go_ret
    exact ⟨rfl, rfl⟩
  · have hb : decide (t < 0) = false := by simpa using ht
    have hb2 : decide ((0 : Int) ≤ t) = true := by simp; omega
    clear ht
    go_enter Try.func59, Try.ntmps59
    go_wp2_with fail
    refine H.out.mono ?_
    rintro e w' ⟨rfl, rfl⟩
    go_wp2
    go_ret
    exact ⟨rfl, rfl⟩

theorem zm_done (h : Zm w v) (t : Int) : Calls Try.prog 22 #[v, .int .i64 t] w (Ret (.bool false) (fun w' => w = w')) := by
  have H := Lib.hid (zm_no h t)
  clear h
  go_enter Try.func22, Try.ntmps22
  go_wp2_with fail
  refine H.out.mono ?_
  rintro e w' ⟨rfl, rfl⟩
  go_wp2
  go_ret
  exact ⟨rfl, rfl⟩

theorem zm_result (h : Zm w v) (t : Int) : Calls Try.prog 24 #[v, .int .i64 t] w (Ret (.int .u64 0) (fun w' => w = w')) := by
  have H := Lib.hid (zm_no h t)
  clear h
  go_enter Try.func24, Try.ntmps24
  go_wp2_with fail
  refine H.out.mono ?_
  rintro e w' ⟨rfl, rfl⟩
  go_wp2
  go_ret
  exact ⟨rfl, rfl⟩

theorem zm_steps (h : Zm w v) (t : Int) : Calls Try.prog 23 #[v, .int .i64 t] w (Ret (.int .i64 0) (fun w' => w = w')) := by
  have H := Lib.hid (zm_no h t)
  clear h
  go_enter Try.func23, Try.ntmps23
  go_wp2_with fail
  refine H.out.mono ?_
  rintro e w' ⟨rfl, rfl⟩
  go_wp2
  go_ret
  exact ⟨rfl, rfl⟩

theorem zm_looks (h : Zm w v) (t : Int) : Calls Try.prog 39 #[v, .int .i64 t] w (Ret (.int .i64 0) (fun w' => w = w')) := by
  have H := Lib.hid (zm_no h t)
  clear h
  go_enter Try.func39, Try.ntmps39
  go_wp2_with fail
  refine H.out.mono ?_
  rintro e w' ⟨rfl, rfl⟩
  go_wp2
  go_ret
  exact ⟨rfl, rfl⟩

theorem zm_program (h : Zm w v) (t : Int) : Calls Try.prog 40 #[v, .int .i64 t] w (Ret (.nilIface) (fun w' => w = w')) := by
  have H := Lib.hid (zm_no h t)
  clear h
  go_enter Try.func40, Try.ntmps40
  go_wp2_with fail
  refine H.out.mono ?_
  rintro e w' ⟨rfl, rfl⟩
  go_wp2
  go_ret
  exact ⟨rfl, rfl⟩

theorem zm_waits (h : Zm w v) (t : Int) : Calls Try.prog 36 #[v, .int .i64 t] w (Ret (.bool false) (fun w' => w = w')) := by
  have H := Lib.hid (zm_no h t)
  clear h
  go_enter Try.func36, Try.ntmps36
  go_wp2_with fail
  refine H.out.mono ?_
  rintro e w' ⟨rfl, rfl⟩
  go_wp2
  go_ret
  exact ⟨rfl, rfl⟩

theorem zm_stuck (h : Zm w v) : Calls Try.prog 37 #[v] w (Ret (.bool false) (fun w' => w = w')) := by
  have H := Lib.hid (zm_threads h)
  clear h
  go_enter Try.func37, Try.ntmps37
  go_wp2_with fail
  refine H.out.mono ?_
  rintro e w' ⟨rfl, rfl⟩
  go_wp2_with fail
  refine wp_loop_rounds 1 ?_
  rw [rounds_succ]
  go_wp2
  go_ret
  exact ⟨rfl, rfl⟩

theorem zm_copy (h : Zm w v) : Calls Try.prog 41 #[v] w (Ret (.pointer none) (fun w' => w = w')) := by
  have H := Lib.hid (zm_none h)
  clear h
  go_enter Try.func41, Try.ntmps41
  go_wp2_with fail
  refine H.out.mono ?_
  rintro e w' ⟨rfl, rfl⟩
  go_wp2
  go_ret
  exact ⟨rfl, rfl⟩

theorem zm_mem (h : Zm w v) : Calls Try.prog 21 #[v] w (Ret (.pointer none) (fun w' => w = w')) := by
  rcases h with rfl | ⟨z, rfl, hz⟩
  · go_enter Try.func21, Try.ntmps21
    go_wp2
    go_ret
    exact ⟨rfl, rfl⟩
  · have c0 : w.cell? ⟨z, 0, none⟩ = some (.pointer none) := by rw [cell_of_heap hz]; rfl
    go_enter Try.func21, Try.ntmps21
    go_wp2_with fail
    refine mcopy_nil.mono ?_
    rintro e w' ⟨rfl, rfl⟩
    go_wp2
    go_ret
    exact ⟨rfl, rfl⟩

theorem zm_run (h : Zm w v) (p : Value) : Calls Try.prog 27 #[v, p] w (Ret (.tuple #[.slice none 0 0, .int .i64 1]) (fun w' => w = w')) := by
  have H := Lib.hid (zm_none h)
  clear h
  go_enter Try.func27, Try.ntmps27
  go_wp2_with fail
  refine H.out.mono ?_
  rintro e w' ⟨rfl, rfl⟩
  go_wp2
  go_ret2
  exact ⟨rfl, rfl⟩

theorem zm_add (h : Zm w v) {ch : Bool} {q : Nat} {B : List Nat} {P : Rp} (hp : PgAt w ch q B P) : Calls Try.prog 18 #[v, .iface (tPg ch) (.pointer (some ⟨q, 0, none⟩))] w (Ret (.tuple #[.int .i64 0, .int .i64 1]) (fun w' => Frm [] w w')) := by
  have H := Lib.hid (cO_pg hp)
  have HZ := Lib.hid h
  clear h hp
  go_enter Try.func18, Try.ntmps18
  go_wp2_with fail
  refine H.out.mono ?_
  rintro e w1 ⟨q', rfl, hF, _⟩
  have HN := Lib.hid (zm_none (HZ.out.frm0 hF))
  have HF := Lib.hid hF
  clear hF
  go_wp2_with fail
  refine HN.out.mono ?_
  rintro e w' ⟨rfl, rfl⟩
  go_wp2
  go_ret2
  exact ⟨rfl, HF.out⟩

theorem zm_put (h : Zm w v) (t : Int) {ch : Bool} {q : Nat} {B : List Nat} {P : Rp} (hp : PgAt w ch q B P) : Calls Try.prog 35 #[v, .int .i64 t, .iface (tPg ch) (.pointer (some ⟨q, 0, none⟩))] w (Ret (.int .i64 1) (fun w' => Frm [] w w')) := by
  have H := Lib.hid (cO_pg hp)
  have HZ := Lib.hid h
  clear h hp
  go_enter Try.func35, Try.ntmps35
  go_wp2_with fail
  refine H.out.mono ?_
  rintro e w1 ⟨q', rfl, hF, _⟩
  have HN := Lib.hid (zm_none (HZ.out.frm0 hF))
  have HF := Lib.hid hF
  clear hF
  go_wp2_with fail
  refine HN.out.mono ?_
  rintro e w' ⟨rfl, rfl⟩
  go_wp2
  go_ret
  exact ⟨rfl, HF.out⟩

theorem zm_step (h : Zm w v) (t : Int) : Calls Try.prog 20 #[v, .int .i64 t] w (Ret (.tuple #[.agg #[.int .i64 0, .int .i64 0, .int .i64 0, .int .u64 0, .int .u64 0, .bool false, .bool false], .int .i64 1]) (fun w' => Frm [] w w')) := by
  have H := Lib.hid (zm_none (h.frm0 ((Frm.refl [] w).alloc (.cells #[.int .i64 0, .int .i64 0, .int .i64 0, .int .u64 0, .int .u64 0, .bool false, .bool false] 64))))
  clear h
  go_enter Try.func20, Try.ntmps20
  go_wp2_with fail
  refine H.out.mono ?_
  rintro e w' ⟨rfl, rfl⟩
  go_wp2
  exact bodyPost_ret (v := .tuple #[.agg #[.int .i64 0, .int .i64 0, .int .i64 0, .int .u64 0, .int .u64 0, .bool false, .bool false], .int .i64 1]) (by simp [results, Try.results20, go_sem]) rfl ⟨rfl, (Frm.refl _ _).alloc _⟩

theorem copyOf_none {T : TypeId} {u : Value} {f : FuncId}
    (hm : ∀ w, (method 273 T u "Copy").run Try.prog w = .ok (f, u) w) (hc : ∀ args w, (callFunc f args).run Try.prog w = .ok (.enter f args) w)
    (H : ∀ w2, Calls Try.prog f #[u] w2 (Ret .nilIface (fun w' => Frm [] w2 w'))) :
    Calls Try.prog 57 #[.iface T u] w (Ret .nilIface (fun w' => Frm [] w w')) := by
  have hmf : ∀ (fn : Fn) (first cap : Array Value) (w : World), (Instr.makeFunc fn first cap).run Try.prog w = .ok (.func fn first cap) w := fun _ _ _ _ => rfl
  have H1 := Lib.hid H
  clear H
  go_enter_defers Try.func57, Try.ntmps57
  go_wp2_with fail
  refine (H1.out _).mono ?_
  rintro e w3 ⟨rfl, hF⟩
  have g0 := hF.heap (heap_alloc_new w (.cells #[.nilIface] 27)) (by simp)
  have k0 : w3.cell? ⟨w.heap.size, 0, none⟩ = some (.nilIface) := by rw [cell_of_heap g0]; rfl
  have z0 : w3.frozen? ⟨w.heap.size, 0, none⟩ = false := frozen_of_heap g0
  have HF := Lib.hid (((Frm.refl [] w).alloc _).trans hF)
  clear g0 hF
  go_wp2
  refine leaves_cons (f := 81) (args := #[.pointer (some ⟨w.heap.size, 0, none⟩)]) (by simp) (by simp [go_sem]) ?_
  refine (idleC _ _).mono ?_
  rintro e u' w'' ⟨rfl, rfl, rfl⟩
  have HQ := Lib.hid (HF.out.setCell ⟨w.heap.size, 0, none⟩ .nilIface (.inr (Nat.le_refl _)))
  simp [Leaves, settle, results, Try.results57, go_sem, k0]
  exact ⟨rfl, HQ.out⟩
theorem cm_CopyN (w : World) : (method 273 76 (.pointer none) "Copy").run Try.prog w = .ok (34, .pointer none) w := by kernel_rfl
theorem copyOf_nilcode : Calls Try.prog 57 #[.iface 76 (.pointer none)] w (Ret .nilIface (fun w' => Frm [] w w')) :=
  copyOf_none (f := 34) cm_CopyN cc_Copy (fun w2 => zc_copy (.inl rfl))
/-- Chain of a program and nil. -/
theorem chain_bad2 {ch : Bool} {q g : Nat} {B : List Nat} {P : Rp} (hp : PgAt w ch q B P) (hg : w.heap[g]? = some (.cells #[.iface (tPg ch) (.pointer (some ⟨q, 0, none⟩)), .nilIface] 27 (0, 0))) :
    Calls Try.prog 30 #[.slice (some ⟨g, 0, none⟩) 2 2] w (Ret (.tuple #[.nilIface, .int .i64 1]) (fun w' => Frm [] w w')) := by
  have HC : Hid (Calls Try.prog 67 #[.slice (some ⟨g, 0, none⟩) 2 2] w (Ret (.tuple #[.slice none 0 0, .bool false]) (fun w' => Frm [] w w'))) := by
    refine Lib.hid ?_
    have hmk : ∀ w : World, (Instr.makeSlice 108 (.int .i64 2) (.int .i64 2)).run Try.prog w = .ok (.slice (some ⟨w.heap.size, 0, none⟩) 2 2) (w.alloc (.cells #[.nilIface, .nilIface] 27)) := fun w => make_prog 2 (by omega) w
    have hF : Frm [] w (w.alloc (.cells #[.nilIface, .nilIface] 27)) := (Frm.refl _ _).alloc _
    have hg2 := hF.heap hg (by simp)
    have c0 : (w.alloc (.cells #[.nilIface, .nilIface] 27)).cell? ⟨g, 0, none⟩ = some (.iface (tPg ch) (.pointer (some ⟨q, 0, none⟩))) := by rw [cell_of_heap hg2]; rfl
    have hnw := heap_alloc_new w (.cells #[.nilIface, .nilIface] 27)
    have HA := Lib.hid (cO_pg (hp.frm0 hF))
    have HG := Lib.hid hg2
    have HF := Lib.hid hF
    have HNW := Lib.hid hnw
    have hgl := lt_of_heap hg
    obtain ⟨X, hX⟩ : ∃ X, X = w.alloc (.cells #[.nilIface, .nilIface] 27) := ⟨_, rfl⟩
    rw [← hX] at HA HG HF HNW c0
    clear hp hg hF hg2 hnw
    go_enter Try.func67, Try.ntmps67
    go_wp2_with fail
    rw [← hX]
    clear hX
    refine wp_loop_rounds 2 ?_
    rw [rounds_succ]
    go_wp2_with fail
    refine HA.out.mono ?_
    rintro e w2 ⟨q', rfl, hF2, _⟩
    have hn2 := hF2.heap HNW.out (by simp)
    have hg3 := hF2.heap HG.out (by simp)
    have k0 : w2.cell? ⟨w.heap.size, 0, none⟩ = some .nilIface := by rw [cell_of_heap hn2]; rfl
    have z0 : w2.frozen? ⟨w.heap.size, 0, none⟩ = false := frozen_of_heap hn2
    have hne : g ≠ w.heap.size := by omega
    have c1 : w2.cell? ⟨g, 1, none⟩ = some .nilIface := by rw [cell_of_heap hg3]; rfl
    have HF2 := Lib.hid ((HF.out.trans hF2).setCell ⟨w.heap.size, 0, none⟩ (.iface (tPg ch) (.pointer (some ⟨q', 0, none⟩))) (.inr (Nat.le_refl _)))
    have hgl2 := lt_of_heap hg3
    clear hF2 hn2 hg3
    go_wp2_with fail
    rw [rounds_succ]
    go_wp2_with fail
    refine (copyOf_nil _).mono ?_
    rintro e w3 ⟨rfl, hF3⟩
    have HF3 := Lib.hid (HF2.out.trans hF3)
    clear hF3
    go_wp2
    go_ret2
    exact ⟨rfl, HF3.out⟩
  clear hp hg
  go_enter Try.func30, Try.ntmps30
  go_wp2_with fail
  refine HC.out.mono ?_
  rintro e w1 ⟨rfl, hF⟩
  have HF := Lib.hid hF
  clear hF
  go_wp2
  go_ret2
  exact ⟨rfl, HF.out⟩
theorem chain_bad1 {g : Nat} (hg : w.heap[g]? = some (.cells #[.iface 76 (.pointer none)] 27 (0, 0))) :
    Calls Try.prog 30 #[.slice (some ⟨g, 0, none⟩) 1 1] w (Ret (.tuple #[.nilIface, .int .i64 1]) (fun w' => Frm [] w w')) := by
  have HC : Hid (Calls Try.prog 67 #[.slice (some ⟨g, 0, none⟩) 1 1] w (Ret (.tuple #[.slice none 0 0, .bool false]) (fun w' => Frm [] w w'))) := by
    refine Lib.hid ?_
    have hmk : ∀ w : World, (Instr.makeSlice 108 (.int .i64 1) (.int .i64 1)).run Try.prog w = .ok (.slice (some ⟨w.heap.size, 0, none⟩) 1 1) (w.alloc (.cells #[.nilIface] 27)) := fun w => make_prog 1 (by omega) w
    have hF : Frm [] w (w.alloc (.cells #[.nilIface] 27)) := (Frm.refl _ _).alloc _
    have hg2 := hF.heap hg (by simp)
    have c0 : (w.alloc (.cells #[.nilIface] 27)).cell? ⟨g, 0, none⟩ = some (.iface 76 (.pointer none)) := by rw [cell_of_heap hg2]; rfl
    have HF := Lib.hid hF
    obtain ⟨X, hX⟩ : ∃ X, X = w.alloc (.cells #[.nilIface] 27) := ⟨_, rfl⟩
    rw [← hX] at HF c0
    clear hg hF hg2
    go_enter Try.func67, Try.ntmps67
    go_wp2_with fail
    rw [← hX]
    clear hX
    refine wp_loop_rounds 1 ?_
    rw [rounds_succ]
    go_wp2_with fail
    refine copyOf_nilcode.mono ?_
    rintro e w3 ⟨rfl, hF3⟩
    have HF3 := Lib.hid (HF.out.trans hF3)
    clear hF3
    go_wp2
    go_ret2
    exact ⟨rfl, HF3.out⟩
  clear hg
  go_enter Try.func30, Try.ntmps30
  go_wp2_with fail
  refine HC.out.mono ?_
  rintro e w1 ⟨rfl, hF⟩
  have HF := Lib.hid hF
  clear hF
  go_wp2
  go_ret2
  exact ⟨rfl, HF.out⟩
end
end Go.Proofs.Ytieccmmnfnpcoaa
