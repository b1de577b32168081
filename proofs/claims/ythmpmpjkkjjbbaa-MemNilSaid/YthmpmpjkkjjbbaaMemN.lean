/- Layer 1: nil and zero objects; the walk of MemNil. -/
import Derived.Test.YthmpmpjkkjjbbaaMemO
namespace Go.Proofs.Ythmpmpjkkjjbbaa
open Go.ChangeShapes Go.WideShapes Go.ChangeAt Go.RowKit

/-- A nil or zero arena; a nil or zero Once. -/
def NoMem (w : World) (pa : Option Addr) : Prop := pa = none ∨ ∃ z, pa = some ⟨z, 0, none⟩ ∧ w.heap[z]? = some (.cells #[.slice none 0 0] 56 (0, 0))
def NoOnce (w : World) (pa : Option Addr) : Prop := pa = none ∨ ∃ z, pa = some ⟨z, 0, none⟩ ∧ w.heap[z]? = some (.cells #[.pointer none, .int .i64 0, .int .i64 0, .int .u64 0, .int .u64 0] 59 (0, 0))
theorem NoMem.frm {w w' : World} {pa : Option Addr} (h : NoMem w pa) (hf : Frm [] w w') : NoMem w' pa := by
  rcases h with h | ⟨z, h1, h2⟩
  · exact .inl h
  · exact .inr ⟨z, h1, hf.heap h2 (by simp)⟩
theorem NoOnce.frm {w w' : World} {pa : Option Addr} (h : NoOnce w pa) (hf : Frm [] w w') : NoOnce w' pa := by
  rcases h with h | ⟨z, h1, h2⟩
  · exact .inl h
  · exact .inr ⟨z, h1, hf.heap h2 (by simp)⟩
theorem none_no {w : World} {pa : Option Addr} (h : NoMem w pa) : Calls Try.prog 32 #[.pointer pa] w (Ret (.bool true) (fun w' => w = w')) := by
  rcases h with rfl | ⟨z, rfl, h2⟩
  · exact none_nil w
  · exact none_zero w z (by rw [cell_of_heap h2]; rfl)
theorem onone_no {w : World} {pa : Option Addr} (h : NoOnce w pa) : Calls Try.prog 35 #[.pointer pa] w (Ret (.bool true) (fun w' => w = w')) := by
  rcases h with rfl | ⟨z, rfl, h2⟩
  · exact onone_nil w
  · exact onone_zero w z (by rw [cell_of_heap h2]; rfl)

theorem do_no_mem {w : World} {pa : Option Addr} (hN : NoMem w pa) (k x b a : Int) :
    Calls Try.prog 27 #[.pointer pa, .agg #[.int .i64 k, .int .i64 x, .int .u64 b, .int .u64 a]] w (Ret (.tuple #[.agg #[.int .i64 0, .int .i64 0, .int .u64 0, .int .u64 0], .int .i64 1]) (fun w' => Frm [] w w')) := by
  go_enter Try.func27, Try.ntmps27
  go_wp2_with (go_at_call 32; refine (none_no (hN.frm (by repeat' (first | exact Frm.refl _ _ | apply Frm.alloc | apply Frm.drewN)))).mono ?_; rintro e w' ⟨rfl, rfl⟩)
  refine bodyPost_ret (v := .tuple #[.agg #[.int .i64 0, .int .i64 0, .int .u64 0, .int .u64 0], .int .i64 1]) (by simp [results, Try.results27, go_sem]) rfl ⟨rfl, (by repeat' (first | exact Frm.refl _ _ | apply Frm.alloc | apply Frm.drewN))⟩

theorem len_no_mem {w : World} {pa : Option Addr} (hN : NoMem w pa) : Calls Try.prog 15 #[.pointer pa] w (Ret (.int .i64 0) (fun w' => Frm [] w w')) := by
  go_enter Try.func15, Try.ntmps15
  go_wp2_with (go_at_call 32; refine (none_no (hN.frm (by repeat' (first | exact Frm.refl _ _ | apply Frm.alloc | apply Frm.drewN)))).mono ?_; rintro e w' ⟨rfl, rfl⟩)
  go_ret
  exact ⟨rfl, Frm.refl _ _⟩

theorem words_no {w : World} {pa : Option Addr} (hN : NoMem w pa) (x y : Int) : Calls Try.prog 17 #[.pointer pa, .int .i64 x, .int .i64 y] w (Ret (.tuple #[.slice none 0 0, .int .i64 1]) (fun w' => Frm [] w w')) := by
  go_enter Try.func17, Try.ntmps17
  go_wp2_with (go_at_call 32; refine (none_no (hN.frm (by repeat' (first | exact Frm.refl _ _ | apply Frm.alloc | apply Frm.drewN)))).mono ?_; rintro e w' ⟨rfl, rfl⟩)
  go_ret2
  exact ⟨rfl, Frm.refl _ _⟩
theorem copy_no {w : World} {pa : Option Addr} (hN : NoMem w pa) : Calls Try.prog 19 #[.pointer pa] w (Ret (.pointer none) (fun w' => Frm [] w w')) := by
  go_enter Try.func19, Try.ntmps19
  go_wp2_with (go_at_call 32; refine (none_no (hN.frm (by repeat' (first | exact Frm.refl _ _ | apply Frm.alloc | apply Frm.drewN)))).mono ?_; rintro e w' ⟨rfl, rfl⟩)
  go_ret
  exact ⟨rfl, Frm.refl _ _⟩
theorem newonce_no {w : World} {pa : Option Addr} (hN : NoMem w pa) : Calls Try.prog 24 #[.pointer pa] w (Ret (.tuple #[.pointer none, .int .i64 1]) (fun w' => Frm [] w w')) := by
  go_enter Try.func24, Try.ntmps24
  go_wp2_with (go_at_call 32; refine (none_no (hN.frm (by repeat' (first | exact Frm.refl _ _ | apply Frm.alloc | apply Frm.drewN)))).mono ?_; rintro e w' ⟨rfl, rfl⟩)
  go_ret2
  exact ⟨rfl, Frm.refl _ _⟩
theorem none_no_q {w : World} {pa : Option Addr} (hN : NoMem w pa) (n : Nat) :
    Calls Try.prog 32 #[.pointer pa] (w.drewN n) fun e w'' => e = .returned (.bool true) ∧ ∃ m, w'' = w.drewN m :=
  Calls.quiet_of_same ((none_no (hN.frm ((Frm.refl [] _).drewN n))).mono fun _ _ hh => ⟨hh.1, hh.2.symm⟩)
theorem same_no1 {w : World} {pa pb : Option Addr} (hN : NoMem w pa) : Calls Try.prog 20 #[.pointer pa, .pointer pb] w (Ret (.bool false) (fun w' => Frm [] w w')) := by
  go_enter Try.func20, Try.ntmps20
  go_wp2_with fail
  go_quiet ((go_at_call 32; exact none_no_q hN _))
  go_wp2
  go_ret
  exact ⟨rfl, (Frm.refl _ _).drewN _⟩
theorem same_no2 {w : World} {p d c : Nat} {ws : List Int} {pb : Option Addr} (hM : MemAt w p d c ws) (hN : NoMem w pb) : Calls Try.prog 20 #[.pointer (some ⟨p, 0, none⟩), .pointer pb] w (Ret (.bool false) (fun w' => Frm [] w w')) := by
  go_enter Try.func20, Try.ntmps20
  go_wp2_with fail
  go_quiet (first | (go_at_call 32; with_reducible exact none_mem_q hM _) | (go_at_call 32; with_reducible exact none_no_q hN _))
  go_wp2
  go_ret
  exact ⟨rfl, (Frm.refl _ _).drewN _⟩
theorem words_nil {w : World} {pa : Option Addr} (hN : NoMem w pa) : Calls Try.prog 16 #[.pointer pa, .int .i64 0, .int .i64 0, .slice none 0 0, .int .i64 1] w (Ret (.bool true) (fun w' => Frm [] w w')) := by
  go_enter Try.func16, Try.ntmps16
  go_wp2_with fail
  refine (words_no hN 0 0).mono ?_
  rintro e w1 ⟨rfl, hF⟩
  go_wp2_with fail
  refine (same_any (xs := []) (ys := []) (.inl ⟨rfl, rfl⟩) (.inl ⟨rfl, rfl⟩) (by simp) (by simp)).mono ?_
  rintro e w2 ⟨m, rfl, rfl⟩
  go_wp2
  go_ret
  exact ⟨rfl, hF.drewN _⟩
theorem does_no {w : World} {pa : Option Addr} (hN : NoMem w pa) (k x b a : Int) : Calls Try.prog 13 #[.pointer pa, .agg #[.int .i64 k, .int .i64 x, .int .u64 b, .int .u64 a], .agg #[.int .i64 0, .int .i64 0, .int .u64 0, .int .u64 0], .int .i64 1] w (Ret (.bool true) (fun w' => Frm [] w w')) := by
  go_enter Try.func13, Try.ntmps13
  go_wp2_with fail
  refine (do_no_mem (hN.frm (((Frm.refl [] _).alloc _).alloc _)) _ _ _ _).mono ?_
  rintro e w1 ⟨rfl, hF1⟩
  have hB1 := hF1.heap (heap_alloc_at (w := w.alloc _) (k := w.heap.size + 1) _ (by simp)) (by simp)
  obtain ⟨b0, b1, b2, b3⟩ := cells4 hB1
  have hlt : w.heap.size + 1 < w1.heap.size := lt_of_heap hB1
  have hF : Frm [] w w1 := (((Frm.refl _ w).alloc _).alloc _).trans hF1
  clear hF1 hB1
  go_wp2
  go_ret
  exact ⟨rfl, hF.alloc _⟩

theorem Load_no_mem {w : World} {pa : Option Addr} (hN : NoMem w pa) (x : Int) : Calls Try.prog 55 #[.pointer pa, .int .i64 x] w (Ret (.tuple #[.int .u64 0, .int .i64 1]) (fun w' => Frm [] w w')) := by
  go_enter Try.func55, Try.ntmps55
  go_wp2_with fail
  refine (mk_load _ _).mono ?_
  rintro e w1 ⟨rfl, hF1⟩
  go_wp2_with fail
  refine (do_no_mem (hN.frm hF1) _ _ _ _).mono ?_
  rintro e w2 ⟨rfl, hF2⟩
  have hF : Frm [] w w2 := hF1.trans hF2
  clear hF1 hF2
  go_wp2
  go_ret2
  exact ⟨rfl, by repeat' (first | exact hF | apply Frm.alloc)⟩

theorem Store_no_mem {w : World} {pa : Option Addr} (hN : NoMem w pa) (x v : Int) : Calls Try.prog 31 #[.pointer pa, .int .i64 x, .int .u64 v] w (Ret (.int .i64 1) (fun w' => Frm [] w w')) := by
  go_enter Try.func31, Try.ntmps31
  go_wp2_with fail
  refine (mk_store _ _ _).mono ?_
  rintro e w1 ⟨rfl, hF1⟩
  go_wp2_with fail
  refine (do_no_mem (hN.frm hF1) _ _ _ _).mono ?_
  rintro e w2 ⟨rfl, hF2⟩
  have hF : Frm [] w w2 := hF1.trans hF2
  clear hF1 hF2
  go_wp2
  go_ret
  exact ⟨rfl, by repeat' (first | exact hF | apply Frm.alloc)⟩

theorem CAS_no_mem {w : World} {pa : Option Addr} (hN : NoMem w pa) (x o v : Int) : Calls Try.prog 54 #[.pointer pa, .int .i64 x, .int .u64 o, .int .u64 v] w (Ret (.tuple #[.bool false, .int .i64 1]) (fun w' => Frm [] w w')) := by
  go_enter Try.func54, Try.ntmps54
  go_wp2_with fail
  refine (mk_compareAndSwap _ _ _ _).mono ?_
  rintro e w1 ⟨rfl, hF1⟩
  go_wp2_with fail
  refine (do_no_mem (hN.frm hF1) _ _ _ _).mono ?_
  rintro e w2 ⟨rfl, hF2⟩
  have hF : Frm [] w w2 := hF1.trans hF2
  clear hF1 hF2
  go_wp2
  go_ret2
  exact ⟨rfl, by repeat' (first | exact hF | apply Frm.alloc)⟩

theorem Swap_no_mem {w : World} {pa : Option Addr} (hN : NoMem w pa) (x v : Int) : Calls Try.prog 28 #[.pointer pa, .int .i64 x, .int .u64 v] w (Ret (.tuple #[.int .u64 0, .int .i64 1]) (fun w' => Frm [] w w')) := by
  go_enter Try.func28, Try.ntmps28
  go_wp2_with fail
  refine (mk_swap _ _ _).mono ?_
  rintro e w1 ⟨rfl, hF1⟩
  go_wp2_with fail
  refine (do_no_mem (hN.frm hF1) _ _ _ _).mono ?_
  rintro e w2 ⟨rfl, hF2⟩
  have hF : Frm [] w w2 := hF1.trans hF2
  clear hF1 hF2
  go_wp2
  go_ret2
  exact ⟨rfl, by repeat' (first | exact hF | apply Frm.alloc)⟩

theorem loads_no_mem {w : World} {pa : Option Addr} (hN : NoMem w pa) (x : Int) : Calls Try.prog 22 #[.iface 26 (.pointer pa), .int .i64 x, .int .u64 0, .int .i64 1] w (Ret (.bool true) (fun w' => Frm [] w w')) := by
  have hm : ∀ w : World, (method 207 26 (.pointer pa) "Load").run Try.prog w = .ok (55, .pointer pa) w := fun _ => by cases pa <;> kernel_rfl
  go_enter Try.func22, Try.ntmps22
  go_wp2_with fail
  refine (Load_no_mem hN _).mono ?_
  rintro e w1 ⟨rfl, hF⟩
  go_wp2
  go_ret
  exact ⟨rfl, hF⟩

theorem stores_no_mem {w : World} {pa : Option Addr} (hN : NoMem w pa) (x v : Int) : Calls Try.prog 21 #[.iface 26 (.pointer pa), .int .i64 x, .int .u64 v, .int .i64 1] w (Ret (.bool true) (fun w' => Frm [] w w')) := by
  have hm : ∀ w : World, (method 207 26 (.pointer pa) "Store").run Try.prog w = .ok (31, .pointer pa) w := fun _ => by cases pa <;> kernel_rfl
  go_enter Try.func21, Try.ntmps21
  go_wp2_with fail
  refine (Store_no_mem hN _ _).mono ?_
  rintro e w1 ⟨rfl, hF⟩
  go_wp2
  go_ret
  exact ⟨rfl, hF⟩

theorem swaps_no_mem {w : World} {pa : Option Addr} (hN : NoMem w pa) (x v : Int) : Calls Try.prog 29 #[.iface 26 (.pointer pa), .int .i64 x, .int .u64 v, .int .u64 0, .int .i64 1] w (Ret (.bool true) (fun w' => Frm [] w w')) := by
  have hm : ∀ w : World, (method 207 26 (.pointer pa) "Swap").run Try.prog w = .ok (28, .pointer pa) w := fun _ => by cases pa <;> kernel_rfl
  go_enter Try.func29, Try.ntmps29
  go_wp2_with fail
  refine (Swap_no_mem hN _ _).mono ?_
  rintro e w1 ⟨rfl, hF⟩
  go_wp2
  go_ret
  exact ⟨rfl, hF⟩

theorem compares_no_mem {w : World} {pa : Option Addr} (hN : NoMem w pa) (x o v : Int) : Calls Try.prog 30 #[.iface 26 (.pointer pa), .int .i64 x, .int .u64 o, .int .u64 v, .bool false, .int .i64 1] w (Ret (.bool true) (fun w' => Frm [] w w')) := by
  have hm : ∀ w : World, (method 207 26 (.pointer pa) "CAS").run Try.prog w = .ok (54, .pointer pa) w := fun _ => by cases pa <;> kernel_rfl
  go_enter Try.func30, Try.ntmps30
  go_wp2_with fail
  refine (CAS_no_mem hN _ _ _).mono ?_
  rintro e w1 ⟨rfl, hF⟩
  go_wp2
  go_ret
  exact ⟨rfl, hF⟩

theorem makes_no_mem {w : World} {pa : Option Addr} (hN : NoMem w pa) (k x b a : Int) : Calls Try.prog 14 #[.iface 26 (.pointer pa), .agg #[.int .i64 k, .int .i64 x, .int .u64 b, .int .u64 a], .agg #[.int .i64 0, .int .i64 0, .int .u64 0, .int .u64 0], .int .i64 1] w (Ret (.bool true) (fun w' => Frm [] w w')) := by
  by_cases k1 : k = 1
  · have t1 : (k == 1) = true := by simp [k1]
    clear k1
    go_enter Try.func14, Try.ntmps14
    go_wp2_with fail
    refine (loads_no_mem (hN.frm (((Frm.refl [] _).alloc _).alloc _)) _).mono ?_
    rintro e w1 ⟨rfl, hF⟩
    go_wp2
    go_ret
    exact ⟨rfl, (((Frm.refl _ _).alloc _).alloc _).trans hF⟩
  have t1 : (k == 1) = false := by simp [k1]
  by_cases k2 : k = 2
  · have t2 : (k == 2) = true := by simp [k2]
    clear k1 k2
    go_enter Try.func14, Try.ntmps14
    go_wp2_with fail
    refine (stores_no_mem (hN.frm (((Frm.refl [] _).alloc _).alloc _)) _ _).mono ?_
    rintro e w1 ⟨rfl, hF⟩
    go_wp2
    go_ret
    exact ⟨rfl, (((Frm.refl _ _).alloc _).alloc _).trans hF⟩
  have t2 : (k == 2) = false := by simp [k2]
  by_cases k3 : k = 3
  · have t3 : (k == 3) = true := by simp [k3]
    clear k1 k2 k3
    go_enter Try.func14, Try.ntmps14
    go_wp2_with fail
    refine (compares_no_mem (hN.frm (((Frm.refl [] _).alloc _).alloc _)) _ _ _).mono ?_
    rintro e w1 ⟨rfl, hF⟩
    go_wp2
    go_ret
    exact ⟨rfl, (((Frm.refl _ _).alloc _).alloc _).trans hF⟩
  have t3 : (k == 3) = false := by simp [k3]
  · clear k1 k2 k3
    go_enter Try.func14, Try.ntmps14
    go_wp2_with fail
    refine (swaps_no_mem (hN.frm (((Frm.refl [] _).alloc _).alloc _)) _ _).mono ?_
    rintro e w1 ⟨rfl, hF⟩
    go_wp2
    go_ret
    exact ⟨rfl, (((Frm.refl _ _).alloc _).alloc _).trans hF⟩

theorem do_no_once {w : World} {pa : Option Addr} (hN : NoOnce w pa) (k x b a : Int) :
    Calls Try.prog 62 #[.pointer pa, .agg #[.int .i64 k, .int .i64 x, .int .u64 b, .int .u64 a]] w (Ret (.tuple #[.agg #[.int .i64 0, .int .i64 0, .int .u64 0, .int .u64 0], .int .i64 1]) (fun w' => Frm [] w w')) := by
  go_enter Try.func62, Try.ntmps62
  go_wp2_with (go_at_call 35; refine (onone_no (hN.frm (by repeat' (first | exact Frm.refl _ _ | apply Frm.alloc | apply Frm.drewN)))).mono ?_; rintro e w' ⟨rfl, rfl⟩)
  refine bodyPost_ret (v := .tuple #[.agg #[.int .i64 0, .int .i64 0, .int .u64 0, .int .u64 0], .int .i64 1]) (by simp [results, Try.results62, go_sem]) rfl ⟨rfl, (by repeat' (first | exact Frm.refl _ _ | apply Frm.alloc | apply Frm.drewN))⟩

theorem len_no_once {w : World} {pa : Option Addr} (hN : NoOnce w pa) : Calls Try.prog 25 #[.pointer pa] w (Ret (.int .i64 0) (fun w' => Frm [] w w')) := by
  go_enter Try.func25, Try.ntmps25
  go_wp2_with (go_at_call 35; refine (onone_no (hN.frm (by repeat' (first | exact Frm.refl _ _ | apply Frm.alloc | apply Frm.drewN)))).mono ?_; rintro e w' ⟨rfl, rfl⟩)
  go_ret
  exact ⟨rfl, Frm.refl _ _⟩

theorem Load_no_once {w : World} {pa : Option Addr} (hN : NoOnce w pa) (x : Int) : Calls Try.prog 59 #[.pointer pa, .int .i64 x] w (Ret (.tuple #[.int .u64 0, .int .i64 1]) (fun w' => Frm [] w w')) := by
  go_enter Try.func59, Try.ntmps59
  go_wp2_with fail
  refine (mk_load _ _).mono ?_
  rintro e w1 ⟨rfl, hF1⟩
  go_wp2_with fail
  refine (do_no_once (hN.frm hF1) _ _ _ _).mono ?_
  rintro e w2 ⟨rfl, hF2⟩
  have hF : Frm [] w w2 := hF1.trans hF2
  clear hF1 hF2
  go_wp2
  go_ret2
  exact ⟨rfl, by repeat' (first | exact hF | apply Frm.alloc)⟩

theorem Store_no_once {w : World} {pa : Option Addr} (hN : NoOnce w pa) (x v : Int) : Calls Try.prog 60 #[.pointer pa, .int .i64 x, .int .u64 v] w (Ret (.int .i64 1) (fun w' => Frm [] w w')) := by
  go_enter Try.func60, Try.ntmps60
  go_wp2_with fail
  refine (mk_store _ _ _).mono ?_
  rintro e w1 ⟨rfl, hF1⟩
  go_wp2_with fail
  refine (do_no_once (hN.frm hF1) _ _ _ _).mono ?_
  rintro e w2 ⟨rfl, hF2⟩
  have hF : Frm [] w w2 := hF1.trans hF2
  clear hF1 hF2
  go_wp2
  go_ret
  exact ⟨rfl, by repeat' (first | exact hF | apply Frm.alloc)⟩

theorem CAS_no_once {w : World} {pa : Option Addr} (hN : NoOnce w pa) (x o v : Int) : Calls Try.prog 58 #[.pointer pa, .int .i64 x, .int .u64 o, .int .u64 v] w (Ret (.tuple #[.bool false, .int .i64 1]) (fun w' => Frm [] w w')) := by
  go_enter Try.func58, Try.ntmps58
  go_wp2_with fail
  refine (mk_compareAndSwap _ _ _ _).mono ?_
  rintro e w1 ⟨rfl, hF1⟩
  go_wp2_with fail
  refine (do_no_once (hN.frm hF1) _ _ _ _).mono ?_
  rintro e w2 ⟨rfl, hF2⟩
  have hF : Frm [] w w2 := hF1.trans hF2
  clear hF1 hF2
  go_wp2
  go_ret2
  exact ⟨rfl, by repeat' (first | exact hF | apply Frm.alloc)⟩

theorem Swap_no_once {w : World} {pa : Option Addr} (hN : NoOnce w pa) (x v : Int) : Calls Try.prog 61 #[.pointer pa, .int .i64 x, .int .u64 v] w (Ret (.tuple #[.int .u64 0, .int .i64 1]) (fun w' => Frm [] w w')) := by
  go_enter Try.func61, Try.ntmps61
  go_wp2_with fail
  refine (mk_swap _ _ _).mono ?_
  rintro e w1 ⟨rfl, hF1⟩
  go_wp2_with fail
  refine (do_no_once (hN.frm hF1) _ _ _ _).mono ?_
  rintro e w2 ⟨rfl, hF2⟩
  have hF : Frm [] w w2 := hF1.trans hF2
  clear hF1 hF2
  go_wp2
  go_ret2
  exact ⟨rfl, by repeat' (first | exact hF | apply Frm.alloc)⟩

theorem loads_no_once {w : World} {pa : Option Addr} (hN : NoOnce w pa) (x : Int) : Calls Try.prog 22 #[.iface 50 (.pointer pa), .int .i64 x, .int .u64 0, .int .i64 1] w (Ret (.bool true) (fun w' => Frm [] w w')) := by
  have hm : ∀ w : World, (method 207 50 (.pointer pa) "Load").run Try.prog w = .ok (59, .pointer pa) w := fun _ => by cases pa <;> kernel_rfl
  go_enter Try.func22, Try.ntmps22
  go_wp2_with fail
  refine (Load_no_once hN _).mono ?_
  rintro e w1 ⟨rfl, hF⟩
  go_wp2
  go_ret
  exact ⟨rfl, hF⟩

theorem stores_no_once {w : World} {pa : Option Addr} (hN : NoOnce w pa) (x v : Int) : Calls Try.prog 21 #[.iface 50 (.pointer pa), .int .i64 x, .int .u64 v, .int .i64 1] w (Ret (.bool true) (fun w' => Frm [] w w')) := by
  have hm : ∀ w : World, (method 207 50 (.pointer pa) "Store").run Try.prog w = .ok (60, .pointer pa) w := fun _ => by cases pa <;> kernel_rfl
  go_enter Try.func21, Try.ntmps21
  go_wp2_with fail
  refine (Store_no_once hN _ _).mono ?_
  rintro e w1 ⟨rfl, hF⟩
  go_wp2
  go_ret
  exact ⟨rfl, hF⟩

theorem swaps_no_once {w : World} {pa : Option Addr} (hN : NoOnce w pa) (x v : Int) : Calls Try.prog 29 #[.iface 50 (.pointer pa), .int .i64 x, .int .u64 v, .int .u64 0, .int .i64 1] w (Ret (.bool true) (fun w' => Frm [] w w')) := by
  have hm : ∀ w : World, (method 207 50 (.pointer pa) "Swap").run Try.prog w = .ok (61, .pointer pa) w := fun _ => by cases pa <;> kernel_rfl
  go_enter Try.func29, Try.ntmps29
  go_wp2_with fail
  refine (Swap_no_once hN _ _).mono ?_
  rintro e w1 ⟨rfl, hF⟩
  go_wp2
  go_ret
  exact ⟨rfl, hF⟩

theorem compares_no_once {w : World} {pa : Option Addr} (hN : NoOnce w pa) (x o v : Int) : Calls Try.prog 30 #[.iface 50 (.pointer pa), .int .i64 x, .int .u64 o, .int .u64 v, .bool false, .int .i64 1] w (Ret (.bool true) (fun w' => Frm [] w w')) := by
  have hm : ∀ w : World, (method 207 50 (.pointer pa) "CAS").run Try.prog w = .ok (58, .pointer pa) w := fun _ => by cases pa <;> kernel_rfl
  go_enter Try.func30, Try.ntmps30
  go_wp2_with fail
  refine (CAS_no_once hN _ _ _).mono ?_
  rintro e w1 ⟨rfl, hF⟩
  go_wp2
  go_ret
  exact ⟨rfl, hF⟩

theorem makes_no_once {w : World} {pa : Option Addr} (hN : NoOnce w pa) (k x b a : Int) : Calls Try.prog 14 #[.iface 50 (.pointer pa), .agg #[.int .i64 k, .int .i64 x, .int .u64 b, .int .u64 a], .agg #[.int .i64 0, .int .i64 0, .int .u64 0, .int .u64 0], .int .i64 1] w (Ret (.bool true) (fun w' => Frm [] w w')) := by
  by_cases k1 : k = 1
  · have t1 : (k == 1) = true := by simp [k1]
    clear k1
    go_enter Try.func14, Try.ntmps14
    go_wp2_with fail
    refine (loads_no_once (hN.frm (((Frm.refl [] _).alloc _).alloc _)) _).mono ?_
    rintro e w1 ⟨rfl, hF⟩
    go_wp2
    go_ret
    exact ⟨rfl, (((Frm.refl _ _).alloc _).alloc _).trans hF⟩
  have t1 : (k == 1) = false := by simp [k1]
  by_cases k2 : k = 2
  · have t2 : (k == 2) = true := by simp [k2]
    clear k1 k2
    go_enter Try.func14, Try.ntmps14
    go_wp2_with fail
    refine (stores_no_once (hN.frm (((Frm.refl [] _).alloc _).alloc _)) _ _).mono ?_
    rintro e w1 ⟨rfl, hF⟩
    go_wp2
    go_ret
    exact ⟨rfl, (((Frm.refl _ _).alloc _).alloc _).trans hF⟩
  have t2 : (k == 2) = false := by simp [k2]
  by_cases k3 : k = 3
  · have t3 : (k == 3) = true := by simp [k3]
    clear k1 k2 k3
    go_enter Try.func14, Try.ntmps14
    go_wp2_with fail
    refine (compares_no_once (hN.frm (((Frm.refl [] _).alloc _).alloc _)) _ _ _).mono ?_
    rintro e w1 ⟨rfl, hF⟩
    go_wp2
    go_ret
    exact ⟨rfl, (((Frm.refl _ _).alloc _).alloc _).trans hF⟩
  have t3 : (k == 3) = false := by simp [k3]
  · clear k1 k2 k3
    go_enter Try.func14, Try.ntmps14
    go_wp2_with fail
    refine (swaps_no_once (hN.frm (((Frm.refl [] _).alloc _).alloc _)) _ _).mono ?_
    rintro e w1 ⟨rfl, hF⟩
    go_wp2
    go_ret
    exact ⟨rfl, (((Frm.refl _ _).alloc _).alloc _).trans hF⟩

theorem oaccess_no {w : World} {pa : Option Addr} (hN : NoOnce w pa) : Calls Try.prog 26 #[.pointer pa] w (Ret (.agg #[.int .i64 0, .int .i64 0, .int .u64 0, .int .u64 0]) (fun w' => Frm [] w w')) := by
  go_enter Try.func26, Try.ntmps26
  go_wp2_with (go_at_call 35; refine (onone_no (hN.frm ((Frm.refl [] _).alloc _))).mono ?_; rintro e w' ⟨rfl, rfl⟩)
  refine bodyPost_ret (v := .agg #[.int .i64 0, .int .i64 0, .int .u64 0, .int .u64 0]) (by simp [results, Try.results26, go_sem]) rfl ⟨rfl, (Frm.refl _ _).alloc _⟩

end Go.Proofs.Ythmpmpjkkjjbbaa
