/- Nil and zero programs. -/
import Derived.Test.YtbhnijkphkkalaaVeR
namespace Go.Proofs.Ytbhnijkphkkalaa
open Go.ChangeShapes Go.WideShapes Go.ChangeAt Go.RowKit
set_option linter.unusedVariables false

def zcells (R : Bool) : Array Value := if R then #[.int .i64 0, .int .i64 0, .slice none 0 0, .int .i64 0, .int .i64 0, .int .u64 0, .int .u64 0, .int .i64 0] else #[.int .i64 0, .int .i64 0, .slice none 0 0, .int .i64 0, .int .i64 0, .int .u64 0, .int .u64 0]
/-- A zero program. -/
def Z (R : Bool) (w : World) (q : Nat) : Prop := w.heap[q]? = some (.cells (zcells R) (Tp R) (0, 0))
theorem Z.frm0 {R : Bool} {w w' : World} {q : Nat} (h : Z R w q) (hf : Frm [] w w') : Z R w' q := hf.heap h (by simp)
theorem Z.c4 {R : Bool} {w : World} {q : Nat} (h : Z R w q) : w.cell? ⟨q, 4, none⟩ = some (.int .i64 0) := by rw [cell_of_heap h]; cases R <;> rfl
theorem Z.c6 {R : Bool} {w : World} {q : Nat} (h : Z R w q) : w.cell? ⟨q, 6, none⟩ = some (.int .u64 0) := by rw [cell_of_heap h]; cases R <;> rfl

section
variable {w : World} {q : Nat} {R : Bool}
theorem cnone_0 (h : Z R w q) : Calls Try.prog 47 #[.pointer (some ⟨q, 0, none⟩)] w (Ret (.bool true) (fun w' => w = w')) := by
  have c4 := h.c4
  clear h
  go_enter Try.func47, Try.ntmps47
  go_wp2
  go_ret
  exact ⟨rfl, rfl⟩
theorem cdone_0 (h : Z R w q) : Calls Try.prog 35 #[.pointer (some ⟨q, 0, none⟩)] w (Ret (.bool true) (fun w' => w = w')) := by
  have H := Lib.hid (cnone_0 h)
  clear h
  go_enter Try.func35, Try.ntmps35
  go_wp2_with fail
  refine H.out.mono ?_
  rintro e w' ⟨rfl, rfl⟩
  go_wp2
  go_ret
  exact ⟨rfl, rfl⟩
theorem crun_0 (h : Z R w q) (v m : Value) : Calls Try.prog 41 #[.pointer (some ⟨q, 0, none⟩), v, m] w (Ret (.tuple #[.bool false, .int .i64 1]) (fun w' => Frm [] w w')) := by
  obtain ⟨X, hX⟩ : ∃ X, X = (w.alloc (.cells #[.bool false] 4)).alloc (.cells #[.int .i64 0] 27) := ⟨_, rfl⟩
  have hFX : Frm [] w X := by rw [hX]; exact ((Frm.refl _ _).alloc _).alloc _
  have g0 : X.heap[w.heap.size]? = some (.cells #[.bool false] 4 (0, 0)) := by rw [hX]; exact heap_alloc_old _ (heap_alloc_new _ _)
  have g1 : X.heap[w.heap.size + 1]? = some (.cells #[.int .i64 0] 27 (0, 0)) := by rw [hX]; exact heap_alloc_at _ (by simp)
  have k0 : X.cell? ⟨w.heap.size, 0, none⟩ = some (.bool false) := by rw [cell_of_heap g0]; rfl
  have k1 : X.cell? ⟨w.heap.size + 1, 0, none⟩ = some (.int .i64 0) := by rw [cell_of_heap g1]; rfl
  have z0 : X.frozen? ⟨w.heap.size, 0, none⟩ = false := frozen_of_heap g0
  have z1 : X.frozen? ⟨w.heap.size + 1, 0, none⟩ = false := frozen_of_heap g1
  have HPX := Lib.hid (cnone_0 (h.frm0 hFX))
  have HFX := Lib.hid hFX
  clear h hFX g0 g1
  go_enter_defers Try.func41, Try.ntmps41
  go_wp2_with fail
  rw [← hX]
  clear hX
  refine HPX.out.mono ?_
  rintro e w' ⟨rfl, rfl⟩
  go_wp2
  have hA : Frm [] w ((X.setCell ⟨w.heap.size, 0, none⟩ (.bool false)).setCell ⟨w.heap.size + 1, 0, none⟩ (.int .i64 1)) :=
    (HFX.out.setCell _ _ (.inr (Nat.le_refl _))).setCell _ _ (.inr (Nat.le_succ _))
  have HA := Lib.hid hA
  clear hA
  simp only [bodyPostD, Leaves]
  exact ⟨.tuple #[.bool false, .int .i64 1], by simp [results, Try.results41, go_sem, k0, k1], rfl, HA.out⟩
theorem Step_0 (h : Z R w q) (m : Value) : Calls Try.prog (fStep R) #[.pointer (some ⟨q, 0, none⟩), m] w (Ret (.tuple #[.bool false, .int .i64 1]) (fun w' => Frm [] w w')) :=
  Step_fix R rfl (Lib.hid fun v => crun_0 h v m)
theorem Done_0 (h : Z R w q) : Calls Try.prog (fDone R) #[.pointer (some ⟨q, 0, none⟩)] w (Ret (.bool true) (fun w' => w = w')) := by
  have H := Lib.hid (cdone_0 h)
  clear h
  cases R
  · go_enter Try.func17, Try.ntmps17
    go_wp2_with fail
    refine H.out.mono ?_
    rintro e w1 ⟨rfl, rfl⟩
    go_wp2
    go_ret
    exact ⟨rfl, rfl⟩
  · go_enter Try.func12, Try.ntmps12
    go_wp2_with fail
    refine H.out.mono ?_
    rintro e w1 ⟨rfl, rfl⟩
    go_wp2
    go_ret
    exact ⟨rfl, rfl⟩
theorem Result_0 (h : Z R w q) : Calls Try.prog (fResult R) #[.pointer (some ⟨q, 0, none⟩)] w (Ret (.int .u64 0) (fun w' => w = w')) := by
  have c6 := h.c6
  clear h
  cases R
  · go_enter Try.func18, Try.ntmps18
    go_wp2
    go_ret
    exact ⟨rfl, rfl⟩
  · go_enter Try.func13, Try.ntmps13
    go_wp2
    go_ret
    exact ⟨rfl, rfl⟩
theorem Copy_0 (h : Z R w q) : Calls Try.prog (fCopy R) #[.pointer (some ⟨q, 0, none⟩)] w (Ret .nilIface (fun w' => w = w')) := by
  have H := Lib.hid (cnone_0 h)
  clear h
  cases R
  · go_enter Try.func75, Try.ntmps75
    go_wp2_with fail
    refine H.out.mono ?_
    rintro e w1 ⟨rfl, rfl⟩
    go_wp2
    go_ret
    exact ⟨rfl, rfl⟩
  · go_enter Try.func73, Try.ntmps73
    go_wp2_with fail
    refine H.out.mono ?_
    rintro e w1 ⟨rfl, rfl⟩
    go_wp2
    go_ret
    exact ⟨rfl, rfl⟩
end
section
variable (R : Bool) (w : World)
theorem Step_n (m : Value) : Calls Try.prog (fStep R) #[.pointer none, m] w (Ret (.tuple #[.bool false, .int .i64 1]) (fun w' => w = w')) := by
  cases R
  · go_enter Try.func31, Try.ntmps31
    go_wp2
    go_ret2
    exact ⟨rfl, rfl⟩
  · go_enter Try.func30, Try.ntmps30
    go_wp2
    go_ret2
    exact ⟨rfl, rfl⟩
theorem Done_n : Calls Try.prog (fDone R) #[.pointer none] w (Ret (.bool true) (fun w' => w = w')) := by
  cases R
  · go_enter Try.func17, Try.ntmps17
    go_wp2
    go_ret
    exact ⟨rfl, rfl⟩
  · go_enter Try.func12, Try.ntmps12
    go_wp2
    go_ret
    exact ⟨rfl, rfl⟩
theorem Result_n : Calls Try.prog (fResult R) #[.pointer none] w (Ret (.int .u64 0) (fun w' => w = w')) := by
  cases R
  · go_enter Try.func18, Try.ntmps18
    go_wp2
    go_ret
    exact ⟨rfl, rfl⟩
  · go_enter Try.func13, Try.ntmps13
    go_wp2
    go_ret
    exact ⟨rfl, rfl⟩
theorem Copy_n : Calls Try.prog (fCopy R) #[.pointer none] w (Ret .nilIface (fun w' => w = w')) := by
  cases R
  · go_enter Try.func75, Try.ntmps75
    go_wp2
    go_ret
    exact ⟨rfl, rfl⟩
  · go_enter Try.func73, Try.ntmps73
    go_wp2
    go_ret
    exact ⟨rfl, rfl⟩
theorem Words_n : Calls Try.prog 14 #[.pointer none] w (Ret (.slice none 0 0) (fun w' => w = w')) := by
  have H := Lib.hid (Result_n true w)
  go_enter Try.func14, Try.ntmps14
  go_wp2_with fail
  refine H.out.mono ?_
  rintro e w1 ⟨rfl, rfl⟩
  go_wp2
  go_ret
  exact ⟨rfl, rfl⟩
theorem Version_n : Calls Try.prog 15 #[.pointer none] w (Ret (.int .u64 0) (fun w' => w = w')) := by
  have H := Lib.hid (Result_n true w)
  go_enter Try.func15, Try.ntmps15
  go_wp2_with fail
  refine H.out.mono ?_
  rintro e w1 ⟨rfl, rfl⟩
  go_wp2
  go_ret
  exact ⟨rfl, rfl⟩
end
/-- A nil or a zero program, by its address. -/
def Nz (R : Bool) (w : World) (v : Value) : Prop := v = .pointer none ∨ ∃ q, v = .pointer (some ⟨q, 0, none⟩) ∧ Z R w q
theorem Nz.frm0 {R : Bool} {w w' : World} {v : Value} (h : Nz R w v) (hf : Frm [] w w') : Nz R w' v := by
  rcases h with h | ⟨q, h1, h2⟩
  · exact .inl h
  · exact .inr ⟨q, h1, h2.frm0 hf⟩
theorem Step_z {R : Bool} {w : World} {v : Value} (h : Nz R w v) (m : Value) : Calls Try.prog (fStep R) #[v, m] w (Ret (.tuple #[.bool false, .int .i64 1]) (fun w' => Frm [] w w')) := by
  rcases h with rfl | ⟨q, rfl, h⟩
  · exact (Step_n R w m).mono fun _ _ hh => ⟨hh.1, by rw [← hh.2]; exact Frm.refl _ _⟩
  · exact Step_0 h m
theorem Done_z {R : Bool} {w : World} {v : Value} (h : Nz R w v) : Calls Try.prog (fDone R) #[v] w (Ret (.bool true) (fun w' => w = w')) := by
  rcases h with rfl | ⟨q, rfl, h⟩
  · exact Done_n R w
  · exact Done_0 h
theorem Result_z {R : Bool} {w : World} {v : Value} (h : Nz R w v) : Calls Try.prog (fResult R) #[v] w (Ret (.int .u64 0) (fun w' => w = w')) := by
  rcases h with rfl | ⟨q, rfl, h⟩
  · exact Result_n R w
  · exact Result_0 h
theorem Copy_z {R : Bool} {w : World} {v : Value} (h : Nz R w v) : Calls Try.prog (fCopy R) #[v] w (Ret .nilIface (fun w' => w = w')) := by
  rcases h with rfl | ⟨q, rfl, h⟩
  · exact Copy_n R w
  · exact Copy_0 h
#print axioms Copy_z
end Go.Proofs.Ytbhnijkphkkalaa
