/- Both programs by one name: run with its deferred call, Step. -/
import Derived.Test.YtbhnijkphkkalaaVeE
namespace Go.Proofs.Ytbhnijkphkkalaa
open Go.ChangeShapes Go.WideShapes Go.ChangeAt Go.RowKit
set_option linter.unusedVariables false

def Tp (R : Bool) : TypeId := if R then 71 else 73
def Ip (R : Bool) : TypeId := if R then 26 else 33
def fstep (R : Bool) : FuncId := if R then 42 else 43
def fStep (R : Bool) : FuncId := if R then 30 else 31
def fDone (R : Bool) : FuncId := if R then 12 else 17
def fResult (R : Bool) : FuncId := if R then 13 else 18
def fCopy (R : Bool) : FuncId := if R then 73 else 75
theorem m_Step (R : Bool) (q : Nat) (w : World) : (method 230 (Ip R) (.pointer (some ⟨q, 0, none⟩)) "Step").run Try.prog w = .ok (fStep R, .pointer (some ⟨q, 0, none⟩)) w := by cases R <;> kernel_rfl
theorem m_Done (R : Bool) (q : Nat) (w : World) : (method 230 (Ip R) (.pointer (some ⟨q, 0, none⟩)) "Done").run Try.prog w = .ok (fDone R, .pointer (some ⟨q, 0, none⟩)) w := by cases R <;> kernel_rfl
theorem m_Result (R : Bool) (q : Nat) (w : World) : (method 230 (Ip R) (.pointer (some ⟨q, 0, none⟩)) "Result").run Try.prog w = .ok (fResult R, .pointer (some ⟨q, 0, none⟩)) w := by cases R <;> kernel_rfl
theorem m_Copy (R : Bool) (q : Nat) (w : World) : (method 230 (Ip R) (.pointer (some ⟨q, 0, none⟩)) "Copy").run Try.prog w = .ok (fCopy R, .pointer (some ⟨q, 0, none⟩)) w := by cases R <;> kernel_rfl
set_option maxRecDepth 100000 in
theorem c_step (R : Bool) (args : Array Value) (w : World) : (callFunc (fstep R) args).run Try.prog w = .ok (.enter (fstep R) args) w := by cases R <;> first | rfl | (show (callFunc _ _).run _ _ = _; simp only [fstep, Bool.false_eq_true, if_false, if_true]; go_simp)
set_option maxRecDepth 100000 in
theorem c_Step (R : Bool) (args : Array Value) (w : World) : (callFunc (fStep R) args).run Try.prog w = .ok (.enter (fStep R) args) w := by cases R <;> first | rfl | (show (callFunc _ _).run _ _ = _; simp only [fStep, Bool.false_eq_true, if_false, if_true]; go_simp)
set_option maxRecDepth 100000 in
theorem c_Done (R : Bool) (args : Array Value) (w : World) : (callFunc (fDone R) args).run Try.prog w = .ok (.enter (fDone R) args) w := by cases R <;> first | rfl | (show (callFunc _ _).run _ _ = _; simp only [fDone, Bool.false_eq_true, if_false, if_true]; go_simp)
set_option maxRecDepth 100000 in
theorem c_Result (R : Bool) (args : Array Value) (w : World) : (callFunc (fResult R) args).run Try.prog w = .ok (.enter (fResult R) args) w := by cases R <;> first | rfl | (show (callFunc _ _).run _ _ = _; simp only [fResult, Bool.false_eq_true, if_false, if_true]; go_simp)
set_option maxRecDepth 100000 in
theorem c_Copy (R : Bool) (args : Array Value) (w : World) : (callFunc (fCopy R) args).run Try.prog w = .ok (.enter (fCopy R) args) w := by cases R <;> first | rfl | (show (callFunc _ _).run _ _ = _; simp only [fCopy, Bool.false_eq_true, if_false, if_true]; go_simp)

theorem catch_idle (a1 a2 : Value) (w : World) :
    CallsD Try.prog 49 #[a1, a2] .returning w fun e u' w' => e = .returned (.tuple #[]) ∧ u' = .returning ∧ w' = w := by
  refine callsD_of_wpS Try.func49 rfl fun c₀ cs hu => ?_
  apply wpS_seq
  apply wpS_region
  simp [wpOpsS, go_sem, recoverD, hu, Try.ntmps49, Exit.thenS]
  refine wpS_cond (t := false) (by simp [Act.eval, Array.replicate]) ?_
  simp only [Bool.false_eq_true, if_false]
  refine wpS_of_wp (wp_skip ?_)
  cases c₀
  simp_all [bodyPostS, results, Try.results49]

section
variable {w : World} {p d c : Nat} {ws : List Int} {q b cq : Nat} {T : TypeId} {tl tl' : List Value} {L : Nat} {F : Int} {buf buf' : List Int} {k k' : Nat} {st was res st' was' res' : Int}

set_option maxRecDepth 100000 in
set_option maxHeartbeats 4000000 in
theorem crun (R : Bool) {x : Bool} {y : Int} {ws' : List Int} (hM : MemAt w p d c ws) (hP : PgAt w q b cq T tl L F buf k st was res) (hst : st ≠ 0) (h5 : st ≠ 5)
    (hS : ∀ w2, Frm [] w w2 → Calls Try.prog (fstep R) #[.pointer (some ⟨q, 0, none⟩), .iface 39 (.pointer (some ⟨p, 0, none⟩))] w2 (Ret (.tuple #[.bool x, .int .i64 y]) (Aft p d c q b cq T tl' w2 ws' L F buf' k' st' was' res'))) :
    Calls Try.prog 41 #[.pointer (some ⟨q, 0, none⟩), .func (Fn.func (fstep R)) #[.pointer (some ⟨q, 0, none⟩)] #[], .iface 39 (.pointer (some ⟨p, 0, none⟩))] w
      (Ret (.tuple #[.bool x, .int .i64 y]) (Aft p d c q b cq T tl' w ws' L F buf' k' st' was' res')) := by
  have hmf : ∀ (fn : Fn) (first cap : Array Value) (w : World), (Instr.makeFunc fn first cap).run Try.prog w = .ok (.func fn first cap) w := fun _ _ _ _ => rfl
  have hcs := c_step R
  have hpl := hM.plt
  have hdl := hM.dlt
  have hql := hP.qlt
  have hbl := hP.blt
  obtain ⟨X, hX⟩ : ∃ X, X = (w.alloc (.cells #[.bool false] 4)).alloc (.cells #[.int .i64 0] 27) := ⟨_, rfl⟩
  have hFX : Frm [] w X := by rw [hX]; exact ((Frm.refl _ _).alloc _).alloc _
  have hb0 : X.heap[w.heap.size]? = some (.cells #[.bool false] 4 (0, 0)) := by rw [hX]; exact heap_alloc_old _ (heap_alloc_new _ _)
  have hb1 : X.heap[w.heap.size + 1]? = some (.cells #[.int .i64 0] 27 (0, 0)) := by rw [hX]; exact heap_alloc_at _ (by simp)
  have H := Lib.hid hP
  have HPX := Lib.hid (hP.frm0 hFX)
  have HS := Lib.hid hS
  have HST := Lib.hid hst
  have H5 := Lib.hid h5
  have HFX := Lib.hid hFX
  have HB0 := Lib.hid hb0
  have HB1 := Lib.hid hb1
  clear hM hP hS hst h5 hFX hb0 hb1
  go_enter_defers Try.func41, Try.ntmps41
  go_wp2_with fail
  rw [← hX]
  clear hX
  refine (cnone_1 HPX.out HST.out).mono ?_
  rintro e w' ⟨rfl, rfl⟩
  go_wp2_with fail
  refine (cdone_n HPX.out HST.out H5.out).mono ?_
  rintro e w' ⟨rfl, rfl⟩
  go_wp2_with fail
  refine (HS.out _ HFX.out).mono ?_
  rintro e w3 ⟨rfl, hF3, hM3, hP3⟩
  have g0 := hF3.heap HB0.out (by simp; omega)
  have g1 := hF3.heap HB1.out (by simp; omega)
  have k0 : w3.cell? ⟨w.heap.size, 0, none⟩ = some (.bool false) := by rw [cell_of_heap g0]; rfl
  have k1 : w3.cell? ⟨w.heap.size + 1, 0, none⟩ = some (.int .i64 0) := by rw [cell_of_heap g1]; rfl
  have z0 : w3.frozen? ⟨w.heap.size, 0, none⟩ = false := frozen_of_heap g0
  have z1 : w3.frozen? ⟨w.heap.size + 1, 0, none⟩ = false := frozen_of_heap g1
  have HF3 := Lib.hid hF3
  have HM3 := Lib.hid hM3
  have HP3 := Lib.hid hP3
  clear g0 g1 hF3 hM3 hP3
  go_wp2
  refine leaves_cons (f := 49) (args := #[.pointer (some ⟨w.heap.size, 0, none⟩), .pointer (some ⟨w.heap.size + 1, 0, none⟩)]) (by simp) (by simp [go_sem]) ?_
  refine (catch_idle _ _ _).mono ?_
  rintro e u' w'' ⟨rfl, rfl, rfl⟩
  have hA : Aft p d c q b cq T tl' w ws' L F buf' k' st' was' res' ((w3.setCell ⟨w.heap.size, 0, none⟩ (.bool x)).setCell ⟨w.heap.size + 1, 0, none⟩ (.int .i64 y)) :=
    ⟨((HFX.out.nil.trans HF3.out).setCell _ _ (.inr (Nat.le_refl _))).setCell _ _ (.inr (Nat.le_succ _)),
      (HM3.out.setFar _ _ (by simp; omega) (by simp; omega)).setFar _ _ (by simp; omega) (by simp; omega),
      HP3.out.frm (((Frm.refl [w.heap.size, w.heap.size + 1] w3).setCell ⟨w.heap.size, 0, none⟩ (.bool x) (.inl (by simp))).setCell ⟨w.heap.size + 1, 0, none⟩ (.int .i64 y) (.inl (by simp))) (by simp; omega) (by simp; omega)⟩
  have HA := Lib.hid hA
  clear hA
  simp [Leaves, settle, results, Try.results41, go_sem, k0, k1]
  exact ⟨rfl, HA.out⟩
set_option maxHeartbeats 4000000 in
theorem Step_of (R : Bool) {x : Bool} {y : Int} {ws' : List Int} (hM : MemAt w p d c ws) (hP : PgAt w q b cq T tl L F buf k st was res) (hst : st ≠ 0) (h5 : st ≠ 5)
    (hS : ∀ w2, Frm [] w w2 → Calls Try.prog (fstep R) #[.pointer (some ⟨q, 0, none⟩), .iface 39 (.pointer (some ⟨p, 0, none⟩))] w2 (Ret (.tuple #[.bool x, .int .i64 y]) (Aft p d c q b cq T tl' w2 ws' L F buf' k' st' was' res'))) :
    Calls Try.prog (fStep R) #[.pointer (some ⟨q, 0, none⟩), .iface 39 (.pointer (some ⟨p, 0, none⟩))] w
      (Ret (.tuple #[.bool x, .int .i64 y]) (Aft p d c q b cq T tl' w ws' L F buf' k' st' was' res')) := by
  have hmf : ∀ (fn : Fn) (first cap : Array Value) (w : World), (Instr.makeFunc fn first cap).run Try.prog w = .ok (.func fn first cap) w := fun _ _ _ _ => rfl
  have H := Lib.hid (crun R hM hP hst h5 hS)
  clear hM hP hst h5 hS
  cases R
  · go_enter Try.func31, Try.ntmps31
    go_wp2_with fail
    refine H.out.mono ?_
    rintro e w1 ⟨rfl, hR⟩
    have HR := Lib.hid hR
    clear hR
    go_wp2
    go_ret2
    exact ⟨rfl, HR.out⟩
  · go_enter Try.func30, Try.ntmps30
    go_wp2_with fail
    refine H.out.mono ?_
    rintro e w1 ⟨rfl, hR⟩
    have HR := Lib.hid hR
    clear hR
    go_wp2
    go_ret2
    exact ⟨rfl, HR.out⟩
theorem crun_over (hP : PgAt w q b cq T tl L F buf k 5 was res) (v : Value) : Calls Try.prog 41 #[.pointer (some ⟨q, 0, none⟩), v, .iface 39 (.pointer (some ⟨p, 0, none⟩))] w (Ret (.tuple #[.bool false, .int .i64 17]) (fun w' => Frm [] w w')) := by
  obtain ⟨X, hX⟩ : ∃ X, X = (w.alloc (.cells #[.bool false] 4)).alloc (.cells #[.int .i64 0] 27) := ⟨_, rfl⟩
  have hFX : Frm [] w X := by rw [hX]; exact ((Frm.refl _ _).alloc _).alloc _
  have g0 : X.heap[w.heap.size]? = some (.cells #[.bool false] 4 (0, 0)) := by rw [hX]; exact heap_alloc_old _ (heap_alloc_new _ _)
  have g1 : X.heap[w.heap.size + 1]? = some (.cells #[.int .i64 0] 27 (0, 0)) := by rw [hX]; exact heap_alloc_at _ (by simp)
  have k0 : X.cell? ⟨w.heap.size, 0, none⟩ = some (.bool false) := by rw [cell_of_heap g0]; rfl
  have k1 : X.cell? ⟨w.heap.size + 1, 0, none⟩ = some (.int .i64 0) := by rw [cell_of_heap g1]; rfl
  have z0 : X.frozen? ⟨w.heap.size, 0, none⟩ = false := frozen_of_heap g0
  have z1 : X.frozen? ⟨w.heap.size + 1, 0, none⟩ = false := frozen_of_heap g1
  have HPX := Lib.hid (hP.frm0 hFX)
  have HFX := Lib.hid hFX
  clear hP hFX g0 g1
  go_enter_defers Try.func41, Try.ntmps41
  go_wp2_with fail
  rw [← hX]
  clear hX
  refine (cnone_1 HPX.out (by decide)).mono ?_
  rintro e w' ⟨rfl, rfl⟩
  go_wp2_with fail
  refine (cdone_5 HPX.out).mono ?_
  rintro e w' ⟨rfl, rfl⟩
  go_wp2
  have hA : Frm [] w ((X.setCell ⟨w.heap.size, 0, none⟩ (.bool false)).setCell ⟨w.heap.size + 1, 0, none⟩ (.int .i64 17)) :=
    (HFX.out.setCell _ _ (.inr (Nat.le_refl _))).setCell _ _ (.inr (Nat.le_succ _))
  have HA := Lib.hid hA
  clear hA
  simp only [bodyPostD, Leaves]
  exact ⟨.tuple #[.bool false, .int .i64 17], by simp [results, Try.results41, go_sem, k0, k1], rfl, HA.out⟩
/-- The step without an arena. -/
theorem crun_nil (hP : PgAt w q b cq T tl L F buf k st was res) (hst : st ≠ 0) (v : Value) : Calls Try.prog 41 #[.pointer (some ⟨q, 0, none⟩), v, .nilIface] w (Ret (.tuple #[.bool false, .int .i64 1]) (fun w' => Frm [] w w')) := by
  obtain ⟨X, hX⟩ : ∃ X, X = (w.alloc (.cells #[.bool false] 4)).alloc (.cells #[.int .i64 0] 27) := ⟨_, rfl⟩
  have hFX : Frm [] w X := by rw [hX]; exact ((Frm.refl _ _).alloc _).alloc _
  have g0 : X.heap[w.heap.size]? = some (.cells #[.bool false] 4 (0, 0)) := by rw [hX]; exact heap_alloc_old _ (heap_alloc_new _ _)
  have g1 : X.heap[w.heap.size + 1]? = some (.cells #[.int .i64 0] 27 (0, 0)) := by rw [hX]; exact heap_alloc_at _ (by simp)
  have k0 : X.cell? ⟨w.heap.size, 0, none⟩ = some (.bool false) := by rw [cell_of_heap g0]; rfl
  have k1 : X.cell? ⟨w.heap.size + 1, 0, none⟩ = some (.int .i64 0) := by rw [cell_of_heap g1]; rfl
  have z0 : X.frozen? ⟨w.heap.size, 0, none⟩ = false := frozen_of_heap g0
  have z1 : X.frozen? ⟨w.heap.size + 1, 0, none⟩ = false := frozen_of_heap g1
  have HPX := Lib.hid (hP.frm0 hFX)
  have HST := Lib.hid hst
  have HFX := Lib.hid hFX
  clear hP hFX g0 g1 hst
  go_enter_defers Try.func41, Try.ntmps41
  go_wp2_with fail
  rw [← hX]
  clear hX
  refine (cnone_1 HPX.out HST.out).mono ?_
  rintro e w' ⟨rfl, rfl⟩
  go_wp2
  have hA : Frm [] w ((X.setCell ⟨w.heap.size, 0, none⟩ (.bool false)).setCell ⟨w.heap.size + 1, 0, none⟩ (.int .i64 1)) :=
    (HFX.out.setCell _ _ (.inr (Nat.le_refl _))).setCell _ _ (.inr (Nat.le_succ _))
  have HA := Lib.hid hA
  clear hA
  simp only [bodyPostD, Leaves]
  exact ⟨.tuple #[.bool false, .int .i64 1], by simp [results, Try.results41, go_sem, k0, k1], rfl, HA.out⟩
/-- Step of what run does for any step. -/
theorem Step_fix (R : Bool) {m r : Value} {S : World → Prop} {x : Bool} {y : Int} (hr : r = .tuple #[.bool x, .int .i64 y]) (H : Hid (∀ v, Calls Try.prog 41 #[.pointer (some ⟨q, 0, none⟩), v, m] w (Ret r S))) :
    Calls Try.prog (fStep R) #[.pointer (some ⟨q, 0, none⟩), m] w (Ret r S) := by
  have hmf : ∀ (fn : Fn) (first cap : Array Value) (w : World), (Instr.makeFunc fn first cap).run Try.prog w = .ok (.func fn first cap) w := fun _ _ _ _ => rfl
  subst hr
  cases R
  · go_enter Try.func31, Try.ntmps31
    go_wp2_with fail
    refine (H.out _).mono ?_
    rintro e w1 ⟨rfl, hR⟩
    have HR := Lib.hid hR
    clear hR
    go_wp2
    go_ret2
    exact ⟨rfl, HR.out⟩
  · go_enter Try.func30, Try.ntmps30
    go_wp2_with fail
    refine (H.out _).mono ?_
    rintro e w1 ⟨rfl, hR⟩
    have HR := Lib.hid hR
    clear hR
    go_wp2
    go_ret2
    exact ⟨rfl, HR.out⟩
theorem Step_over (R : Bool) (hP : PgAt w q b cq T tl L F buf k 5 was res) : Calls Try.prog (fStep R) #[.pointer (some ⟨q, 0, none⟩), .iface 39 (.pointer (some ⟨p, 0, none⟩))] w (Ret (.tuple #[.bool false, .int .i64 17]) (fun w' => Frm [] w w')) :=
  Step_fix R rfl (Lib.hid fun v => crun_over hP v)
theorem Step_nilmem (R : Bool) (hP : PgAt w q b cq T tl L F buf k st was res) (hst : st ≠ 0) : Calls Try.prog (fStep R) #[.pointer (some ⟨q, 0, none⟩), .nilIface] w (Ret (.tuple #[.bool false, .int .i64 1]) (fun w' => Frm [] w w')) :=
  Step_fix R rfl (Lib.hid fun v => crun_nil hP hst v)
end
#print axioms Step_of
end Go.Proofs.Ytbhnijkphkkalaa
