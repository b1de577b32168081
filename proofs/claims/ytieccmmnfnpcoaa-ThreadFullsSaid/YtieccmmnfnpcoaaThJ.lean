/- Stage 12: copyOf, hasEnded, resultOf, stepOf of any program; Step of a code that has ended. -/
import Derived.Test.YtieccmmnfnpcoaaThI
namespace Go.Proofs.Ytieccmmnfnpcoaa
open Go.ChangeShapes Go.WideShapes Go.ChangeAt Go.RowKit
set_option linter.unusedVariables false

theorem idleC (a1 : Value) (w : World) :
    CallsD Try.prog 81 #[a1] .returning w fun e u' w' => e = .returned (.tuple #[]) ∧ u' = .returning ∧ w' = w := by
  refine callsD_of_wpS Try.func81 rfl fun c₀ cs hu => ?_
  apply wpS_seq
  apply wpS_region
  simp [wpOpsS, go_sem, recoverD, hu, Try.ntmps81, Exit.thenS]
  refine wpS_cond (t := false) (by simp [Act.eval, Array.replicate]) ?_
  simp only [Bool.false_eq_true, if_false]
  refine wpS_of_wp (wp_skip ?_)
  cases c₀
  simp_all [bodyPostS, results, Try.results81]

theorem idleH (a1 : Value) (w : World) :
    CallsD Try.prog 82 #[a1] .returning w fun e u' w' => e = .returned (.tuple #[]) ∧ u' = .returning ∧ w' = w := by
  refine callsD_of_wpS Try.func82 rfl fun c₀ cs hu => ?_
  apply wpS_seq
  apply wpS_region
  simp [wpOpsS, go_sem, recoverD, hu, Try.ntmps82, Exit.thenS]
  refine wpS_cond (t := false) (by simp [Act.eval, Array.replicate]) ?_
  simp only [Bool.false_eq_true, if_false]
  refine wpS_of_wp (wp_skip ?_)
  cases c₀
  simp_all [bodyPostS, results, Try.results82]

theorem idleR (a1 : Value) (w : World) :
    CallsD Try.prog 83 #[a1] .returning w fun e u' w' => e = .returned (.tuple #[]) ∧ u' = .returning ∧ w' = w := by
  refine callsD_of_wpS Try.func83 rfl fun c₀ cs hu => ?_
  apply wpS_seq
  apply wpS_region
  simp [wpOpsS, go_sem, recoverD, hu, Try.ntmps83, Exit.thenS]
  refine wpS_cond (t := false) (by simp [Act.eval, Array.replicate]) ?_
  simp only [Bool.false_eq_true, if_false]
  refine wpS_of_wp (wp_skip ?_)
  cases c₀
  simp_all [bodyPostS, results, Try.results83]

theorem idleS (a1 a2 : Value) (w : World) :
    CallsD Try.prog 87 #[a1, a2] .returning w fun e u' w' => e = .returned (.tuple #[]) ∧ u' = .returning ∧ w' = w := by
  refine callsD_of_wpS Try.func87 rfl fun c₀ cs hu => ?_
  apply wpS_seq
  apply wpS_region
  simp [wpOpsS, go_sem, recoverD, hu, Try.ntmps87, Exit.thenS]
  refine wpS_cond (t := false) (by simp [Act.eval, Array.replicate]) ?_
  simp only [Bool.false_eq_true, if_false]
  refine wpS_of_wp (wp_skip ?_)
  cases c₀
  simp_all [bodyPostS, results, Try.results87]

set_option maxRecDepth 100000 in
set_option maxHeartbeats 4000000 in
/-- hasEnded of a program behind an interface, by what its method does in any world that goes on from this one. -/
theorem hasEnded_any {T : TypeId} {v : Value} {f : FuncId} {w : World} {r : Bool} {S S' : World → Prop}
    (hm : ∀ w, (method 273 T v "Done").run Try.prog w = .ok (f, v) w) (hc : ∀ args w, (callFunc f args).run Try.prog w = .ok (.enter f args) w)
    (H : Calls Try.prog f #[v] (w.alloc (.cells #[.bool false] 4)) (Ret (.bool r) S))
    (hS : ∀ w3 w', S w3 → Frm [w.heap.size] w3 w' → S' w') (hlt : ∀ w3, S w3 → w3.heap[w.heap.size]? = some (.cells #[.bool false] 4 (0, 0))) :
    Calls Try.prog 61 #[.iface T v] w (Ret (.bool r) S') := by
  have hmf : ∀ (fn : Fn) (first cap : Array Value) (w : World), (Instr.makeFunc fn first cap).run Try.prog w = .ok (.func fn first cap) w := fun _ _ _ _ => rfl
  have hFX : Frm [] w (w.alloc (.cells #[.bool false] 4)) := (Frm.refl _ _).alloc _
  have H1 := Lib.hid H
  have HS := Lib.hid hS
  have HL := Lib.hid hlt
  clear H hFX hS hlt
  go_enter_defers Try.func61, Try.ntmps61
  go_wp2_with fail
  refine H1.out.mono ?_
  rintro e w3 ⟨rfl, hS3⟩
  have g0 := HL.out _ hS3
  have k0 : w3.cell? ⟨w.heap.size, 0, none⟩ = some (.bool false) := by rw [cell_of_heap g0]; rfl
  have z0 : w3.frozen? ⟨w.heap.size, 0, none⟩ = false := frozen_of_heap g0
  have HS3 := Lib.hid hS3
  clear g0 hS3
  go_wp2
  refine leaves_cons (f := 82) (args := #[.pointer (some ⟨w.heap.size, 0, none⟩)]) (by simp) (by simp [go_sem]) ?_
  refine (idleH _ _).mono ?_
  rintro e u' w'' ⟨rfl, rfl, rfl⟩
  have hQ := HS.out w3 (w3.setCell ⟨w.heap.size, 0, none⟩ ((.bool r))) HS3.out ((Frm.refl _ w3).setCell ⟨w.heap.size, 0, none⟩ _ (.inl (by simp)))
  have HQ := Lib.hid hQ
  clear hQ
  simp [Leaves, settle, results, Try.results61, go_sem, k0]
  exact ⟨rfl, HQ.out⟩

set_option maxRecDepth 100000 in
set_option maxHeartbeats 4000000 in
/-- resultOf of a program behind an interface, by what its method does in any world that goes on from this one. -/
theorem resultOf_any {T : TypeId} {v : Value} {f : FuncId} {w : World} {r : Int} {S S' : World → Prop}
    (hm : ∀ w, (method 273 T v "Result").run Try.prog w = .ok (f, v) w) (hc : ∀ args w, (callFunc f args).run Try.prog w = .ok (.enter f args) w)
    (H : Calls Try.prog f #[v] (w.alloc (.cells #[.int .u64 0] 28)) (Ret (.int .u64 r) S))
    (hS : ∀ w3 w', S w3 → Frm [w.heap.size] w3 w' → S' w') (hlt : ∀ w3, S w3 → w3.heap[w.heap.size]? = some (.cells #[.int .u64 0] 28 (0, 0))) :
    Calls Try.prog 62 #[.iface T v] w (Ret (.int .u64 r) S') := by
  have hmf : ∀ (fn : Fn) (first cap : Array Value) (w : World), (Instr.makeFunc fn first cap).run Try.prog w = .ok (.func fn first cap) w := fun _ _ _ _ => rfl
  have hFX : Frm [] w (w.alloc (.cells #[.int .u64 0] 28)) := (Frm.refl _ _).alloc _
  have H1 := Lib.hid H
  have HS := Lib.hid hS
  have HL := Lib.hid hlt
  clear H hFX hS hlt
  go_enter_defers Try.func62, Try.ntmps62
  go_wp2_with fail
  refine H1.out.mono ?_
  rintro e w3 ⟨rfl, hS3⟩
  have g0 := HL.out _ hS3
  have k0 : w3.cell? ⟨w.heap.size, 0, none⟩ = some (.int .u64 0) := by rw [cell_of_heap g0]; rfl
  have z0 : w3.frozen? ⟨w.heap.size, 0, none⟩ = false := frozen_of_heap g0
  have HS3 := Lib.hid hS3
  clear g0 hS3
  go_wp2
  refine leaves_cons (f := 83) (args := #[.pointer (some ⟨w.heap.size, 0, none⟩)]) (by simp) (by simp [go_sem]) ?_
  refine (idleR _ _).mono ?_
  rintro e u' w'' ⟨rfl, rfl, rfl⟩
  have hQ := HS.out w3 (w3.setCell ⟨w.heap.size, 0, none⟩ ((.int .u64 r))) HS3.out ((Frm.refl _ w3).setCell ⟨w.heap.size, 0, none⟩ _ (.inl (by simp)))
  have HQ := Lib.hid hQ
  clear hQ
  simp [Leaves, settle, results, Try.results62, go_sem, k0]
  exact ⟨rfl, HQ.out⟩

set_option maxRecDepth 100000 in
set_option maxHeartbeats 4000000 in
/-- copyOf of a program behind an interface, by what its method does in any world that goes on from this one. -/
theorem copyOf_any1 {T : TypeId} {v : Value} {f : FuncId} {w : World} {T2 : TypeId} {v2 : Value} {S S' : World → Prop}
    (hm : ∀ w, (method 273 T v "Copy").run Try.prog w = .ok (f, v) w) (hc : ∀ args w, (callFunc f args).run Try.prog w = .ok (.enter f args) w)
    (H : Calls Try.prog f #[v] (w.alloc (.cells #[.nilIface] 27)) (Ret (.iface T2 v2) S))
    (hS : ∀ w3 w', S w3 → Frm [w.heap.size] w3 w' → S' w') (hlt : ∀ w3, S w3 → w3.heap[w.heap.size]? = some (.cells #[.nilIface] 27 (0, 0))) :
    Calls Try.prog 57 #[.iface T v] w (Ret (.iface T2 v2) S') := by
  have hmf : ∀ (fn : Fn) (first cap : Array Value) (w : World), (Instr.makeFunc fn first cap).run Try.prog w = .ok (.func fn first cap) w := fun _ _ _ _ => rfl
  have hFX : Frm [] w (w.alloc (.cells #[.nilIface] 27)) := (Frm.refl _ _).alloc _
  have H1 := Lib.hid H
  have HS := Lib.hid hS
  have HL := Lib.hid hlt
  clear H hFX hS hlt
  go_enter_defers Try.func57, Try.ntmps57
  go_wp2_with fail
  refine H1.out.mono ?_
  rintro e w3 ⟨rfl, hS3⟩
  have g0 := HL.out _ hS3
  have k0 : w3.cell? ⟨w.heap.size, 0, none⟩ = some (.nilIface) := by rw [cell_of_heap g0]; rfl
  have z0 : w3.frozen? ⟨w.heap.size, 0, none⟩ = false := frozen_of_heap g0
  have HS3 := Lib.hid hS3
  clear g0 hS3
  go_wp2
  refine leaves_cons (f := 81) (args := #[.pointer (some ⟨w.heap.size, 0, none⟩)]) (by simp) (by simp [go_sem]) ?_
  refine (idleC _ _).mono ?_
  rintro e u' w'' ⟨rfl, rfl, rfl⟩
  have hQ := HS.out w3 (w3.setCell ⟨w.heap.size, 0, none⟩ ((.iface T2 v2))) HS3.out ((Frm.refl _ w3).setCell ⟨w.heap.size, 0, none⟩ _ (.inl (by simp)))
  have HQ := Lib.hid hQ
  clear hQ
  simp [Leaves, settle, results, Try.results57, go_sem, k0]
  exact ⟨rfl, HQ.out⟩

/-- The same where the copy's value is known only when it is made. -/
theorem copyOf_any {T T2 : TypeId} {v : Value} {f : FuncId} {w : World} {S S' : Nat → World → Prop}
    (hm : ∀ w, (method 273 T v "Copy").run Try.prog w = .ok (f, v) w) (hc : ∀ args w, (callFunc f args).run Try.prog w = .ok (.enter f args) w)
    (H : Calls Try.prog f #[v] (w.alloc (.cells #[.nilIface] 27)) (fun e w' => ∃ q, Ret (.iface T2 (.pointer (some ⟨q, 0, none⟩))) (S q) e w'))
    (hS : ∀ q w3 w', S q w3 → Frm [w.heap.size] w3 w' → S' q w') (hlt : ∀ q w3, S q w3 → w3.heap[w.heap.size]? = some (.cells #[.nilIface] 27 (0, 0))) :
    Calls Try.prog 57 #[.iface T v] w (fun e w' => ∃ q, Ret (.iface T2 (.pointer (some ⟨q, 0, none⟩))) (S' q) e w') := by
  have hmf : ∀ (fn : Fn) (first cap : Array Value) (w : World), (Instr.makeFunc fn first cap).run Try.prog w = .ok (.func fn first cap) w := fun _ _ _ _ => rfl
  have hFX : Frm [] w (w.alloc (.cells #[.nilIface] 27)) := (Frm.refl _ _).alloc _
  have H1 := Lib.hid H
  have HS := Lib.hid hS
  have HL := Lib.hid hlt
  clear H hFX hS hlt
  go_enter_defers Try.func57, Try.ntmps57
  go_wp2_with fail
  refine H1.out.mono ?_
  rintro e w3 ⟨q, rfl, hS3⟩
  have g0 := HL.out _ _ hS3
  have k0 : w3.cell? ⟨w.heap.size, 0, none⟩ = some (.nilIface) := by rw [cell_of_heap g0]; rfl
  have z0 : w3.frozen? ⟨w.heap.size, 0, none⟩ = false := frozen_of_heap g0
  have HS3 := Lib.hid hS3
  clear g0 hS3
  go_wp2
  refine leaves_cons (f := 81) (args := #[.pointer (some ⟨w.heap.size, 0, none⟩)]) (by simp) (by simp [go_sem]) ?_
  refine (idleC _ _).mono ?_
  rintro e u' w'' ⟨rfl, rfl, rfl⟩
  have hQ := HS.out q w3 (w3.setCell ⟨w.heap.size, 0, none⟩ (.iface T2 (.pointer (some ⟨q, 0, none⟩)))) HS3.out ((Frm.refl _ w3).setCell ⟨w.heap.size, 0, none⟩ _ (.inl (by simp)))
  have HQ := Lib.hid hQ
  clear hQ
  simp [Leaves, settle, results, Try.results57, go_sem, k0]
  exact ⟨q, rfl, HQ.out⟩
theorem copyOf_nil (w : World) : Calls Try.prog 57 #[.nilIface] w (Ret .nilIface (fun w' => Frm [] w w')) := by
  have hmf : ∀ (fn : Fn) (first cap : Array Value) (w : World), (Instr.makeFunc fn first cap).run Try.prog w = .ok (.func fn first cap) w := fun _ _ _ _ => rfl
  go_enter_defers Try.func57, Try.ntmps57
  go_wp2
  refine leaves_cons (f := 81) (args := #[.pointer (some ⟨w.heap.size, 0, none⟩)]) (by simp) (by simp [go_sem]) ?_
  refine (idleC _ _).mono ?_
  rintro e u' w'' ⟨rfl, rfl, rfl⟩
  simp [Leaves, settle, results, Try.results57, go_sem]
  exact ⟨rfl, (Frm.refl _ _).alloc _⟩
set_option maxRecDepth 100000 in
set_option maxHeartbeats 4000000 in
theorem stepOf_any {T : TypeId} {v mv : Value} {f : FuncId} {w : World} {x : Bool} {y : Int} {S S' : World → Prop} (hx : x = true → y = 0)
    (hm : ∀ w, (method 273 T v "Step").run Try.prog w = .ok (f, v) w) (hc : ∀ args w, (callFunc f args).run Try.prog w = .ok (.enter f args) w)
    (H : Calls Try.prog f #[v, mv] ((w.alloc (.cells #[.bool false] 4)).alloc (.cells #[.int .i64 0] 38)) (Ret (.tuple #[.bool x, .int .i64 y]) S))
    (hS : ∀ w3 w', S w3 → Frm [w.heap.size, w.heap.size + 1] w3 w' → S' w') (hlt : ∀ w3, S w3 → w3.heap[w.heap.size]? = some (.cells #[.bool false] 4 (0, 0)) ∧ w3.heap[w.heap.size + 1]? = some (.cells #[.int .i64 0] 38 (0, 0))) :
    Calls Try.prog 73 #[.iface T v, mv] w (Ret (.tuple #[.bool x, .int .i64 y]) S') := by
  have hmf : ∀ (fn : Fn) (first cap : Array Value) (w : World), (Instr.makeFunc fn first cap).run Try.prog w = .ok (.func fn first cap) w := fun _ _ _ _ => rfl
  have hFX : Frm [] w ((w.alloc (.cells #[.bool false] 4)).alloc (.cells #[.int .i64 0] 38)) := ((Frm.refl _ _).alloc _).alloc _
  have H1 := Lib.hid H
  have HS := Lib.hid hS
  have HL := Lib.hid hlt
  have HX := Lib.hid hx
  clear H hFX hS hlt hx
  go_enter_defers Try.func73, Try.ntmps73
  go_wp2_with fail
  refine H1.out.mono ?_
  rintro e w3 ⟨rfl, hS3⟩
  obtain ⟨g0, g1⟩ := HL.out _ hS3
  have k0 : w3.cell? ⟨w.heap.size, 0, none⟩ = some (.bool false) := by rw [cell_of_heap g0]; rfl
  have z0 : w3.frozen? ⟨w.heap.size, 0, none⟩ = false := frozen_of_heap g0
  have k1 : w3.cell? ⟨w.heap.size + 1, 0, none⟩ = some (.int .i64 0) := by rw [cell_of_heap g1]; rfl
  have z1 : w3.frozen? ⟨w.heap.size + 1, 0, none⟩ = false := frozen_of_heap g1
  have HS3 := Lib.hid hS3
  have hsl : w.heap.size + 1 < w3.heap.size := lt_of_heap g1
  have HG0 := Lib.hid g0
  have HG1 := Lib.hid g1
  clear g0 g1 hS3
  go_wp2_with fail
  have hF4 : Frm [w.heap.size, w.heap.size + 1] w3 ((w3.setCell ⟨w.heap.size, 0, none⟩ (.bool x)).setCell ⟨w.heap.size + 1, 0, none⟩ (.int .i64 y)) :=
    ((Frm.refl [w.heap.size, w.heap.size + 1] w3).setCell ⟨w.heap.size, 0, none⟩ _ (.inl (by simp))).setCell ⟨w.heap.size + 1, 0, none⟩ _ (.inl (by simp))
  have g0 : ((w3.setCell ⟨w.heap.size, 0, none⟩ (.bool x)).setCell ⟨w.heap.size + 1, 0, none⟩ (.int .i64 y)).heap[w.heap.size]? = some (.cells #[.bool x] 4 (0, 0)) := by
    have := heap_setCell_far (k := w.heap.size) ⟨w.heap.size + 1, 0, none⟩ (.int .i64 y) (by simp) (heap_setCell_at (i := 0) (.bool x) HG0.out); simpa using this
  have g1 : ((w3.setCell ⟨w.heap.size, 0, none⟩ (.bool x)).setCell ⟨w.heap.size + 1, 0, none⟩ (.int .i64 y)).heap[w.heap.size + 1]? = some (.cells #[.int .i64 y] 38 (0, 0)) := by
    have := heap_setCell_at (i := 0) (.int .i64 y) (heap_setCell_far ⟨w.heap.size, 0, none⟩ (.bool x) (by simp) HG1.out); simpa using this
  generalize (w3.setCell ⟨w.heap.size, 0, none⟩ (.bool x)).setCell ⟨w.heap.size + 1, 0, none⟩ (.int .i64 y) = w4 at hF4 g0 g1 ⊢
  have HF4 := Lib.hid hF4
  clear k0 z0 k1 z1 hF4 HG0 HG1
  have k0 : w4.cell? ⟨w.heap.size, 0, none⟩ = some (.bool x) := by rw [cell_of_heap g0]; rfl
  have z0 : w4.frozen? ⟨w.heap.size, 0, none⟩ = false := frozen_of_heap g0
  have k1 : w4.cell? ⟨w.heap.size + 1, 0, none⟩ = some (.int .i64 y) := by rw [cell_of_heap g1]; rfl
  have z1 : w4.frozen? ⟨w.heap.size + 1, 0, none⟩ = false := frozen_of_heap g1
  have HG0 := Lib.hid g0
  have HG1 := Lib.hid g1
  clear g0 g1
  have fin : ∀ w5, Frm [w.heap.size, w.heap.size + 1] w4 w5 → S' w5 := fun w5 h5 => HS.out w3 w5 HS3.out (HF4.out.trans h5)
  have HFIN := Lib.hid fin
  clear fin HS HS3 HF4
  cases x with
  | false =>
    go_region
    have hF5 : Frm [w.heap.size, w.heap.size + 1] w4 ((w4.setCell ⟨w.heap.size, 0, none⟩ (.bool false)).setCell ⟨w.heap.size + 1, 0, none⟩ (.int .i64 y)).drew :=
      (((Frm.refl [w.heap.size, w.heap.size + 1] w4).setCell ⟨w.heap.size, 0, none⟩ _ (.inl (by simp))).setCell ⟨w.heap.size + 1, 0, none⟩ _ (.inl (by simp))).drew
    have g0 : ((w4.setCell ⟨w.heap.size, 0, none⟩ (.bool false)).setCell ⟨w.heap.size + 1, 0, none⟩ (.int .i64 y)).drew.heap[w.heap.size]? = some (.cells #[.bool false] 4 (0, 0)) := by
      have := heap_setCell_far (k := w.heap.size) ⟨w.heap.size + 1, 0, none⟩ (.int .i64 y) (by simp) (heap_setCell_at (i := 0) (.bool false) HG0.out); first | exact this | (simp at this; exact this)
    have g1 : ((w4.setCell ⟨w.heap.size, 0, none⟩ (.bool false)).setCell ⟨w.heap.size + 1, 0, none⟩ (.int .i64 y)).drew.heap[w.heap.size + 1]? = some (.cells #[.int .i64 y] 38 (0, 0)) := by
      have := heap_setCell_at (i := 0) (.int .i64 y) (heap_setCell_far ⟨w.heap.size, 0, none⟩ (.bool false) (by simp) HG1.out); first | exact this | (simp at this; exact this)
    generalize ((w4.setCell ⟨w.heap.size, 0, none⟩ (.bool false)).setCell ⟨w.heap.size + 1, 0, none⟩ (.int .i64 y)).drew = w5 at hF5 g0 g1 ⊢
    have HQ := Lib.hid (HFIN.out _ hF5)
    clear hF5 k0 z0 k1 z1
    have k0 : w5.cell? ⟨w.heap.size, 0, none⟩ = some (.bool false) := by rw [cell_of_heap g0]; rfl
    have k1 : w5.cell? ⟨w.heap.size + 1, 0, none⟩ = some (.int .i64 y) := by rw [cell_of_heap g1]; rfl
    clear g0 g1
    go_wp2
    refine leaves_cons (f := 87) (args := #[.pointer (some ⟨w.heap.size, 0, none⟩), .pointer (some ⟨w.heap.size + 1, 0, none⟩)]) (by simp) (by simp [go_sem]) ?_
    refine (idleS _ _ _).mono ?_
    rintro e u' w'' ⟨rfl, rfl, rfl⟩
    simp [Leaves, settle, results, Try.results73, go_sem, k0, k1]
    exact ⟨rfl, HQ.out⟩
  | true =>
    have hy := HX.out rfl
    subst hy
    go_region
    have hF5 : Frm [w.heap.size, w.heap.size + 1] w4 ((w4.setCell ⟨w.heap.size, 0, none⟩ (.bool true)).setCell ⟨w.heap.size + 1, 0, none⟩ (.int .i64 0)).drew :=
      (((Frm.refl [w.heap.size, w.heap.size + 1] w4).setCell ⟨w.heap.size, 0, none⟩ _ (.inl (by simp))).setCell ⟨w.heap.size + 1, 0, none⟩ _ (.inl (by simp))).drew
    have g0 : ((w4.setCell ⟨w.heap.size, 0, none⟩ (.bool true)).setCell ⟨w.heap.size + 1, 0, none⟩ (.int .i64 0)).drew.heap[w.heap.size]? = some (.cells #[.bool true] 4 (0, 0)) := by
      have := heap_setCell_far (k := w.heap.size) ⟨w.heap.size + 1, 0, none⟩ (.int .i64 0) (by simp) (heap_setCell_at (i := 0) (.bool true) HG0.out); first | exact this | (simp at this; exact this)
    have g1 : ((w4.setCell ⟨w.heap.size, 0, none⟩ (.bool true)).setCell ⟨w.heap.size + 1, 0, none⟩ (.int .i64 0)).drew.heap[w.heap.size + 1]? = some (.cells #[.int .i64 0] 38 (0, 0)) := by
      have := heap_setCell_at (i := 0) (.int .i64 0) (heap_setCell_far ⟨w.heap.size, 0, none⟩ (.bool true) (by simp) HG1.out); first | exact this | (simp at this; exact this)
    generalize ((w4.setCell ⟨w.heap.size, 0, none⟩ (.bool true)).setCell ⟨w.heap.size + 1, 0, none⟩ (.int .i64 0)).drew = w5 at hF5 g0 g1 ⊢
    have HQ := Lib.hid (HFIN.out _ hF5)
    clear hF5 k0 z0 k1 z1
    have k0 : w5.cell? ⟨w.heap.size, 0, none⟩ = some (.bool true) := by rw [cell_of_heap g0]; rfl
    have k1 : w5.cell? ⟨w.heap.size + 1, 0, none⟩ = some (.int .i64 0) := by rw [cell_of_heap g1]; rfl
    clear g0 g1
    go_wp2
    refine leaves_cons (f := 87) (args := #[.pointer (some ⟨w.heap.size, 0, none⟩), .pointer (some ⟨w.heap.size + 1, 0, none⟩)]) (by simp) (by simp [go_sem]) ?_
    refine (idleS _ _ _).mono ?_
    rintro e u' w'' ⟨rfl, rfl, rfl⟩
    simp [Leaves, settle, results, Try.results73, go_sem, k0, k1]
    exact ⟨rfl, HQ.out⟩
section
variable {K : Bool} {w : World} {p d cm q b c qc : Nat} {ws : List Int} {x : Cd}
set_option maxRecDepth 100000 in
theorem cStep_over (h : CodeAt w qc b c x) (hx : x.nx = x.l.length) (K : Bool) (p q : Nat) :
    Calls Try.prog 31 #[.pointer (some ⟨qc, 0, none⟩), .iface (tMm K) (.pointer (some ⟨aMm K p q, 0, none⟩))] w (Ret (.tuple #[.bool false, .int .i64 17]) (fun w' => Frm [] w w')) := by
  have hd : decide (x.nx = x.l.length) = true := by simpa using hx
  obtain ⟨X, hX⟩ : ∃ X, X = (w.alloc (.cells #[.bool false] 4)).alloc (.cells #[.int .i64 0] 38) := ⟨_, rfl⟩
  have hFX : Frm [] w X := by rw [hX]; exact ((Frm.refl _ _).alloc _).alloc _
  have hb0 : X.heap[w.heap.size]? = some (.cells #[.bool false] 4 (0, 0)) := by rw [hX]; exact heap_alloc_old _ (heap_alloc_new _ _)
  have hb1 : X.heap[w.heap.size + 1]? = some (.cells #[.int .i64 0] 38 (0, 0)) := by rw [hX]; exact heap_alloc_at _ (by simp)
  have HA := Lib.hid (h.frm0 hFX)
  have HD := Lib.hid hd
  have HFX := Lib.hid hFX
  have k0 : X.cell? ⟨w.heap.size, 0, none⟩ = some (.bool false) := by rw [cell_of_heap hb0]; rfl
  have z0 : X.frozen? ⟨w.heap.size, 0, none⟩ = false := frozen_of_heap hb0
  have k1 : X.cell? ⟨w.heap.size + 1, 0, none⟩ = some (.int .i64 0) := by rw [cell_of_heap hb1]; rfl
  have z1 : X.frozen? ⟨w.heap.size + 1, 0, none⟩ = false := frozen_of_heap hb1
  clear h hFX hx hd hb0 hb1
  go_enter_defers Try.func31, Try.ntmps31
  go_wp2_with fail
  rw [← hX]
  clear hX
  refine (cnone_at HA.out).mono ?_
  rintro e w' ⟨rfl, rfl⟩
  go_wp2_with fail
  refine (cdone_at HA.out 0).mono ?_
  rw [HD.out]
  rintro e w' ⟨rfl, m, rfl⟩
  go_wp2
  have hA : Frm [] w (((X.setCell ⟨w.heap.size, 0, none⟩ (.bool false)).setCell ⟨w.heap.size + 1, 0, none⟩ (.int .i64 17)).drewN m) :=
    ((HFX.out.setCell _ _ (.inr (Nat.le_refl _))).setCell _ _ (.inr (Nat.le_succ _))).drewN m
  have HA := Lib.hid hA
  clear hA
  simp only [bodyPostD, Leaves]
  exact ⟨.tuple #[.bool false, .int .i64 17], by simp [results, Try.results31, go_sem, k0, k1], rfl, HA.out⟩
end
end Go.Proofs.Ytieccmmnfnpcoaa
