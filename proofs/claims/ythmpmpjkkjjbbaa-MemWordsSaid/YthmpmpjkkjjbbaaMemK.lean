/- Layer 1: the examples of the chapter. -/
import Derived.Test.YthmpmpjkkjjbbaaMemG
import Derived.Deep.RegionHeld3
namespace Go.Proofs.Ythmpmpjkkjjbbaa
open Go.ChangeShapes Go.WideShapes Go.ChangeAt Go.RowKit

/-- A contract's result and the words behind it, worked out. -/
theorem Ret.is {v v' : Value} {R R' : World → Prop} {P : Program} {f : FuncId} {args : Array Value} {w : World} (h : Calls P f args w (Ret v R)) (hv : v = v') (hr : ∀ w', R w' → R' w') : Calls P f args w (Ret v' R') := by
  subst hv
  exact h.mono fun _ _ hh => ⟨hh.1, hr _ hh.2⟩

theorem rd_new {w : World} (b : Nat) (xs : List Int) (h : w.heap[b]? = some (.cells (u64s xs).toArray 23 (0, 0))) : Rd w (.slice (some ⟨b, 0, none⟩) xs.length xs.length) (u64s xs) := by
  refine .inr ⟨b, 0, xs.length, by simp [u64s], by simp [u64s], lt_of_heap h, fun i u hu => ?_⟩
  rw [cell_of_heap h, Nat.zero_add, List.getElem?_toArray]; exact hu

theorem step_true {v : Bool} {R : World → Prop} {P : Program} {f : FuncId} {args : Array Value} {w : World} (h : Calls P f args w (Ret (.bool v) R)) (hv : v = true) : Calls P f args w (Ret (.bool true) R) := by
  subst hv; exact h

theorem OnceAt.drew {w : World} {q p : Nat} {a : Acc} (ho : OnceAt w q p a) : OnceAt w.drew q p a := ho
set_option maxRecDepth 100000 in
set_option maxHeartbeats 6400000 in
theorem known_true (w : World) : Calls Try.prog 9 #[] w (Ret (.bool true) (fun w' => Frm [] w w')) := by
  have hm : ∀ w : World, (Instr.makeSlice 25 (.int .i64 4) (.int .i64 4)).run Try.prog w = .ok (.slice (some ⟨w.heap.size, 0, none⟩) 4 4) (w.alloc (.cells (u64s (List.replicate 4 0)).toArray 23)) := make_u64 4 (by omega)
  go_enter Try.func9, Try.ntmps9
  go_wp2_with fail
  refine (made_any (xs := [0, 0, 0, 0]) (rd_new _ [0, 0, 0, 0] (heap_alloc_new _ _)) (by decide) (by decide)).mono ?_
  rintro e w1 ⟨p, d, c, rfl, hF1, hM, hp, hd⟩
  have hF : Frm [] w w1 := ((Frm.refl _ _).alloc _).trans hF1
  have hp : w.heap.size < p := by simp at hp; omega
  have hd : w.heap.size < d := by simp at hd; omega
  have hdl := hM.dlt
  clear hF1 hm
  go_wp2_with fail
  refine (step_true (loads_mem (hM.alloc _) 3 0 0) (by decide)).mono ?_
  rintro e w2 ⟨rfl, hF2, hM2⟩
  have hz : w2.heap[w1.heap.size]? = some (.cells #[.int .i64 0, .int .i64 0, .int .u64 0, .int .u64 0] 30) := hF2.heap (heap_alloc_new _ _) (by simp; omega)
  generalize w1.heap.size = z at hdl hz ⊢
  have hF3 : Frm [] w w2 := (hF.alloc _).trans_new hF2 (by simp; omega)
  have hM3 : MemAt w2 p d c [0, 0, 0, 0] := (show mWs [0, 0, 0, 0] ⟨1, 3, 0, 0⟩ = [0, 0, 0, 0] from by decide) ▸ hM2
  clear hM2 hF2 hF hM
  have hM := hM3
  have hF := hF3
  clear hM3 hF3
  go_wp2_with fail
  refine (step_true (stores_mem hM 3 9 0) (by decide)).mono ?_
  rintro e w2 ⟨rfl, hF2, hM2⟩
  have hz2 := hF2.heap hz (by simp; omega)
  have hF3 : Frm [] w w2 := hF.trans_new hF2 (by simp; omega)
  have hM3 : MemAt w2 p d c [0, 0, 0, 9] := (show mWs [0, 0, 0, 0] ⟨2, 3, 0, 9⟩ = [0, 0, 0, 9] from by decide) ▸ hM2
  clear hM2 hF2 hF hM hz
  have hM := hM3
  have hF := hF3
  have hz := hz2
  clear hM3 hF3 hz2
  go_wp2_with fail
  refine (step_true (loads_mem hM 3 9 0) (by decide)).mono ?_
  rintro e w2 ⟨rfl, hF2, hM2⟩
  have hz2 := hF2.heap hz (by simp; omega)
  have hF3 : Frm [] w w2 := hF.trans_new hF2 (by simp; omega)
  have hM3 : MemAt w2 p d c [0, 0, 0, 9] := (show mWs [0, 0, 0, 9] ⟨1, 3, 0, 0⟩ = [0, 0, 0, 9] from by decide) ▸ hM2
  clear hM2 hF2 hF hM hz
  have hM := hM3
  have hF := hF3
  have hz := hz2
  clear hM3 hF3 hz2
  go_wp2_with fail
  refine (step_true (swaps_mem hM 3 7 9 0) (by decide)).mono ?_
  rintro e w2 ⟨rfl, hF2, hM2⟩
  have hz2 := hF2.heap hz (by simp; omega)
  have hF3 : Frm [] w w2 := hF.trans_new hF2 (by simp; omega)
  have hM3 : MemAt w2 p d c [0, 0, 0, 7] := (show mWs [0, 0, 0, 9] ⟨4, 3, 0, 7⟩ = [0, 0, 0, 7] from by decide) ▸ hM2
  clear hM2 hF2 hF hM hz
  have hM := hM3
  have hF := hF3
  have hz := hz2
  clear hM3 hF3 hz2
  go_wp2_with fail
  refine (step_true (compares_mem hM 3 9 1 0 false) (by decide)).mono ?_
  rintro e w2 ⟨rfl, hF2, hM2⟩
  have hz2 := hF2.heap hz (by simp; omega)
  have hF3 : Frm [] w w2 := hF.trans_new hF2 (by simp; omega)
  have hM3 : MemAt w2 p d c [0, 0, 0, 7] := (show mWs [0, 0, 0, 7] ⟨3, 3, 9, 1⟩ = [0, 0, 0, 7] from by decide) ▸ hM2
  clear hM2 hF2 hF hM hz
  have hM := hM3
  have hF := hF3
  have hz := hz2
  clear hM3 hF3 hz2
  go_wp2_with fail
  refine (step_true (compares_mem hM 3 7 1 0 true) (by decide)).mono ?_
  rintro e w2 ⟨rfl, hF2, hM2⟩
  have hz2 := hF2.heap hz (by simp; omega)
  have hF3 : Frm [] w w2 := hF.trans_new hF2 (by simp; omega)
  have hM3 : MemAt w2 p d c [0, 0, 0, 1] := (show mWs [0, 0, 0, 7] ⟨3, 3, 7, 1⟩ = [0, 0, 0, 1] from by decide) ▸ hM2
  clear hM2 hF2 hF hM hz
  have hM := hM3
  have hF := hF3
  have hz := hz2
  clear hM3 hF3 hz2
  go_wp2_with fail
  refine (step_true (words_k (hM.alloc _) 2 4 (by omega) (by decide) (rd_new _ [0, 1] (heap_alloc_new _ _)) (by decide) 0) (by decide)).mono ?_
  rintro e w2 ⟨rfl, hF2⟩
  have hM3 : MemAt w2 p d c [0, 0, 0, 1] := (hM.alloc _).frm hF2 (by simp) (by simp)
  have hz2 := hF2.heap (heap_alloc_old _ hz) (by simp)
  have hF3 : Frm [] w w2 := (hF.alloc _).trans hF2
  clear hF2 hF hM hz
  have hM := hM3
  have hF := hF3
  have hz := hz2
  clear hM3 hF3 hz2
  go_wp2_with fail
  refine (new_bad _ 0 (.inl (by omega))).mono ?_
  rintro e w2 ⟨rfl, rfl⟩
  go_wp2_with fail
  refine (new_bad _ 65537 (.inr (by omega))).mono ?_
  rintro e w2 ⟨rfl, rfl⟩
  go_wp2_with fail
  refine (step_true (loads_mem hM 4 0 3) (by decide)).mono ?_
  rintro e w2 ⟨rfl, hF2, hM2⟩
  have hz2 := hF2.heap hz (by simp; omega)
  have hF3 : Frm [] w w2 := hF.trans_new hF2 (by simp; omega)
  have hM3 : MemAt w2 p d c [0, 0, 0, 1] := (show mWs [0, 0, 0, 1] ⟨1, 4, 0, 0⟩ = [0, 0, 0, 1] from by decide) ▸ hM2
  clear hM2 hF2 hF hM hz
  have hM := hM3
  have hF := hF3
  have hz := hz2
  clear hM3 hF3 hz2
  go_wp2_with fail
  refine (step_true (stores_mem hM (-1) 0 3) (by decide)).mono ?_
  rintro e w2 ⟨rfl, hF2, hM2⟩
  have hz2 := hF2.heap hz (by simp; omega)
  have hF3 : Frm [] w w2 := hF.trans_new hF2 (by simp; omega)
  have hM3 : MemAt w2 p d c [0, 0, 0, 1] := (show mWs [0, 0, 0, 1] ⟨2, -1, 0, 0⟩ = [0, 0, 0, 1] from by decide) ▸ hM2
  clear hM2 hF2 hF hM hz
  have hM := hM3
  have hF := hF3
  have hz := hz2
  clear hM3 hF3 hz2
  go_wp2_with fail
  refine (step_true (words_e (ys := []) hM 3 2 (by omega) (.inl ⟨rfl, rfl⟩) (by decide) 3) (by decide)).mono ?_
  rintro e w2 ⟨rfl, hF2⟩
  have hM3 : MemAt w2 p d c [0, 0, 0, 1] := hM.frm hF2 (by simp) (by simp)
  have hz2 := hF2.heap (hz) (by simp)
  have hF3 : Frm [] w w2 := (hF).trans hF2
  clear hF2 hF hM hz
  have hM := hM3
  have hF := hF3
  have hz := hz2
  clear hM3 hF3 hz2
  obtain ⟨z0, z1, z2, z3⟩ := cells4 hz
  go_wp2_with fail
  refine (step_true (does_mem hM ⟨0, 0, 0, 0⟩ ⟨0, 0, 0, 0⟩ 2) (by decide)).mono ?_
  rintro e w2 ⟨rfl, hF2, hM2⟩
  have hz2 := hF2.heap hz (by simp; omega)
  have hF3 : Frm [] w w2 := hF.trans_new hF2 (by simp; omega)
  have hM3 : MemAt w2 p d c [0, 0, 0, 1] := (show mWs [0, 0, 0, 1] ⟨0, 0, 0, 0⟩ = [0, 0, 0, 1] from by decide) ▸ hM2
  clear hM2 hF2 hF hM hz
  have hM := hM3
  have hF := hF3
  have hz := hz2
  clear hM3 hF3 hz2
  go_wp2_with fail
  refine (step_true (does_mem hM ⟨3, 3, 5, 6⟩ ⟨3, 3, 1, 1⟩ 0) (by decide)).mono ?_
  rintro e w2 ⟨rfl, hF2, hM2⟩
  have hz2 := hF2.heap hz (by simp; omega)
  have hF3 : Frm [] w w2 := hF.trans_new hF2 (by simp; omega)
  have hM3 : MemAt w2 p d c [0, 0, 0, 1] := (show mWs [0, 0, 0, 1] ⟨3, 3, 5, 6⟩ = [0, 0, 0, 1] from by decide) ▸ hM2
  clear hM2 hF2 hF hM hz
  have hM := hM3
  have hF := hF3
  have hz := hz2
  clear hM3 hF3 hz2
  go_wp2_with fail
  refine (step_true (does_mem hM ⟨4, 0, 0, 8⟩ ⟨4, 0, 0, 8⟩ 0) (by decide)).mono ?_
  rintro e w2 ⟨rfl, hF2, hM2⟩
  have hz2 := hF2.heap hz (by simp; omega)
  have hF3 : Frm [] w w2 := hF.trans_new hF2 (by simp; omega)
  have hM3 : MemAt w2 p d c [8, 0, 0, 1] := (show mWs [0, 0, 0, 1] ⟨4, 0, 0, 8⟩ = [8, 0, 0, 1] from by decide) ▸ hM2
  clear hM2 hF2 hF hM hz
  have hM := hM3
  have hF := hF3
  have hz := hz2
  clear hM3 hF3 hz2
  go_wp2_with fail
  refine (newonce_ok hM).mono ?_
  rintro e w2 ⟨q, rfl, hF2, hO, hq⟩
  have hM3 : MemAt w2 p d c [8, 0, 0, 1] := hM.frm hF2 (by simp) (by simp)
  have hz2 := hF2.heap hz (by simp)
  have hpl := hM.plt
  have hdl := hM.dlt
  have hzl := lt_of_heap hz
  have hqp : q ≠ p := by omega
  have hqd : q ≠ d := by omega
  have hqz : q ≠ z := by omega
  have hq : w.heap.size ≤ q := by have := hF.size; omega
  have hF3 : Frm [] w w2 := hF.trans hF2
  clear hF2 hF hM hz hpl hdl hzl
  have hM := hM3
  have hF := hF3
  have hz := hz2
  clear hM3 hF3 hz2
  go_wp2_with fail
  have hzk := fun (w' : World) (hh : w'.heap[z]? = some (.cells #[.int .i64 0, .int .i64 0, .int .u64 0, .int .u64 0] 30)) => cells4 hh
  have hna := neq_access
  have HOO := Lib.hid hO
  clear hO
  go_region_held3 (fun w' => w'.heap[z]? = some (.cells #[.int .i64 0, .int .i64 0, .int .u64 0, .int .u64 0] 30))
    (first | assumption | exact heap_alloc_old _ (by assumption) | exact Frm.heap hF2 (by assumption) (by simp <;> omega))
    (first
      | (go_at_call 22; refine (step_true (loads_once (a := ⟨0, 0, 0, 0⟩) (by first | exact HOO.out | exact OnceAt.drew HOO.out) (by first | exact (hM : MemAt _ p d c [8, 0, 0, 1]) | exact (hM : MemAt _ p d c [8, 0, 0, 1]).drew) hqp hqd _ _ _) (by decide)).mono ?_; rintro e w2 ⟨rfl, hF2, hM2, hO2⟩; have hM : MemAt w2 p d c [8, 0, 0, 1] := hM2; have hO3 : OnceAt w2 q p ⟨0, 0, 0, 0⟩ := hO2; have HOO := Lib.hid hO3; have hF : Frm [] w w2 := (by first | exact hF.trans_new hF2 (by simp <;> omega) | exact hF.drew.trans_new hF2 (by simp <;> omega)); clear hM2 hO2 hO3)
      | (go_at_call 21; refine (step_true (stores_once (a := ⟨0, 0, 0, 0⟩) (by first | exact HOO.out | exact OnceAt.drew HOO.out) (by first | exact (hM : MemAt _ p d c [8, 0, 0, 1]) | exact (hM : MemAt _ p d c [8, 0, 0, 1]).drew) hqp hqd _ _ _) (by decide)).mono ?_; rintro e w2 ⟨rfl, hF2, hM2, hO2⟩; have hM : MemAt w2 p d c [8, 2, 0, 1] := hM2; have hO3 : OnceAt w2 q p ⟨2, 1, 0, 2⟩ := hO2; have HOO := Lib.hid hO3; have hF : Frm [] w w2 := (by first | exact hF.trans_new hF2 (by simp <;> omega) | exact hF.drew.trans_new hF2 (by simp <;> omega)); clear hM2 hO2 hO3)
      | (go_at_call 22; refine (step_true (loads_once (a := ⟨2, 1, 0, 2⟩) (by first | exact HOO.out | exact OnceAt.drew HOO.out) (by first | exact (hM : MemAt _ p d c [8, 2, 0, 1]) | exact (hM : MemAt _ p d c [8, 2, 0, 1]).drew) hqp hqd _ _ _) (by decide)).mono ?_; rintro e w2 ⟨rfl, hF2, hM2, hO2⟩; have hM : MemAt w2 p d c [8, 2, 0, 1] := hM2; have hO3 : OnceAt w2 q p ⟨2, 1, 0, 2⟩ := hO2; have HOO := Lib.hid hO3; have hF : Frm [] w w2 := (by first | exact hF.trans_new hF2 (by simp <;> omega) | exact hF.drew.trans_new hF2 (by simp <;> omega)); clear hM2 hO2 hO3)
      | (go_at_call 26; refine (oaccess_ok (a := ⟨0, 0, 0, 0⟩) (by first | exact HOO.out | exact OnceAt.drew HOO.out)).mono ?_; rintro e w2 ⟨rfl, hF2⟩; have hM := hM.frm hF2 (by simp) (by simp); have hF := hF.trans hF2; have hO3 := OnceAt.frm HOO.out hF2 (by simp); have HOO := Lib.hid hO3; clear hO3)
      | (go_at_call 26; refine (oaccess_ok (a := ⟨2, 1, 0, 2⟩) (by first | exact HOO.out | exact OnceAt.drew HOO.out)).mono ?_; rintro e w2 ⟨rfl, hF2⟩; have hM := hM.frm hF2 (by simp) (by simp); have hF := hF.trans hF2; have hO3 := OnceAt.frm HOO.out hF2 (by simp); have HOO := Lib.hid hO3; clear hO3))
  go_wp2_with fail
  refine (step_true (loads_mem (hM : MemAt _ p d c [8, 2, 0, 1]) 1 2 0) (by decide)).mono ?_
  rintro e w3 ⟨rfl, hF3, hM3⟩
  have hFF := hF.trans_new hF3 (by simp; omega)
  go_wp2
  go_ret
  exact ⟨rfl, hFF⟩
end Go.Proofs.Ythmpmpjkkjjbbaa
