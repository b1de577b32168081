/- Stage 12: Step of a code, with its deferred call. -/
import Derived.Test.YtieccmmnfnpcoaaThH
import Derived.Defers
import Derived.Recover
namespace Go.Proofs.Ytieccmmnfnpcoaa
open Go.ChangeShapes Go.WideShapes Go.ChangeAt Go.RowKit
set_option linter.unusedVariables false

theorem idle2 (a1 a2 : Value) (w : World) :
    CallsD Try.prog 70 #[a1, a2] .returning w fun e u' w' => e = .returned (.tuple #[]) ∧ u' = .returning ∧ w' = w := by
  refine callsD_of_wpS Try.func70 rfl fun c₀ cs hu => ?_
  apply wpS_seq
  apply wpS_region
  simp [wpOpsS, go_sem, recoverD, hu, Try.ntmps70, Exit.thenS]
  refine wpS_cond (t := false) (by simp [Act.eval, Array.replicate]) ?_
  simp only [Bool.false_eq_true, if_false]
  refine wpS_of_wp (wp_skip ?_)
  cases c₀
  simp_all [bodyPostS, results, Try.results70]
section
variable {K : Bool} {w : World} {p d cm q b c qc : Nat} {ws : List Int} {x : Cd}
set_option maxRecDepth 100000 in
set_option maxHeartbeats 4000000 in
theorem cStep_at (h : CodeAt w qc b c x) (hM : Mm K w p d cm q acc0 ws) (y : Ins) (hn : x.l[x.nx]? = some y) :
    Calls Try.prog 31 #[.pointer (some ⟨qc, 0, none⟩), .iface (tMm K) (.pointer (some ⟨aMm K p q, 0, none⟩))] w (CsQ K w p d cm q qc b c (cstep ws x y)) := by
  have hmf : ∀ (fn : Fn) (first cap : Array Value) (w : World), (Instr.makeFunc fn first cap).run Try.prog w = .ok (.func fn first cap) w := fun _ _ _ _ => rfl
  have hnl : x.nx < x.l.length := (List.getElem?_eq_some_iff.1 hn).1
  have hd : decide (x.nx = x.l.length) = false := by simp; omega
  obtain ⟨X, hX⟩ : ∃ X, X = (w.alloc (.cells #[.bool false] 4)).alloc (.cells #[.int .i64 0] 38) := ⟨_, rfl⟩
  have hFX : Frm [] w X := by rw [hX]; exact ((Frm.refl _ _).alloc _).alloc _
  have hb0 : X.heap[w.heap.size]? = some (.cells #[.bool false] 4 (0, 0)) := by rw [hX]; exact heap_alloc_old _ (heap_alloc_new _ _)
  have hb1 : X.heap[w.heap.size + 1]? = some (.cells #[.int .i64 0] 38 (0, 0)) := by rw [hX]; exact heap_alloc_at _ (by simp)
  have hpl := hM.plt
  have hdl := hM.dlt
  have hqm := hM.qlt
  have hql := h.lt
  have hbl := h.blt
  have hA := h.frm0 hFX
  have hMX := hM.frm0 hFX
  have H := Lib.hid (fun n => cstep_at (hA.drewN n) (hMX.drewN n) y hn)
  generalize hR : cstep ws x y = R at H ⊢
  have HA := Lib.hid hA
  have HD := Lib.hid hd
  have HFX := Lib.hid hFX
  have HB0 := Lib.hid hb0
  have HB1 := Lib.hid hb1
  clear hM h hFX hb0 hb1 hn hnl hR hA hMX hd
  go_enter_defers Try.func31, Try.ntmps31
  go_wp2_with fail
  rw [← hX]
  clear hX
  refine (cnone_at HA.out).mono ?_
  rintro e w' ⟨rfl, rfl⟩
  go_wp2_with fail
  refine (cdone_at HA.out 0).mono ?_
  rw [HD.out]
  rintro e w' ⟨rfl, m, rfl⟩
  go_wp2_with fail
  have hS := H.out m
  unfold CsQ at hS
  refine Calls.mono (by simpa using hS) ?_
  clear hS H
  rintro e w3 ⟨rfl, hF3, hM3, hA3⟩
  have hF3' : Frm [d, q, qc] X w3 := ((Frm.refl _ X).drewN m).trans hF3
  have g0 := hF3'.heap HB0.out (by simp; omega)
  have g1 := hF3'.heap HB1.out (by simp; omega)
  have k0 : w3.cell? ⟨w.heap.size, 0, none⟩ = some (.bool false) := by rw [cell_of_heap g0]; rfl
  have k1 : w3.cell? ⟨w.heap.size + 1, 0, none⟩ = some (.int .i64 0) := by rw [cell_of_heap g1]; rfl
  have z0 : w3.frozen? ⟨w.heap.size, 0, none⟩ = false := frozen_of_heap g0
  have z1 : w3.frozen? ⟨w.heap.size + 1, 0, none⟩ = false := frozen_of_heap g1
  have HF3 := Lib.hid hF3'
  have HM3 := Lib.hid hM3
  have HA3 := Lib.hid hA3
  clear g0 g1 hF3 hM3 hA3 hF3'
  go_wp2
  refine leaves_cons (f := 70) (args := #[.pointer (some ⟨w.heap.size, 0, none⟩), .pointer (some ⟨w.heap.size + 1, 0, none⟩)]) (by simp) (by simp [go_sem]) ?_
  refine (idle2 _ _ _).mono ?_
  rintro e u' w'' ⟨rfl, rfl, rfl⟩
  have hFs : Frm [w.heap.size, w.heap.size + 1] w3 ((w3.setCell ⟨w.heap.size, 0, none⟩ (.bool R.wt)).setCell ⟨w.heap.size + 1, 0, none⟩ (.int .i64 R.e)) :=
    ((Frm.refl [w.heap.size, w.heap.size + 1] w3).setCell ⟨w.heap.size, 0, none⟩ _ (.inl (by simp))).setCell ⟨w.heap.size + 1, 0, none⟩ _ (.inl (by simp))
  have hQ : CsQ K w p d cm q qc b c R (.returned (.tuple #[.bool R.wt, .int .i64 R.e])) ((w3.setCell ⟨w.heap.size, 0, none⟩ (.bool R.wt)).setCell ⟨w.heap.size + 1, 0, none⟩ (.int .i64 R.e)) :=
    ⟨rfl, ((HFX.out.nil.trans HF3.out).setCell _ _ (.inr (Nat.le_refl _))).setCell _ _ (.inr (Nat.le_succ _)), HM3.out.frm hFs (by simp; omega) (by simp; omega) (by simp; omega), HA3.out.frm hFs (by simp; omega) (by simp; omega)⟩
  have HQ := Lib.hid hQ
  clear hQ hFs
  simp [Leaves, settle, results, Try.results31, go_sem, k0, k1]
  exact HQ.out
end
end Go.Proofs.Ytieccmmnfnpcoaa
