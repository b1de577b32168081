/- Stage 12: the wrappers at a code. -/
import Derived.Test.YtieccmmnfnpcoaaThJ
namespace Go.Proofs.Ytieccmmnfnpcoaa
open Go.ChangeShapes Go.WideShapes Go.ChangeAt Go.RowKit
set_option linter.unusedVariables false
theorem cm_Step (q : Nat) (w : World) : (method 273 76 (.pointer (some ⟨q, 0, none⟩)) "Step").run Try.prog w = .ok (31, .pointer (some ⟨q, 0, none⟩)) w := by kernel_rfl
theorem cm_Done (q : Nat) (w : World) : (method 273 76 (.pointer (some ⟨q, 0, none⟩)) "Done").run Try.prog w = .ok (32, .pointer (some ⟨q, 0, none⟩)) w := by kernel_rfl
theorem cm_Result (q : Nat) (w : World) : (method 273 76 (.pointer (some ⟨q, 0, none⟩)) "Result").run Try.prog w = .ok (33, .pointer (some ⟨q, 0, none⟩)) w := by kernel_rfl
theorem cm_Copy (q : Nat) (w : World) : (method 273 76 (.pointer (some ⟨q, 0, none⟩)) "Copy").run Try.prog w = .ok (34, .pointer (some ⟨q, 0, none⟩)) w := by kernel_rfl
set_option maxRecDepth 100000 in
theorem cc_Step (args : Array Value) (w : World) : (callFunc 31 args).run Try.prog w = .ok (.enter 31 args) w := by first | rfl | go_simp
set_option maxRecDepth 100000 in
theorem cc_Done (args : Array Value) (w : World) : (callFunc 32 args).run Try.prog w = .ok (.enter 32 args) w := by first | rfl | go_simp
set_option maxRecDepth 100000 in
theorem cc_Result (args : Array Value) (w : World) : (callFunc 33 args).run Try.prog w = .ok (.enter 33 args) w := by first | rfl | go_simp
set_option maxRecDepth 100000 in
theorem cc_Copy (args : Array Value) (w : World) : (callFunc 34 args).run Try.prog w = .ok (.enter 34 args) w := by first | rfl | go_simp
section
variable {K : Bool} {w : World} {p d cm q b c qc : Nat} {ws : List Int} {x : Cd}
theorem hE_code (h : CodeAt w qc b c x) : Calls Try.prog 61 #[.iface 76 (.pointer (some ⟨qc, 0, none⟩))] w (Ret (.bool (decide (x.nx = x.l.length))) (fun w' => Frm [] w w')) := by
  have hF : Frm [] w (w.alloc (.cells #[.bool false] 4)) := (Frm.refl _ _).alloc _
  refine hasEnded_any (f := 32) (S := fun w3 => Frm [] (w.alloc (.cells #[.bool false] 4)) w3) (cm_Done qc) cc_Done
    ((cdone_at (h.frm0 hF) 0).mono ?_) (fun w3 w' h3 hf => ?_) (fun w3 h3 => h3.heap (heap_alloc_new _ _) (by simp))
  · rintro e w' ⟨rfl, m, rfl⟩
    exact ⟨rfl, (Frm.refl _ _).drewN m⟩
  · exact (hF.trans h3).trans_new hf (by simp)
theorem rO_code (h : CodeAt w qc b c x) : Calls Try.prog 62 #[.iface 76 (.pointer (some ⟨qc, 0, none⟩))] w (Ret (.int .u64 x.res) (fun w' => Frm [] w w')) := by
  have hF : Frm [] w (w.alloc (.cells #[.int .u64 0] 28)) := (Frm.refl _ _).alloc _
  refine resultOf_any (f := 33) (S := fun w3 => Frm [] (w.alloc (.cells #[.int .u64 0] 28)) w3) (cm_Result qc) cc_Result
    ((cresult_at (h.frm0 hF)).mono ?_) (fun w3 w' h3 hf => ?_) (fun w3 h3 => h3.heap (heap_alloc_new _ _) (by simp))
  · rintro e w' ⟨rfl, rfl⟩
    exact ⟨rfl, Frm.refl _ _⟩
  · exact (hF.trans h3).trans_new hf (by simp)
theorem cO_code (h : CodeAt w qc b c x) : Calls Try.prog 57 #[.iface 76 (.pointer (some ⟨qc, 0, none⟩))] w (fun e w' => ∃ q', Ret (.iface 76 (.pointer (some ⟨q', 0, none⟩))) (fun w' => Frm [] w w' ∧ CodeAt w' q' b c x ∧ w.heap.size ≤ q') e w') := by
  have hF : Frm [] w (w.alloc (.cells #[.nilIface] 27)) := (Frm.refl _ _).alloc _
  have hbl := h.blt
  refine copyOf_any (f := 34) (S := fun q w3 => Frm [] (w.alloc (.cells #[.nilIface] 27)) w3 ∧ CodeAt w3 q b c x ∧ w.heap.size + 1 ≤ q) (cm_Copy qc) cc_Copy
    ((ccopy_at (h.frm0 hF)).mono ?_) (fun q w3 w' h3 hf => ?_) (fun q w3 h3 => h3.1.heap (heap_alloc_new _ _) (by simp))
  · rintro e w' ⟨q', rfl, h1, h2, h3⟩
    exact ⟨q', rfl, h1, h2, by simpa using h3⟩
  · exact ⟨(hF.trans h3.1).trans_new hf (by simp), h3.2.1.frm hf (by have := h3.2.2; simp; omega) (by simp; omega), by have := h3.2.2; omega⟩
theorem sO_code (h : CodeAt w qc b c x) (hM : Mm K w p d cm q acc0 ws) (y : Ins) (hn : x.l[x.nx]? = some y) :
    Calls Try.prog 73 #[.iface 76 (.pointer (some ⟨qc, 0, none⟩)), .iface (tMm K) (.pointer (some ⟨aMm K p q, 0, none⟩))] w (CsQ K w p d cm q qc b c (cstep ws x y)) := by
  have hF : Frm [] w ((w.alloc (.cells #[.bool false] 4)).alloc (.cells #[.int .i64 0] 38)) := ((Frm.refl _ _).alloc _).alloc _
  have hpl := hM.plt
  have hdl := hM.dlt
  have hqm := hM.qlt
  have hql := h.lt
  have hbl := h.blt
  have hx : (cstep ws x y).wt = true → (cstep ws x y).e = 0 := by
    unfold cstep; split
    · intro h; cases h
    · split <;> (intro _; rfl)
  have hS := cStep_at (h.frm0 hF) (hM.frm0 hF) y hn
  generalize cstep ws x y = R at hx hS ⊢
  refine Calls.mono (stepOf_any (f := 31) (S := fun w3 => Frm [d, q, qc] ((w.alloc (.cells #[.bool false] 4)).alloc (.cells #[.int .i64 0] 38)) w3 ∧ Mm K w3 p d cm q (nAcc K R.did) R.ws ∧ CodeAt w3 qc b c R.x)
    (S' := fun w' => Frm [d, q, qc] w w' ∧ Mm K w' p d cm q (nAcc K R.did) R.ws ∧ CodeAt w' qc b c R.x) hx (cm_Step qc) cc_Step hS (fun w3 w' h3 hf => ?_) (fun w3 h3 => ?_)) (fun _ _ hh => hh)
  · exact ⟨(hF.nil.trans h3.1).trans_new hf (by simp), h3.2.1.frm hf (by simp; omega) (by simp; omega) (by simp; omega), h3.2.2.frm hf (by simp; omega) (by simp; omega)⟩
  · exact ⟨h3.1.heap (heap_alloc_old _ (heap_alloc_new _ _)) (by simp; omega), h3.1.heap (heap_alloc_at _ (by simp)) (by simp; omega)⟩
end
#print axioms sO_code
end Go.Proofs.Ytieccmmnfnpcoaa
