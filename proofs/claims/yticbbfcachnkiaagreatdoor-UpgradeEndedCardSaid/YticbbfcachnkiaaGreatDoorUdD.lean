/- Package latch: Copy of a move with nobody woken; package upgrade: copyOf. -/
import Derived.Test.YticbbfcachnkiaaGreatDoorUdA
import Derived.Deep.RegionHeld3
import Derived.Deep.MidRow
import Derived.Deep.WholeRow
namespace Go.Proofs.YticbbfcachnkiaaGreatDoor
open Go.ChangeShapes Go.WideShapes Go.ChangeAt Go.RowKit
set_option linter.unusedVariables false
set_option linter.unusedSimpArgs false
/-- A load, a store of a whole move, as one thing. -/
def ldM (a : Addr) : Sem Value := loadVar 132 a
theorem ldM_eq (a : Addr) : loadVar 132 a = ldM a := rfl
def stM (a : Addr) (v : Value) : Sem Unit := storeVar 132 a v
theorem stM_eq (a : Addr) (v : Value) : storeVar 132 a v = stM a v := rfl
/-- A move's cells. -/
def mvC (T qe ql : Nat) (a : Option Addr) (n c : Nat) (m : Mv) : List Value := [.int .i64 (m.nb : Int), .int .i64 (T : Int), .int .i64 (m.wd : Int), .int .i64 (m.t : Int), .int .i64 m.k, .int .i64 m.md, .int .i64 m.nx, .iface (Ip false) (.pointer (some ⟨qe, 0, none⟩)), .iface (Ip true) (.pointer (some ⟨ql, 0, none⟩)), .int .u64 (m.s0 : Int), .int .u64 m.s1, .int .u64 (m.s.sh : Int), .int .i64 m.s.up, .int .i64 m.s.ex, .int .i64 m.s.wa, .int .i64 m.s.gr, .int .i64 m.s.fi, .int .i64 m.s.la, .int .i64 m.fr, .slice a n c, .bool m.rf, .bool m.wt]
def mvZ : List Value := [.int .i64 0, .int .i64 0, .int .i64 0, .int .i64 0, .int .i64 0, .int .i64 0, .int .i64 0, .nilIface, .nilIface, .int .u64 0, .int .u64 0, .int .u64 0, .int .i64 0, .int .i64 0, .int .i64 0, .int .i64 0, .int .i64 0, .int .i64 0, .int .i64 0, .slice none 0 0, .bool false, .bool false]
theorem mvC_len (T qe ql : Nat) (a : Option Addr) (n c : Nat) (m : Mv) : (mvC T qe ql a n c m).length = 22 := rfl
theorem MvAt.row {w : World} {q T qe ql : Nat} {a : Option Addr} {n c : Nat} {m : Mv} (h : MvAt w q T qe ql a n c m) : w.heap[q]? = some (.cells (mvC T qe ql a n c m).toArray 132 (0, 0)) := h.obj
theorem ld_m {w : World} {q T qe ql : Nat} {a : Option Addr} {n c : Nat} {m : Mv} (h : MvAt w q T qe ql a n c m) : (ldM ⟨q, 0, none⟩).run Tryz.prog w = .ok (.agg (mvC T qe ql a n c m).toArray) w :=
  run_loadVar_mid w q 0 _ (mvC T qe ql a n c m) (Tryz.prog.underlying 132).get! (fun j v hv => by rw [Nat.zero_add, cell_of_heap h.row]; simpa using hv) (by kernel_rfl) (by kernel_rfl) (by rw [mvC_len]; kernel_rfl)
theorem zero_m : (∀ w, (zeroValue 132).run Tryz.prog w = .ok (.agg mvZ.toArray) w) ∧ (Tryz.prog.info? 132).map (·.size) = some 22 :=
  zero_of_info (by kernel_rfl)
theorem mvC_one (T qe ql : Nat) (a : Option Addr) (n c : Nat) (m : Mv) : (mvC T qe ql a n c m).toArray.all (·.oneCell') = true := by
  rw [Array.all_eq_true_iff_forall_mem]
  intro v hv
  simp only [List.mem_toArray, mvC, List.mem_cons, List.not_mem_nil, or_false] at hv
  rcases hv with rfl | rfl | rfl | rfl | rfl | rfl | rfl | rfl | rfl | rfl | rfl | rfl | rfl | rfl | rfl | rfl | rfl | rfl | rfl | rfl | rfl | rfl <;> rfl
theorem st_m (w : World) (T qe ql : Nat) (a : Option Addr) (n c : Nat) (m : Mv) : (stM ⟨w.heap.size, 0, none⟩ (.agg (mvC T qe ql a n c m).toArray)).run Tryz.prog (w.alloc (.cells mvZ.toArray 132)) = .ok () (w.alloc (.cells (mvC T qe ql a n c m).toArray 132)) := by
  have h0 : (w.alloc (.cells mvZ.toArray 132)).heap[w.heap.size]? = some (.cells mvZ.toArray 132 (0, 0)) := heap_alloc_new _ _
  have h1 : (stM ⟨w.heap.size, 0, none⟩ (.agg (mvC T qe ql a n c m).toArray)).run Tryz.prog (w.alloc (.cells mvZ.toArray 132)) = .ok () ((w.alloc (.cells mvZ.toArray 132)).setRow w.heap.size (mvC T qe ql a n c m).toArray) :=
    run_storeVar_row _ _ _ _ _ _ h0 (by rw [List.size_toArray, mvC_len]; kernel_rfl) (by rfl) (mvC_one T qe ql a n c m)
  rw [h1, World.setRow_alloc_new]
section
variable {w : World} {B T N : Nat} {P : Part}
set_option maxRecDepth 100000 in
/-- slices.Clone of a slice without elements. -/
theorem clone_0 (a : Option Addr) (c : Nat) : Calls Tryz.prog 153 #[.slice a 0 c] w (fun e w' => ∃ a' c', Ret (.slice a' 0 c') (fun w' => Frm [] w w' ∧ ((a' = none ∧ c' = 0) ∨ (a' = some ⟨w.heap.size, 0, none⟩ ∧ c' = 0 ∧ w'.heap[w.heap.size]? = some (.cells #[] 3 (0, 0))))) e w') := by
  have hnil := fun (w : World) => Lib.run_eql_slice_nil (P := Tryz.prog) w 48 3 a 0 c 0 0 Tryz.underlying48
  cases a with
  | none =>
    simp only [Option.isNone_none] at hnil
    go_enter Tryz.func153, Tryz.ntmps153
    go_wp2
    go_ret
    exact ⟨none, 0, rfl, Frm.refl _ _, .inl ⟨rfl, rfl⟩⟩
  | some x =>
    obtain ⟨b, o, z⟩ := x
    simp only [Option.isNone_some] at hnil
    go_enter Tryz.func153, Tryz.ntmps153
    go_wp2
    go_ret
    exact ⟨some ⟨w.heap.size, 0, none⟩, 0, rfl, (Frm.refl _ _).alloc _, .inr ⟨rfl, rfl, heap_alloc_new _ _⟩⟩
end
attribute [local go_sem ↓] ldM_eq stM_eq
section
variable {w : World} {B T N : Nat} {P : Part}
set_option maxRecDepth 1000000 in
set_option maxHeartbeats 4000000 in
theorem Copy_mv (h : PartAt w B T N P) (hwk : P.m.wk = []) (hB : B ≤ w.heap.size) :
    Calls Tryz.prog 147 #[.pointer (some ⟨P.q, 0, none⟩)] w (fun e w' => ∃ P', Ret (.iface 76 (.pointer (some ⟨P'.q, 0, none⟩))) (fun w' => Frm [] w w' ∧ PartAt w' B T N P' ∧ P'.m = P.m ∧ P'.g = P.g ∧ ∀ x ∈ P'.bl, w.heap.size ≤ x) e w') := by
  have hn0 : P.n = 0 := by have := h.wk.len; rw [hwk] at this; exact this
  obtain ⟨q, qe, ql, a, n, c, m, g⟩ := P
  simp only at hn0 hwk
  subst hn0
  have H := Lib.hid (none_mv h.mv)
  have HP := Lib.hid h
  have hme := m_Copy false qe
  have hce := c_Copy false
  have hml := m_Copy true ql
  have hcl := c_Copy true
  have HE : Hid (∀ w', Frm [] w w' → Calls Tryz.prog (fCopy false) #[.pointer (some ⟨qe, 0, none⟩)] w' (fun e' x => ∃ q', Ret (.iface (Ip false) (.pointer (some ⟨q', 0, none⟩))) (fun x => Frm [] w' x ∧ PgR x q' false m.nb T m.wd (2 * m.t) g.se g.oe g.ee ∧ w'.heap.size ≤ q') e' x)) := Lib.hid fun w' hf => Copy_any (h.en.frm hf (by simp))
  have HLv : Hid (∀ w', Frm [] w w' → Calls Tryz.prog (fCopy true) #[.pointer (some ⟨ql, 0, none⟩)] w' (fun e' x => ∃ q', Ret (.iface (Ip true) (.pointer (some ⟨q', 0, none⟩))) (fun x => Frm [] w' x ∧ PgR x q' true m.nb T m.wd (2 * m.t) g.sl g.ol g.el ∧ w'.heap.size ≤ q') e' x)) := Lib.hid fun w' hf => Copy_any (h.le.frm hf (by simp))
  have hz := zero_m.1
  have hld := ld_m h.mv
  have hst := st_m w T qe ql a 0 c m
  have hbl := h.mv.lt
  clear h
  simp only at hld hbl
  go_enter Tryz.func147, Tryz.ntmps147
  go_wp2_with fail
  refine H.out.mono ?_
  rintro e w1 ⟨rfl, rfl⟩
  go_wp2_with fail
  have hF0 : Frm [] w (w.alloc (.cells (mvC T qe ql a 0 c m).toArray 132)) := (Frm.refl _ _).alloc _
  have hC0 : (w.alloc (.cells (mvC T qe ql a 0 c m).toArray 132)).heap[w.heap.size]? = some (.cells (mvC T qe ql a 0 c m).toArray 132 (0, 0)) := heap_alloc_new _ _
  generalize (w.alloc (.cells (mvC T qe ql a 0 c m).toArray 132)) = Y at hF0 hC0 ⊢
  have hYl := lt_of_heap hC0
  generalize hC9 : w.heap.size = C at hC0 hYl ⊢
  have HF0 := Lib.hid hF0
  have HC0 := Lib.hid hC0
  have HC9 := Lib.hid hC9
  have HV : Hid (∀ w', Frm [C] Y w' → MvAt w' q T qe ql a 0 c m) := Lib.hid fun w' hf => (HP.out.mv.frm HF0.out (by simp)).frm hf (by simp; omega)
  clear hF0 hC0 hC9 hld hst hz
  refine wp_region_noPanic ?_
  refine wp_region_held_drew (S := fun w' => Frm [C] Y w') (by kernel_rfl) (((Frm.refl _ _)).drew) (fun hHeld => ?_)
  refine take_in (i := 0) (d := 9) (v := .pointer (some ⟨q, 0, none⟩)) rfl rfl (by kernel_rfl) (by kernel_rfl) (by kernel_rfl) (fun _ _ _ h => h) (by kernel_rfl) (fun _ _ => rfl) (by assumption) ?_
  try simp only [Act.put, List.setIfInBounds_toArray, List.set_cons_zero, List.set_cons_succ]
  refine take_in (i := 1) (d := 10) (v := .pointer (some ⟨q, 0, none⟩)) rfl rfl (by kernel_rfl) (by kernel_rfl) (by kernel_rfl) (fun _ _ _ h => h) (by kernel_rfl) (fun w' hS => by clear hS; go_simp) (by assumption) ?_
  try simp only [Act.put, List.setIfInBounds_toArray, List.set_cons_zero, List.set_cons_succ]
  refine take_in (i := 2) (d := 11) (v := .pointer (some ⟨q, 7, none⟩)) rfl rfl (by kernel_rfl) (by kernel_rfl) (by kernel_rfl) (fun _ _ _ h => h) (by kernel_rfl) (fun _ _ => rfl) (by assumption) ?_
  try simp only [Act.put, List.setIfInBounds_toArray, List.set_cons_zero, List.set_cons_succ]
  refine take_in (i := 3) (d := 12) (v := .iface (Ip false) (.pointer (some ⟨qe, 0, none⟩))) rfl rfl (by kernel_rfl) (by kernel_rfl) (by kernel_rfl) (fun _ _ _ h => h) (by kernel_rfl) (fun w' hS => by have hS' : Frm [C] Y w' := hS; obtain ⟨c0, c1, c2, c3, c4, c5, c6, c7, c8, c9, c10, c11, c12, c13, c14, c15, c16, c17, c18, c19, c20, c21⟩ := (HV.out w' hS').cells; clear hS hS'; go_simp) (by assumption) ?_
  try simp only [Act.put, List.setIfInBounds_toArray, List.set_cons_zero, List.set_cons_succ]
  refine take_in (i := 5) (d := 14) (v := .pointer (some ⟨q, 0, none⟩)) rfl rfl (by kernel_rfl) (by kernel_rfl) (by kernel_rfl) (fun _ _ _ h => h) (by kernel_rfl) (fun _ _ => rfl) (by assumption) ?_
  try simp only [Act.put, List.setIfInBounds_toArray, List.set_cons_zero, List.set_cons_succ]
  refine take_in (i := 6) (d := 15) (v := .pointer (some ⟨q, 0, none⟩)) rfl rfl (by kernel_rfl) (by kernel_rfl) (by kernel_rfl) (fun _ _ _ h => h) (by kernel_rfl) (fun w' hS => by clear hS; go_simp) (by assumption) ?_
  try simp only [Act.put, List.setIfInBounds_toArray, List.set_cons_zero, List.set_cons_succ]
  refine take_in (i := 7) (d := 16) (v := .pointer (some ⟨q, 8, none⟩)) rfl rfl (by kernel_rfl) (by kernel_rfl) (by kernel_rfl) (fun _ _ _ h => h) (by kernel_rfl) (fun _ _ => rfl) (by assumption) ?_
  try simp only [Act.put, List.setIfInBounds_toArray, List.set_cons_zero, List.set_cons_succ]
  refine take_in (i := 8) (d := 17) (v := .iface (Ip true) (.pointer (some ⟨ql, 0, none⟩))) rfl rfl (by kernel_rfl) (by kernel_rfl) (by kernel_rfl) (fun _ _ _ h => h) (by kernel_rfl) (fun w' hS => by have hS' : Frm [C] Y w' := hS; obtain ⟨c0, c1, c2, c3, c4, c5, c6, c7, c8, c9, c10, c11, c12, c13, c14, c15, c16, c17, c18, c19, c20, c21⟩ := (HV.out w' hS').cells; clear hS hS'; go_simp) (by assumption) ?_
  try simp only [Act.put, List.setIfInBounds_toArray, List.set_cons_zero, List.set_cons_succ]
  refine take_in (i := 10) (d := 19) (v := .pointer (some ⟨q, 0, none⟩)) rfl rfl (by kernel_rfl) (by kernel_rfl) (by kernel_rfl) (fun _ _ _ h => h) (by kernel_rfl) (fun _ _ => rfl) (by assumption) ?_
  try simp only [Act.put, List.setIfInBounds_toArray, List.set_cons_zero, List.set_cons_succ]
  refine take_in (i := 11) (d := 20) (v := .pointer (some ⟨q, 0, none⟩)) rfl rfl (by kernel_rfl) (by kernel_rfl) (by kernel_rfl) (fun _ _ _ h => h) (by kernel_rfl) (fun w' hS => by clear hS; go_simp) (by assumption) ?_
  try simp only [Act.put, List.setIfInBounds_toArray, List.set_cons_zero, List.set_cons_succ]
  refine take_in (i := 12) (d := 21) (v := .pointer (some ⟨q, 19, none⟩)) rfl rfl (by kernel_rfl) (by kernel_rfl) (by kernel_rfl) (fun _ _ _ h => h) (by kernel_rfl) (fun _ _ => rfl) (by assumption) ?_
  try simp only [Act.put, List.setIfInBounds_toArray, List.set_cons_zero, List.set_cons_succ]
  refine take_in (i := 13) (d := 22) (v := .slice a 0 c) rfl rfl (by kernel_rfl) (by kernel_rfl) (by kernel_rfl) (fun _ _ _ h => h) (by kernel_rfl) (fun w' hS => by have hS' : Frm [C] Y w' := hS; obtain ⟨c0, c1, c2, c3, c4, c5, c6, c7, c8, c9, c10, c11, c12, c13, c14, c15, c16, c17, c18, c19, c20, c21⟩ := (HV.out w' hS').cells; clear hS hS'; go_simp) (by assumption) ?_
  try simp only [Act.put, List.setIfInBounds_toArray, List.set_cons_zero, List.set_cons_succ]
  refine wpAnyH_ready (rs := [4]) (by kernel_rfl) (by simp) ?_
  refine AllReadyH.cons rfl (fun K hK => ?_) AllReadyH.nil
  go_simp
  refine (HE.out _ (HF0.out.trans (by (repeat' (first | assumption | exact Frm.refl _ _ | apply Frm.drew | apply Frm.drewN))))).mono ?_
  rintro e w2 ⟨qe', rfl, g1, hE2, hqe⟩
  have s2 : Frm [] Y w2 := Frm.trans (by (repeat' (first | assumption | exact Frm.refl _ _ | apply Frm.drew | apply Frm.drewN))) g1
  have HE2 := Lib.hid hE2
  clear g1 hE2
  refine hK.out _ _ (by exact s2.nil) (fun hHeld => ?_)
  clear hK K
  try change wpAnyH _ _ _ _ _ _ _ (Act.put _ (some 13) _) _
  try simp only [Act.put, List.setIfInBounds_toArray, List.set_cons_zero, List.set_cons_succ]
  refine wpAnyH_ready (rs := [9]) (by kernel_rfl) (by simp) ?_
  refine AllReadyH.cons rfl (fun K hK => ?_) AllReadyH.nil
  go_simp
  refine (HLv.out _ (HF0.out.trans s2)).mono ?_
  rintro e w3 ⟨ql', rfl, g1, hL3, hql⟩
  have HE3 := Lib.hid (HE2.out.frm g1 (by simp))
  have s3 : Frm [] Y w3 := s2.trans g1
  have hql2 : ql' ≠ qe' := by have := HE2.out.lt; omega
  have hs23 := g1.size
  have HL3 := Lib.hid hL3
  clear g1 hL3
  refine hK.out _ _ (by exact s3.nil) (fun hHeld => ?_)
  clear hK K
  try change wpAnyH _ _ _ _ _ _ _ (Act.put _ (some 18) _) _
  try simp only [Act.put, List.setIfInBounds_toArray, List.set_cons_zero, List.set_cons_succ]
  refine wpAnyH_ready (rs := [14]) (by kernel_rfl) (by simp) ?_
  refine AllReadyH.cons rfl (fun K hK => ?_) AllReadyH.nil
  go_simp
  refine (clone_0 a c).mono ?_
  rintro e w4 ⟨a', c', rfl, g1, hcl⟩
  have HE4 := Lib.hid (HE3.out.frm g1 (by simp))
  have HL4 := Lib.hid (HL3.out.frm g1 (by simp))
  have s4 : Frm [] Y w4 := s3.trans g1
  have hs34 := g1.size
  have HCL := Lib.hid hcl
  have hG4 := s4.heap HC0.out (by simp)
  have HG4 := Lib.hid hG4
  have y7 : w4.cell? ⟨C, 7, none⟩ = some (.iface (Ip false) (.pointer (some ⟨qe, 0, none⟩))) := by rw [cell_of_heap hG4]; rfl
  have y8 : w4.cell? ⟨C, 8, none⟩ = some (.iface (Ip true) (.pointer (some ⟨ql, 0, none⟩))) := by rw [cell_of_heap hG4]; rfl
  have y19 : w4.cell? ⟨C, 19, none⟩ = some (.slice a 0 c) := by rw [cell_of_heap hG4]; rfl
  have z7 : w4.frozen? ⟨C, 7, none⟩ = false := frozen_of_heap hG4
  have z8 : w4.frozen? ⟨C, 8, none⟩ = false := frozen_of_heap hG4
  have z19 : w4.frozen? ⟨C, 19, none⟩ = false := frozen_of_heap hG4
  have hl4 := lt_of_heap hG4
  clear g1 hcl hG4
  refine hK.out _ _ (by exact s4.nil) (fun hHeld => ?_)
  clear hK K
  try change wpAnyH _ _ _ _ _ _ _ (Act.put _ (some 23) _) _
  try simp only [Act.put, List.setIfInBounds_toArray, List.set_cons_zero, List.set_cons_succ]
  refine take_in (i := 15) (d := 24) (v := .pointer (some ⟨C, 7, none⟩)) rfl rfl (by kernel_rfl) (by kernel_rfl) (by kernel_rfl) (fun _ _ _ h => h) (by kernel_rfl) (fun _ _ => rfl) (by assumption) ?_
  try simp only [Act.put, List.setIfInBounds_toArray, List.set_cons_zero, List.set_cons_succ]
  refine wpAnyH_ready (rs := [16]) (by kernel_rfl) (by simp) ?_
  refine AllReadyH.cons rfl (fun K hK => ?_) AllReadyH.nil
  go_simp
  refine hK.out _ _ (by exact (s4.nil).setCell _ _ (.inl (by simp))) (fun hHeld => ?_)
  clear hK K
  try simp only [Act.put, List.setIfInBounds_toArray, List.set_cons_zero, List.set_cons_succ]
  refine take_in (i := 17) (d := 25) (v := .pointer (some ⟨C, 8, none⟩)) rfl rfl (by kernel_rfl) (by kernel_rfl) (by kernel_rfl) (fun _ _ _ h => h) (by kernel_rfl) (fun _ _ => rfl) (by assumption) ?_
  try simp only [Act.put, List.setIfInBounds_toArray, List.set_cons_zero, List.set_cons_succ]
  refine wpAnyH_ready (rs := [18]) (by kernel_rfl) (by simp) ?_
  refine AllReadyH.cons rfl (fun K hK => ?_) AllReadyH.nil
  go_simp
  refine hK.out _ _ (by exact ((s4.nil).setCell _ _ (.inl (by simp))).setCell _ _ (.inl (by simp))) (fun hHeld => ?_)
  clear hK K
  try simp only [Act.put, List.setIfInBounds_toArray, List.set_cons_zero, List.set_cons_succ]
  refine take_in (i := 19) (d := 26) (v := .pointer (some ⟨C, 19, none⟩)) rfl rfl (by kernel_rfl) (by kernel_rfl) (by kernel_rfl) (fun _ _ _ h => h) (by kernel_rfl) (fun _ _ => rfl) (by assumption) ?_
  try simp only [Act.put, List.setIfInBounds_toArray, List.set_cons_zero, List.set_cons_succ]
  refine wpAnyH_ready (rs := [20]) (by kernel_rfl) (by simp) ?_
  refine AllReadyH.cons rfl (fun K hK => ?_) AllReadyH.nil
  go_simp
  refine hK.out _ _ (by exact (((s4.nil).setCell _ _ (.inl (by simp))).setCell _ _ (.inl (by simp))).setCell _ _ (.inl (by simp))) (fun hHeld => ?_)
  clear hK K
  try simp only [Act.put, List.setIfInBounds_toArray, List.set_cons_zero, List.set_cons_succ]
  refine wpAnyH_done (by kernel_rfl) ?_ _
  refine NoPanic.normal ?_
  clear y7 y8 y19 z7 z8 z19
  go_wp2
  go_ret
  have hF := HF0.out.trans_new hHeld (fun x hx => .inr (by simp at hx; rw [hx, HC9.out]; exact Nat.le_refl _))
  have hfr : Frm [C] w4 (((w4.setCell ⟨C, 7, none⟩ (.iface (Ip false) (.pointer (some ⟨qe', 0, none⟩)))).setCell ⟨C, 8, none⟩ (.iface (Ip true) (.pointer (some ⟨ql', 0, none⟩)))).setCell ⟨C, 19, none⟩ (.slice a' 0 c')) := (((Frm.refl [C] w4).setCell _ _ (.inl (by simp))).setCell _ _ (.inl (by simp))).setCell _ _ (.inl (by simp))
  have hob := heap_setCell_at (i := 19) (.slice a' 0 c') (heap_setCell_at (i := 8) (.iface (Ip true) (.pointer (some ⟨ql', 0, none⟩))) (heap_setCell_at (i := 7) (.iface (Ip false) (.pointer (some ⟨qe', 0, none⟩))) HG4.out))
  generalize (((w4.setCell ⟨C, 7, none⟩ (.iface (Ip false) (.pointer (some ⟨qe', 0, none⟩)))).setCell ⟨C, 8, none⟩ (.iface (Ip true) (.pointer (some ⟨ql', 0, none⟩)))).setCell ⟨C, 19, none⟩ (.slice a' 0 c')) = W at hF hfr hob ⊢
  have hCw := HC9.out
  have hs0 := HF0.out.size
  have hsY : Y.heap.size ≤ qe' := hqe
  have hlE := HE2.out.lt
  have hmv := HP.out.mv
  have fresh : ∀ x ∈ (Part.mk C qe' ql' a' 0 c' m g).bl, w.heap.size ≤ x := by
    intro x hx
    simp only [Part.bl, List.mem_cons] at hx
    rcases hx with rfl | rfl | rfl | hx
    · omega
    · omega
    · omega
    · rcases HCL.out with ⟨rfl, rfl⟩ | ⟨rfl, rfl, -⟩
      · simp [blk] at hx
      · simp [blk] at hx; omega
  refine ⟨⟨C, qe', ql', a', 0, c', m, g⟩, rfl, hF, ⟨⟨?_, hmv.t1, hmv.t64, hmv.tT, hmv.fit, hmv.wdf⟩, ?_, HE4.out.frm hfr (by simp; omega), HL4.out.frm hfr (by simp; omega), HP.out.ok, fun x hx => Nat.le_trans hB (fresh x hx), HP.out.wkl⟩, rfl, rfl, fresh⟩
  · refine Eq.trans hob ?_; simp only [mvC, List.setIfInBounds_toArray, List.set_cons_succ, List.set_cons_zero]
  · show WkA B W a' 0 c' m
    rcases HCL.out with ⟨rfl, rfl⟩ | ⟨rfl, rfl, hcl⟩
    · refine ⟨⟨0, 0, ?_, fun x hx => by simp [blk] at hx⟩, fun x hx => by simp [blk] at hx, fun _ => ?_⟩
      · rw [hwk]; exact Li.nil _ _ _
      · rw [hwk]; exact Row.nil _ _ _ _
    · have hc5 := hfr.heap hcl (by simp; omega)
      refine ⟨⟨w3.heap.size, 0, ?_, fun x hx => by simpa [blk] using hx⟩, fun x hx => ?_, fun _ => ?_⟩
      · rw [hwk]; exact ⟨rfl, fun h => by omega, fun i x hx => by simp at hx, Nat.le_refl _⟩
      · simp [blk] at hx; subst hx; exact ⟨by omega, _, hc5⟩
      · rw [hwk]; exact ⟨⟨by simp [ns], .inr ⟨w3.heap.size, 0, #[], rfl, by omega, hc5, by simp, by unfold maxLen; omega, by simp, by simp [ns]⟩⟩, rfl⟩
end
end Go.Proofs.YticbbfcachnkiaaGreatDoor
