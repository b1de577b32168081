/- Stage 12: a code goes on; its access. -/
import Derived.Test.YtieccmmnfnpcoaaThB
import Derived.StillTailTactics
namespace Go.Proofs.Ytieccmmnfnpcoaa
open Go.ChangeShapes Go.WideShapes Go.ChangeAt Go.RowKit
set_option linter.unusedVariables false

def Cd.fin (x : Cd) (v : Int) : Cd := { x with nx := x.l.length, res := v }
def Cd.go (x : Cd) (y : Ins) : Cd :=
  if y.k = 9 then x.fin (x.g.getD y.r.toNat 0)
  else if y.k = 8 ∧ x.g.getD y.r.toNat 0 = y.v then { x with nx := y.w.toNat }
  else if x.nx + 1 = x.l.length then x.fin (x.g.getD 0 0)
  else { x with nx := x.nx + 1 }
/-- The access that an instruction makes (kind 0: none). -/
def iacc (y : Ins) (g : List Int) : Acc :=
  if y.k = 1 ∨ y.k = 5 then ⟨1, y.w, 0, 0⟩ else if y.k = 2 then ⟨2, y.w, 0, g.getD y.r.toNat 0⟩ else if y.k = 3 then ⟨4, y.w, 0, g.getD y.r.toNat 0⟩
  else if y.k = 4 then ⟨3, y.w, y.v, g.getD y.r.toNat 0⟩ else acc0
def ival (y : Ins) (g : List Int) (did : Acc) : Int :=
  if y.k = 2 then g.getD y.r.toNat 0 else if y.k = 4 then (if did.b = y.v then 1 else 0) else did.b
def nAcc (K : Bool) (r : Acc) : Acc := if K then r else acc0
theorem alw_r {y : Ins} {n : Nat} (h : alw y n = true) (h5 : y.k ≠ 5) : 0 ≤ y.r ∧ y.r < 4 := by
  unfold alw at h
  rw [if_neg h5] at h
  split at h
  · simp at h; omega
  · split at h
    · simp at h; omega
    · split at h
      · simp at h; omega
      · cases h
theorem alw_k {y : Ins} {n : Nat} (h : alw y n = true) : 1 ≤ y.k ∧ y.k ≤ 9 := by
  unfold alw at h
  split at h
  · omega
  · split at h
    · omega
    · split at h
      · omega
      · split at h
        · omega
        · cases h
theorem alw_j {y : Ins} {n : Nat} (h : alw y n = true) (h8 : y.k = 8) : 0 ≤ y.w ∧ y.w < n := by
  unfold alw at h
  rw [if_neg (by omega), if_pos h8] at h
  simp at h; omega
theorem o_res (ws : List Int) (b : Acc) : oRes acc0 ws b = mRes ws b := if_pos rfl
theorem o_err (n : Nat) (k v : Int) : oErr acc0 n k v = mErr n k v := if_pos rfl
theorem o_ws (ws : List Int) (b : Acc) : oWs acc0 ws b = mWs ws b := if_pos rfl
theorem m_acc (K : Bool) (ws : List Int) (b : Acc) : mAcc K acc0 ws b = nAcc K (mRes ws b) := by
  cases K
  · rfl
  · show oAcc acc0 ws b = mRes ws b
    unfold oAcc; rw [if_pos (show acc0.k = 0 from rfl)]; split
    · rfl
    · rename_i h; unfold mRes; rw [if_neg h]; rfl
section
variable {K : Bool} {w : World} {p d cm q b c qc : Nat} {ws : List Int} {x : Cd}
theorem Load_m0 (h : Mm K w p d cm q acc0 ws) (z : Int) :
    Calls Try.prog (fLoad K) #[.pointer (some ⟨aMm K p q, 0, none⟩), .int .i64 z] w (Ret (.tuple #[.int .u64 (mRes ws ⟨1, z, 0, 0⟩).b, .int .i64 (mErr ws.length 1 z)]) (fun w' => Frm [d, q] w w' ∧ Mm K w' p d cm q (nAcc K (mRes ws ⟨1, z, 0, 0⟩)) (mWs ws ⟨1, z, 0, 0⟩))) := by
  have := Load_mm h z
  rwa [o_res, o_err, o_ws, m_acc] at this
theorem Store_m0 (h : Mm K w p d cm q acc0 ws) (z v : Int) :
    Calls Try.prog (fStore K) #[.pointer (some ⟨aMm K p q, 0, none⟩), .int .i64 z, .int .u64 v] w (Ret (.int .i64 (mErr ws.length 2 z)) (fun w' => Frm [d, q] w w' ∧ Mm K w' p d cm q (nAcc K (mRes ws ⟨2, z, 0, v⟩)) (mWs ws ⟨2, z, 0, v⟩))) := by
  have := Store_mm h z v
  rwa [o_err, o_ws, m_acc] at this
theorem CAS_m0 (h : Mm K w p d cm q acc0 ws) (z o v : Int) :
    Calls Try.prog (fCAS K) #[.pointer (some ⟨aMm K p q, 0, none⟩), .int .i64 z, .int .u64 o, .int .u64 v] w (Ret (.tuple #[.bool (mErr ws.length 3 z == 0 && (mRes ws ⟨3, z, o, v⟩).b == o), .int .i64 (mErr ws.length 3 z)]) (fun w' => Frm [d, q] w w' ∧ Mm K w' p d cm q (nAcc K (mRes ws ⟨3, z, o, v⟩)) (mWs ws ⟨3, z, o, v⟩))) := by
  have := CAS_mm h z o v
  rwa [o_res, o_err, o_ws, m_acc] at this
theorem Swap_m0 (h : Mm K w p d cm q acc0 ws) (z v : Int) :
    Calls Try.prog (fSwap K) #[.pointer (some ⟨aMm K p q, 0, none⟩), .int .i64 z, .int .u64 v] w (Ret (.tuple #[.int .u64 (mRes ws ⟨4, z, 0, v⟩).b, .int .i64 (mErr ws.length 4 z)]) (fun w' => Frm [d, q] w w' ∧ Mm K w' p d cm q (nAcc K (mRes ws ⟨4, z, 0, v⟩)) (mWs ws ⟨4, z, 0, v⟩))) := by
  have := Swap_mm h z v
  rwa [o_res, o_err, o_ws, m_acc] at this

theorem cend_at (h : CodeAt w qc b c x) (v : Int) : Calls Try.prog 90 #[.pointer (some ⟨qc, 0, none⟩), .int .u64 v] w (Ret (.tuple #[]) (fun w' => Frm [qc] w w' ∧ CodeAt w' qc b c (x.fin v))) := by
  have h0 := h.c0
  have h5 := h.c5
  have h6 := h.c6
  have hfz := h.frz
  have hql := h.lt
  have hA : CodeAt ((w.setCell ⟨qc, 5, none⟩ (.int .i64 x.l.length)).setCell ⟨qc, 6, none⟩ (.int .u64 v)) qc b c (x.fin v) := (h.setN (Nat.le_refl _)).setS v
  have HA := Lib.hid hA
  clear h hA
  go_enter Try.func90, Try.ntmps90
  go_wp2
  go_end0
  exact ⟨rfl, ((Frm.refl [qc] w).setCell _ _ (.inl (by simp))).setCell _ _ (.inl (by simp)), HA.out⟩
theorem bx_frm {D : List Nat} {w w' : World} {o : Obj} (h : Frm D (w.alloc o) w') : Frm D w w' := ((Frm.refl D w).alloc o).trans h
set_option maxRecDepth 100000 in
theorem cgo_9 (h : CodeAt w qc b c x) (y : Ins) (hk : y.k = 9) (hy : alw y x.l.length = true) : Calls Try.prog 86 #[.pointer (some ⟨qc, 0, none⟩), .agg #[.int .i64 y.k, .int .i64 y.r, .int .i64 y.w, .int .u64 y.v]] w (Ret (.tuple #[]) (fun w' => Frm [qc] w w' ∧ CodeAt w' qc b c (x.go y))) := by
  have hr := alw_r hy (by omega)
  obtain ⟨k, r, w0, v⟩ := y
  dsimp only at hk hr
  subst hk
  obtain ⟨r, rfl⟩ := Int.eq_ofNat_of_zero_le hr.1
  have hr4 : r < 4 := by omega
  have he : x.go ⟨9, r, w0, v⟩ = x.fin (x.g.getD r 0) := rfl
  rw [he]
  have hix := ix_reg (q := qc) hr4
  obtain ⟨X, hX⟩ : ∃ X, X = w.alloc (.cells #[.int .i64 9, .int .i64 r, .int .i64 w0, .int .u64 v] 74) := ⟨_, rfl⟩
  have hF : Frm [] w X := by rw [hX]; exact (Frm.refl _ _).alloc _
  have hx0 : X.cell? ⟨w.heap.size, 0, none⟩ = some (.int .i64 9) := by rw [hX, cell_of_heap (heap_alloc_new _ _)]; rfl
  have hx1 : X.cell? ⟨w.heap.size, 1, none⟩ = some (.int .i64 r) := by rw [hX, cell_of_heap (heap_alloc_new _ _)]; rfl
  have hA := h.frm0 hF
  have hcr := hA.cr hr4
  have HA := Lib.hid hA
  have HF := Lib.hid hF
  clear h hA hF hy he hr
  go_enter Try.func86, Try.ntmps86
  go_wp2_with fail
  rw [← hX]
  clear hX
  go_wp2_with fail
  go_still_tail 8, (by kernel_rfl)
  change wpList _ _ _ _ _ X.drew
  have hA2 : CodeAt X.drew qc b c x := HA.out.drewN 1
  have hF2 : Frm [] w X.drew := HF.out.drew
  generalize X.drew = X2 at hA2 hF2 ⊢
  have HA2 := Lib.hid hA2
  have HF2 := Lib.hid hF2
  clear hA2 hF2 HA HF
  go_wp2_with fail
  refine (cend_at HA2.out _).mono ?_
  rintro e w3 ⟨rfl, hF3, hA3⟩
  have HF3 := Lib.hid hF3
  have HA3 := Lib.hid hA3
  clear hF3 hA3
  go_wp2
  go_end0
  exact ⟨rfl, HF2.out.nil.trans HF3.out, HA3.out⟩
end
end Go.Proofs.Ytieccmmnfnpcoaa
