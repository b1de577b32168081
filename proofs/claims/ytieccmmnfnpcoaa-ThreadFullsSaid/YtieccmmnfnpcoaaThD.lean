/- Stage 12: a code goes on, all ways. -/
import Derived.Test.YtieccmmnfnpcoaaThC
namespace Go.Proofs.Ytieccmmnfnpcoaa
open Go.ChangeShapes Go.WideShapes Go.ChangeAt Go.RowKit
set_option linter.unusedVariables false
section
variable {w : World} {b c qc : Nat} {x : Cd}

set_option maxRecDepth 100000 in
theorem cgo_8y (h : CodeAt w qc b c x) (y : Ins) (hy : alw y x.l.length = true) (hn : x.nx < x.l.length) (hk : y.k = 8) (he : x.g.getD y.r.toNat 0 = y.v) : Calls Try.prog 86 #[.pointer (some ⟨qc, 0, none⟩), .agg #[.int .i64 y.k, .int .i64 y.r, .int .i64 y.w, .int .u64 y.v]] w (Ret (.tuple #[]) (fun w' => Frm [qc] w w' ∧ CodeAt w' qc b c (x.go y))) := by
  have hr := alw_r hy (by omega)
  have hj := alw_j hy hk
  obtain ⟨k, r, w0, v⟩ := y
  dsimp only at hk hr he hj
  subst hk
  obtain ⟨r, rfl⟩ := Int.eq_ofNat_of_zero_le hr.1
  obtain ⟨j, rfl⟩ := Int.eq_ofNat_of_zero_le hj.1
  have hr4 : r < 4 := by omega
  rw [Int.toNat_natCast] at he
  have hgo : x.go ⟨8, r, j, v⟩ = { x with nx := j } := by
    unfold Cd.go; dsimp only; rw [if_neg (by decide), if_pos ⟨rfl, by rw [Int.toNat_natCast]; exact he⟩, Int.toNat_natCast]
  rw [hgo]
  have hix := ix_reg (q := qc) hr4
  obtain ⟨X, hX⟩ : ∃ X, X = w.alloc (.cells #[.int .i64 8, .int .i64 r, .int .i64 j, .int .u64 v] 74) := ⟨_, rfl⟩
  have hF : Frm [] w X := by rw [hX]; exact (Frm.refl _ _).alloc _
  have hx0 : X.cell? ⟨w.heap.size, 0, none⟩ = some (.int .i64 8) := by rw [hX, cell_of_heap (heap_alloc_new _ _)]; rfl
  have hx1 : X.cell? ⟨w.heap.size, 1, none⟩ = some (.int .i64 r) := by rw [hX, cell_of_heap (heap_alloc_new _ _)]; rfl
  have hx2 : X.cell? ⟨w.heap.size, 2, none⟩ = some (.int .i64 j) := by rw [hX, cell_of_heap (heap_alloc_new _ _)]; rfl
  have hx3 : X.cell? ⟨w.heap.size, 3, none⟩ = some (.int .u64 v) := by rw [hX, cell_of_heap (heap_alloc_new _ _)]; rfl
  have hA := h.frm0 hF
  have hcr := hA.cr hr4
  have h5 := hA.c5
  have hfz := hA.frz 5
  rw [he] at hcr
  have ht : (v == v) = true := by simp
  have hAs : CodeAt (X.setCell ⟨qc, 5, none⟩ (.int .i64 j)) qc b c { x with nx := j } := hA.setN (by omega)
  have HAS := Lib.hid hAs
  have HF := Lib.hid hF
  clear h hA hF hy hgo hr hj he hAs hn
  go_enter Try.func86, Try.ntmps86
  go_wp2_with fail
  rw [← hX]
  clear hX
  go_wp2_with fail
  go_quiet (fail)
  go_wp2
  go_end0
  exact ⟨rfl, (HF.out.nil.drewN _).setCell _ _ (.inl (by simp)), by first | exact HAS.out.drewN _ | (have := HAS.out.drewN 1; exact this)⟩

set_option maxRecDepth 100000 in
theorem cgo_nl (h : CodeAt w qc b c x) (y : Ins) (hy : alw y x.l.length = true) (hn : x.nx < x.l.length) (h9 : y.k ≠ 9) (h8 : y.k ≠ 8) (hl : x.nx + 1 = x.l.length) : Calls Try.prog 86 #[.pointer (some ⟨qc, 0, none⟩), .agg #[.int .i64 y.k, .int .i64 y.r, .int .i64 y.w, .int .u64 y.v]] w (Ret (.tuple #[]) (fun w' => Frm [qc] w w' ∧ CodeAt w' qc b c (x.go y))) := by
  obtain ⟨k, r, w0, v⟩ := y
  dsimp only at h9 h8
  have hgo : x.go ⟨k, r, w0, v⟩ = x.fin (x.g.getD 0 0) := by
    unfold Cd.go; dsimp only; rw [if_neg h9, if_neg (fun e => h8 e.1), if_pos hl]
  rw [hgo]
  obtain ⟨X, hX⟩ : ∃ X, X = w.alloc (.cells #[.int .i64 k, .int .i64 r, .int .i64 w0, .int .u64 v] 74) := ⟨_, rfl⟩
  have hF : Frm [] w X := by rw [hX]; exact (Frm.refl _ _).alloc _
  have hx0 : X.cell? ⟨w.heap.size, 0, none⟩ = some (.int .i64 k) := by rw [hX, cell_of_heap (heap_alloc_new _ _)]; rfl
  have hx1 : X.cell? ⟨w.heap.size, 1, none⟩ = some (.int .i64 r) := by rw [hX, cell_of_heap (heap_alloc_new _ _)]; rfl
  have hx2 : X.cell? ⟨w.heap.size, 2, none⟩ = some (.int .i64 w0) := by rw [hX, cell_of_heap (heap_alloc_new _ _)]; rfl
  have hx3 : X.cell? ⟨w.heap.size, 3, none⟩ = some (.int .u64 v) := by rw [hX, cell_of_heap (heap_alloc_new _ _)]; rfl
  have hA := h.frm0 hF
  have h5 := hA.c5
  have h0 := hA.c0
  obtain ⟨u0, hu0⟩ : ∃ u, x.g.getD 0 0 = u := ⟨_, rfl⟩
  have hc1 : X.cell? ⟨qc, 1, none⟩ = some (.int .u64 (x.g.getD 0 0)) := hA.cr (r := 0) (by omega)
  rw [hu0] at hc1 ⊢
  clear hu0
  have hpos := hA.pos
  have hle := hA.le
  have hb9 : (k == 9) = false := by simpa using h9
  have hb8 : (k == 8) = false := by simpa using h8
  have htl : ((x.nx : Int) == (x.l.length : Int) - 1) = true := by simp; omega
  have HA := Lib.hid hA
  have HF := Lib.hid hF
  have HL := Lib.hid hl
  clear h hA hF hy hgo hl h9 h8
  go_enter Try.func86, Try.ntmps86
  go_wp2_with fail
  rw [← hX]
  clear hX
  go_wp2_with fail
  go_quiet (fail)
  go_wp2_with fail
  go_quiet (fail)
  go_wp2_with fail
  refine (cend_at (HA.out.drewN _) _).mono ?_
  rintro e w3 ⟨rfl, hF3, hA3⟩
  have HF3 := Lib.hid hF3
  have HA3 := Lib.hid hA3
  clear hF3 hA3
  go_wp2
  go_end0
  exact ⟨rfl, (HF.out.nil.drewN _).trans HF3.out, HA3.out⟩

set_option maxRecDepth 100000 in
theorem cgo_nm (h : CodeAt w qc b c x) (y : Ins) (hy : alw y x.l.length = true) (hn : x.nx < x.l.length) (h9 : y.k ≠ 9) (h8 : y.k ≠ 8) (hl : x.nx + 1 ≠ x.l.length) : Calls Try.prog 86 #[.pointer (some ⟨qc, 0, none⟩), .agg #[.int .i64 y.k, .int .i64 y.r, .int .i64 y.w, .int .u64 y.v]] w (Ret (.tuple #[]) (fun w' => Frm [qc] w w' ∧ CodeAt w' qc b c (x.go y))) := by
  obtain ⟨k, r, w0, v⟩ := y
  dsimp only at h9 h8
  have hgo : x.go ⟨k, r, w0, v⟩ = { x with nx := x.nx + 1 } := by
    unfold Cd.go; dsimp only; rw [if_neg h9, if_neg (fun e => h8 e.1), if_neg hl]
  rw [hgo]
  obtain ⟨X, hX⟩ : ∃ X, X = w.alloc (.cells #[.int .i64 k, .int .i64 r, .int .i64 w0, .int .u64 v] 74) := ⟨_, rfl⟩
  have hF : Frm [] w X := by rw [hX]; exact (Frm.refl _ _).alloc _
  have hx0 : X.cell? ⟨w.heap.size, 0, none⟩ = some (.int .i64 k) := by rw [hX, cell_of_heap (heap_alloc_new _ _)]; rfl
  have hx1 : X.cell? ⟨w.heap.size, 1, none⟩ = some (.int .i64 r) := by rw [hX, cell_of_heap (heap_alloc_new _ _)]; rfl
  have hx2 : X.cell? ⟨w.heap.size, 2, none⟩ = some (.int .i64 w0) := by rw [hX, cell_of_heap (heap_alloc_new _ _)]; rfl
  have hx3 : X.cell? ⟨w.heap.size, 3, none⟩ = some (.int .u64 v) := by rw [hX, cell_of_heap (heap_alloc_new _ _)]; rfl
  have hA := h.frm0 hF
  have h5 := hA.c5
  have h0 := hA.c0
  have hfz := hA.frz 5
  have hAs := hA.setN (n := x.nx + 1) (by omega)
  have HAS := Lib.hid hAs
  clear hAs
  have hpos := hA.pos
  have hle := hA.le
  have hb9 : (k == 9) = false := by simpa using h9
  have hb8 : (k == 8) = false := by simpa using h8
  have htl : ((x.nx : Int) == (x.l.length : Int) - 1) = false := by simp; omega
  have HA := Lib.hid hA
  have HF := Lib.hid hF
  have HL := Lib.hid hl
  clear h hA hF hy hgo hl h9 h8
  go_enter Try.func86, Try.ntmps86
  go_wp2_with fail
  rw [← hX]
  clear hX
  go_wp2_with fail
  go_quiet (fail)
  go_wp2_with fail
  go_quiet (fail)
  go_wp2_with fail
  go_end0
  have hw : Frm [qc] w (X.setCell ⟨qc, 5, none⟩ (.int .i64 ((x.nx + 1 : Nat) : Int))) := HF.out.nil.setCell _ _ (.inl (by simp))
  exact ⟨rfl, hw.drewN _, HAS.out.drewN _⟩

set_option maxRecDepth 100000 in
theorem cgo_8l (h : CodeAt w qc b c x) (y : Ins) (hy : alw y x.l.length = true) (hn : x.nx < x.l.length) (hk : y.k = 8) (he : x.g.getD y.r.toNat 0 ≠ y.v) (hl : x.nx + 1 = x.l.length) : Calls Try.prog 86 #[.pointer (some ⟨qc, 0, none⟩), .agg #[.int .i64 y.k, .int .i64 y.r, .int .i64 y.w, .int .u64 y.v]] w (Ret (.tuple #[]) (fun w' => Frm [qc] w w' ∧ CodeAt w' qc b c (x.go y))) := by
  have hr := alw_r hy (by omega)
  obtain ⟨k, r, w0, v⟩ := y
  dsimp only at hk hr he
  subst hk
  obtain ⟨r, rfl⟩ := Int.eq_ofNat_of_zero_le hr.1
  have hr4 : r < 4 := by omega
  rw [Int.toNat_natCast] at he
  have hgo : x.go ⟨8, r, w0, v⟩ = x.fin (x.g.getD 0 0) := by
    unfold Cd.go; dsimp only; rw [if_neg (by decide), if_neg (fun e => he (by have := e.2; rwa [Int.toNat_natCast] at this)), if_pos hl]
  have hix := ix_reg (q := qc) hr4
  obtain ⟨u, hu⟩ : ∃ u, x.g.getD r 0 = u := ⟨_, rfl⟩
  rw [hu] at he
  have ht : (u == v) = false := by simpa using he
  rw [hgo]
  obtain ⟨X, hX⟩ : ∃ X, X = w.alloc (.cells #[.int .i64 8, .int .i64 r, .int .i64 w0, .int .u64 v] 74) := ⟨_, rfl⟩
  have hF : Frm [] w X := by rw [hX]; exact (Frm.refl _ _).alloc _
  have hx0 : X.cell? ⟨w.heap.size, 0, none⟩ = some (.int .i64 8) := by rw [hX, cell_of_heap (heap_alloc_new _ _)]; rfl
  have hx1 : X.cell? ⟨w.heap.size, 1, none⟩ = some (.int .i64 r) := by rw [hX, cell_of_heap (heap_alloc_new _ _)]; rfl
  have hx2 : X.cell? ⟨w.heap.size, 2, none⟩ = some (.int .i64 w0) := by rw [hX, cell_of_heap (heap_alloc_new _ _)]; rfl
  have hx3 : X.cell? ⟨w.heap.size, 3, none⟩ = some (.int .u64 v) := by rw [hX, cell_of_heap (heap_alloc_new _ _)]; rfl
  have hA := h.frm0 hF
  have hcr := hA.cr hr4
  rw [hu] at hcr
  have h5 := hA.c5
  have h0 := hA.c0
  obtain ⟨u0, hu0⟩ : ∃ u, x.g.getD 0 0 = u := ⟨_, rfl⟩
  have hc1 : X.cell? ⟨qc, 1, none⟩ = some (.int .u64 (x.g.getD 0 0)) := hA.cr (r := 0) (by omega)
  rw [hu0] at hc1 ⊢
  clear hu0
  have hpos := hA.pos
  have hle := hA.le
  have htl : ((x.nx : Int) == (x.l.length : Int) - 1) = true := by simp; omega
  have HA := Lib.hid hA
  have HF := Lib.hid hF
  have HL := Lib.hid hl
  clear h hA hF hy hgo hl he hr hu
  go_enter Try.func86, Try.ntmps86
  go_wp2_with fail
  rw [← hX]
  clear hX
  go_wp2_with fail
  go_quiet (fail)
  go_wp2_with fail
  go_quiet (fail)
  go_wp2_with fail
  refine (cend_at (HA.out.drewN _) _).mono ?_
  rintro e w3 ⟨rfl, hF3, hA3⟩
  have HF3 := Lib.hid hF3
  have HA3 := Lib.hid hA3
  clear hF3 hA3
  go_wp2
  go_end0
  exact ⟨rfl, (HF.out.nil.drewN _).trans HF3.out, HA3.out⟩

set_option maxRecDepth 100000 in
theorem cgo_8m (h : CodeAt w qc b c x) (y : Ins) (hy : alw y x.l.length = true) (hn : x.nx < x.l.length) (hk : y.k = 8) (he : x.g.getD y.r.toNat 0 ≠ y.v) (hl : x.nx + 1 ≠ x.l.length) : Calls Try.prog 86 #[.pointer (some ⟨qc, 0, none⟩), .agg #[.int .i64 y.k, .int .i64 y.r, .int .i64 y.w, .int .u64 y.v]] w (Ret (.tuple #[]) (fun w' => Frm [qc] w w' ∧ CodeAt w' qc b c (x.go y))) := by
  have hr := alw_r hy (by omega)
  obtain ⟨k, r, w0, v⟩ := y
  dsimp only at hk hr he
  subst hk
  obtain ⟨r, rfl⟩ := Int.eq_ofNat_of_zero_le hr.1
  have hr4 : r < 4 := by omega
  rw [Int.toNat_natCast] at he
  have hgo : x.go ⟨8, r, w0, v⟩ = { x with nx := x.nx + 1 } := by
    unfold Cd.go; dsimp only; rw [if_neg (by decide), if_neg (fun e => he (by have := e.2; rwa [Int.toNat_natCast] at this)), if_neg hl]
  have hix := ix_reg (q := qc) hr4
  obtain ⟨u, hu⟩ : ∃ u, x.g.getD r 0 = u := ⟨_, rfl⟩
  rw [hu] at he
  have ht : (u == v) = false := by simpa using he
  rw [hgo]
  obtain ⟨X, hX⟩ : ∃ X, X = w.alloc (.cells #[.int .i64 8, .int .i64 r, .int .i64 w0, .int .u64 v] 74) := ⟨_, rfl⟩
  have hF : Frm [] w X := by rw [hX]; exact (Frm.refl _ _).alloc _
  have hx0 : X.cell? ⟨w.heap.size, 0, none⟩ = some (.int .i64 8) := by rw [hX, cell_of_heap (heap_alloc_new _ _)]; rfl
  have hx1 : X.cell? ⟨w.heap.size, 1, none⟩ = some (.int .i64 r) := by rw [hX, cell_of_heap (heap_alloc_new _ _)]; rfl
  have hx2 : X.cell? ⟨w.heap.size, 2, none⟩ = some (.int .i64 w0) := by rw [hX, cell_of_heap (heap_alloc_new _ _)]; rfl
  have hx3 : X.cell? ⟨w.heap.size, 3, none⟩ = some (.int .u64 v) := by rw [hX, cell_of_heap (heap_alloc_new _ _)]; rfl
  have hA := h.frm0 hF
  have hcr := hA.cr hr4
  rw [hu] at hcr
  have h5 := hA.c5
  have h0 := hA.c0
  have hfz := hA.frz 5
  have hAs := hA.setN (n := x.nx + 1) (by omega)
  have HAS := Lib.hid hAs
  clear hAs
  have hpos := hA.pos
  have hle := hA.le
  have htl : ((x.nx : Int) == (x.l.length : Int) - 1) = false := by simp; omega
  have HA := Lib.hid hA
  have HF := Lib.hid hF
  have HL := Lib.hid hl
  clear h hA hF hy hgo hl he hr hu
  go_enter Try.func86, Try.ntmps86
  go_wp2_with fail
  rw [← hX]
  clear hX
  go_wp2_with fail
  go_quiet (fail)
  go_wp2_with fail
  go_quiet (fail)
  go_wp2_with fail
  go_end0
  have hw : Frm [qc] w (X.setCell ⟨qc, 5, none⟩ (.int .i64 ((x.nx + 1 : Nat) : Int))) := HF.out.nil.setCell _ _ (.inl (by simp))
  exact ⟨rfl, hw.drewN _, HAS.out.drewN _⟩

theorem cgo_at (h : CodeAt w qc b c x) (y : Ins) (hy : alw y x.l.length = true) (hn : x.nx < x.l.length) : Calls Try.prog 86 #[.pointer (some ⟨qc, 0, none⟩), .agg #[.int .i64 y.k, .int .i64 y.r, .int .i64 y.w, .int .u64 y.v]] w (Ret (.tuple #[]) (fun w' => Frm [qc] w w' ∧ CodeAt w' qc b c (x.go y))) := by
  by_cases h9 : y.k = 9
  · exact cgo_9 h y h9 hy
  · by_cases h8 : y.k = 8
    · by_cases he : x.g.getD y.r.toNat 0 = y.v
      · exact cgo_8y h y hy hn h8 he
      · by_cases hl : x.nx + 1 = x.l.length
        · exact cgo_8l h y hy hn h8 he hl
        · exact cgo_8m h y hy hn h8 he hl
    · by_cases hl : x.nx + 1 = x.l.length
      · exact cgo_nl h y hy hn h9 h8 hl
      · exact cgo_nm h y hy hn h9 h8 hl
end
#print axioms cgo_at
end Go.Proofs.Ytieccmmnfnpcoaa
