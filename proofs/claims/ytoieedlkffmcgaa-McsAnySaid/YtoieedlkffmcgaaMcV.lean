/- Package mcs: mayBe, begin, NewAcquire, NewRelease; Done, Result, Copy. -/
import Derived.Test.YtoieedlkffmcgaaMcU
namespace Go.Proofs.Ytoieedlkffmcgaa
open Go.ChangeShapes Go.WideShapes Go.ChangeAt Go.RowKit
set_option linter.unusedVariables false

/-- Where a lock may be. -/
def lockOk (b t : Nat) (L : Int) : Prop := 0 ≤ L ∧ L < 65536 ∧ (L < b ∨ (b : Int) + 6 * t ≤ L)

section
variable {w : World} {q b t : Nat}
theorem mayBe_no (h : Nd w q b t) (L : Int) (hL : ¬ lockOk b t L) : Calls Try.prog 47 #[.pointer (some ⟨q, 0, none⟩), .int .i64 L] w (Ret (.bool false) (fun w' => w = w')) := by
  have t64 := h.t64
  have H := Lib.hid h
  clear h
  unfold lockOk at hL
  by_cases h0 : 0 ≤ L
  · have d0 : decide (0 ≤ L) = true := by simpa using h0
    by_cases h1 : L < 65536
    · have d1 : decide (L < 65536) = true := by simpa using h1
      have d2 : decide (L < (b : Int)) = false := by simp; omega
      have d3 : decide ((b : Int) + (t : Int) * 2 * 3 ≤ L) = false := by simp; omega
      have d4 : IntKind.i64.wrap ((b : Int) + (t : Int) * 2 * 3) = (b : Int) + (t : Int) * 2 * 3 := IntWalk.i64_in _ (by omega)
      clear hL
      go_enter Try.func47, Try.ntmps47
      go_wp2_with fail
      refine (base_nd H.out).mono ?_
      rintro e w' ⟨rfl, rfl⟩
      go_wp2_with fail
      refine (base_nd H.out).mono ?_
      rintro e w' ⟨rfl, rfl⟩
      go_wp2_with fail
      refine (len_nd H.out).mono ?_
      rintro e w' ⟨rfl, rfl⟩
      go_wp2
      go_ret
      exact ⟨rfl, rfl⟩
    · have d1 : decide (L < 65536) = false := by simpa using h1
      clear hL
      go_enter Try.func47, Try.ntmps47
      go_wp2
      go_ret
      exact ⟨rfl, rfl⟩
  · have d0 : decide (0 ≤ L) = false := by simpa using h0
    clear hL
    go_enter Try.func47, Try.ntmps47
    go_wp2
    go_ret
    exact ⟨rfl, rfl⟩
theorem mayBe_yes (h : Nd w q b t) (fit : b + 6 * t ≤ 65536) (L : Int) (hL : lockOk b t L) : Calls Try.prog 47 #[.pointer (some ⟨q, 0, none⟩), .int .i64 L] w (Ret (.bool true) (fun w' => w = w')) := by
  have t64 := h.t64
  have H := Lib.hid h
  clear h
  unfold lockOk at hL
  have d0 : decide (0 ≤ L) = true := by simp; omega
  have d1 : decide (L < 65536) = true := by simp; omega
  by_cases h2 : L < b
  · have d2 : decide (L < (b : Int)) = true := by simpa using h2
    clear hL
    go_enter Try.func47, Try.ntmps47
    go_wp2_with fail
    refine (base_nd H.out).mono ?_
    rintro e w' ⟨rfl, rfl⟩
    go_wp2
    go_ret
    exact ⟨rfl, rfl⟩
  · have d2 : decide (L < (b : Int)) = false := by simpa using h2
    have d3 : decide ((b : Int) + (t : Int) * 2 * 3 ≤ L) = true := by simp; omega
    have d4 : IntKind.i64.wrap ((b : Int) + (t : Int) * 2 * 3) = (b : Int) + (t : Int) * 2 * 3 := IntWalk.i64_in _ (by omega)
    clear hL
    go_enter Try.func47, Try.ntmps47
    go_wp2_with fail
    refine (base_nd H.out).mono ?_
    rintro e w' ⟨rfl, rfl⟩
    go_wp2_with fail
    refine (base_nd H.out).mono ?_
    rintro e w' ⟨rfl, rfl⟩
    go_wp2_with fail
    refine (len_nd H.out).mono ?_
    rintro e w' ⟨rfl, rfl⟩
    go_wp2
    go_ret
    exact ⟨rfl, rfl⟩
end
set_option maxRecDepth 100000 in
theorem cbegin_yes {w : World} {q b t L k : Nat} (h : Nd w q b t) (fit : b + 6 * t ≤ 65536) (hL : lockOk b t L) (hk : k < 2 * t) :
    Calls Try.prog 36 #[.pointer (some ⟨q, 0, none⟩), .int .i64 L, .int .i64 k] w (Ret (.tuple #[.agg #[.int .i64 b, .int .i64 t, .int .i64 L, .int .i64 k, .int .i64 1, .int .u64 0], .int .i64 0]) (fun w' => Frm [] w w')) := by
  have hz : ((t : Int) == 0) = false := by have := h.t1; simp; omega
  have hc : ∀ o, (w.alloc o).cell? ⟨q, 0, none⟩ = some (.int .i64 b) ∧ (w.alloc o).cell? ⟨q, 1, none⟩ = some (.int .i64 t) := fun o => (h.frm ((Frm.refl [] w).alloc o)).at_
  have H : Hid (∀ o, Nd (w.alloc o) q b t) := Lib.hid fun o => h.frm ((Frm.refl [] w).alloc o)
  have HL := Lib.hid hL
  clear h hL
  go_enter Try.func36, Try.ntmps36
  go_wp2_with fail
  refine (threads_nd (H.out _)).mono ?_
  rintro e w' ⟨rfl, rfl⟩
  go_wp2_with fail
  refine (mayBe_yes (H.out _) fit L HL.out).mono ?_
  rintro e w' ⟨rfl, rfl⟩
  go_wp2_with fail
  refine (owner_yes (H.out _) k hk).mono ?_
  rintro e w' ⟨rfl, rfl⟩
  go_wp2
  exact bodyPost_ret (v := .tuple #[.agg #[.int .i64 b, .int .i64 t, .int .i64 L, .int .i64 k, .int .i64 1, .int .u64 0], .int .i64 0]) (by simp [results, Try.results36, go_sem]) rfl ⟨rfl, by (repeat' (first | exact Frm.refl _ _ | apply Frm.alloc | apply Frm.drew | apply Frm.drewN | assumption))⟩
set_option maxRecDepth 100000 in
theorem cbegin_lock {w : World} {q b t : Nat} (h : Nd w q b t) (L k : Int) (hL : ¬ lockOk b t L) :
    Calls Try.prog 36 #[.pointer (some ⟨q, 0, none⟩), .int .i64 L, .int .i64 k] w (Ret (.tuple #[.agg #[.int .i64 0, .int .i64 0, .int .i64 0, .int .i64 0, .int .i64 0, .int .u64 0], .int .i64 2]) (fun w' => Frm [] w w')) := by
  have hz : ((t : Int) == 0) = false := by have := h.t1; simp; omega
  have H : Hid (∀ o, Nd (w.alloc o) q b t) := Lib.hid fun o => h.frm ((Frm.refl [] w).alloc o)
  have HL := Lib.hid hL
  clear h hL
  go_enter Try.func36, Try.ntmps36
  go_wp2_with fail
  refine (threads_nd (H.out _)).mono ?_
  rintro e w' ⟨rfl, rfl⟩
  go_wp2_with fail
  refine (mayBe_no (H.out _) L HL.out).mono ?_
  rintro e w' ⟨rfl, rfl⟩
  go_wp2
  exact bodyPost_ret (v := .tuple #[.agg #[.int .i64 0, .int .i64 0, .int .i64 0, .int .i64 0, .int .i64 0, .int .u64 0], .int .i64 2]) (by simp [results, Try.results36, go_sem]) rfl ⟨rfl, by (repeat' (first | exact Frm.refl _ _ | apply Frm.alloc | apply Frm.drew | apply Frm.drewN | assumption))⟩
set_option maxRecDepth 100000 in
theorem cbegin_node {w : World} {q b t : Nat} (h : Nd w q b t) (fit : b + 6 * t ≤ 65536) (L k : Int) (hL : lockOk b t L) (hk : k < 0 ∨ 2 * (t : Int) ≤ k) :
    Calls Try.prog 36 #[.pointer (some ⟨q, 0, none⟩), .int .i64 L, .int .i64 k] w (Ret (.tuple #[.agg #[.int .i64 0, .int .i64 0, .int .i64 0, .int .i64 0, .int .i64 0, .int .u64 0], .int .i64 2]) (fun w' => Frm [] w w')) := by
  have hz : ((t : Int) == 0) = false := by have := h.t1; simp; omega
  have H : Hid (∀ o, Nd (w.alloc o) q b t) := Lib.hid fun o => h.frm ((Frm.refl [] w).alloc o)
  have HL := Lib.hid hL
  have HK := Lib.hid hk
  clear h hL hk
  go_enter Try.func36, Try.ntmps36
  go_wp2_with fail
  refine (threads_nd (H.out _)).mono ?_
  rintro e w' ⟨rfl, rfl⟩
  go_wp2_with fail
  refine (mayBe_yes (H.out _) fit L HL.out).mono ?_
  rintro e w' ⟨rfl, rfl⟩
  go_wp2_with fail
  refine (owner_no (H.out _) k HK.out).mono ?_
  rintro e w' ⟨rfl, rfl⟩
  go_wp2
  exact bodyPost_ret (v := .tuple #[.agg #[.int .i64 0, .int .i64 0, .int .i64 0, .int .i64 0, .int .i64 0, .int .u64 0], .int .i64 2]) (by simp [results, Try.results36, go_sem]) rfl ⟨rfl, by (repeat' (first | exact Frm.refl _ _ | apply Frm.alloc | apply Frm.drew | apply Frm.drewN | assumption))⟩
set_option maxRecDepth 100000 in
theorem cbegin_z {w : World} {v : Value} (h : Zv w v) (L k : Int) :
    Calls Try.prog 36 #[v, .int .i64 L, .int .i64 k] w (Ret (.tuple #[.agg #[.int .i64 0, .int .i64 0, .int .i64 0, .int .i64 0, .int .i64 0, .int .u64 0], .int .i64 1]) (fun w' => Frm [] w w')) := by
  have H : Hid (∀ o, Zv (w.alloc o) v) := Lib.hid fun o => h.frm ((Frm.refl [] w).alloc o)
  clear h
  go_enter Try.func36, Try.ntmps36
  go_wp2_with fail
  refine (threads_z (H.out _)).mono ?_
  rintro e w' ⟨rfl, rfl⟩
  go_wp2
  exact bodyPost_ret (v := .tuple #[.agg #[.int .i64 0, .int .i64 0, .int .i64 0, .int .i64 0, .int .i64 0, .int .u64 0], .int .i64 1]) (by simp [results, Try.results36, go_sem]) rfl ⟨rfl, by (repeat' (first | exact Frm.refl _ _ | apply Frm.alloc | apply Frm.drew | apply Frm.drewN | assumption))⟩

set_option maxRecDepth 100000 in
theorem aNew_yes {w : World} {q b t L k : Nat} (h : Nd w q b t) (fit : b + 6 * t ≤ 65536) (hL : lockOk b t L) (hk : k < 2 * t) :
    Calls Try.prog 26 #[.pointer (some ⟨q, 0, none⟩), .int .i64 L, .int .i64 k] w (fun e w' => ∃ q', Ret (.tuple #[.pointer (some ⟨q', 0, none⟩), .int .i64 0]) (fun w' => Frm [] w w' ∧ PgC w' q' 68 b t L k 1 0 ∧ w.heap.size ≤ q') e w') := by
  have t1 := h.t1
  have t64 := h.t64
  have HC := Lib.hid (cbegin_yes h fit hL hk)
  clear h hL
  go_enter Try.func26, Try.ntmps26
  go_wp2_with fail
  refine HC.out.mono ?_
  rintro e w1 ⟨rfl, hF1⟩
  have HF := Lib.hid hF1
  clear hF1
  go_wp2
  go_ret2
  refine ⟨_, rfl, ?_, ⟨heap_alloc_at _ (by simp), t1, t64, fit, hk⟩, ?_⟩
  · exact (HF.out.alloc _).alloc _
  · have := HF.out.size; simp; omega
set_option maxRecDepth 100000 in
theorem aNew_bad2 {w : World} {v : Value} {L k : Int} (HC : Hid (Calls Try.prog 36 #[v, .int .i64 L, .int .i64 k] w (Ret (.tuple #[.agg #[.int .i64 0, .int .i64 0, .int .i64 0, .int .i64 0, .int .i64 0, .int .u64 0], .int .i64 2]) (fun w' => Frm [] w w')))) :
    Calls Try.prog 26 #[v, .int .i64 L, .int .i64 k] w (Ret (.tuple #[.pointer none, .int .i64 2]) (fun w' => Frm [] w w')) := by
  go_enter Try.func26, Try.ntmps26
  go_wp2_with fail
  refine HC.out.mono ?_
  rintro e w1 ⟨rfl, hF1⟩
  have HF := Lib.hid hF1
  clear hF1
  go_wp2
  go_ret2
  exact ⟨rfl, by have hh := HF.out; (repeat' (first | exact Frm.refl _ _ | apply Frm.alloc | apply Frm.drew | apply Frm.drewN | assumption))⟩
set_option maxRecDepth 100000 in
theorem aNew_bad1 {w : World} {v : Value} {L k : Int} (HC : Hid (Calls Try.prog 36 #[v, .int .i64 L, .int .i64 k] w (Ret (.tuple #[.agg #[.int .i64 0, .int .i64 0, .int .i64 0, .int .i64 0, .int .i64 0, .int .u64 0], .int .i64 1]) (fun w' => Frm [] w w')))) :
    Calls Try.prog 26 #[v, .int .i64 L, .int .i64 k] w (Ret (.tuple #[.pointer none, .int .i64 1]) (fun w' => Frm [] w w')) := by
  go_enter Try.func26, Try.ntmps26
  go_wp2_with fail
  refine HC.out.mono ?_
  rintro e w1 ⟨rfl, hF1⟩
  have HF := Lib.hid hF1
  clear hF1
  go_wp2
  go_ret2
  exact ⟨rfl, by have hh := HF.out; (repeat' (first | exact Frm.refl _ _ | apply Frm.alloc | apply Frm.drew | apply Frm.drewN | assumption))⟩
theorem aDone_0 {w : World} {q : Nat} {T : TypeId} {b t L k : Nat} {met : Int} (h : PgC w q T b t L k 0 met) : Calls Try.prog 74 #[.pointer (some ⟨q, 0, none⟩)] w (Ret (.bool true) (fun w' => w = w')) := by
  have H := Lib.hid (cdone_0 h)
  clear h
  go_enter Try.func74, Try.ntmps74
  go_wp2_with fail
  refine H.out.mono ?_
  rintro e w' ⟨rfl, rfl⟩
  go_wp2
  go_ret
  exact ⟨rfl, rfl⟩
theorem aDone_1 {w : World} {q : Nat} {T : TypeId} {b t L k : Nat} {st met : Int} (h : PgC w q T b t L k st met) (hst : st ≠ 0) : Calls Try.prog 74 #[.pointer (some ⟨q, 0, none⟩)] w (Ret (.bool false) (fun w' => w = w')) := by
  have H := Lib.hid (cdone_1 h hst)
  clear h
  go_enter Try.func74, Try.ntmps74
  go_wp2_with fail
  refine H.out.mono ?_
  rintro e w' ⟨rfl, rfl⟩
  go_wp2
  go_ret
  exact ⟨rfl, rfl⟩
theorem aResult_0 {w : World} {q : Nat} {T : TypeId} {b t L k : Nat} {met : Int} (h : PgC w q T b t L k 0 met) : Calls Try.prog 75 #[.pointer (some ⟨q, 0, none⟩)] w (Ret (.int .u64 1) (fun w' => w = w')) := by
  have H := Lib.hid (cresult_0 h)
  clear h
  go_enter Try.func75, Try.ntmps75
  go_wp2_with fail
  refine H.out.mono ?_
  rintro e w' ⟨rfl, rfl⟩
  go_wp2
  go_ret
  exact ⟨rfl, rfl⟩
theorem aResult_1 {w : World} {q : Nat} {T : TypeId} {b t L k : Nat} {st met : Int} (h : PgC w q T b t L k st met) (hst : st ≠ 0) : Calls Try.prog 75 #[.pointer (some ⟨q, 0, none⟩)] w (Ret (.int .u64 0) (fun w' => w = w')) := by
  have H := Lib.hid (cresult_1 h hst)
  clear h
  go_enter Try.func75, Try.ntmps75
  go_wp2_with fail
  refine H.out.mono ?_
  rintro e w' ⟨rfl, rfl⟩
  go_wp2
  go_ret
  exact ⟨rfl, rfl⟩
set_option maxRecDepth 100000 in
theorem aCopy_any {w : World} {q b t L k : Nat} {st met : Int} (h : PgC w q 68 b t L k st met) : Calls Try.prog 73 #[.pointer (some ⟨q, 0, none⟩)] w (fun e w' => ∃ q', Ret (.iface 62 (.pointer (some ⟨q', 0, none⟩))) (fun w' => Frm [] w w' ∧ PgC w' q' 68 b t L k st met ∧ w.heap.size ≤ q') e w') := by
  obtain ⟨c0, c1, c2, c3, c4, c5⟩ := h.cells
  have H := Lib.hid h
  clear h
  go_enter Try.func73, Try.ntmps73
  go_wp2_with fail
  refine (cnone_pg H.out).mono ?_
  rintro e w' ⟨rfl, rfl⟩
  go_wp2
  go_ret
  exact ⟨_, rfl, (Frm.refl _ _).alloc _, ⟨heap_alloc_new _ _, H.out.t1, H.out.t64, H.out.fit, H.out.kt⟩, by simp⟩

set_option maxRecDepth 100000 in
theorem rNew_yes {w : World} {q b t L k : Nat} (h : Nd w q b t) (fit : b + 6 * t ≤ 65536) (hL : lockOk b t L) (hk : k < 2 * t) :
    Calls Try.prog 25 #[.pointer (some ⟨q, 0, none⟩), .int .i64 L, .int .i64 k] w (fun e w' => ∃ q', Ret (.tuple #[.pointer (some ⟨q', 0, none⟩), .int .i64 0]) (fun w' => Frm [] w w' ∧ PgC w' q' 69 b t L k 1 0 ∧ w.heap.size ≤ q') e w') := by
  have t1 := h.t1
  have t64 := h.t64
  have HC := Lib.hid (cbegin_yes h fit hL hk)
  clear h hL
  go_enter Try.func25, Try.ntmps25
  go_wp2_with fail
  refine HC.out.mono ?_
  rintro e w1 ⟨rfl, hF1⟩
  have HF := Lib.hid hF1
  clear hF1
  go_wp2
  go_ret2
  refine ⟨_, rfl, ?_, ⟨heap_alloc_at _ (by simp), t1, t64, fit, hk⟩, ?_⟩
  · exact (HF.out.alloc _).alloc _
  · have := HF.out.size; simp; omega
set_option maxRecDepth 100000 in
theorem rNew_bad2 {w : World} {v : Value} {L k : Int} (HC : Hid (Calls Try.prog 36 #[v, .int .i64 L, .int .i64 k] w (Ret (.tuple #[.agg #[.int .i64 0, .int .i64 0, .int .i64 0, .int .i64 0, .int .i64 0, .int .u64 0], .int .i64 2]) (fun w' => Frm [] w w')))) :
    Calls Try.prog 25 #[v, .int .i64 L, .int .i64 k] w (Ret (.tuple #[.pointer none, .int .i64 2]) (fun w' => Frm [] w w')) := by
  go_enter Try.func25, Try.ntmps25
  go_wp2_with fail
  refine HC.out.mono ?_
  rintro e w1 ⟨rfl, hF1⟩
  have HF := Lib.hid hF1
  clear hF1
  go_wp2
  go_ret2
  exact ⟨rfl, by have hh := HF.out; (repeat' (first | exact Frm.refl _ _ | apply Frm.alloc | apply Frm.drew | apply Frm.drewN | assumption))⟩
set_option maxRecDepth 100000 in
theorem rNew_bad1 {w : World} {v : Value} {L k : Int} (HC : Hid (Calls Try.prog 36 #[v, .int .i64 L, .int .i64 k] w (Ret (.tuple #[.agg #[.int .i64 0, .int .i64 0, .int .i64 0, .int .i64 0, .int .i64 0, .int .u64 0], .int .i64 1]) (fun w' => Frm [] w w')))) :
    Calls Try.prog 25 #[v, .int .i64 L, .int .i64 k] w (Ret (.tuple #[.pointer none, .int .i64 1]) (fun w' => Frm [] w w')) := by
  go_enter Try.func25, Try.ntmps25
  go_wp2_with fail
  refine HC.out.mono ?_
  rintro e w1 ⟨rfl, hF1⟩
  have HF := Lib.hid hF1
  clear hF1
  go_wp2
  go_ret2
  exact ⟨rfl, by have hh := HF.out; (repeat' (first | exact Frm.refl _ _ | apply Frm.alloc | apply Frm.drew | apply Frm.drewN | assumption))⟩
theorem rDone_0 {w : World} {q : Nat} {T : TypeId} {b t L k : Nat} {met : Int} (h : PgC w q T b t L k 0 met) : Calls Try.prog 93 #[.pointer (some ⟨q, 0, none⟩)] w (Ret (.bool true) (fun w' => w = w')) := by
  have H := Lib.hid (cdone_0 h)
  clear h
  go_enter Try.func93, Try.ntmps93
  go_wp2_with fail
  refine H.out.mono ?_
  rintro e w' ⟨rfl, rfl⟩
  go_wp2
  go_ret
  exact ⟨rfl, rfl⟩
theorem rDone_1 {w : World} {q : Nat} {T : TypeId} {b t L k : Nat} {st met : Int} (h : PgC w q T b t L k st met) (hst : st ≠ 0) : Calls Try.prog 93 #[.pointer (some ⟨q, 0, none⟩)] w (Ret (.bool false) (fun w' => w = w')) := by
  have H := Lib.hid (cdone_1 h hst)
  clear h
  go_enter Try.func93, Try.ntmps93
  go_wp2_with fail
  refine H.out.mono ?_
  rintro e w' ⟨rfl, rfl⟩
  go_wp2
  go_ret
  exact ⟨rfl, rfl⟩
theorem rResult_0 {w : World} {q : Nat} {T : TypeId} {b t L k : Nat} {met : Int} (h : PgC w q T b t L k 0 met) : Calls Try.prog 94 #[.pointer (some ⟨q, 0, none⟩)] w (Ret (.int .u64 1) (fun w' => w = w')) := by
  have H := Lib.hid (cresult_0 h)
  clear h
  go_enter Try.func94, Try.ntmps94
  go_wp2_with fail
  refine H.out.mono ?_
  rintro e w' ⟨rfl, rfl⟩
  go_wp2
  go_ret
  exact ⟨rfl, rfl⟩
theorem rResult_1 {w : World} {q : Nat} {T : TypeId} {b t L k : Nat} {st met : Int} (h : PgC w q T b t L k st met) (hst : st ≠ 0) : Calls Try.prog 94 #[.pointer (some ⟨q, 0, none⟩)] w (Ret (.int .u64 0) (fun w' => w = w')) := by
  have H := Lib.hid (cresult_1 h hst)
  clear h
  go_enter Try.func94, Try.ntmps94
  go_wp2_with fail
  refine H.out.mono ?_
  rintro e w' ⟨rfl, rfl⟩
  go_wp2
  go_ret
  exact ⟨rfl, rfl⟩
set_option maxRecDepth 100000 in
theorem rCopy_any {w : World} {q b t L k : Nat} {st met : Int} (h : PgC w q 69 b t L k st met) : Calls Try.prog 92 #[.pointer (some ⟨q, 0, none⟩)] w (fun e w' => ∃ q', Ret (.iface 63 (.pointer (some ⟨q', 0, none⟩))) (fun w' => Frm [] w w' ∧ PgC w' q' 69 b t L k st met ∧ w.heap.size ≤ q') e w') := by
  obtain ⟨c0, c1, c2, c3, c4, c5⟩ := h.cells
  have H := Lib.hid h
  clear h
  go_enter Try.func92, Try.ntmps92
  go_wp2_with fail
  refine (cnone_pg H.out).mono ?_
  rintro e w' ⟨rfl, rfl⟩
  go_wp2
  go_ret
  exact ⟨_, rfl, (Frm.refl _ _).alloc _, ⟨heap_alloc_new _ _, H.out.t1, H.out.t64, H.out.fit, H.out.kt⟩, by simp⟩
end Go.Proofs.Ytoieedlkffmcgaa
