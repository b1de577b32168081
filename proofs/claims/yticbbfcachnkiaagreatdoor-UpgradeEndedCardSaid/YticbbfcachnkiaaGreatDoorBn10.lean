/- McV, McW in one text (by mkbundle.py). -/
import Derived.Test.YticbbfcachnkiaaGreatDoorBn9
/- Package mcs: mayBe, begin, NewAcquire, NewRelease; Done, Result, Copy. -/
namespace Go.Proofs.YticbbfcachnkiaaGreatDoor
open Go.ChangeShapes Go.WideShapes Go.ChangeAt Go.RowKit
set_option linter.unusedVariables false

/-- Where a lock may be. -/
def lockOk (b t : Nat) (L : Int) : Prop := 0 ≤ L ∧ L < 65536 ∧ (L < b ∨ (b : Int) + 6 * t ≤ L)

section
variable {w : World} {q b t : Nat}
theorem mayBe_no (h : Nd w q b t) (L : Int) (hL : ¬ lockOk b t L) : Calls Tryz.prog 111 #[.pointer (some ⟨q, 0, none⟩), .int .i64 L] w (Ret (.bool false) (fun w' => w = w')) := by
  have t64 := h.t64
  have H := Lib.hid h
  clear h
  unfold lockOk at hL
  by_cases h0 : 0 ≤ L
  · have d0 : decide (0 ≤ L) = true := by simpa using h0
    by_cases h1 : L < 65536
    · have d1 : decide (L < 65536) = true := by simpa using h1
      have d2 : decide (L < (b : Int)) = false := by simp; omega
      have d3 : decide ((b : Int) + (t : Int) * 2 * 3 ≤ L) = false := by simp; omega
      have d4 : IntKind.i64.wrap ((b : Int) + (t : Int) * 2 * 3) = (b : Int) + (t : Int) * 2 * 3 := IntWalk.i64_in _ (by omega)
      clear hL
      go_enter Tryz.func111, Tryz.ntmps111
      go_wp2_with fail
      refine (base_nd H.out).mono ?_
      rintro e w' ⟨rfl, rfl⟩
      go_wp2_with fail
      refine (base_nd H.out).mono ?_
      rintro e w' ⟨rfl, rfl⟩
      go_wp2_with fail
      refine (len_nd H.out).mono ?_
      rintro e w' ⟨rfl, rfl⟩
      go_wp2
      go_ret
      exact ⟨rfl, rfl⟩
    · have d1 : decide (L < 65536) = false := by simpa using h1
      clear hL
      go_enter Tryz.func111, Tryz.ntmps111
      go_wp2
      go_ret
      exact ⟨rfl, rfl⟩
  · have d0 : decide (0 ≤ L) = false := by simpa using h0
    clear hL
    go_enter Tryz.func111, Tryz.ntmps111
    go_wp2
    go_ret
    exact ⟨rfl, rfl⟩
theorem mayBe_yes (h : Nd w q b t) (fit : b + 6 * t ≤ 65536) (L : Int) (hL : lockOk b t L) : Calls Tryz.prog 111 #[.pointer (some ⟨q, 0, none⟩), .int .i64 L] w (Ret (.bool true) (fun w' => w = w')) := by
  have t64 := h.t64
  have H := Lib.hid h
  clear h
  unfold lockOk at hL
  have d0 : decide (0 ≤ L) = true := by simp; omega
  have d1 : decide (L < 65536) = true := by simp; omega
  by_cases h2 : L < b
  · have d2 : decide (L < (b : Int)) = true := by simpa using h2
    clear hL
    go_enter Tryz.func111, Tryz.ntmps111
    go_wp2_with fail
    refine (base_nd H.out).mono ?_
    rintro e w' ⟨rfl, rfl⟩
    go_wp2
    go_ret
    exact ⟨rfl, rfl⟩
  · have d2 : decide (L < (b : Int)) = false := by simpa using h2
    have d3 : decide ((b : Int) + (t : Int) * 2 * 3 ≤ L) = true := by simp; omega
    have d4 : IntKind.i64.wrap ((b : Int) + (t : Int) * 2 * 3) = (b : Int) + (t : Int) * 2 * 3 := IntWalk.i64_in _ (by omega)
    clear hL
    go_enter Tryz.func111, Tryz.ntmps111
    go_wp2_with fail
    refine (base_nd H.out).mono ?_
    rintro e w' ⟨rfl, rfl⟩
    go_wp2_with fail
    refine (base_nd H.out).mono ?_
    rintro e w' ⟨rfl, rfl⟩
    go_wp2_with fail
    refine (len_nd H.out).mono ?_
    rintro e w' ⟨rfl, rfl⟩
    go_wp2
    go_ret
    exact ⟨rfl, rfl⟩
end
set_option maxRecDepth 100000 in
theorem cbegin_yes {w : World} {q b t L k : Nat} (h : Nd w q b t) (fit : b + 6 * t ≤ 65536) (hL : lockOk b t L) (hk : k < 2 * t) :
    Calls Tryz.prog 93 #[.pointer (some ⟨q, 0, none⟩), .int .i64 L, .int .i64 k] w (Ret (.tuple #[.agg #[.int .i64 b, .int .i64 t, .int .i64 L, .int .i64 k, .int .i64 1, .int .u64 0], .int .i64 0]) (fun w' => Frm [] w w')) := by
  have hz : ((t : Int) == 0) = false := by have := h.t1; simp; omega
  have hc : ∀ o, (w.alloc o).cell? ⟨q, 0, none⟩ = some (.int .i64 b) ∧ (w.alloc o).cell? ⟨q, 1, none⟩ = some (.int .i64 t) := fun o => (h.frm ((Frm.refl [] w).alloc o)).at_
  have H : Hid (∀ o, Nd (w.alloc o) q b t) := Lib.hid fun o => h.frm ((Frm.refl [] w).alloc o)
  have HL := Lib.hid hL
  clear h hL
  go_enter Tryz.func93, Tryz.ntmps93
  go_wp2_with fail
  refine (threads_nd (H.out _)).mono ?_
  rintro e w' ⟨rfl, rfl⟩
  go_wp2_with fail
  refine (mayBe_yes (H.out _) fit L HL.out).mono ?_
  rintro e w' ⟨rfl, rfl⟩
  go_wp2_with fail
  refine (owner_yes (H.out _) k hk).mono ?_
  rintro e w' ⟨rfl, rfl⟩
  go_wp2
  exact bodyPost_ret (v := .tuple #[.agg #[.int .i64 b, .int .i64 t, .int .i64 L, .int .i64 k, .int .i64 1, .int .u64 0], .int .i64 0]) (by simp [results, Tryz.results93, go_sem]) rfl ⟨rfl, by (repeat' (first | exact Frm.refl _ _ | apply Frm.alloc | apply Frm.drew | apply Frm.drewN | assumption))⟩
set_option maxRecDepth 100000 in
theorem cbegin_lock {w : World} {q b t : Nat} (h : Nd w q b t) (L k : Int) (hL : ¬ lockOk b t L) :
    Calls Tryz.prog 93 #[.pointer (some ⟨q, 0, none⟩), .int .i64 L, .int .i64 k] w (Ret (.tuple #[.agg #[.int .i64 0, .int .i64 0, .int .i64 0, .int .i64 0, .int .i64 0, .int .u64 0], .int .i64 2]) (fun w' => Frm [] w w')) := by
  have hz : ((t : Int) == 0) = false := by have := h.t1; simp; omega
  have H : Hid (∀ o, Nd (w.alloc o) q b t) := Lib.hid fun o => h.frm ((Frm.refl [] w).alloc o)
  have HL := Lib.hid hL
  clear h hL
  go_enter Tryz.func93, Tryz.ntmps93
  go_wp2_with fail
  refine (threads_nd (H.out _)).mono ?_
  rintro e w' ⟨rfl, rfl⟩
  go_wp2_with fail
  refine (mayBe_no (H.out _) L HL.out).mono ?_
  rintro e w' ⟨rfl, rfl⟩
  go_wp2
  exact bodyPost_ret (v := .tuple #[.agg #[.int .i64 0, .int .i64 0, .int .i64 0, .int .i64 0, .int .i64 0, .int .u64 0], .int .i64 2]) (by simp [results, Tryz.results93, go_sem]) rfl ⟨rfl, by (repeat' (first | exact Frm.refl _ _ | apply Frm.alloc | apply Frm.drew | apply Frm.drewN | assumption))⟩
set_option maxRecDepth 100000 in
theorem cbegin_node {w : World} {q b t : Nat} (h : Nd w q b t) (fit : b + 6 * t ≤ 65536) (L k : Int) (hL : lockOk b t L) (hk : k < 0 ∨ 2 * (t : Int) ≤ k) :
    Calls Tryz.prog 93 #[.pointer (some ⟨q, 0, none⟩), .int .i64 L, .int .i64 k] w (Ret (.tuple #[.agg #[.int .i64 0, .int .i64 0, .int .i64 0, .int .i64 0, .int .i64 0, .int .u64 0], .int .i64 2]) (fun w' => Frm [] w w')) := by
  have hz : ((t : Int) == 0) = false := by have := h.t1; simp; omega
  have H : Hid (∀ o, Nd (w.alloc o) q b t) := Lib.hid fun o => h.frm ((Frm.refl [] w).alloc o)
  have HL := Lib.hid hL
  have HK := Lib.hid hk
  clear h hL hk
  go_enter Tryz.func93, Tryz.ntmps93
  go_wp2_with fail
  refine (threads_nd (H.out _)).mono ?_
  rintro e w' ⟨rfl, rfl⟩
  go_wp2_with fail
  refine (mayBe_yes (H.out _) fit L HL.out).mono ?_
  rintro e w' ⟨rfl, rfl⟩
  go_wp2_with fail
  refine (owner_no (H.out _) k HK.out).mono ?_
  rintro e w' ⟨rfl, rfl⟩
  go_wp2
  exact bodyPost_ret (v := .tuple #[.agg #[.int .i64 0, .int .i64 0, .int .i64 0, .int .i64 0, .int .i64 0, .int .u64 0], .int .i64 2]) (by simp [results, Tryz.results93, go_sem]) rfl ⟨rfl, by (repeat' (first | exact Frm.refl _ _ | apply Frm.alloc | apply Frm.drew | apply Frm.drewN | assumption))⟩
set_option maxRecDepth 100000 in
theorem cbegin_z {w : World} {v : Value} (h : Zv w v) (L k : Int) :
    Calls Tryz.prog 93 #[v, .int .i64 L, .int .i64 k] w (Ret (.tuple #[.agg #[.int .i64 0, .int .i64 0, .int .i64 0, .int .i64 0, .int .i64 0, .int .u64 0], .int .i64 1]) (fun w' => Frm [] w w')) := by
  have H : Hid (∀ o, Zv (w.alloc o) v) := Lib.hid fun o => h.frm ((Frm.refl [] w).alloc o)
  clear h
  go_enter Tryz.func93, Tryz.ntmps93
  go_wp2_with fail
  refine (threads_z (H.out _)).mono ?_
  rintro e w' ⟨rfl, rfl⟩
  go_wp2
  exact bodyPost_ret (v := .tuple #[.agg #[.int .i64 0, .int .i64 0, .int .i64 0, .int .i64 0, .int .i64 0, .int .u64 0], .int .i64 1]) (by simp [results, Tryz.results93, go_sem]) rfl ⟨rfl, by (repeat' (first | exact Frm.refl _ _ | apply Frm.alloc | apply Frm.drew | apply Frm.drewN | assumption))⟩

set_option maxRecDepth 100000 in
theorem aNew_yes {w : World} {q b t L k : Nat} (h : Nd w q b t) (fit : b + 6 * t ≤ 65536) (hL : lockOk b t L) (hk : k < 2 * t) :
    Calls Tryz.prog 70 #[.pointer (some ⟨q, 0, none⟩), .int .i64 L, .int .i64 k] w (fun e w' => ∃ q', Ret (.tuple #[.pointer (some ⟨q', 0, none⟩), .int .i64 0]) (fun w' => Frm [] w w' ∧ PgC w' q' 186 b t L k 1 0 ∧ w.heap.size ≤ q') e w') := by
  have t1 := h.t1
  have t64 := h.t64
  have HC := Lib.hid (cbegin_yes h fit hL hk)
  clear h hL
  go_enter Tryz.func70, Tryz.ntmps70
  go_wp2_with fail
  refine HC.out.mono ?_
  rintro e w1 ⟨rfl, hF1⟩
  have HF := Lib.hid hF1
  clear hF1
  go_wp2
  go_ret2
  refine ⟨_, rfl, ?_, ⟨heap_alloc_at _ (by simp), t1, t64, fit, hk⟩, ?_⟩
  · exact (HF.out.alloc _).alloc _
  · have := HF.out.size; simp; omega
set_option maxRecDepth 100000 in
theorem aNew_bad2 {w : World} {v : Value} {L k : Int} (HC : Hid (Calls Tryz.prog 93 #[v, .int .i64 L, .int .i64 k] w (Ret (.tuple #[.agg #[.int .i64 0, .int .i64 0, .int .i64 0, .int .i64 0, .int .i64 0, .int .u64 0], .int .i64 2]) (fun w' => Frm [] w w')))) :
    Calls Tryz.prog 70 #[v, .int .i64 L, .int .i64 k] w (Ret (.tuple #[.pointer none, .int .i64 2]) (fun w' => Frm [] w w')) := by
  go_enter Tryz.func70, Tryz.ntmps70
  go_wp2_with fail
  refine HC.out.mono ?_
  rintro e w1 ⟨rfl, hF1⟩
  have HF := Lib.hid hF1
  clear hF1
  go_wp2
  go_ret2
  exact ⟨rfl, by have hh := HF.out; (repeat' (first | exact Frm.refl _ _ | apply Frm.alloc | apply Frm.drew | apply Frm.drewN | assumption))⟩
set_option maxRecDepth 100000 in
theorem aNew_bad1 {w : World} {v : Value} {L k : Int} (HC : Hid (Calls Tryz.prog 93 #[v, .int .i64 L, .int .i64 k] w (Ret (.tuple #[.agg #[.int .i64 0, .int .i64 0, .int .i64 0, .int .i64 0, .int .i64 0, .int .u64 0], .int .i64 1]) (fun w' => Frm [] w w')))) :
    Calls Tryz.prog 70 #[v, .int .i64 L, .int .i64 k] w (Ret (.tuple #[.pointer none, .int .i64 1]) (fun w' => Frm [] w w')) := by
  go_enter Tryz.func70, Tryz.ntmps70
  go_wp2_with fail
  refine HC.out.mono ?_
  rintro e w1 ⟨rfl, hF1⟩
  have HF := Lib.hid hF1
  clear hF1
  go_wp2
  go_ret2
  exact ⟨rfl, by have hh := HF.out; (repeat' (first | exact Frm.refl _ _ | apply Frm.alloc | apply Frm.drew | apply Frm.drewN | assumption))⟩
theorem aDone_0 {w : World} {q : Nat} {T : TypeId} {b t L k : Nat} {met : Int} (h : PgC w q T b t L k 0 met) : Calls Tryz.prog 190 #[.pointer (some ⟨q, 0, none⟩)] w (Ret (.bool true) (fun w' => w = w')) := by
  have H := Lib.hid (cdone_0 h)
  clear h
  go_enter Tryz.func190, Tryz.ntmps190
  go_wp2_with fail
  refine H.out.mono ?_
  rintro e w' ⟨rfl, rfl⟩
  go_wp2
  go_ret
  exact ⟨rfl, rfl⟩
theorem aDone_1 {w : World} {q : Nat} {T : TypeId} {b t L k : Nat} {st met : Int} (h : PgC w q T b t L k st met) (hst : st ≠ 0) : Calls Tryz.prog 190 #[.pointer (some ⟨q, 0, none⟩)] w (Ret (.bool false) (fun w' => w = w')) := by
  have H := Lib.hid (cdone_1 h hst)
  clear h
  go_enter Tryz.func190, Tryz.ntmps190
  go_wp2_with fail
  refine H.out.mono ?_
  rintro e w' ⟨rfl, rfl⟩
  go_wp2
  go_ret
  exact ⟨rfl, rfl⟩
theorem aResult_0 {w : World} {q : Nat} {T : TypeId} {b t L k : Nat} {met : Int} (h : PgC w q T b t L k 0 met) : Calls Tryz.prog 191 #[.pointer (some ⟨q, 0, none⟩)] w (Ret (.int .u64 1) (fun w' => w = w')) := by
  have H := Lib.hid (cresult_0 h)
  clear h
  go_enter Tryz.func191, Tryz.ntmps191
  go_wp2_with fail
  refine H.out.mono ?_
  rintro e w' ⟨rfl, rfl⟩
  go_wp2
  go_ret
  exact ⟨rfl, rfl⟩
theorem aResult_1 {w : World} {q : Nat} {T : TypeId} {b t L k : Nat} {st met : Int} (h : PgC w q T b t L k st met) (hst : st ≠ 0) : Calls Tryz.prog 191 #[.pointer (some ⟨q, 0, none⟩)] w (Ret (.int .u64 0) (fun w' => w = w')) := by
  have H := Lib.hid (cresult_1 h hst)
  clear h
  go_enter Tryz.func191, Tryz.ntmps191
  go_wp2_with fail
  refine H.out.mono ?_
  rintro e w' ⟨rfl, rfl⟩
  go_wp2
  go_ret
  exact ⟨rfl, rfl⟩
set_option maxRecDepth 100000 in
theorem aCopy_any {w : World} {q b t L k : Nat} {st met : Int} (h : PgC w q 186 b t L k st met) : Calls Tryz.prog 189 #[.pointer (some ⟨q, 0, none⟩)] w (fun e w' => ∃ q', Ret (.iface 153 (.pointer (some ⟨q', 0, none⟩))) (fun w' => Frm [] w w' ∧ PgC w' q' 186 b t L k st met ∧ w.heap.size ≤ q') e w') := by
  obtain ⟨c0, c1, c2, c3, c4, c5⟩ := h.cells
  have H := Lib.hid h
  clear h
  go_enter Tryz.func189, Tryz.ntmps189
  go_wp2_with fail
  refine (cnone_pg H.out).mono ?_
  rintro e w' ⟨rfl, rfl⟩
  go_wp2
  go_ret
  exact ⟨_, rfl, (Frm.refl _ _).alloc _, ⟨heap_alloc_new _ _, H.out.t1, H.out.t64, H.out.fit, H.out.kt⟩, by simp⟩

set_option maxRecDepth 100000 in
theorem rNew_yes {w : World} {q b t L k : Nat} (h : Nd w q b t) (fit : b + 6 * t ≤ 65536) (hL : lockOk b t L) (hk : k < 2 * t) :
    Calls Tryz.prog 71 #[.pointer (some ⟨q, 0, none⟩), .int .i64 L, .int .i64 k] w (fun e w' => ∃ q', Ret (.tuple #[.pointer (some ⟨q', 0, none⟩), .int .i64 0]) (fun w' => Frm [] w w' ∧ PgC w' q' 187 b t L k 1 0 ∧ w.heap.size ≤ q') e w') := by
  have t1 := h.t1
  have t64 := h.t64
  have HC := Lib.hid (cbegin_yes h fit hL hk)
  clear h hL
  go_enter Tryz.func71, Tryz.ntmps71
  go_wp2_with fail
  refine HC.out.mono ?_
  rintro e w1 ⟨rfl, hF1⟩
  have HF := Lib.hid hF1
  clear hF1
  go_wp2
  go_ret2
  refine ⟨_, rfl, ?_, ⟨heap_alloc_at _ (by simp), t1, t64, fit, hk⟩, ?_⟩
  · exact (HF.out.alloc _).alloc _
  · have := HF.out.size; simp; omega
set_option maxRecDepth 100000 in
theorem rNew_bad2 {w : World} {v : Value} {L k : Int} (HC : Hid (Calls Tryz.prog 93 #[v, .int .i64 L, .int .i64 k] w (Ret (.tuple #[.agg #[.int .i64 0, .int .i64 0, .int .i64 0, .int .i64 0, .int .i64 0, .int .u64 0], .int .i64 2]) (fun w' => Frm [] w w')))) :
    Calls Tryz.prog 71 #[v, .int .i64 L, .int .i64 k] w (Ret (.tuple #[.pointer none, .int .i64 2]) (fun w' => Frm [] w w')) := by
  go_enter Tryz.func71, Tryz.ntmps71
  go_wp2_with fail
  refine HC.out.mono ?_
  rintro e w1 ⟨rfl, hF1⟩
  have HF := Lib.hid hF1
  clear hF1
  go_wp2
  go_ret2
  exact ⟨rfl, by have hh := HF.out; (repeat' (first | exact Frm.refl _ _ | apply Frm.alloc | apply Frm.drew | apply Frm.drewN | assumption))⟩
set_option maxRecDepth 100000 in
theorem rNew_bad1 {w : World} {v : Value} {L k : Int} (HC : Hid (Calls Tryz.prog 93 #[v, .int .i64 L, .int .i64 k] w (Ret (.tuple #[.agg #[.int .i64 0, .int .i64 0, .int .i64 0, .int .i64 0, .int .i64 0, .int .u64 0], .int .i64 1]) (fun w' => Frm [] w w')))) :
    Calls Tryz.prog 71 #[v, .int .i64 L, .int .i64 k] w (Ret (.tuple #[.pointer none, .int .i64 1]) (fun w' => Frm [] w w')) := by
  go_enter Tryz.func71, Tryz.ntmps71
  go_wp2_with fail
  refine HC.out.mono ?_
  rintro e w1 ⟨rfl, hF1⟩
  have HF := Lib.hid hF1
  clear hF1
  go_wp2
  go_ret2
  exact ⟨rfl, by have hh := HF.out; (repeat' (first | exact Frm.refl _ _ | apply Frm.alloc | apply Frm.drew | apply Frm.drewN | assumption))⟩
theorem rDone_0 {w : World} {q : Nat} {T : TypeId} {b t L k : Nat} {met : Int} (h : PgC w q T b t L k 0 met) : Calls Tryz.prog 207 #[.pointer (some ⟨q, 0, none⟩)] w (Ret (.bool true) (fun w' => w = w')) := by
  have H := Lib.hid (cdone_0 h)
  clear h
  go_enter Tryz.func207, Tryz.ntmps207
  go_wp2_with fail
  refine H.out.mono ?_
  rintro e w' ⟨rfl, rfl⟩
  go_wp2
  go_ret
  exact ⟨rfl, rfl⟩
theorem rDone_1 {w : World} {q : Nat} {T : TypeId} {b t L k : Nat} {st met : Int} (h : PgC w q T b t L k st met) (hst : st ≠ 0) : Calls Tryz.prog 207 #[.pointer (some ⟨q, 0, none⟩)] w (Ret (.bool false) (fun w' => w = w')) := by
  have H := Lib.hid (cdone_1 h hst)
  clear h
  go_enter Tryz.func207, Tryz.ntmps207
  go_wp2_with fail
  refine H.out.mono ?_
  rintro e w' ⟨rfl, rfl⟩
  go_wp2
  go_ret
  exact ⟨rfl, rfl⟩
theorem rResult_0 {w : World} {q : Nat} {T : TypeId} {b t L k : Nat} {met : Int} (h : PgC w q T b t L k 0 met) : Calls Tryz.prog 208 #[.pointer (some ⟨q, 0, none⟩)] w (Ret (.int .u64 1) (fun w' => w = w')) := by
  have H := Lib.hid (cresult_0 h)
  clear h
  go_enter Tryz.func208, Tryz.ntmps208
  go_wp2_with fail
  refine H.out.mono ?_
  rintro e w' ⟨rfl, rfl⟩
  go_wp2
  go_ret
  exact ⟨rfl, rfl⟩
theorem rResult_1 {w : World} {q : Nat} {T : TypeId} {b t L k : Nat} {st met : Int} (h : PgC w q T b t L k st met) (hst : st ≠ 0) : Calls Tryz.prog 208 #[.pointer (some ⟨q, 0, none⟩)] w (Ret (.int .u64 0) (fun w' => w = w')) := by
  have H := Lib.hid (cresult_1 h hst)
  clear h
  go_enter Tryz.func208, Tryz.ntmps208
  go_wp2_with fail
  refine H.out.mono ?_
  rintro e w' ⟨rfl, rfl⟩
  go_wp2
  go_ret
  exact ⟨rfl, rfl⟩
set_option maxRecDepth 100000 in
theorem rCopy_any {w : World} {q b t L k : Nat} {st met : Int} (h : PgC w q 187 b t L k st met) : Calls Tryz.prog 206 #[.pointer (some ⟨q, 0, none⟩)] w (fun e w' => ∃ q', Ret (.iface 156 (.pointer (some ⟨q', 0, none⟩))) (fun w' => Frm [] w w' ∧ PgC w' q' 187 b t L k st met ∧ w.heap.size ≤ q') e w') := by
  obtain ⟨c0, c1, c2, c3, c4, c5⟩ := h.cells
  have H := Lib.hid h
  clear h
  go_enter Tryz.func206, Tryz.ntmps206
  go_wp2_with fail
  refine (cnone_pg H.out).mono ?_
  rintro e w' ⟨rfl, rfl⟩
  go_wp2
  go_ret
  exact ⟨_, rfl, (Frm.refl _ _).alloc _, ⟨heap_alloc_new _ _, H.out.t1, H.out.t64, H.out.fit, H.out.kt⟩, by simp⟩
end Go.Proofs.YticbbfcachnkiaaGreatDoor

/- Both programs by one name: what a step comes to, and the step; Done, Result, Copy, begin. -/
namespace Go.Proofs.YticbbfcachnkiaaGreatDoor
open Go.ChangeShapes Go.WideShapes Go.ChangeAt Go.RowKit
set_option linter.unusedVariables false

/-- What a step of a program of which the next step is s, and which has met o, comes to: whether it has ended, the next step, what it has met, the words, whether it waits, and the error. -/
inductive Stp (b t L k : Nat) (ws : List Int) : Bool → Int → Int → Bool → Int → Int → List Int → Bool → Int → Prop
  | a1 (o : Int) (h : nxW b k < ws.length) : Stp b t L k ws false 1 o false 2 o (ws.set (nxW b k) 0) false 0
  | a1x (o : Int) (h : ws.length ≤ nxW b k) : Stp b t L k ws false 1 o false 1 o ws false 3
  | a2 (o : Int) (h : wtW b k < ws.length) : Stp b t L k ws false 2 o false 3 o (ws.set (wtW b k) 1) false 0
  | a2x (o : Int) (h : ws.length ≤ wtW b k) : Stp b t L k ws false 2 o false 2 o ws false 3
  | a3f (o : Int) (h : ws[L]? = some 0) : Stp b t L k ws false 3 o true 4 0 (ws.set L (k + 1)) false 0
  | a3l (o u : Int) (hu : u ≠ 0) (h : ws[L]? = some u) : Stp b t L k ws false 3 o false 4 u (ws.set L (k + 1)) false 0
  | a3x (o : Int) (h : ws.length ≤ L) : Stp b t L k ws false 3 o false 3 o ws false 3
  | a4b (o : Int) (h : 2 * (t : Int) < o) : Stp b t L k ws false 4 o false 4 o ws false 12
  | a4 (x : Nat) (h1 : 1 ≤ x) (h2 : x ≤ 2 * t) (h : nxW b (x - 1) < ws.length) : Stp b t L k ws false 4 x false 5 x (ws.set (nxW b (x - 1)) (k + 1)) false 0
  | a4x (x : Nat) (h1 : 1 ≤ x) (h2 : x ≤ 2 * t) (h : ws.length ≤ nxW b (x - 1)) : Stp b t L k ws false 4 x false 4 x ws false 3
  | a5w (o u : Int) (hu : u ≠ 0) (h : ws[wtW b k]? = some u) : Stp b t L k ws false 5 o false 5 o ws true 0
  | a5g (o : Int) (h : ws[wtW b k]? = some 0) : Stp b t L k ws false 5 o true 5 o ws false 0
  | a5x (o : Int) (h : ws.length ≤ wtW b k) : Stp b t L k ws false 5 o false 5 o ws false 3
  | r1n (o : Int) (h : ws[nxW b k]? = some 0) : Stp b t L k ws true 1 o false 2 o ws false 0
  | r1s (o u : Int) (hu : u ≠ 0) (h : ws[nxW b k]? = some u) : Stp b t L k ws true 1 o false 4 u ws false 0
  | r1x (o : Int) (h : ws.length ≤ nxW b k) : Stp b t L k ws true 1 o false 1 o ws false 3
  | r2y (o : Int) (h : ws[L]? = some ((k : Int) + 1)) : Stp b t L k ws true 2 o true 3 o (ws.set L 0) false 0
  | r2n (o u : Int) (hu : u ≠ (k : Int) + 1) (h : ws[L]? = some u) : Stp b t L k ws true 2 o false 3 o ws false 0
  | r2x (o : Int) (h : ws.length ≤ L) : Stp b t L k ws true 2 o false 2 o ws false 3
  | r3w (o : Int) (h : ws[nxW b k]? = some 0) : Stp b t L k ws true 3 o false 3 o ws true 0
  | r3s (o u : Int) (hu : u ≠ 0) (h : ws[nxW b k]? = some u) : Stp b t L k ws true 3 o false 4 u ws false 0
  | r3x (o : Int) (h : ws.length ≤ nxW b k) : Stp b t L k ws true 3 o false 3 o ws false 3
  | r4b (o : Int) (h : 2 * (t : Int) < o) : Stp b t L k ws true 4 o false 4 o ws false 12
  | r4 (x : Nat) (h1 : 1 ≤ x) (h2 : x ≤ 2 * t) (h : wtW b (x - 1) < ws.length) : Stp b t L k ws true 4 x true 4 x (ws.set (wtW b (x - 1)) 0) false 0
  | r4x (x : Nat) (h1 : 1 ≤ x) (h2 : x ≤ 2 * t) (h : ws.length ≤ wtW b (x - 1)) : Stp b t L k ws true 4 x false 4 x ws false 3

/-- The steps that there are, and what a program has met. -/
structure Ok (back : Bool) (s o : Int) : Prop where
  lo : 1 ≤ s
  hi : s ≤ 5
  back4 : back = true → s ≤ 4
  met : s = 4 → 1 ≤ o
/-- Every program that there is makes a step. -/
theorem Ok.stp {back : Bool} {s o : Int} (h : Ok back s o) (b t L k : Nat) (ws : List Int) (hw : ∀ x ∈ ws, 0 ≤ x) :
    ∃ e' s' o' ws' wait no, Stp b t L k ws back s o e' s' o' ws' wait no ∧ (e' = false → Ok back s' o') ∧ (∀ x ∈ ws', 0 ≤ x) ∧ ws'.length = ws.length := by
  obtain ⟨lo, hi, b4, hm⟩ := h
  have hset : ∀ (i : Nat) (v : Int), 0 ≤ v → ∀ x ∈ ws.set i v, 0 ≤ x := fun i v hv x hx => by
    rcases List.mem_or_eq_of_mem_set hx with h | h
    · exact hw x h
    · omega
  have hget : ∀ i, i < ws.length → ∃ u, ws[i]? = some u ∧ 0 ≤ u := fun i hi => ⟨ws[i], List.getElem?_eq_getElem hi, hw _ (List.getElem_mem hi)⟩
  cases back with
  | false =>
    have hs : s = 1 ∨ s = 2 ∨ s = 3 ∨ s = 4 ∨ s = 5 := by omega
    rcases hs with rfl | rfl | rfl | rfl | rfl
    · rcases Nat.lt_or_ge (nxW b k) ws.length with h | h
      · exact ⟨_, _, _, _, _, _, .a1 o h, fun _ => ⟨by decide, by decide, by decide, by omega⟩, hset _ _ (by decide), by simp⟩
      · exact ⟨_, _, _, _, _, _, .a1x o h, fun _ => ⟨by decide, by decide, by decide, by omega⟩, hw, rfl⟩
    · rcases Nat.lt_or_ge (wtW b k) ws.length with h | h
      · exact ⟨_, _, _, _, _, _, .a2 o h, fun _ => ⟨by decide, by decide, by decide, by omega⟩, hset _ _ (by decide), by simp⟩
      · exact ⟨_, _, _, _, _, _, .a2x o h, fun _ => ⟨by decide, by decide, by decide, by omega⟩, hw, rfl⟩
    · rcases Nat.lt_or_ge L ws.length with h | h
      · obtain ⟨u, hu, hu0⟩ := hget _ h
        by_cases h0 : u = 0
        · subst h0; exact ⟨_, _, _, _, _, _, .a3f o hu, (fun h => by cases h), hset _ _ (by omega), by simp⟩
        · exact ⟨_, _, _, _, _, _, .a3l o u h0 hu, fun _ => ⟨by decide, by decide, by decide, by omega⟩, hset _ _ (by omega), by simp⟩
      · exact ⟨_, _, _, _, _, _, .a3x o h, fun _ => ⟨by decide, by decide, by decide, by omega⟩, hw, rfl⟩
    · have h1 := hm rfl
      by_cases h2 : 2 * (t : Int) < o
      · exact ⟨_, _, _, _, _, _, .a4b o h2, fun _ => ⟨by decide, by decide, by decide, by omega⟩, hw, rfl⟩
      · obtain ⟨x, rfl⟩ := Int.eq_ofNat_of_zero_le (show 0 ≤ o by omega)
        rcases Nat.lt_or_ge (nxW b (x - 1)) ws.length with h | h
        · exact ⟨_, _, _, _, _, _, .a4 x (by omega) (by omega) h, fun _ => ⟨by decide, by decide, by decide, by omega⟩, hset _ _ (by omega), by simp⟩
        · exact ⟨_, _, _, _, _, _, .a4x x (by omega) (by omega) h, fun _ => ⟨by decide, by decide, by decide, by omega⟩, hw, rfl⟩
    · rcases Nat.lt_or_ge (wtW b k) ws.length with h | h
      · obtain ⟨u, hu, hu0⟩ := hget _ h
        by_cases h0 : u = 0
        · subst h0; exact ⟨_, _, _, _, _, _, .a5g o hu, (fun h => by cases h), hw, rfl⟩
        · exact ⟨_, _, _, _, _, _, .a5w o u h0 hu, fun _ => ⟨by decide, by decide, by decide, by omega⟩, hw, rfl⟩
      · exact ⟨_, _, _, _, _, _, .a5x o h, fun _ => ⟨by decide, by decide, by decide, by omega⟩, hw, rfl⟩
  | true =>
    have hs : s = 1 ∨ s = 2 ∨ s = 3 ∨ s = 4 := by have := b4 rfl; omega
    rcases hs with rfl | rfl | rfl | rfl
    · rcases Nat.lt_or_ge (nxW b k) ws.length with h | h
      · obtain ⟨u, hu, hu0⟩ := hget _ h
        by_cases h0 : u = 0
        · subst h0; exact ⟨_, _, _, _, _, _, .r1n o hu, fun _ => ⟨by decide, by decide, by decide, by omega⟩, hw, rfl⟩
        · exact ⟨_, _, _, _, _, _, .r1s o u h0 hu, fun _ => ⟨by decide, by decide, by decide, by omega⟩, hw, rfl⟩
      · exact ⟨_, _, _, _, _, _, .r1x o h, fun _ => ⟨by decide, by decide, by decide, by omega⟩, hw, rfl⟩
    · rcases Nat.lt_or_ge L ws.length with h | h
      · obtain ⟨u, hu, hu0⟩ := hget _ h
        by_cases h0 : u = (k : Int) + 1
        · subst h0; exact ⟨_, _, _, _, _, _, .r2y o hu, (fun h => by cases h), hset _ _ (by decide), by simp⟩
        · exact ⟨_, _, _, _, _, _, .r2n o u h0 hu, fun _ => ⟨by decide, by decide, by decide, by omega⟩, hw, rfl⟩
      · exact ⟨_, _, _, _, _, _, .r2x o h, fun _ => ⟨by decide, by decide, by decide, by omega⟩, hw, rfl⟩
    · rcases Nat.lt_or_ge (nxW b k) ws.length with h | h
      · obtain ⟨u, hu, hu0⟩ := hget _ h
        by_cases h0 : u = 0
        · subst h0; exact ⟨_, _, _, _, _, _, .r3w o hu, fun _ => ⟨by decide, by decide, by decide, by omega⟩, hw, rfl⟩
        · exact ⟨_, _, _, _, _, _, .r3s o u h0 hu, fun _ => ⟨by decide, by decide, by decide, by omega⟩, hw, rfl⟩
      · exact ⟨_, _, _, _, _, _, .r3x o h, fun _ => ⟨by decide, by decide, by decide, by omega⟩, hw, rfl⟩
    · have h1 := hm rfl
      by_cases h2 : 2 * (t : Int) < o
      · exact ⟨_, _, _, _, _, _, .r4b o h2, fun _ => ⟨by decide, by decide, by decide, by omega⟩, hw, rfl⟩
      · obtain ⟨x, rfl⟩ := Int.eq_ofNat_of_zero_le (show 0 ≤ o by omega)
        rcases Nat.lt_or_ge (wtW b (x - 1)) ws.length with h | h
        · exact ⟨_, _, _, _, _, _, .r4 x (by omega) (by omega) h, (fun h => by cases h), hset _ _ (by decide), by simp⟩
        · exact ⟨_, _, _, _, _, _, .r4x x (by omega) (by omega) h, fun _ => ⟨by decide, by decide, by decide, by omega⟩, hw, rfl⟩

/-- The types of a program, and of its address; its methods. -/
def Tp (back : Bool) : TypeId := if back then 187 else 186
def Ip (back : Bool) : TypeId := if back then 156 else 153
def fStep (back : Bool) : FuncId := if back then 209 else 192
def fDone (back : Bool) : FuncId := if back then 207 else 190
def fResult (back : Bool) : FuncId := if back then 208 else 191
def fCopy (back : Bool) : FuncId := if back then 206 else 189
theorem m_Step (back : Bool) (q : Nat) (w : World) : (method 358 (Ip back) (.pointer (some ⟨q, 0, none⟩)) "Step").run Tryz.prog w = .ok (fStep back, .pointer (some ⟨q, 0, none⟩)) w := by cases back <;> kernel_rfl
theorem m_Done (back : Bool) (q : Nat) (w : World) : (method 358 (Ip back) (.pointer (some ⟨q, 0, none⟩)) "Done").run Tryz.prog w = .ok (fDone back, .pointer (some ⟨q, 0, none⟩)) w := by cases back <;> kernel_rfl
theorem m_Result (back : Bool) (q : Nat) (w : World) : (method 358 (Ip back) (.pointer (some ⟨q, 0, none⟩)) "Result").run Tryz.prog w = .ok (fResult back, .pointer (some ⟨q, 0, none⟩)) w := by cases back <;> kernel_rfl
theorem m_Copy (back : Bool) (q : Nat) (w : World) : (method 358 (Ip back) (.pointer (some ⟨q, 0, none⟩)) "Copy").run Tryz.prog w = .ok (fCopy back, .pointer (some ⟨q, 0, none⟩)) w := by cases back <;> kernel_rfl
set_option maxRecDepth 100000 in
theorem c_Step (back : Bool) (args : Array Value) (w : World) : (callFunc (fStep back) args).run Tryz.prog w = .ok (.enter (fStep back) args) w := by cases back <;> first | rfl | (show (callFunc _ _).run _ _ = _; simp only [fStep, Bool.false_eq_true, if_false, if_true]; go_simp)
set_option maxRecDepth 100000 in
theorem c_Done (back : Bool) (args : Array Value) (w : World) : (callFunc (fDone back) args).run Tryz.prog w = .ok (.enter (fDone back) args) w := by cases back <;> first | rfl | (show (callFunc _ _).run _ _ = _; simp only [fDone, Bool.false_eq_true, if_false, if_true]; go_simp)
set_option maxRecDepth 100000 in theorem c_Result (back : Bool) (args : Array Value) (w : World) : (callFunc (fResult back) args).run Tryz.prog w = .ok (.enter (fResult back) args) w := by cases back <;> first | rfl | (show (callFunc _ _).run _ _ = _; simp only [fResult, Bool.false_eq_true, if_false, if_true]; go_simp)
set_option maxRecDepth 100000 in
theorem c_Copy (back : Bool) (args : Array Value) (w : World) : (callFunc (fCopy back) args).run Tryz.prog w = .ok (.enter (fCopy back) args) w := by cases back <;> first | rfl | (show (callFunc _ _).run _ _ = _; simp only [fCopy, Bool.false_eq_true, if_false, if_true]; go_simp)

/-- A program lies at q: its next step is s (or it has ended), and it has met o. -/
def PgR (w : World) (q : Nat) (back : Bool) (b t L k : Nat) (s o : Int) (e : Bool) : Prop :=
  ∃ met : Int, PgC w q (Tp back) b t L k (if e then 0 else s) met ∧ (e = false → Ok back s o ∧ (s = 4 → met = o))
theorem PgR.frm {D : List Nat} {w w' : World} {q b t L k : Nat} {back e : Bool} {s o : Int} (h : PgR w q back b t L k s o e) (hf : Frm D w w') (hd : q ∉ D) : PgR w' q back b t L k s o e := by
  obtain ⟨met, h, r⟩ := h; exact ⟨met, h.frm hf hd, r⟩
theorem PgR.lt {w : World} {q b t L k : Nat} {back e : Bool} {s o : Int} (h : PgR w q back b t L k s o e) : q < w.heap.size := by
  obtain ⟨met, h, r⟩ := h; exact h.lt

/-- What is true behind a step. -/
def Aftr (p d c q : Nat) (back : Bool) (b t L k : Nat) (w : World) (ws : List Int) (s o : Int) (e : Bool) (w' : World) : Prop :=
  Frm [d, q] w w' ∧ MemAt w' p d c ws ∧ PgR w' q back b t L k s o e

section
variable {w : World} {p d c : Nat} {ws : List Int} {q : Nat} {b t L k : Nat}

theorem Step_any {back e' wait : Bool} {s o s' o' no : Int} {ws' : List Int} (hM : MemAt w p d c ws) (hR : PgR w q back b t L k s o false) (hd : q ≠ d) (hp : q ≠ p)
    (hS : Stp b t L k ws back s o e' s' o' ws' wait no) (hok : e' = false → Ok back s' o') :
    Calls Tryz.prog (fStep back) #[.pointer (some ⟨q, 0, none⟩), .iface 24 (.pointer (some ⟨p, 0, none⟩))] w (Ret (.tuple #[.bool wait, .int .i64 no]) (Aftr p d c q back b t L k w ws' s' o' e')) := by
  obtain ⟨met, hP, hr⟩ := hR
  obtain ⟨hk, hme⟩ := hr rfl
  simp only [Bool.false_eq_true, if_false] at hP
  have fin : ∀ {x : Value} {w'} {e : Ending} {met' : Int}, Ret x (Aft p d c q (Tp back) b t L k w ws' (if e' then 0 else s') met') e w' → (e' = false → s' = 4 → met' = o') → Ret x (Aftr p d c q back b t L k w ws' s' o' e') e w' :=
    fun hh hm => ⟨hh.1, hh.2.1, hh.2.2.1, _, hh.2.2.2, fun he => ⟨hok he, hm he⟩⟩
  have mv : ∀ w2, Frm [] w w2 → MemAt w2 p d c ws ∧ PgC w2 q (Tp back) b t L k s met := fun w2 hf => ⟨hM.frm hf (by simp) (by simp), hP.frm hf (by simp)⟩
  cases hS
  case a1 h =>
    exact (aStep hM hP (by decide) (fun w2 hf => astep_1ok (mv w2 hf).1 (mv w2 hf).2 hd hp h)).mono fun _ _ hh => fin (met' := met) hh (fun _ h => by omega)
  case a1x h =>
    exact (aStep hM hP (by decide) (fun w2 hf => astep_1out (mv w2 hf).1 (mv w2 hf).2 hd hp h)).mono fun _ _ hh => fin (met' := met) hh (fun _ h => by omega)
  case a2 h =>
    exact (aStep hM hP (by decide) (fun w2 hf => astep_2ok (mv w2 hf).1 (mv w2 hf).2 hd hp h)).mono fun _ _ hh => fin (met' := met) hh (fun _ h => by omega)
  case a2x h =>
    exact (aStep hM hP (by decide) (fun w2 hf => astep_2out (mv w2 hf).1 (mv w2 hf).2 hd hp h)).mono fun _ _ hh => fin (met' := met) hh (fun _ h => by omega)
  case a3f h =>
    exact (aStep hM hP (by decide) (fun w2 hf => astep_3 (mv w2 hf).2 (swap_free (mv w2 hf).1 (mv w2 hf).2 hd hp h))).mono fun _ _ hh => fin (met' := met) hh (fun h => by cases h)
  case a3l hu h =>
    exact (aStep hM hP (by decide) (fun w2 hf => astep_3 (mv w2 hf).2 (swap_link (mv w2 hf).1 (mv w2 hf).2 hd hp hu h))).mono fun _ _ hh => fin (met' := _) hh (fun _ _ => rfl)
  case a3x h =>
    exact (aStep hM hP (by decide) (fun w2 hf => astep_3 (mv w2 hf).2 (swap_out (mv w2 hf).1 (mv w2 hf).2 hd hp h))).mono fun _ _ hh => fin (met' := met) hh (fun _ h => by omega)
  case a4b h =>
    obtain rfl := hme rfl
    exact (aStep hM hP (by decide) (fun w2 hf => astep_4 (mv w2 hf).2 (link_bad (mv w2 hf).1 (mv w2 hf).2 h))).mono fun _ _ hh => fin (met' := _) hh (fun _ _ => rfl)
  case a4 x h1 h2 h =>
    obtain rfl := hme rfl
    exact (aStep hM hP (by decide) (fun w2 hf => astep_4 (mv w2 hf).2 (link_ok (mv w2 hf).1 (mv w2 hf).2 hd hp h1 h2 h))).mono fun _ _ hh => fin (met' := _) hh (fun _ h => by omega)
  case a4x x h1 h2 h =>
    obtain rfl := hme rfl
    exact (aStep hM hP (by decide) (fun w2 hf => astep_4 (mv w2 hf).2 (link_out (mv w2 hf).1 (mv w2 hf).2 hd hp h1 h2 h))).mono fun _ _ hh => fin (met' := _) hh (fun _ _ => rfl)
  case a5w u hu h =>
    exact (aStep hM hP (by decide) (fun w2 hf => astep_5 (mv w2 hf).2 (await_wait (mv w2 hf).1 (mv w2 hf).2 hd hp hu h))).mono fun _ _ hh => fin (met' := met) hh (fun _ h => by omega)
  case a5g h =>
    exact (aStep hM hP (by decide) (fun w2 hf => astep_5 (mv w2 hf).2 (await_go (mv w2 hf).1 (mv w2 hf).2 hd hp h))).mono fun _ _ hh => fin (met' := met) hh (fun h => by cases h)
  case a5x h =>
    exact (aStep hM hP (by decide) (fun w2 hf => astep_5 (mv w2 hf).2 (await_out (mv w2 hf).1 (mv w2 hf).2 hd hp h))).mono fun _ _ hh => fin (met' := met) hh (fun _ h => by omega)
  case r1n h =>
    exact (rStep hM hP (by decide) (fun w2 hf => rstep_1 (mv w2 hf).2 (look_none (mv w2 hf).1 (mv w2 hf).2 hd hp 2 h))).mono fun _ _ hh => fin (met' := met) hh (fun _ h => by omega)
  case r1s hu h =>
    exact (rStep hM hP (by decide) (fun w2 hf => rstep_1 (mv w2 hf).2 (look_some (mv w2 hf).1 (mv w2 hf).2 hd hp hu 2 h))).mono fun _ _ hh => fin (met' := _) hh (fun _ _ => rfl)
  case r1x h =>
    exact (rStep hM hP (by decide) (fun w2 hf => rstep_1 (mv w2 hf).2 (look_out (mv w2 hf).1 (mv w2 hf).2 hd hp 2 h))).mono fun _ _ hh => fin (met' := met) hh (fun _ h => by omega)
  case r2y h =>
    exact (rStep hM hP (by decide) (fun w2 hf => rstep_2 (mv w2 hf).2 (free_yes (mv w2 hf).1 (mv w2 hf).2 hd hp h))).mono fun _ _ hh => fin (met' := met) hh (fun h => by cases h)
  case r2n u hu h =>
    exact (rStep hM hP (by decide) (fun w2 hf => rstep_2 (mv w2 hf).2 (free_no (mv w2 hf).1 (mv w2 hf).2 hd hp hu h))).mono fun _ _ hh => fin (met' := met) hh (fun _ h => by omega)
  case r2x h =>
    exact (rStep hM hP (by decide) (fun w2 hf => rstep_2 (mv w2 hf).2 (free_out (mv w2 hf).1 (mv w2 hf).2 hd hp h))).mono fun _ _ hh => fin (met' := met) hh (fun _ h => by omega)
  case r3w h =>
    exact (rStep hM hP (by decide) (fun w2 hf => rstep_3 (mv w2 hf).2 (look_none (mv w2 hf).1 (mv w2 hf).2 hd hp 3 h))).mono fun _ _ hh => fin (met' := met) hh (fun _ h => by omega)
  case r3s hu h =>
    exact (rStep hM hP (by decide) (fun w2 hf => rstep_3 (mv w2 hf).2 (look_some (mv w2 hf).1 (mv w2 hf).2 hd hp hu 3 h))).mono fun _ _ hh => fin (met' := _) hh (fun _ _ => rfl)
  case r3x h =>
    exact (rStep hM hP (by decide) (fun w2 hf => rstep_3e (mv w2 hf).2 (look_out (mv w2 hf).1 (mv w2 hf).2 hd hp 3 h))).mono fun _ _ hh => fin (met' := met) hh (fun _ h => by omega)
  case r4b h =>
    obtain rfl := hme rfl
    exact (rStep hM hP (by decide) (fun w2 hf => rstep_4 (mv w2 hf).2 (wake_bad (mv w2 hf).1 (mv w2 hf).2 h))).mono fun _ _ hh => fin (met' := _) hh (fun _ _ => rfl)
  case r4 x h1 h2 h =>
    obtain rfl := hme rfl
    exact (rStep hM hP (by decide) (fun w2 hf => rstep_4 (mv w2 hf).2 (wake_ok (mv w2 hf).1 (mv w2 hf).2 hd hp h1 h2 h))).mono fun _ _ hh => fin (met' := _) hh (fun h => by cases h)
  case r4x x h1 h2 h =>
    obtain rfl := hme rfl
    exact (rStep hM hP (by decide) (fun w2 hf => rstep_4 (mv w2 hf).2 (wake_out (mv w2 hf).1 (mv w2 hf).2 hd hp h1 h2 h))).mono fun _ _ hh => fin (met' := _) hh (fun _ _ => rfl)
theorem Step_over {back : Bool} {s o : Int} (hR : PgR w q back b t L k s o true) :
    Calls Tryz.prog (fStep back) #[.pointer (some ⟨q, 0, none⟩), .iface 24 (.pointer (some ⟨p, 0, none⟩))] w (Ret (.tuple #[.bool false, .int .i64 17]) (fun w' => Frm [] w w')) := by
  obtain ⟨met, hP, hr⟩ := hR
  simp only [if_true] at hP
  cases back with
  | false => exact aStep_end hP
  | true => exact rStep_end hP
theorem Done_any {back e : Bool} {s o : Int} (hR : PgR w q back b t L k s o e) : Calls Tryz.prog (fDone back) #[.pointer (some ⟨q, 0, none⟩)] w (Ret (.bool e) (fun w' => w = w')) := by
  obtain ⟨met, hP, hr⟩ := hR
  cases e with
  | true => cases back with
    | false => exact aDone_0 hP
    | true => exact rDone_0 hP
  | false =>
    have := (hr rfl).1.lo
    simp only [Bool.false_eq_true, if_false] at hP
    cases back with
    | false => exact aDone_1 hP (by omega)
    | true => exact rDone_1 hP (by omega)
theorem Result_any {back e : Bool} {s o : Int} (hR : PgR w q back b t L k s o e) : Calls Tryz.prog (fResult back) #[.pointer (some ⟨q, 0, none⟩)] w (Ret (.int .u64 (if e then 1 else 0)) (fun w' => w = w')) := by
  obtain ⟨met, hP, hr⟩ := hR
  cases e with
  | true => cases back with
    | false => exact aResult_0 hP
    | true => exact rResult_0 hP
  | false =>
    have := (hr rfl).1.lo
    simp only [Bool.false_eq_true, if_false] at hP
    cases back with
    | false => exact aResult_1 hP (by omega)
    | true => exact rResult_1 hP (by omega)
theorem Copy_any {back e : Bool} {s o : Int} (hR : PgR w q back b t L k s o e) : Calls Tryz.prog (fCopy back) #[.pointer (some ⟨q, 0, none⟩)] w (fun e' w' => ∃ q', Ret (.iface (Ip back) (.pointer (some ⟨q', 0, none⟩))) (fun w' => Frm [] w w' ∧ PgR w' q' back b t L k s o e ∧ w.heap.size ≤ q') e' w') := by
  obtain ⟨met, hP, hr⟩ := hR
  cases back with
  | false => exact (aCopy_any hP).mono fun _ _ ⟨q', h0, h1, h2, h3⟩ => ⟨q', h0, h1, ⟨met, h2, hr⟩, h3⟩
  | true => exact (rCopy_any hP).mono fun _ _ ⟨q', h0, h1, h2, h3⟩ => ⟨q', h0, h1, ⟨met, h2, hr⟩, h3⟩
end


end Go.Proofs.YticbbfcachnkiaaGreatDoor
