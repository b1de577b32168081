/- Stage 12: a machine: where it lies; what asks alone. -/
import Derived.Test.YtieccmmnfnpcoaaThR
namespace Go.Proofs.Ytieccmmnfnpcoaa
open Go.ChangeShapes Go.WideShapes Go.ChangeAt Go.RowKit
set_option linter.unusedVariables false
/-- A thread as it lies: its program behind an interface, its counts. -/
structure Tv where
  T : TypeId
  a : Nat
  st : Nat
  lk : Nat
def Tv.cells (t : Tv) : List Value := [.iface t.T (.pointer (some ⟨t.a, 0, none⟩)), .int .i64 t.st, .int .i64 t.lk]
def tv0 : Tv := ⟨0, 0, 0, 0⟩
def tvF (l : List Tv) (i : Nat) : List Value := (l.getD i tv0).cells
structure Mb where
  q : Nat
  p : Nat
  d : Nat
  c : Nat
  ta : Option Addr
  tc : Nat
  ws : List Int
  tv : List Tv
structure MbAt (w : World) (X : Mb) : Prop where
  obj : w.heap[X.q]? = some (.cells #[.pointer (some ⟨X.p, 0, none⟩), .slice X.ta X.tv.length X.tc] 93 (0, 0))
  mem : MemAt w X.p X.d X.c X.ws
  row : Gr 121 3 0 w X.ta X.tv.length X.tc (tvF X.tv)
  le : X.tv.length ≤ 64
theorem u_run : Try.prog.underlying 91 = some (.slice 121) := by kernel_rfl
theorem i_run : (Try.prog.info? 121).map (fun i => (i.zero, i.size, i.bytes)) = some (some (.agg #[.nilIface, .int .i64 0, .int .i64 0]), 3, 32) := by kernel_rfl
theorem ix_run {b n c k : Nat} (hk : k < n) (w : World) : (Instr.indexAt 91 (.slice (some ⟨b, 0, none⟩) n c) (.int .i64 (k : Int))).run Try.prog w = .ok (.pointer (some ⟨b, k * 3, none⟩)) w := ix_gr u_run i_run hk w
namespace MbAt
variable {w w' : World} {X : Mb}
theorem lt (h : MbAt w X) : X.q < w.heap.size := lt_of_heap h.obj
theorem c0 (h : MbAt w X) : w.cell? ⟨X.q, 0, none⟩ = some (.pointer (some ⟨X.p, 0, none⟩)) := by rw [cell_of_heap h.obj]; rfl
theorem c1 (h : MbAt w X) : w.cell? ⟨X.q, 1, none⟩ = some (.slice X.ta X.tv.length X.tc) := by rw [cell_of_heap h.obj]; rfl
theorem frz (h : MbAt w X) (k : Nat) : w.frozen? ⟨X.q, k, none⟩ = false := frozen_of_heap h.obj
theorem frm {D : List Nat} (h : MbAt w X) (hf : Frm D w w') (hq : X.q ∉ D) (hp : X.p ∉ D) (hd : X.d ∉ D) (ht : ∀ x ∈ bkG X.ta, x ∉ D) : MbAt w' X :=
  ⟨hf.heap h.obj hq, h.mem.frm hf hp hd, h.row.frm hf ht, h.le⟩
theorem frm0 (h : MbAt w X) (hf : Frm [] w w') : MbAt w' X := h.frm hf (by simp) (by simp) (by simp) (by simp)
theorem thr (h : MbAt w X) {i : Nat} {t : Tv} (ht : X.tv[i]? = some t) : ∃ g, X.ta = some ⟨g, 0, none⟩ ∧ g < w.heap.size ∧ (∀ k, w.frozen? ⟨g, k, none⟩ = false) ∧
    w.cell? ⟨g, i * 3, none⟩ = some (.iface t.T (.pointer (some ⟨t.a, 0, none⟩))) ∧ w.cell? ⟨g, i * 3 + 1, none⟩ = some (.int .i64 t.st) ∧ w.cell? ⟨g, i * 3 + 2, none⟩ = some (.int .i64 t.lk) := by
  have hi : i < X.tv.length := (List.getElem?_eq_some_iff.1 ht).1
  obtain ⟨g, hg, _, hl, hz, hc⟩ := h.row.at_ hi
  have e : tvF X.tv i = t.cells := by rw [tvF, List.getD_eq_getElem?_getD, ht]; rfl
  have := hc i hi
  rw [e] at this
  exact ⟨g, hg, hl, hz, by simpa using this 0 _ rfl, this 1 _ rfl, this 2 _ rfl⟩
end MbAt
section
variable {w : World} {X : Mb}
theorem mnone_nil (w : World) : Calls Try.prog 58 #[.pointer none] w (Ret (.bool true) (fun w' => w = w')) := by
  go_enter Try.func58, Try.ntmps58
  go_wp2
  go_ret
  exact ⟨rfl, rfl⟩
theorem mnone_at (h : MbAt w X) : Calls Try.prog 58 #[.pointer (some ⟨X.q, 0, none⟩)] w (Ret (.bool false) (fun w' => w = w')) := by
  have h0 := h.c0
  go_enter Try.func58, Try.ntmps58
  go_wp2
  go_ret
  exact ⟨rfl, rfl⟩
theorem mthreads_at (h : MbAt w X) : Calls Try.prog 38 #[.pointer (some ⟨X.q, 0, none⟩)] w (Ret (.int .i64 X.tv.length) (fun w' => w = w')) := by
  have h1 := h.c1
  go_enter Try.func38, Try.ntmps38
  go_wp2
  go_ret
  exact ⟨rfl, rfl⟩
def noTh (n : Nat) (t : Int) : Bool := decide (t < 0 ∨ (n : Int) ≤ t)
theorem noTh_nat {n t : Nat} (h : t < n) : noTh n t = false := by unfold noTh; simp; omega
theorem mno_at (h : MbAt w X) (t : Int) : Calls Try.prog 59 #[.pointer (some ⟨X.q, 0, none⟩), .int .i64 t] w (Ret (.bool (noTh X.tv.length t)) (fun w' => w = w')) := by
  have H := Lib.hid (mthreads_at h)
  by_cases ht : t < 0
  · have hb : decide (t < 0) = true := by simpa using ht
    have hr : noTh X.tv.length t = true := by unfold noTh; simp; omega
    rw [hr]
    clear hr ht h
    go_enter Try.func59, Try.ntmps59
    go_wp2
    go_ret
    exact ⟨rfl, rfl⟩
  · have hb : decide (t < 0) = false := by simpa using ht
    by_cases h2 : (X.tv.length : Int) ≤ t
    · have hb2 : decide ((X.tv.length : Int) ≤ t) = true := by simpa using h2
      have hr : noTh X.tv.length t = true := by unfold noTh; simp; omega
      rw [hr]
      clear hr ht h
      go_enter Try.func59, Try.ntmps59
      go_wp2_with fail
      refine H.out.mono ?_
      rintro e w' ⟨rfl, rfl⟩
      go_wp2
      go_ret
      exact ⟨rfl, rfl⟩
    · have hb2 : decide ((X.tv.length : Int) ≤ t) = false := by simpa using h2
      have hr : noTh X.tv.length t = false := by unfold noTh; simp; omega
      rw [hr]
      clear hr ht h
      go_enter Try.func59, Try.ntmps59
      go_wp2_with fail
      refine H.out.mono ?_
      rintro e w' ⟨rfl, rfl⟩
      go_wp2
      go_ret
      exact ⟨rfl, rfl⟩
theorem mDone_no (h : MbAt w X) (t : Int) (ht : noTh X.tv.length t = true) : Calls Try.prog 22 #[.pointer (some ⟨X.q, 0, none⟩), .int .i64 t] w (Ret (.bool false) (fun w' => w = w')) := by
  have H := mno_at h t
  rw [ht] at H
  have HH := Lib.hid H
  clear h ht H
  go_enter Try.func22, Try.ntmps22
  go_wp2_with fail
  refine HH.out.mono ?_
  rintro e w' ⟨rfl, rfl⟩
  go_wp2
  go_ret
  exact ⟨rfl, rfl⟩
theorem mResult_no (h : MbAt w X) (t : Int) (ht : noTh X.tv.length t = true) : Calls Try.prog 24 #[.pointer (some ⟨X.q, 0, none⟩), .int .i64 t] w (Ret (.int .u64 0) (fun w' => w = w')) := by
  have H := mno_at h t
  rw [ht] at H
  have HH := Lib.hid H
  clear h ht H
  go_enter Try.func24, Try.ntmps24
  go_wp2_with fail
  refine HH.out.mono ?_
  rintro e w' ⟨rfl, rfl⟩
  go_wp2
  go_ret
  exact ⟨rfl, rfl⟩
theorem mSteps_no (h : MbAt w X) (t : Int) (ht : noTh X.tv.length t = true) : Calls Try.prog 23 #[.pointer (some ⟨X.q, 0, none⟩), .int .i64 t] w (Ret (.int .i64 0) (fun w' => w = w')) := by
  have H := mno_at h t
  rw [ht] at H
  have HH := Lib.hid H
  clear h ht H
  go_enter Try.func23, Try.ntmps23
  go_wp2_with fail
  refine HH.out.mono ?_
  rintro e w' ⟨rfl, rfl⟩
  go_wp2
  go_ret
  exact ⟨rfl, rfl⟩
theorem mLooks_no (h : MbAt w X) (t : Int) (ht : noTh X.tv.length t = true) : Calls Try.prog 39 #[.pointer (some ⟨X.q, 0, none⟩), .int .i64 t] w (Ret (.int .i64 0) (fun w' => w = w')) := by
  have H := mno_at h t
  rw [ht] at H
  have HH := Lib.hid H
  clear h ht H
  go_enter Try.func39, Try.ntmps39
  go_wp2_with fail
  refine HH.out.mono ?_
  rintro e w' ⟨rfl, rfl⟩
  go_wp2
  go_ret
  exact ⟨rfl, rfl⟩
theorem mProgram_no (h : MbAt w X) (t : Int) (ht : noTh X.tv.length t = true) : Calls Try.prog 40 #[.pointer (some ⟨X.q, 0, none⟩), .int .i64 t] w (Ret (.nilIface) (fun w' => w = w')) := by
  have H := mno_at h t
  rw [ht] at H
  have HH := Lib.hid H
  clear h ht H
  go_enter Try.func40, Try.ntmps40
  go_wp2_with fail
  refine HH.out.mono ?_
  rintro e w' ⟨rfl, rfl⟩
  go_wp2
  go_ret
  exact ⟨rfl, rfl⟩
theorem mWaits_no (h : MbAt w X) (t : Int) (ht : noTh X.tv.length t = true) : Calls Try.prog 36 #[.pointer (some ⟨X.q, 0, none⟩), .int .i64 t] w (Ret (.bool false) (fun w' => w = w')) := by
  have H := mno_at h t
  rw [ht] at H
  have HH := Lib.hid H
  clear h ht H
  go_enter Try.func36, Try.ntmps36
  go_wp2_with fail
  refine HH.out.mono ?_
  rintro e w' ⟨rfl, rfl⟩
  go_wp2
  go_ret
  exact ⟨rfl, rfl⟩
theorem mSteps_at (h : MbAt w X) {i : Nat} {t : Tv} (ht : X.tv[i]? = some t) : Calls Try.prog 23 #[.pointer (some ⟨X.q, 0, none⟩), .int .i64 (i : Int)] w (Ret (.int .i64 t.st) (fun w' => w = w')) := by
  have hi : i < X.tv.length := (List.getElem?_eq_some_iff.1 ht).1
  have H := mno_at h i
  rw [noTh_nat hi] at H
  have HH := Lib.hid H
  have h1 := h.c1
  obtain ⟨g, hg, hgl, hz, k0, k1, k2⟩ := h.thr ht
  rw [hg] at h1
  have hix := ix_run (b := g) (c := X.tc) hi
  clear h ht H hg
  go_enter Try.func23, Try.ntmps23
  go_wp2_with fail
  refine HH.out.mono ?_
  rintro e w' ⟨rfl, rfl⟩
  go_wp2
  go_ret
  exact ⟨rfl, rfl⟩
theorem mLooks_at (h : MbAt w X) {i : Nat} {t : Tv} (ht : X.tv[i]? = some t) : Calls Try.prog 39 #[.pointer (some ⟨X.q, 0, none⟩), .int .i64 (i : Int)] w (Ret (.int .i64 t.lk) (fun w' => w = w')) := by
  have hi : i < X.tv.length := (List.getElem?_eq_some_iff.1 ht).1
  have H := mno_at h i
  rw [noTh_nat hi] at H
  have HH := Lib.hid H
  have h1 := h.c1
  obtain ⟨g, hg, hgl, hz, k0, k1, k2⟩ := h.thr ht
  rw [hg] at h1
  have hix := ix_run (b := g) (c := X.tc) hi
  clear h ht H hg
  go_enter Try.func39, Try.ntmps39
  go_wp2_with fail
  refine HH.out.mono ?_
  rintro e w' ⟨rfl, rfl⟩
  go_wp2
  go_ret
  exact ⟨rfl, rfl⟩
theorem mDone_at (h : MbAt w X) {i : Nat} {t : Tv} (ht : X.tv[i]? = some t) {v : Bool} (hw : Calls Try.prog 61 #[.iface t.T (.pointer (some ⟨t.a, 0, none⟩))] w (Ret (.bool v) (fun w' => Frm [] w w'))) :
    Calls Try.prog 22 #[.pointer (some ⟨X.q, 0, none⟩), .int .i64 (i : Int)] w (Ret (.bool v) (fun w' => Frm [] w w')) := by
  have hi : i < X.tv.length := (List.getElem?_eq_some_iff.1 ht).1
  have H := mno_at h i
  rw [noTh_nat hi] at H
  have HH := Lib.hid H
  have HW := Lib.hid hw
  have h1 := h.c1
  obtain ⟨g, hg, hgl, hz, k0, k1, k2⟩ := h.thr ht
  rw [hg] at h1
  have hix := ix_run (b := g) (c := X.tc) hi
  clear h ht H hg hw
  go_enter Try.func22, Try.ntmps22
  go_wp2_with fail
  refine HH.out.mono ?_
  rintro e w' ⟨rfl, rfl⟩
  go_wp2_with fail
  refine HW.out.mono ?_
  rintro e w' ⟨rfl, hF⟩
  have HF := Lib.hid hF
  clear hF
  go_wp2
  go_ret
  exact ⟨rfl, HF.out⟩
theorem mResult_at (h : MbAt w X) {i : Nat} {t : Tv} (ht : X.tv[i]? = some t) {v : Int} (hw : Calls Try.prog 62 #[.iface t.T (.pointer (some ⟨t.a, 0, none⟩))] w (Ret (.int .u64 v) (fun w' => Frm [] w w'))) :
    Calls Try.prog 24 #[.pointer (some ⟨X.q, 0, none⟩), .int .i64 (i : Int)] w (Ret (.int .u64 v) (fun w' => Frm [] w w')) := by
  have hi : i < X.tv.length := (List.getElem?_eq_some_iff.1 ht).1
  have H := mno_at h i
  rw [noTh_nat hi] at H
  have HH := Lib.hid H
  have HW := Lib.hid hw
  have h1 := h.c1
  obtain ⟨g, hg, hgl, hz, k0, k1, k2⟩ := h.thr ht
  rw [hg] at h1
  have hix := ix_run (b := g) (c := X.tc) hi
  clear h ht H hg hw
  go_enter Try.func24, Try.ntmps24
  go_wp2_with fail
  refine HH.out.mono ?_
  rintro e w' ⟨rfl, rfl⟩
  go_wp2_with fail
  refine HW.out.mono ?_
  rintro e w' ⟨rfl, hF⟩
  have HF := Lib.hid hF
  clear hF
  go_wp2
  go_ret
  exact ⟨rfl, HF.out⟩
theorem mProgram_at (h : MbAt w X) {i : Nat} {t : Tv} (ht : X.tv[i]? = some t) {T2 : TypeId} {S : Nat → World → Prop} (hw : Calls Try.prog 57 #[.iface t.T (.pointer (some ⟨t.a, 0, none⟩))] w (fun e w' => ∃ q, Ret (.iface T2 (.pointer (some ⟨q, 0, none⟩))) (S q) e w')) :
    Calls Try.prog 40 #[.pointer (some ⟨X.q, 0, none⟩), .int .i64 (i : Int)] w (fun e w' => ∃ q, Ret (.iface T2 (.pointer (some ⟨q, 0, none⟩))) (S q) e w') := by
  have hi : i < X.tv.length := (List.getElem?_eq_some_iff.1 ht).1
  have H := mno_at h i
  rw [noTh_nat hi] at H
  have HH := Lib.hid H
  have HW := Lib.hid hw
  have h1 := h.c1
  obtain ⟨g, hg, hgl, hz, k0, k1, k2⟩ := h.thr ht
  rw [hg] at h1
  have hix := ix_run (b := g) (c := X.tc) hi
  clear h ht H hg hw
  go_enter Try.func40, Try.ntmps40
  go_wp2_with fail
  refine HH.out.mono ?_
  rintro e w' ⟨rfl, rfl⟩
  go_wp2_with fail
  refine HW.out.mono ?_
  rintro e w' ⟨q, rfl, hF⟩
  have HF := Lib.hid hF
  clear hF
  go_wp2
  go_ret
  exact ⟨q, rfl, HF.out⟩
theorem mMem_at (h : MbAt w X) : Calls Try.prog 21 #[.pointer (some ⟨X.q, 0, none⟩)] w
    (fun e w' => ∃ p' d' c', Ret (.pointer (some ⟨p', 0, none⟩)) (fun w' => Frm [] w w' ∧ MemAt w' p' d' c' X.ws ∧ w.heap.size ≤ p' ∧ w.heap.size ≤ d') e w') := by
  have h0 := h.c0
  have H := Lib.hid (copy_ok h.mem)
  clear h
  go_enter Try.func21, Try.ntmps21
  go_wp2_with fail
  refine H.out.mono ?_
  rintro e w' ⟨p', d', c', rfl, hR⟩
  have HR := Lib.hid hR
  clear hR
  go_wp2
  go_ret
  exact ⟨p', d', c', rfl, HR.out⟩
theorem mnew_at {p d c : Nat} {ws : List Int} (hM : MemAt w p d c ws) : Calls Try.prog 17 #[.pointer (some ⟨p, 0, none⟩)] w
    (fun e w' => ∃ Y : Mb, Ret (.tuple #[.pointer (some ⟨Y.q, 0, none⟩), .int .i64 0]) (fun w' => Frm [] w w' ∧ MbAt w' Y ∧ Y.ws = ws ∧ Y.tv = [] ∧ w.heap.size ≤ Y.q ∧ w.heap.size ≤ Y.p ∧ w.heap.size ≤ Y.d ∧ bkG Y.ta = []) e w') := by
  have H := Lib.hid (copy_ok hM)
  clear hM
  go_enter Try.func17, Try.ntmps17
  go_wp2_with fail
  refine H.out.mono ?_
  rintro e w1 ⟨p', d', c', rfl, hF, hM', hp, hd⟩
  have HF := Lib.hid hF
  have HM := Lib.hid hM'
  clear hF hM'
  go_wp2
  go_ret2
  have hs := HF.out.size
  exact ⟨⟨w1.heap.size, p', d', c', none, 0, ws, []⟩, rfl, HF.out.alloc _, ⟨heap_alloc_new _ _, HM.out.alloc _, Gr.nil _ _ _ _ _, by simp⟩, rfl, rfl, by dsimp only; omega, hp, hd, rfl⟩
end
end Go.Proofs.Ytieccmmnfnpcoaa
