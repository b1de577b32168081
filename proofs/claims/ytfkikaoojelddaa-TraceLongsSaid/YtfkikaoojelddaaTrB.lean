/- Stage 13: what is asked of one thing that was done. (By gen_trb.py.) -/
import Derived.Test.YtfkikaoojelddaaTrA
namespace Go.Proofs.Ytfkikaoojelddaa
open Go.ChangeShapes Go.WideShapes Go.ChangeAt Go.RowKit
set_option linter.unusedVariables false
set_option linter.unusedSimpArgs false
def isTh (i : Int) : Bool := decide (0 ≤ i) && decide (i < 64)
def isWd (w : Int) : Bool := decide (0 ≤ w) && decide (w < 65536)
def chg (a : Acc) : Bool := a.b != a.a
def isAc (a : Acc) : Bool := (a.k == 0 && a.w == 0 && a.b == 0 && a.a == 0) || (a.k == 1 && isWd a.w && a.b == a.a) || (decide (2 ≤ a.k) && decide (a.k ≤ 4) && isWd a.w)
def may (d : Dd) : Bool := isTh d.i && isAc d.a && (!d.wt || (decide (d.a.k ≤ 1) && !d.en))
def waw (d : Dd) : Bool := d.wt && d.a.k == 1
def atW (d : Dd) : Int := if waw d = true then d.a.w else -1
def isKd (k : Int) : Bool := decide (1 ≤ k) && decide (k ≤ 4)
def chW (d : Dd) (w : Int) : Bool := d.a.k != 0 && d.a.w == w && chg d.a
set_option maxRecDepth 100000 in
set_option maxHeartbeats 1600000 in
/-- isThread. -/
theorem isThread_any (i : Int) (w : World) : Calls Try.prog 57 #[.int .i64 i] w (Ret (.bool (isTh i)) (fun w' => Frm [] w w')) := by
  obtain ⟨r, hr⟩ : ∃ r, r = (isTh i) := ⟨_, rfl⟩
  rw [← hr]
  have HR := Lib.hid hr
  clear hr
  go_enter Try.func57, Try.ntmps57
  go_wp2_with fail
  all_goals
    go_ret
    refine ⟨by rw [HR.out]; unfold isTh; first | done | (simp [*]; done) | (simp [*] <;> omega) | (simp_all; done) | (simp_all <;> omega) | (simp_all [bne, beq_eq_decide]; done) | (simp_all [bne, beq_eq_decide] <;> omega), ?_⟩
    first | exact Frm.refl _ _ | exact (Frm.refl _ _).alloc _ | assumption
set_option maxRecDepth 100000 in
set_option maxHeartbeats 1600000 in
/-- isWord. -/
theorem isWord_any (wd : Int) (w : World) : Calls Try.prog 60 #[.int .i64 wd] w (Ret (.bool (isWd wd)) (fun w' => Frm [] w w')) := by
  obtain ⟨r, hr⟩ : ∃ r, r = (isWd wd) := ⟨_, rfl⟩
  rw [← hr]
  have HR := Lib.hid hr
  clear hr
  go_enter Try.func60, Try.ntmps60
  go_wp2_with fail
  all_goals
    go_ret
    refine ⟨by rw [HR.out]; unfold isWd; first | done | (simp [*]; done) | (simp [*] <;> omega) | (simp_all; done) | (simp_all <;> omega) | (simp_all [bne, beq_eq_decide]; done) | (simp_all [bne, beq_eq_decide] <;> omega), ?_⟩
    first | exact Frm.refl _ _ | exact (Frm.refl _ _).alloc _ | assumption
set_option maxRecDepth 100000 in
set_option maxHeartbeats 1600000 in
/-- Kind of the reference. -/
theorem Kind_any (k : Int) (w : World) : Calls Try.prog 59 #[.int .i64 k] w (Ret (.bool (isKd k)) (fun w' => Frm [] w w')) := by
  obtain ⟨r, hr⟩ : ∃ r, r = (isKd k) := ⟨_, rfl⟩
  rw [← hr]
  have HR := Lib.hid hr
  clear hr
  go_enter Try.func59, Try.ntmps59
  go_wp2_with fail
  all_goals
    go_ret
    refine ⟨by rw [HR.out]; unfold isKd; first | done | (simp [*]; done) | (simp [*] <;> omega) | (simp_all; done) | (simp_all <;> omega) | (simp_all [bne, beq_eq_decide]; done) | (simp_all [bne, beq_eq_decide] <;> omega), ?_⟩
    first | exact Frm.refl _ _ | exact (Frm.refl _ _).alloc _ | assumption
set_option maxRecDepth 100000 in
set_option maxHeartbeats 1600000 in
/-- changes. -/
theorem changes_any (k wd b a : Int) (w : World) : Calls Try.prog 61 #[(.agg #[.int .i64 k, .int .i64 wd, .int .u64 b, .int .u64 a])] w (Ret (.bool (chg ⟨k, wd, b, a⟩)) (fun w' => Frm [] w w')) := by
  obtain ⟨r, hr⟩ : ∃ r, r = (chg ⟨k, wd, b, a⟩) := ⟨_, rfl⟩
  rw [← hr]
  have HR := Lib.hid hr
  clear hr
  go_enter Try.func61, Try.ntmps61
  go_wp2_with fail
  all_goals
    go_ret
    refine ⟨by rw [HR.out]; unfold chg; first | done | (simp [*]; done) | (simp [*] <;> omega) | (simp_all; done) | (simp_all <;> omega) | (simp_all [bne, beq_eq_decide]; done) | (simp_all [bne, beq_eq_decide] <;> omega), ?_⟩
    first | exact Frm.refl _ _ | exact (Frm.refl _ _).alloc _ | assumption
set_option maxRecDepth 100000 in
set_option maxHeartbeats 1600000 in
/-- waitsAtWord. -/
theorem waw_any (i k wd b a : Int) (wt en : Bool) (w : World) : Calls Try.prog 75 #[(.agg #[.int .i64 i, .int .i64 k, .int .i64 wd, .int .u64 b, .int .u64 a, .bool wt, .bool en])] w (Ret (.bool (waw ⟨i, ⟨k, wd, b, a⟩, wt, en⟩)) (fun w' => Frm [] w w')) := by
  obtain ⟨r, hr⟩ : ∃ r, r = (waw ⟨i, ⟨k, wd, b, a⟩, wt, en⟩) := ⟨_, rfl⟩
  rw [← hr]
  have HR := Lib.hid hr
  clear hr
  go_enter Try.func75, Try.ntmps75
  go_wp2_with fail
  all_goals
    go_ret
    refine ⟨by rw [HR.out]; unfold waw; first | done | (simp [*]; done) | (simp [*] <;> omega) | (simp_all; done) | (simp_all <;> omega) | (simp_all [bne, beq_eq_decide]; done) | (simp_all [bne, beq_eq_decide] <;> omega), ?_⟩
    first | exact Frm.refl _ _ | exact (Frm.refl _ _).alloc _ | assumption
set_option maxRecDepth 100000 in
set_option maxHeartbeats 1600000 in
/-- At of the reference. -/
theorem at_any (i k wd b a : Int) (wt en : Bool) (w : World) : Calls Try.prog 32 #[(.agg #[.int .i64 i, .int .i64 k, .int .i64 wd, .int .u64 b, .int .u64 a, .bool wt, .bool en])] w (Ret (.int .i64 (atW ⟨i, ⟨k, wd, b, a⟩, wt, en⟩)) (fun w' => Frm [] w w')) := by
  obtain ⟨r, hr⟩ : ∃ r, r = (atW ⟨i, ⟨k, wd, b, a⟩, wt, en⟩) := ⟨_, rfl⟩
  rw [← hr]
  have HR := Lib.hid hr
  clear hr
  go_enter Try.func32, Try.ntmps32
  go_wp2_with fail
  all_goals
    go_ret
    refine ⟨by rw [HR.out]; unfold atW waw; first | done | (simp [*]; done) | (simp [*] <;> omega) | (simp_all; done) | (simp_all <;> omega) | (simp_all [bne, beq_eq_decide]; done) | (simp_all [bne, beq_eq_decide] <;> omega), ?_⟩
    first | exact Frm.refl _ _ | exact (Frm.refl _ _).alloc _ | assumption
set_option maxRecDepth 100000 in
set_option maxHeartbeats 1600000 in
/-- Changes of the reference. -/
theorem chW_any (i k wd b a x : Int) (wt en : Bool) (w : World) : Calls Try.prog 16 #[(.agg #[.int .i64 i, .int .i64 k, .int .i64 wd, .int .u64 b, .int .u64 a, .bool wt, .bool en]), .int .i64 x] w (Ret (.bool (chW ⟨i, ⟨k, wd, b, a⟩, wt, en⟩ x)) (fun w' => Frm [] w w')) := by
  obtain ⟨r, hr⟩ : ∃ r, r = (chW ⟨i, ⟨k, wd, b, a⟩, wt, en⟩ x) := ⟨_, rfl⟩
  rw [← hr]
  have HR := Lib.hid hr
  clear hr
  go_enter Try.func16, Try.ntmps16
  go_wp2_with fail
  all_goals
    go_ret
    refine ⟨by rw [HR.out]; unfold chW chg; first | done | (simp [*]; done) | (simp [*] <;> omega) | (simp_all; done) | (simp_all <;> omega) | (simp_all [bne, beq_eq_decide]; done) | (simp_all [bne, beq_eq_decide] <;> omega), ?_⟩
    first | exact Frm.refl _ _ | exact (Frm.refl _ _).alloc _ | assumption
end Go.Proofs.Ytfkikaoojelddaa
