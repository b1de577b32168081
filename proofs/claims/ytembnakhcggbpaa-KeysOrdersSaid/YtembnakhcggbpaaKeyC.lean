/- Package keys and its reference: ValidKey, ValidValue, Words, Compare, Prefix, HasPrefix. -/
import Derived.Test.YtembnakhcggbpaaKeyM
import Derived.Test.YtembnakhcggbpaaKeyB
import Derived.Test.YtembnakhcggbpaaLi
import Derived.Lib.Strings
import Derived.Lib.Slices
import Derived.Lib.Walk
import Derived.IntWalk
namespace Go.Proofs.Ytembnakhcggbpaa
open Go.ChangeShapes Go.WideShapes Go.ChangeAt Go.RowKit
open Go.Lib (compareBytes)

/-- Is it a key, a value? -/
def vk (s : ByteArray) : Bool := decide (1 ≤ s.size ∧ s.size ≤ 24)
def vv (s : ByteArray) : Bool := decide (s.size ≤ 40)
theorem vk_iff {s : ByteArray} : vk s = true ↔ 1 ≤ s.size ∧ s.size ≤ 24 := by simp [vk]
theorem vv_iff {s : ByteArray} : vv s = true ↔ s.size ≤ 40 := by simp [vv]
/-- The order of two strings; what they have in common. -/
def cmp (a b : ByteArray) : Int := compareBytes a.data.toList b.data.toList
def pf (a b : ByteArray) : Nat := pfx a.data.toList b.data.toList

theorem szl (s : ByteArray) : s.data.toList.length = s.size := by simp

theorem key_walk (s : ByteArray) (w : World) :
    Calls Try.prog 10 #[.string s] w (fun e w' => e = .returned (.bool (vk s)) ∧ w = w') := by
  have hv : vk s = (decide ((1 : Int) ≤ (s.size : Int)) && decide ((s.size : Int) ≤ 24)) := by
    rw [Bool.eq_iff_iff]; simp [vk]; omega
  rw [hv]
  by_cases h1 : 1 ≤ s.size
  · have d1 : decide ((1 : Int) ≤ (s.size : Int)) = true := by simp; omega
    rw [d1, Bool.true_and]
    go_enter Try.func10, Try.ntmps10
    go_wp2
    go_ret
    exact ⟨rfl, rfl⟩
  · have d1 : decide ((1 : Int) ≤ (s.size : Int)) = false := by simp; omega
    rw [d1, Bool.false_and]
    go_enter Try.func10, Try.ntmps10
    go_wp2
    go_ret
    exact ⟨rfl, rfl⟩
theorem rkey_walk (s : ByteArray) (w : World) :
    Calls Try.prog 11 #[.string s] w (fun e w' => e = .returned (.bool (vk s)) ∧ w = w') := by
  have hv : vk s = (decide ((0 : Int) < (s.size : Int)) && decide ((s.size : Int) ≤ 24)) := by
    rw [Bool.eq_iff_iff]; simp [vk]; omega
  rw [hv]
  by_cases h1 : 0 < s.size
  · have d1 : decide ((0 : Int) < (s.size : Int)) = true := by simp; omega
    rw [d1, Bool.true_and]
    go_enter Try.func11, Try.ntmps11
    go_wp2
    go_ret
    exact ⟨rfl, rfl⟩
  · have d1 : decide ((0 : Int) < (s.size : Int)) = false := by simpa using h1
    rw [d1, Bool.false_and]
    go_enter Try.func11, Try.ntmps11
    go_wp2
    go_ret
    exact ⟨rfl, rfl⟩
theorem val_walk (s : ByteArray) (w : World) :
    Calls Try.prog 12 #[.string s] w (fun e w' => e = .returned (.bool (vv s)) ∧ w = w') := by
  have hv : vv s = decide ((s.size : Int) ≤ 40) := by
    rw [Bool.eq_iff_iff]; simp [vv]; omega
  rw [hv]
  go_enter Try.func12, Try.ntmps12
  go_wp2
  go_ret
  exact ⟨rfl, rfl⟩
theorem rval_walk (s : ByteArray) (w : World) :
    Calls Try.prog 13 #[.string s] w (fun e w' => e = .returned (.bool (vv s)) ∧ w = w') := by
  have hv : vv s = decide ((s.size : Int) ≤ 40) := by
    rw [Bool.eq_iff_iff]; simp [vv]; omega
  rw [hv]
  go_enter Try.func13, Try.ntmps13
  go_wp2
  go_ret
  exact ⟨rfl, rfl⟩

theorem words_walk (n : Int) (hn : (Lit.int .i64 n).wf = true) (w : World) :
    Calls Try.prog 17 #[.int .i64 n] w (fun e w' => e = .returned (.int .i64 (wds n)) ∧ w = w') := by
  have hb : -9223372036854775808 ≤ n ∧ n ≤ 9223372036854775807 := by simpa [Lit.wf, IntKind.min, IntKind.max, IntKind.signed, IntKind.bits] using hn
  obtain ⟨b0, b1⟩ := hb
  by_cases h : n ≤ 0
  · have hv : wds n = 0 := by unfold wds; rw [if_pos h]
    rw [hv]
    clear hn hv
    go_enter Try.func17, Try.ntmps17
    go_wp2
    go_ret
    exact ⟨rfl, rfl⟩
  · have hv : wds n = (n - 1) / 8 + 1 := by unfold wds; rw [if_neg h]
    rw [hv]
    have h1 : 1 ≤ n := by omega
    clear hn hv h
    go_enter Try.func17, Try.ntmps17
    go_wp2
    go_ret
    exact ⟨rfl, rfl⟩
theorem rwords_walk (n : Int) (hn : (Lit.int .i64 n).wf = true) (w : World) :
    Calls Try.prog 18 #[.int .i64 n] w (fun e w' => e = .returned (.int .i64 (wds n)) ∧ w = w') := by
  have hb : -9223372036854775808 ≤ n ∧ n ≤ 9223372036854775807 := by simpa [Lit.wf, IntKind.min, IntKind.max, IntKind.signed, IntKind.bits] using hn
  obtain ⟨b0, b1⟩ := hb
  by_cases h : n < 1
  · have hv : wds n = 0 := by unfold wds; rw [if_pos (by omega)]
    rw [hv]
    clear hn hv
    go_enter Try.func18, Try.ntmps18
    go_wp2
    go_ret
    exact ⟨rfl, rfl⟩
  · have h1 : 1 ≤ n := by omega
    by_cases hm : n % 8 = 0
    · have hv : wds n = n / 8 := by unfold wds; rw [if_neg (by omega)]; omega
      have hm' : (n % 8 == 0) = true := by simpa using hm
      rw [hv]
      clear hn hv h hm
      go_enter Try.func18, Try.ntmps18
      go_wp2
      go_ret
      exact ⟨rfl, rfl⟩
    · have hv : wds n = n / 8 + 1 := by unfold wds; rw [if_neg (by omega)]; omega
      have hm' : (n % 8 == 0) = false := by simpa using hm
      rw [hv]
      clear hn hv h hm
      go_enter Try.func18, Try.ntmps18
      go_wp2
      go_ret
      exact ⟨rfl, rfl⟩

set_option maxHeartbeats 1000000 in
set_option maxRecDepth 100000 in
theorem bcmp_walk (a b : ByteArray) (w : World) :
    Calls Try.prog 42 #[.string a, .string b] w (fun e w' => e = .returned (.int .i64 (cmp a b)) ∧ w = w') := by
  have hd : (callFunc 48 #[.string a, .string b]).run Try.prog w = .ok (.value (.int .i64 (cmp a b))) w := by
    rw [run_callFunc_extern Try.func48 (by kernel_rfl) (by kernel_rfl) (by kernel_rfl) (e := Extern.BytealgCompare.compare) (by kernel_rfl), Lib.run_compareString]
    rfl
  go_enter Try.func42, Try.ntmps42
  go_wp2
  go_ret
  exact ⟨rfl, rfl⟩
theorem scmp_walk (a b : ByteArray) (w : World) :
    Calls Try.prog 33 #[.string a, .string b] w (fun e w' => e = .returned (.int .i64 (cmp a b)) ∧ w = w') := by
  go_enter Try.func33, Try.ntmps33
  go_wp2_with fail
  refine (bcmp_walk _ _ _).mono ?_
  rintro e w' ⟨rfl, rfl⟩
  go_wp2
  go_ret
  exact ⟨rfl, rfl⟩
theorem cmp_walk (a b : ByteArray) (w : World) :
    Calls Try.prog 14 #[.string a, .string b] w (fun e w' => e = .returned (.int .i64 (cmp a b)) ∧ w = w') := by
  go_enter Try.func14, Try.ntmps14
  go_wp2_with fail
  refine (scmp_walk _ _ _).mono ?_
  rintro e w' ⟨rfl, rfl⟩
  go_wp2
  go_ret
  exact ⟨rfl, rfl⟩
theorem shift_walk (k : Nat) (hk : k ≤ 1000) (w : World) :
    Calls Try.prog 35 #[.int .i64 k] w (fun e w' => e = .returned (.int .i64 (8 * (7 - (k : Int) % 8))) ∧ w = w') := by
  go_enter Try.func35, Try.ntmps35
  go_wp2
  go_ret
  exact ⟨rfl, rfl⟩
end Go.Proofs.Ytembnakhcggbpaa
