/- The walk of McsPlays: too few, too many threads; too many rounds; the walk. -/
import Derived.Test.YtoieedlkffmcgaaMcPl
import Derived.Test.YtoieedlkffmcgaaArgs
namespace Go.Proofs.Ytoieedlkffmcgaa
open Go.ChangeShapes Go.WideShapes Go.ChangeAt Go.RowKit
set_option linter.unusedVariables false

set_option maxRecDepth 100000 in
set_option maxHeartbeats 400000 in
theorem walk_McsPlays (th : Int) (wth : (Lit.int .u8 th).wf = true) (a : Option Addr) (len cap : Nat) (zs : List Int) (w : World) (h : IsRow .u8 w a len cap zs) :
    Calls Try.prog 3 #[.int .u8 th, .slice a len cap] w (Ret (.bool true) (fun w' => Below w.heap.size w w')) := by
  have bth : 0 ≤ th ∧ th ≤ 255 := by
    have h := wth; simp only [Lit.wf, Bool.and_eq_true, decide_eq_true_eq] at h; have hmin : IntKind.u8.min = 0 := rfl; have hmax : IntKind.u8.max = 255 := rfl; omega
  obtain ⟨n, rfl⟩ := Int.eq_ofNat_of_zero_le bth.1
  obtain ⟨b, o, hL, hwf, hb⟩ := li_of_row h
  have H := Lib.hid hL
  have HW := Lib.hid hwf
  clear wth h hL hwf
  by_cases h1 : n < 1
  · have d1 : decide ((n : Int) < 1) = true := by simp; omega
    have d1' : decide (n < 1) = true := by simp; omega
    go_enter Try.func3, Try.ntmps3
    go_wp2_with fail
    refine known_true.mono ?_
    rintro e w1 ⟨rfl, hF⟩
    go_wp2
    go_ret
    exact ⟨rfl, hF.below (Nat.le_refl _) (by simp)⟩
  · have d1 : decide ((n : Int) < 1) = false := by simp; omega
    have d1' : decide (n < 1) = false := by simp; omega
    by_cases h2 : 6 < n
    · have d2 : decide ((6 : Int) < (n : Int)) = true := by simp; omega
      have d2' : decide (6 < n) = true := by simp; omega
      go_enter Try.func3, Try.ntmps3
      go_wp2_with fail
      refine known_true.mono ?_
      rintro e w1 ⟨rfl, hF⟩
      go_wp2
      go_ret
      exact ⟨rfl, hF.below (Nat.le_refl _) (by simp)⟩
    · have d2 : decide ((6 : Int) < (n : Int)) = false := by simp; omega
      have d2' : decide (6 < n) = false := by simp; omega
      by_cases h3 : 150 < len
      · have d3 : decide ((150 : Int) < (len : Int)) = true := by simp; omega
        have d3' : decide (150 < len) = true := by simp; omega
        go_enter Try.func3, Try.ntmps3
        go_wp2_with fail
        refine known_true.mono ?_
        rintro e w1 ⟨rfl, hF⟩
        go_wp2
        go_ret
        exact ⟨rfl, hF.below (Nat.le_refl _) (by simp)⟩
      · refine (plays_loop H.out HW.out hb (by omega) (by omega) (by omega)).mono fun e w' hh => ?_
        exact ⟨hh.1, hh.2.below (Nat.le_refl _) (by simp)⟩
#print axioms walk_McsPlays
end Go.Proofs.Ytoieedlkffmcgaa
