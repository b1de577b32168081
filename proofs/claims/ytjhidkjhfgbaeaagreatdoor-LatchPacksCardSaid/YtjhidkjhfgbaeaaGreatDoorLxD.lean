/- The reference's Right and Words. -/
import Derived.Test.YtjhidkjhfgbaeaaGreatDoorLxC
namespace Go.Proofs.YtjhidkjhfgbaeaaGreatDoor
open Go.ChangeShapes Go.WideShapes Go.ChangeAt Go.RowKit
set_option linter.unusedVariables false
set_option linter.unusedSimpArgs false
attribute [local go_sem ↓] ldS_eq
theorem allM_held (s : LS) : allM s.held = !(s.ex != -1 && (s.up != -1 || s.sh != 0)) := by
  unfold LS.held
  have e1 : (s.sh != 0) = !decide (s.sh = 0) := by by_cases h : s.sh = 0 <;> simp [h]
  have e2 : (s.up != -1) = !decide (s.up = -1) := by by_cases h : s.up = -1 <;> simp [h]
  have e3 : (s.ex != -1) = !decide (s.ex = -1) := by by_cases h : s.ex = -1 <;> simp [h]
  rw [e1, e2, e3]
  by_cases h1 : s.sh = 0 <;> by_cases h2 : s.up = -1 <;> by_cases h3 : s.ex = -1
  all_goals
    simp only [h1, h2, h3, if_true, if_false, decide_true, decide_false]
    decide
theorem r1_may (s : LS) (h : s.sh < 18446744073709551616) : s.r1 = s.may 64 := by
  have hp : decide (s.sh < 2 ^ 64) = true := by simpa using h
  have hg : ∀ {g : Int}, 0 ≤ g → (g != 0) = decide (0 < g) := by
    intro g hg
    by_cases h0 : g = 0
    · subst h0; rfl
    · have e1 : (g != 0) = true := by simp [h0]
      have e2 : decide (0 < g) = true := by simp; omega
      rw [e1, e2]
  unfold LS.may LS.mayB LS.mayC LS.mayD LS.r1 LS.r3 LS.r5
  rw [allM_held, hp]
  by_cases g0 : 0 ≤ s.gr
  · rw [hg g0]
    generalize (decide (0 < s.gr) && s.sh == 0) = x1
    generalize (s.ex != -1 && (s.up != -1 || s.sh != 0)) = x2
    generalize (s.fi == -1 && s.la == -1 || isL 64 s.fi && isL 64 s.la) = x3
    generalize s.has s.up = x4
    generalize decide (0 ≤ s.gr) = x5
    generalize decide (s.gr ≤ 4) = x6
    generalize (s.wa == -1 || s.wa == s.up) = x7
    generalize isT 64 s.up = x8
    generalize isT 64 s.ex = x9
    revert x1 x2 x3 x4 x5 x6 x7 x8 x9
    decide
  · have : decide (0 ≤ s.gr) = false := by simpa using g0
    rw [this]
    simp only [Bool.and_false, Bool.false_and]
section
variable {w : World}
theorem Right_any {s : LS} (hsh : s.sh < 18446744073709551616) (hu : -1 ≤ s.up ∧ s.up < 255) (hx : -1 ≤ s.ex ∧ s.ex < 255) (hw : -1 ≤ s.wa ∧ s.wa < 255) (hfi : -1 ≤ s.fi ∧ s.fi < 255) (hla : -1 ≤ s.la ∧ s.la < 255) :
    Calls Tryz.prog 44 #[.agg (rsC s).toArray] w (Ret (.bool (s.may 64)) (fun w' => Frm [] w w')) := by
  rw [← r1_may s hsh]
  go_enter Tryz.func44, Tryz.ntmps44
  refine wp_seq_k ?_
  intro K hK
  have HK := Lib.hid hK
  clear hK
  go_wp2_with fail
  refine HK.out _ _ ?_
  exact right1 ((Frm.refl _ _).alloc _) (rs_new w s) hsh hu hx hw hfi hla _ _ _ _ _ _ _ _ _ _ _ _ _ _ _ _ _ _ _ _ _ _ _ _ _ _ _ _ _ _ _ _ _ _ _ _ _ _ _ _ _ _ _ _ _ _ _ _ _ _ _ _ _ _ _ _ _ _ _ _ _ _ _ _ _ _ _ _ _ _ _ _ _ _ _ _ _ _ _ _ _ _ _ _ _ _ _ _ _ _ _ _ _ _ _ _ _ _ _ _ _ _ _ _ _ _ _ _ _ _ _ _ _ _ _
end
end Go.Proofs.YtjhidkjhfgbaeaaGreatDoor
