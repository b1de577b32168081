/- The walk of McsAny: what is beyond its bounds; the walk (by gen_mcaw.py). -/
import Derived.Test.YtoieedlkffmcgaaMcAm
namespace Go.Proofs.Ytoieedlkffmcgaa
open Go.ChangeShapes Go.WideShapes Go.ChangeAt Go.RowKit
set_option linter.unusedVariables false

theorem rd_of_li {w : World} {a : Option Addr} {n c b o : Nat} {l : List Int} (h : Li .u64 w a n c b o l) (hn : 0 < n) (hb : b < w.heap.size) : a = some ⟨b, o, none⟩ ∧ Rd w (.slice (some ⟨b, o, none⟩) n c) (u64s l) := by
  refine ⟨h.ad hn, .inr ⟨b, o, c, by simp [u64s, h.len], by simp [u64s, h.len]; exact h.cap, hb, fun i u hu => ?_⟩⟩
  unfold u64s at hu
  rw [List.getElem?_map] at hu
  cases hx : l[i]? with
  | none => rw [hx] at hu; cases hu
  | some x => rw [hx] at hu; cases hu; exact h.cell i x hx

set_option maxRecDepth 100000 in
set_option maxHeartbeats 400000 in
theorem walk_McsAny (a : Option Addr) (n c : Nat) (zs : List Int) (bb : Int) (wb : (Lit.int .u8 bb).wf = true) (tt : Int) (wt : (Lit.int .u8 tt).wf = true) (a3 : Option Addr) (n3 c3 : Nat) (acts : List ActV) (w : World) (h : IsRow .u64 w a n c zs) (hA : IsActs w a3 n3 acts) :
    Calls Try.prog 4 #[.slice a n c, .int .u8 bb, .int .u8 tt, .slice a3 n3 c3] w (Ret (.bool true) (fun w' => Below w.heap.size w w')) := by
  have bbb : 0 ≤ bb ∧ bb ≤ 255 := by
    have h := wb; simp only [Lit.wf, Bool.and_eq_true, decide_eq_true_eq] at h; have hmin : IntKind.u8.min = 0 := rfl; have hmax : IntKind.u8.max = 255 := rfl; omega
  have btt : 0 ≤ tt ∧ tt ≤ 255 := by
    have h := wt; simp only [Lit.wf, Bool.and_eq_true, decide_eq_true_eq] at h; have hmin : IntKind.u8.min = 0 := rfl; have hmax : IntKind.u8.max = 255 := rfl; omega
  obtain ⟨b, rfl⟩ := Int.eq_ofNat_of_zero_le bbb.1
  obtain ⟨t, rfl⟩ := Int.eq_ofNat_of_zero_le btt.1
  obtain ⟨bl, o, hL, hwf, hb⟩ := li_of_row h
  have H := Lib.hid hL
  have HW := Lib.hid hwf
  have HA := Lib.hid hA
  clear wb wt h hL hwf hA bbb btt
  by_cases h0 : n < 1
  · have d0 : decide ((n : Int) < 1) = true := by simp; omega
    have d0' : decide (n < 1) = true := by simp; omega
    go_enter Try.func4, Try.ntmps4
    go_wp2_with fail
    refine known_true.mono ?_
    rintro e w1 ⟨rfl, hF⟩
    go_wp2
    go_ret
    exact ⟨rfl, hF.below (Nat.le_refl _) (by simp)⟩
  · have d0 : decide ((n : Int) < 1) = false := by simp; omega
    have d0' : decide (n < 1) = false := by simp; omega
    by_cases h1 : 60 < n
    · have d1 : decide ((60 : Int) < (n : Int)) = true := by simp; omega
      have d1' : decide (60 < n) = true := by simp; omega
      go_enter Try.func4, Try.ntmps4
      go_wp2_with fail
      refine known_true.mono ?_
      rintro e w1 ⟨rfl, hF⟩
      go_wp2
      go_ret
      exact ⟨rfl, hF.below (Nat.le_refl _) (by simp)⟩
    · have d1 : decide ((60 : Int) < (n : Int)) = false := by simp; omega
      have d1' : decide (60 < n) = false := by simp; omega
      by_cases h2 : 60 < b
      · have d2 : decide ((60 : Int) < (b : Int)) = true := by simp; omega
        have d2' : decide (60 < b) = true := by simp; omega
        go_enter Try.func4, Try.ntmps4
        go_wp2_with fail
        refine known_true.mono ?_
        rintro e w1 ⟨rfl, hF⟩
        go_wp2
        go_ret
        exact ⟨rfl, hF.below (Nat.le_refl _) (by simp)⟩
      · have d2 : decide ((60 : Int) < (b : Int)) = false := by simp; omega
        have d2' : decide (60 < b) = false := by simp; omega
        by_cases h3 : t < 1
        · have d3 : decide ((t : Int) < 1) = true := by simp; omega
          have d3' : decide (t < 1) = true := by simp; omega
          go_enter Try.func4, Try.ntmps4
          go_wp2_with fail
          refine known_true.mono ?_
          rintro e w1 ⟨rfl, hF⟩
          go_wp2
          go_ret
          exact ⟨rfl, hF.below (Nat.le_refl _) (by simp)⟩
        · have d3 : decide ((t : Int) < 1) = false := by simp; omega
          have d3' : decide (t < 1) = false := by simp; omega
          by_cases h4 : 6 < t
          · have d4 : decide ((6 : Int) < (t : Int)) = true := by simp; omega
            have d4' : decide (6 < t) = true := by simp; omega
            go_enter Try.func4, Try.ntmps4
            go_wp2_with fail
            refine known_true.mono ?_
            rintro e w1 ⟨rfl, hF⟩
            go_wp2
            go_ret
            exact ⟨rfl, hF.below (Nat.le_refl _) (by simp)⟩
          · have d4 : decide ((6 : Int) < (t : Int)) = false := by simp; omega
            have d4' : decide (6 < t) = false := by simp; omega
            by_cases h5 : 60 < n3
            · have d5 : decide ((60 : Int) < (n3 : Int)) = true := by simp; omega
              have d5' : decide (60 < n3) = true := by simp; omega
              go_enter Try.func4, Try.ntmps4
              go_wp2_with fail
              refine known_true.mono ?_
              rintro e w1 ⟨rfl, hF⟩
              go_wp2
              go_ret
              exact ⟨rfl, hF.below (Nat.le_refl _) (by simp)⟩
            · have d5 : decide ((60 : Int) < (n3 : Int)) = false := by simp; omega
              have d5' : decide (60 < n3) = false := by simp; omega
              obtain ⟨rfl, hR⟩ := rd_of_li H.out (by omega) (hb (by omega))
              refine (any_loop hR H.out.len (fun x hx => ?_) (by omega) (by omega) (by omega) (by omega) (by omega) HA.out (by omega)).mono fun e w' hh => ⟨hh.1, hh.2.below (Nat.le_refl _) (by simp)⟩
              exact (bounds_u64 (HW.out x hx)).1
#print axioms walk_McsAny
end Go.Proofs.Ytoieedlkffmcgaa
