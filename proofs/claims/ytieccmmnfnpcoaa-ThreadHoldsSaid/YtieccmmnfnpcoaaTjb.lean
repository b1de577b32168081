/- Stage 12: the law's codes and the reference's Same of what has been done. -/
import Derived.Test.YtieccmmnfnpcoaaTja
import Derived.Test.YtieccmmnfnpcoaaArgsLst
namespace Go.Proofs.Ytieccmmnfnpcoaa
open Go.ChangeShapes Go.WideShapes Go.ChangeAt Go.RowKit
set_option linter.unusedVariables false
set_option linter.unusedSimpArgs false
section
variable {w : World} {a a' : Option Addr} {n c b o c' b' o' : Nat}
/-- What codes says. -/
def CodQ (w : World) (n m : Nat) (Ls : List (List Ins)) (e : Ending) (w' : World) : Prop := ∃ r, Ret (.bool r) (fun w' => w' = w ∧ (r = true → n ≤ m ∧ ∀ l ∈ Ls, l.length ≤ 20)) e w'
set_option maxRecDepth 100000 in
set_option maxHeartbeats 2000000 in
/-- codes says yes only to few and short ones. -/
theorem codes_any {Ls : List (List Ins)} (h : LsL w a n c b o Ls) (m : Nat) (hm : m ≤ 1000) : Calls Try.prog 8 #[.slice a n c, .int .i64 m] w
    (CodQ w n m Ls) := by
  have H := Lib.hid h
  have HM := Lib.hid hm
  have hm2 : (m : Int) ≤ 1000 := by omega
  clear h hm
  go_enter Try.func8, Try.ntmps8
  go_wp2_with fail
  go_loopw [5] (fun i wr => ∃ k : Nat, k ≤ n ∧ k ≤ m + 1 ∧ i = .int .i64 k ∧ wr = w ∧ ∀ (j : Nat) (l : List Ins), j < k → Ls[j]? = some l → l.length ≤ 20) (fun i _ => n - (intOf i).toNat)
  case atStart => exact ⟨0, Nat.zero_le _, Nat.zero_le _, rfl, rfl, fun j l hj => by omega⟩
  case round =>
    obtain ⟨k, hk, hkm, rfl, rfl, hall⟩ := hrel
    have HALL := Lib.hid hall
    clear hall
    by_cases hlt : k < n ∧ k ≤ m
    · obtain ⟨hlt, hle⟩ := hlt
      obtain ⟨l, hl⟩ : ∃ l, Ls[k]? = some l := ⟨_, List.getElem?_eq_getElem (by rw [H.out.len]; exact hlt)⟩
      obtain ⟨a', n', c', b', o', hcl, hin⟩ := H.out.cell k l hl
      have hix := ix_lsl (c := c) H.out.ad hlt
      have HL := Lib.hid hl
      have HI := Lib.hid hin.len
      clear hin hl
      by_cases hlong : (20 : Nat) < n'
      · have hb : decide ((20 : Int) < (n' : Int)) = true := by simp; omega
        go_wp2_with fail
        go_ret
        exact ⟨false, rfl, rfl, fun h => by cases h⟩
      · have hb : decide ((20 : Int) < (n' : Int)) = false := by simp; omega
        go_wp2_with fail
        go_roundw
        case rel => exact ⟨k + 1, by omega, by omega, by go_num, by trivial, fun j l' hj hl' => by
          rcases Nat.lt_or_ge j k with h1 | h1
          · exact HALL.out j l' h1 hl'
          · have : j = k := by omega
            subst this
            rw [HL.out] at hl'; cases hl'
            have := HI.out; omega⟩
        case measure => simp [intOf]; omega
    · by_cases hlt2 : k < n
      · have h1 : decide (k ≤ m) = false := by simp; omega
        have h2 : decide (n ≤ m) = false := by simp; omega
        go_wp2_with fail
        go_ret
        exact ⟨false, rfl, rfl, fun h => by cases h⟩
      · have hkn : k = n := by omega
        subst hkn
        go_wp2_with fail
        go_ret
        refine ⟨decide (k ≤ m), rfl, rfl, fun h => ⟨by simp at h; omega, fun l hl => ?_⟩⟩
        obtain ⟨j, hj⟩ := List.getElem?_of_mem hl
        exact HALL.out j l (by have := (List.getElem?_eq_some_iff.1 hj).1; have := H.out.len; omega) hj
theorem DL.get {l : List Dd} (h : DL w a n c b o l) {k : Nat} {d : Dd} (hd : l[k]? = some d) : ∀ j v, d.cells[j]? = some v → w.cell? ⟨b, o + k * 7 + j, none⟩ = some v := by
  intro j v hv
  have hj : j < 7 := (List.getElem?_eq_some_iff.1 hv).1
  rw [Nat.add_assoc]
  exact h.cell _ _ (by rw [ddsC_get hd hj]; exact hv)
set_option maxRecDepth 100000 in
set_option maxHeartbeats 2000000 in
/-- Same says yes to equal ones. -/
theorem same_did {l : List Dd} (hn : n ≤ 100000) (h1 : DL w a n c b o l) (h2 : DL w a' n c' b' o' l) : Calls Try.prog 42 #[.slice a n c, .slice a' n c'] w
    (Ret (.bool true) (fun w' => Frm [] w w')) := by
  have H1 := Lib.hid h1
  have H2 := Lib.hid h2
  have hn2 : (n : Int) ≤ 100000 := by omega
  have HNN := Lib.hid hn
  clear h1 h2 hn
  go_enter Try.func42, Try.ntmps42
  go_wp2_with fail
  go_loopw [5] (fun i wr => ∃ k : Nat, k ≤ n ∧ i = .int .i64 k ∧ Frm [] w wr) (fun i _ => n - (intOf i).toNat)
  case atStart => exact ⟨0, Nat.zero_le _, rfl, Frm.refl _ _⟩
  case round =>
    obtain ⟨k, hk, rfl, hF⟩ := hrel
    by_cases hlt : k < n
    · obtain ⟨d, hd⟩ : ∃ d, l[k]? = some d := ⟨_, List.getElem?_eq_getElem (by rw [H1.out.len]; exact hlt)⟩
      have hL1 := H1.out.frm0 hF
      have hL2 := H2.out.frm0 hF
      have hi1 := ix_did (c := c) hL1.ad hlt
      have hi2 := ix_did (c := c') hL2.ad hlt
      have p0 := hL1.get hd 0 _ rfl
      have p1 := hL1.get hd 1 _ rfl
      have p2 := hL1.get hd 2 _ rfl
      have p3 := hL1.get hd 3 _ rfl
      have p4 := hL1.get hd 4 _ rfl
      have p5 := hL1.get hd 5 _ rfl
      have p6 := hL1.get hd 6 _ rfl
      have q0 := hL2.get hd 0 _ rfl
      have q1 := hL2.get hd 1 _ rfl
      have q2 := hL2.get hd 2 _ rfl
      have q3 := hL2.get hd 3 _ rfl
      have q4 := hL2.get hd 4 _ rfl
      have q5 := hL2.get hd 5 _ rfl
      have q6 := hL2.get hd 6 _ rfl
      rw [Nat.add_zero] at p0 q0
      have HF := Lib.hid hF
      clear hF hL1 hL2
      go_wp2_with fail
      go_quiet (fail)
      go_wp2_with fail
      go_roundw
      case rel => exact ⟨k + 1, by omega, by go_num, HF.out.trans ((Frm.refl [] _).drewN _)⟩
      case measure => simp [intOf]; omega
    · have hkn : k = n := by omega
      subst hkn
      have HF := Lib.hid hF
      clear hF
      go_wp2_with fail
      go_ret
      exact ⟨rfl, HF.out⟩
end
end Go.Proofs.Ytieccmmnfnpcoaa
