/- Package latch, the state: goes, allNodes, queues, may's thread. -/
import Derived.Test.YticbbfcachnkiaaGreatDoorUtS
import Derived.Deep.RegionHeld3
namespace Go.Proofs.YticbbfcachnkiaaGreatDoor
open Go.ChangeShapes Go.WideShapes Go.ChangeAt Go.RowKit
set_option linter.unusedVariables false

theorem LS.held_len (s : LS) : s.held.length ≤ 3 := by
  unfold LS.held; split <;> split <;> split <;> simp
set_option maxHeartbeats 4000000 in
theorem goesL_any {w : World} (hW : Laid w) {b o : Nat} {s : LS} (h : StAt w b o s) (m : Int) (beh : Bool) :
    Calls Tryz.prog 168 #[.pointer (some ⟨b, o, none⟩), .int .i64 m, .bool beh] w (Ret (.bool (s.goes m beh)) (fun w' => Frm [] w w')) := by
  have HS : Hid (∀ w', Frm [] w w' → StAt w' b o s) := Lib.hid fun w' hf => h.frm hf (by simp)
  have HL : Hid (∀ w', Frm [] w w' → Laid w') := Lib.hid fun w' hf => hW.frm0 hf
  have c4 : ∀ w', Frm [] w w' → w'.cell? ⟨b, o + 4, none⟩ = some (.int .i64 s.gr) := fun w' hf => (h.frm hf (by simp)).2.2.2.2.1
  have hbl := h.lt
  have hlen := s.held_len
  clear h hW
  unfold LS.goes
  go_enter Tryz.func168, Tryz.ntmps168
  go_wp2_with fail
  go_region_held3 (fun w' => Frm [] w w') (repeat' (first | assumption | exact Frm.refl _ _ | apply Frm.drew | apply Frm.drewN | (refine Frm.trans ?_ g1))) (first
    | (go_at_call 117; (with_reducible refine (held_any (HS.out _ (by assumption))).mono ?_); rintro e w1 ⟨a, n, c, rfl, g1, hR⟩; obtain ⟨lb, hLi⟩ := hR.li; have HLi := Lib.hid hLi; have hn : n ≤ 1000 := (by have := hR.2; omega); clear hLi hR)
    | (go_at_call 178; (with_reducible refine (Goes_any (HL.out _ (by assumption)) (HLi.out.frm0 (by (repeat' (first | exact Frm.refl _ _ | apply Frm.drew | apply Frm.drewN)))) hn m s.gr beh).mono ?_); rintro e w2 ⟨rfl, g1⟩))
  all_goals go_wp2
  all_goals go_ret
  all_goals exact ⟨rfl, by assumption⟩
/-- A node by which a thread waits for a latch. -/
def isL (T : Nat) (k : Int) : Bool := decide (0 ≤ k ∧ k < 2 * (T : Int) ∧ k % 2 = 1)
theorem queues_any {w : World} {p b t : Nat} (h : Nd w p b t) (k : Int) : Calls Tryz.prog 118 #[.pointer (some ⟨p, 0, none⟩), .int .i64 k] w (Ret (.bool (isL t k)) (fun w' => w = w')) := by
  have t64 := h.t64
  by_cases hk : k < 0 ∨ 2 * (t : Int) ≤ k
  · have H := Lib.hid (owner_no h k hk)
    have e : isL t k = false := by simp [isL]; omega
    rw [e]
    clear h e hk
    go_enter Tryz.func118, Tryz.ntmps118
    go_wp2_with fail
    refine H.out.mono ?_
    rintro e w1 ⟨rfl, rfl⟩
    go_wp2
    go_ret
    exact ⟨rfl, rfl⟩
  · obtain ⟨k, rfl⟩ := Int.eq_ofNat_of_zero_le (show 0 ≤ k by omega)
    have hk' : k < 2 * t := by omega
    have H := Lib.hid (owner_yes h k hk')
    have H2 := Lib.hid (of_yes h (k / 2) 1 (by omega) (by decide))
    have e1 : (((k / 2 : Nat) : Int) * 2 + ((1 : Nat) : Int) == (k : Int)) = isL t k := by
      rw [Bool.eq_iff_iff]; simp [isL]; omega
    have e2 : ((k / 2 : Nat) : Int) = (k : Int) / 2 := by omega
    rw [e2] at H2 e1
    rw [← e1]
    clear h hk e1 e2
    cases hx : ((k : Int) / 2 * 2 + ((1 : Nat) : Int) == (k : Int)) with
    | true =>
      have hx1 : ((k : Int) / 2 * 2 + 1 == (k : Int)) = true := hx
      clear hx
      go_enter Tryz.func118, Tryz.ntmps118
      go_wp2_with fail
      refine H.out.mono ?_
      rintro e w1 ⟨rfl, rfl⟩
      go_wp2_with fail
      refine H2.out.mono ?_
      rintro e w1 ⟨rfl, rfl⟩
      go_wp2
      go_ret
      exact ⟨rfl, rfl⟩
    | false =>
      have hx1 : ((k : Int) / 2 * 2 + 1 == (k : Int)) = false := hx
      clear hx
      go_enter Tryz.func118, Tryz.ntmps118
      go_wp2_with fail
      refine H.out.mono ?_
      rintro e w1 ⟨rfl, rfl⟩
      go_wp2_with fail
      refine H2.out.mono ?_
      rintro e w1 ⟨rfl, rfl⟩
      go_wp2
      go_ret
      exact ⟨rfl, rfl⟩
/-- A thread that there is, or nobody. -/
def isT (T : Nat) (t : Int) : Bool := decide (-1 ≤ t) && decide (t < T)
theorem mayt_any {w : World} {p b t : Nat} (h : Nd w p b t) (g : Nat) (hg : w.cell? ⟨g, 0, none⟩ = some (.pointer (some ⟨p, 0, none⟩))) (x : Int) :
    Calls Tryz.prog 114 #[.int .i64 x, .pointer (some ⟨g, 0, none⟩)] w (Ret (.bool (isT t x)) (fun w' => w = w')) := by
  have H := Lib.hid (threads_nd h)
  clear h
  by_cases hx : -1 ≤ x
  · have e1 : decide (-1 ≤ x) = true := by simpa using hx
    have e2 : isT t x = decide (x < t) := by simp [isT, hx]
    rw [e2]
    clear e2 hx
    go_enter Tryz.func114, Tryz.ntmps114
    go_wp2_with fail
    refine H.out.mono ?_
    rintro e w1 ⟨rfl, rfl⟩
    go_wp2
    go_ret
    exact ⟨rfl, rfl⟩
  · have e1 : decide (-1 ≤ x) = false := by simpa using hx
    have e2 : isT t x = false := by simp [isT]; omega
    rw [e2]
    clear e2 hx
    go_enter Tryz.func114, Tryz.ntmps114
    go_wp2
    go_ret
    exact ⟨rfl, rfl⟩
end Go.Proofs.YticbbfcachnkiaaGreatDoor
