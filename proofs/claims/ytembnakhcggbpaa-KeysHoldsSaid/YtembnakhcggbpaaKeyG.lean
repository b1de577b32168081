/- Between, of the package and of its reference. -/
import Derived.Test.YtembnakhcggbpaaKeyF
namespace Go.Proofs.Ytembnakhcggbpaa
open Go.ChangeShapes Go.WideShapes Go.ChangeAt Go.RowKit
open Go.Lib (compareBytes)

/-- The separator of two strings. -/
def betS (a b : ByteArray) : ByteArray := b.extract 0 (pf a b + 1)
theorem bet_len {a b : ByteArray} (h : cmp a b = -1) : pf a b < b.size := by
  have := sep_len h
  rw [szl] at this; exact this
theorem bet_size {a b : ByteArray} (h : cmp a b = -1) : (betS a b).size = pf a b + 1 := by
  have := bet_len h
  unfold betS; rw [ByteArray.size_extract]; omega
theorem bet_gt {a b : ByteArray} (h : cmp a b = -1) : cmp (betS a b) a = 1 := by
  show compareBytes _ _ = 1
  unfold betS
  rw [data_take]; exact sep_gt h
theorem bet_le {a b : ByteArray} {k : Nat} (hk : k ≤ pf a b) : cmp (b.extract 0 k) a ≤ 0 := by
  show compareBytes _ _ ≤ 0
  rw [data_take]; exact sep_le hk
theorem cmpN (a b : ByteArray) : cmp b a = - cmp a b := cmp_neg _ _
theorem cmpC (a b : ByteArray) : cmp a b = -1 ∨ cmp a b = 0 ∨ cmp a b = 1 := cmp_cases _ _

set_option maxHeartbeats 1000000 in
theorem between_ok (a b : ByteArray) (w : World) (ha : vk a = true) (hb : vk b = true) (h : cmp a b = -1) :
    Calls Try.prog 30 #[.string a, .string b] w (Ret (.tuple #[.string (betS a b), .int .i64 0]) (fun w' => Frm [] w w')) := by
  have ha1 := vk_iff.1 ha
  have hb1 := vk_iff.1 hb
  have k1 := fun W => key_walk a W
  have k2 := fun W => key_walk b W
  have k3 := fun W => cmp_walk a b W
  have k4 := fun W => pf_walk a b W (by omega)
  rw [ha] at k1
  rw [hb] at k2
  rw [h] at k3
  have hl := bet_len h
  have k5 := fun W => clone_any (b.extract 0 (pf a b + 1)) W (by rw [ByteArray.size_extract]; omega)
  obtain ⟨R, hR⟩ : ∃ R, betS a b = R := ⟨_, rfl⟩
  rw [show b.extract 0 (pf a b + 1) = betS a b from rfl, hR] at k5
  rw [hR]
  have hx : b.extract 0 (pf a b + 1) = R := hR
  generalize pf a b = p at *
  have hw1 : IntKind.i64.wrap ((p : Int) + 1) = (p : Int) + 1 := by rw [IntWalk.i64_in _ (by omega)]
  have K1 := Lib.hid k1
  have K2 := Lib.hid k2
  have K3 := Lib.hid k3
  have K4 := Lib.hid k4
  have K5 := Lib.hid k5
  clear k1 k2 k3 k4 k5 ha hb h hR
  go_enter Try.func30, Try.ntmps30
  go_wp2_with fail
  refine (K1.out _).mono ?_
  rintro e w' ⟨rfl, rfl⟩
  go_wp2_with fail
  refine (K2.out _).mono ?_
  rintro e w' ⟨rfl, rfl⟩
  go_wp2_with fail
  refine (K3.out _).mono ?_
  rintro e w' ⟨rfl, rfl⟩
  go_wp2_with fail
  refine (K4.out _).mono ?_
  rintro e w1 ⟨rfl, hF1⟩
  go_wp2_with fail
  refine (K5.out _).mono ?_
  rintro e w2 ⟨rfl, hF2⟩
  go_wp2
  go_ret2
  exact ⟨rfl, hF1.trans hF2⟩
theorem between_arg (a b : ByteArray) (w : World) (h : vk a = false ∨ vk b = false) :
    Calls Try.prog 30 #[.string a, .string b] w (Ret (.tuple #[.string noB, .int .i64 2]) (fun w' => Frm [] w w')) := by
  have k1 := fun W => key_walk a W
  have k2 := fun W => key_walk b W
  cases ha : vk a with
  | false =>
    rw [ha] at k1
    have K1 := Lib.hid k1
    clear k1 k2 h ha
    go_enter Try.func30, Try.ntmps30
    go_wp2_with fail
    refine (K1.out _).mono ?_
    rintro e w' ⟨rfl, rfl⟩
    go_wp2
    go_ret2
    exact ⟨rfl, Frm.refl _ _⟩
  | true =>
    have hb : vk b = false := by
      rcases h with h | h
      · rw [ha] at h; cases h
      · exact h
    rw [ha] at k1
    rw [hb] at k2
    have K1 := Lib.hid k1
    have K2 := Lib.hid k2
    clear k1 k2 h ha hb
    go_enter Try.func30, Try.ntmps30
    go_wp2_with fail
    refine (K1.out _).mono ?_
    rintro e w' ⟨rfl, rfl⟩
    go_wp2_with fail
    refine (K2.out _).mono ?_
    rintro e w' ⟨rfl, rfl⟩
    go_wp2
    go_ret2
    exact ⟨rfl, Frm.refl _ _⟩
theorem between_order (a b : ByteArray) (w : World) (ha : vk a = true) (hb : vk b = true) (h : 0 ≤ cmp a b) :
    Calls Try.prog 30 #[.string a, .string b] w (Ret (.tuple #[.string noB, .int .i64 13]) (fun w' => Frm [] w w')) := by
  have k1 := fun W => key_walk a W
  have k2 := fun W => key_walk b W
  have k3 := fun W => cmp_walk a b W
  rw [ha] at k1
  rw [hb] at k2
  generalize cmp a b = x at *
  have d1 : decide (0 ≤ x) = true := by simpa using h
  have K1 := Lib.hid k1
  have K2 := Lib.hid k2
  have K3 := Lib.hid k3
  clear k1 k2 k3 ha hb
  go_enter Try.func30, Try.ntmps30
  go_wp2_with fail
  refine (K1.out _).mono ?_
  rintro e w' ⟨rfl, rfl⟩
  go_wp2_with fail
  refine (K2.out _).mono ?_
  rintro e w' ⟨rfl, rfl⟩
  go_wp2_with fail
  refine (K3.out _).mono ?_
  rintro e w' ⟨rfl, rfl⟩
  go_wp2
  go_ret2
  exact ⟨rfl, Frm.refl _ _⟩

theorem rbetween_order (a b : ByteArray) (w : World) (hs : a.size ≤ 2147483647) (hsb : b.size ≤ 2147483647) (h : 0 ≤ cmp a b) :
    Calls Try.prog 27 #[.string a, .string b] w (Ret (.tuple #[.string noB, .int .i64 13]) (fun w' => Frm [] w w')) := by
  have k3 := fun W => rcmp_walk a b W hs hsb
  generalize cmp a b = x at *
  have d1 : decide (0 ≤ x) = true := by simpa using h
  have K3 := Lib.hid k3
  clear k3
  go_enter Try.func27, Try.ntmps27
  go_wp2_with fail
  refine (K3.out _).mono ?_
  rintro e w1 ⟨rfl, hF⟩
  go_wp2
  go_ret2
  exact ⟨rfl, hF⟩
set_option maxHeartbeats 1000000 in
theorem rbetween_ok (a b : ByteArray) (w : World) (hs : a.size ≤ 2147483647) (hsb : b.size ≤ 2147483647) (h : cmp a b = -1) :
    Calls Try.prog 27 #[.string a, .string b] w (Ret (.tuple #[.string (betS a b), .int .i64 0]) (fun w' => Frm [] w w')) := by
  have hl := bet_len h
  have k3 := fun W => rcmp_walk a b W hs hsb
  rw [h] at k3
  have k4 := fun (k : Nat) W => rcmp_walk (b.extract 0 k) a W (by rw [ByteArray.size_extract]; omega) hs
  have hgt := bet_gt h
  have hle := fun (k : Nat) (hk : k ≤ pf a b) => bet_le hk
  obtain ⟨p, hp⟩ : ∃ p, pf a b = p := ⟨_, rfl⟩
  have hR : Hid (betS a b = b.extract 0 (p + 1)) := Lib.hid (by unfold betS; rw [hp])
  rw [hR.out] at hgt
  rw [hp] at hle hl
  have K3 := Lib.hid k3
  have K4 := Lib.hid k4
  have HGT := Lib.hid hgt
  have HLE := Lib.hid hle
  clear k3 k4 hgt hle h hp hs
  go_enter Try.func27, Try.ntmps27
  go_wp2_with fail
  refine (K3.out _).mono ?_
  rintro e w1 ⟨rfl, hF⟩
  go_wp2_with fail
  go_loopw [6] (fun n w' => ∃ k : Nat, 1 ≤ k ∧ k ≤ p + 1 ∧ n = .int .i64 k ∧ Frm [] w w') (fun n _ => p + 1 - (intOf n).toNat)
  case atStart => exact ⟨1, by omega, by omega, rfl, hF⟩
  case round =>
    obtain ⟨k, hk0, hk1, rfl, hF1⟩ := hrel
    have hkb : k ≤ b.size := by omega
    have hb0 : (0 : Int) ≤ (k : Int) := by omega
    have hb1 : (k : Int) ≤ (b.size : Int) := by omega
    by_cases hlt : k ≤ p
    · have hc := HLE.out k hlt
      have hcall := fun W => K4.out k W
      generalize cmp (b.extract 0 k) a = x at *
      have d1 : decide (x ≤ 0) = true := by simpa using hc
      have HC := Lib.hid hcall
      clear hcall
      go_wp2_with fail
      refine (HC.out _).mono ?_
      rintro e w2 ⟨rfl, hF2⟩
      go_wp2
      go_roundw
      case rel => exact ⟨k + 1, by omega, by omega, by go_num, hF1.trans hF2⟩
      case measure => simp [intOf]; omega
    · obtain rfl : k = p + 1 := by omega
      have hcall := fun W => K4.out (p + 1) W
      rw [HGT.out] at hcall
      have HC := Lib.hid hcall
      clear hcall
      go_wp2_with fail
      refine (HC.out _).mono ?_
      rintro e w2 ⟨rfl, hF2⟩
      go_wp2
      go_ret2
      exact ⟨by rw [hR.out]; rfl, hF1.trans hF2⟩
end Go.Proofs.Ytembnakhcggbpaa
