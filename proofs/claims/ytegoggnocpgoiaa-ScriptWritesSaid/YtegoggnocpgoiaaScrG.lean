/- Package script: keyNumber, valueNumber. -/
import Derived.Test.YtegoggnocpgoiaaScrF
namespace Go.Proofs.Ytegoggnocpgoiaa
open Go.ChangeShapes Go.WideShapes Go.ChangeAt Go.RowKit

/-- The number of a key. -/
def kn (s : ByteArray) : Int := if h : 2 ≤ s.size then ((s[0].toNat : Int) * 16 + s[1].toNat - 1649) % 256 else 0
/-- The least number of a value. -/
def vn (s : ByteArray) : Int := (((List.range 256).find? (fun n : Nat => decide (valB (n : Int) = s))).getD 0 : Nat)
theorem vn_hit {s : ByteArray} {k : Nat} (hk : k < 256) (h : ∀ j : Nat, j < k → ¬ valB (j : Int) = s) (hv : valB (k : Int) = s) : vn s = k := by
  unfold vn
  have : (List.range 256).find? (fun n : Nat => decide (valB (n : Int) = s)) = some k := by
    rw [List.find?_range_eq_some]
    refine ⟨by simpa using hv, by simpa using hk, fun j hj => by simpa using h j hj⟩
  rw [this]; rfl
theorem vn_miss {s : ByteArray} (h : ∀ j : Nat, j < 256 → ¬ valB (j : Int) = s) : vn s = 0 := by
  unfold vn
  have : (List.range 256).find? (fun n : Nat => decide (valB (n : Int) = s)) = none := by
    rw [List.find?_range_eq_none]
    intro j hj; simpa using h j hj
  rw [this]; rfl
theorem vn_bd (s : ByteArray) : 0 ≤ vn s ∧ vn s ≤ 255 := by
  by_cases h : ∃ j : Nat, j < 256 ∧ valB (j : Int) = s
  · unfold vn
    cases hf : (List.range 256).find? (fun n : Nat => decide (valB (n : Int) = s)) with
    | none => simp
    | some k =>
      have := (List.find?_range_eq_some.1 hf).2.1
      simp at this ⊢; omega
  · rw [vn_miss (fun j hj e => h ⟨j, hj, e⟩)]; omega
theorem vn_val {x : Int} (hx : 0 ≤ x ∧ x ≤ 255) : valB (vn (valB x)) = valB x := by
  obtain ⟨n, rfl⟩ : ∃ n : Nat, x = (n : Int) := ⟨x.toNat, by omega⟩
  unfold vn
  cases hf : (List.range 256).find? (fun m : Nat => decide (valB (m : Int) = valB (n : Int))) with
  | none =>
    have := (List.find?_range_eq_none.1 hf) n (by omega)
    simp at this
  | some k =>
    have := (List.find?_range_eq_some.1 hf).1
    simpa using this
theorem kn_bd (s : ByteArray) : 0 ≤ kn s ∧ kn s ≤ 255 := by
  unfold kn; split <;> omega
theorem kn_key {x : Int} (hx : 0 ≤ x ∧ x ≤ 255) : kn (keyB x) = x := by
  have hs := keyB_size x
  have h2 : 2 ≤ (keyB x).size := by omega
  unfold kn
  rw [dif_pos h2]
  have e0 : (keyB x)[0] = UInt8.ofNat (97 + x.toNat / 16) := rfl
  have e1 : (keyB x)[1] = UInt8.ofNat (97 + x.toNat % 16) := rfl
  rw [e0, e1]
  simp only [UInt8.toNat_ofNat']
  omega

theorem ret_int {k : IntKind} {a b : Int} (h : a = b) : Ending.returned (.int k a) = .returned (.int k b) := by rw [h]
theorem keynum_any (s : ByteArray) (w : World) (hs : s.size ≤ maxLen) : Calls Try.prog 52 #[.string s] w (Ret (.int .u8 (kn s)) (fun w' => Frm [] w w')) := by
  unfold maxLen at hs
  by_cases h2 : 2 ≤ s.size
  · have hb : decide ((s.size : Int) < 2) = false := by simp; omega
    have h0 : 0 < s.size := by omega
    have h1 : 1 < s.size := by omega
    have h1' : (1 : Int) < (s.size : Int) := by omega
    have b0 := s[0].toNat_lt
    have b1 := s[1].toNat_lt
    have hk : kn s = ((s[0].toNat : Int) * 16 + s[1].toNat - 1649) % 256 := by unfold kn; rw [dif_pos h2]
    rw [hk]
    clear hk
    go_enter Try.func52, Try.ntmps52
    go_wp2_with fail
    go_region
    go_wp2
    go_ret
    exact ⟨ret_int (by omega), (Frm.refl _ _).drew⟩
  · have hb : decide ((s.size : Int) < 2) = true := by simp; omega
    have hk : kn s = 0 := by unfold kn; rw [dif_neg h2]
    rw [hk]
    clear hk
    go_enter Try.func52, Try.ntmps52
    go_wp2
    go_ret
    exact ⟨rfl, Frm.refl _ _⟩

set_option maxRecDepth 100000 in
set_option maxHeartbeats 1000000 in
theorem valnum_any (s : ByteArray) (w : World) (hs : s.size ≤ maxLen) : Calls Try.prog 53 #[.string s] w (Ret (.int .u8 (vn s)) (fun w' => Frm [] w w')) := by
  unfold maxLen at hs
  have hhit := fun (k : Nat) => @vn_hit s k
  have hmiss := @vn_miss s
  generalize vn s = V at hhit hmiss ⊢
  have HH := Lib.hid hhit
  have HM := Lib.hid hmiss
  clear hhit hmiss
  go_enter Try.func53, Try.ntmps53
  go_wp2_with fail
  go_loopw [4] (fun i w' => ∃ k : Nat, k ≤ 256 ∧ i = .int .i64 k ∧ Frm [] w w' ∧ Hid (∀ j : Nat, j < k → ¬ valB (j : Int) = s)) (fun i _ => 256 - (intOf i).toNat)
  case atStart => exact ⟨0, by omega, rfl, Frm.refl _ _, Lib.hid (fun j hj => by omega)⟩
  case round =>
    obtain ⟨k, hk, rfl, hF, HI⟩ := hrel
    by_cases hlt : k < 256
    · have hb0 : (0 : Int) ≤ (k : Int) := by omega
      have hb1 : (k : Int) ≤ 255 := by omega
      by_cases he : k % 41 = s.size
      · have d0 : ((k : Int) % 41 == (s.size : Int)) = true := by simp; omega
        by_cases hv : valB (k : Int) = s
        · have hR := HH.out k hlt HI.out hv
          have HR := Lib.hid hR
          have d1 : ((valB (k : Int)).toList == s.toList) = true := by rw [str_eq]; simpa using hv
          clear hR hv he
          go_wp2_with fail
          refine (value_any (k : Int) hb0 hb1 _).mono ?_
          rintro e w1 ⟨rfl, hF1⟩
          go_wp2
          go_ret
          exact ⟨by rw [HR.out]; rfl, hF.trans hF1⟩
        · have d1 : ((valB (k : Int)).toList == s.toList) = false := by rw [str_eq]; simpa using hv
          have HV := Lib.hid hv
          clear hv he
          go_wp2_with fail
          refine (value_any (k : Int) hb0 hb1 _).mono ?_
          rintro e w1 ⟨rfl, hF1⟩
          go_wp2
          go_roundw
          case rel =>
            refine ⟨k + 1, by omega, by go_num, hF.trans hF1, Lib.hid (fun j hj => ?_)⟩
            by_cases e : j = k
            · subst e; exact HV.out
            · exact HI.out j (by omega)
          case measure => simp [intOf]; omega
      · have d0 : ((k : Int) % 41 == (s.size : Int)) = false := by simp; omega
        have hv : ¬ valB (k : Int) = s := by
          intro e
          apply he
          rw [← e, valB_size]; rfl
        have HV := Lib.hid hv
        clear hv he
        go_wp2
        go_roundw
        case rel =>
          refine ⟨k + 1, by omega, by go_num, hF, Lib.hid (fun j hj => ?_)⟩
          by_cases e : j = k
          · subst e; exact HV.out
          · exact HI.out j (by omega)
        case measure => simp [intOf]; omega
    · obtain rfl : k = 256 := by omega
      have hR := HM.out HI.out
      have HR := Lib.hid hR
      clear hR
      go_wp2
      go_ret
      exact ⟨by rw [HR.out]; rfl, hF⟩
end Go.Proofs.Ytegoggnocpgoiaa
