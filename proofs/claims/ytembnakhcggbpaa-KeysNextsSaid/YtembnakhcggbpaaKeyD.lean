/- HasPrefix, the reference's Compare, Prefix. -/
import Derived.Test.YtembnakhcggbpaaKeyC
namespace Go.Proofs.Ytembnakhcggbpaa
open Go.ChangeShapes Go.WideShapes Go.ChangeAt Go.RowKit
open Go.Lib (compareBytes)

theorem shp_walk (s p : ByteArray) (w : World) :
    Calls Try.prog 32 #[.string s, .string p] w (fun e w' => e = .returned (.bool (Lib.hasPrefix s.data.toList p.data.toList)) ∧ w = w') := by
  have hr := Lib.hasPrefix_raw s p
  generalize Lib.hasPrefix s.data.toList p.data.toList = β at *
  by_cases h : p.size ≤ s.size
  · rw [decide_eq_true h, Bool.true_and] at hr
    subst hr
    go_enter Try.func32, Try.ntmps32
    go_wp2
    go_ret
    exact ⟨rfl, rfl⟩
  · have d1 : s.size < p.size := by omega
    rw [decide_eq_false h, Bool.false_and] at hr
    subst hr
    clear h
    go_enter Try.func32, Try.ntmps32
    go_wp2
    go_ret
    exact ⟨rfl, rfl⟩
theorem hp_walk (s p : ByteArray) (w : World) :
    Calls Try.prog 9 #[.string s, .string p] w (fun e w' => e = .returned (.bool (Lib.hasPrefix s.data.toList p.data.toList)) ∧ w = w') := by
  go_enter Try.func9, Try.ntmps9
  go_wp2_with fail
  refine (shp_walk _ _ _).mono ?_
  rintro e w' ⟨rfl, rfl⟩
  go_wp2
  go_ret
  exact ⟨rfl, rfl⟩

theorem run_min2 {w : World} (ts : Array TypeId) (t : TypeId) (x y : Nat) : (Builtin.min_ ts t #[.int .i64 (x : Int), .int .i64 (y : Int)]).run Try.prog w = .ok (.int .i64 ((min x y : Nat) : Int)) w := by
  by_cases h : y < x
  · have : (y : Int) < (x : Int) := by omega
    simp [Builtin.min_, Builtin.min2, this, Nat.min_def, show ¬ x ≤ y by omega]
  · have : ¬ (y : Int) < (x : Int) := by omega
    simp [Builtin.min_, Builtin.min2, this, show x ≤ y by omega]

theorem take_step {a b : ByteArray} {k : Nat} (ha : k < a.size) (hb : k < b.size) (ht : a.data.toList.take k = b.data.toList.take k) (he : a[k] = b[k]) : a.data.toList.take (k + 1) = b.data.toList.take (k + 1) := by
  have h1 := szl a
  have h2 := szl b
  rw [List.take_succ_eq_append_getElem (by omega), List.take_succ_eq_append_getElem (by omega), ht]
  have : a.data.toList[k]'(by omega) = b.data.toList[k]'(by omega) := he
  rw [this]

set_option maxHeartbeats 1000000 in
theorem pf_walk (a b : ByteArray) (w : World) (hs : a.size ≤ 2147483647) :
    Calls Try.prog 16 #[.string a, .string b] w (fun e w' => Ret (.int .i64 (pf a b : Nat)) (fun w' => Frm [] w w') e w') := by
  have hmin := fun (W : World) (ts : Array TypeId) (ty : TypeId) => run_min2 (w := W) ts ty a.size b.size
  obtain ⟨m, hm⟩ : ∃ m, min a.size b.size = m := ⟨_, rfl⟩
  rw [hm] at hmin
  have hma : m ≤ a.size := by omega
  have hmb : m ≤ b.size := by omega
  have HM := Lib.hid hm
  clear hm
  go_enter Try.func16, Try.ntmps16
  go_wp2_with fail
  clear hmin
  go_loopw [13] (fun i w' => ∃ k : Nat, k ≤ m ∧ i = .int .i64 k ∧ Frm [] w w' ∧ Hid (a.data.toList.take k = b.data.toList.take k)) (fun i _ => m - (intOf i).toNat)
  case atStart => exact ⟨0, by omega, rfl, Frm.refl _ _, Lib.hid (by simp)⟩
  case round =>
    obtain ⟨k, hk, rfl, hF, HT⟩ := hrel
    by_cases hlt : k < m
    · have ha : k < a.size := by omega
      have hb : k < b.size := by omega
      have hb0 : (0 : Int) ≤ (k : Int) := by omega
      by_cases he : a[k] = b[k]
      · have hne : ((a[k].toNat : Int) != (b[k].toNat : Int)) = false := by rw [he]; simp
        have HT2 := Lib.hid (take_step ha hb HT.out he)
        clear he
        go_wp2_with fail
        go_quiet (fail)
        go_wp2
        go_roundw
        case rel => exact ⟨k + 1, by omega, by go_num, hF.drewN _, HT2⟩
        case measure => simp [intOf]; omega
      · have hne : ((a[k].toNat : Int) != (b[k].toNat : Int)) = true := by
          have : a[k].toNat ≠ b[k].toNat := fun h => he (UInt8.toNat_inj.1 h)
          simpa using by omega
        have hp : pf a b = k := by
          have h1 := szl a
          have h2 := szl b
          exact pfx_uniq (by omega) (by omega) HT.out (fun _ _ => he)
        have HP := Lib.hid hp
        clear he hp
        go_wp2_with fail
        go_quiet (fail)
        go_wp2
        go_ret
        exact ⟨by rw [HP.out]; rfl, hF.drewN _⟩
    · obtain rfl : k = m := by omega
      have hp : pf a b = k := by
        have h1 := szl a
        have h2 := szl b
        have := HM.out
        exact pfx_uniq (by omega) (by omega) HT.out (fun h3 h4 => by omega)
      have HP := Lib.hid hp
      clear hp
      go_wp2
      go_ret
      exact ⟨by rw [HP.out]; rfl, hF⟩

theorem cmp_at {a b : ByteArray} {k : Nat} (ha : k < a.size) (hb : k < b.size) (ht : a.data.toList.take k = b.data.toList.take k) :
    cmp a b = if a[k] < b[k] then -1 else if b[k] < a[k] then 1 else cmp a b := by
  have h1 := szl a
  have h2 := szl b
  have e : cmp a b = compareBytes (a.data.toList.drop k) (b.data.toList.drop k) := cmp_drop ht
  have x1 : a.data.toList.drop k = a.data.toList[k]'(by omega) :: a.data.toList.drop (k + 1) := List.drop_eq_getElem_cons (by omega)
  have x2 : b.data.toList.drop k = b.data.toList[k]'(by omega) :: b.data.toList.drop (k + 1) := List.drop_eq_getElem_cons (by omega)
  rw [x1, x2, compareBytes] at e
  have e1 : a.data.toList[k]'(by omega) = a[k] := rfl
  have e2 : b.data.toList[k]'(by omega) = b[k] := rfl
  rw [e1, e2] at e
  split
  · rename_i h; rw [if_pos h] at e; exact e
  · rename_i h
    rw [if_neg h] at e
    split
    · rename_i g; rw [if_pos g] at e; exact e
    · rfl
theorem cmp_end {a b : ByteArray} (ht : a.data.toList.take (min a.size b.size) = b.data.toList.take (min a.size b.size)) :
    cmp a b = if a.size < b.size then -1 else if b.size < a.size then 1 else 0 := by
  have h1 := szl a
  have h2 := szl b
  have e : cmp a b = compareBytes (a.data.toList.drop (min a.size b.size)) (b.data.toList.drop (min a.size b.size)) := cmp_drop ht
  have n1 : ∀ i, a.size ≤ i → a.data.toList.drop i = [] := fun i hi => List.drop_eq_nil_of_le (by omega)
  have n2 : ∀ i, b.size ≤ i → b.data.toList.drop i = [] := fun i hi => List.drop_eq_nil_of_le (by omega)
  rcases Nat.lt_trichotomy a.size b.size with h | h | h
  · rw [n1 _ (by omega), cmp_nil_l, if_neg (by intro g; have := congrArg List.length g; rw [List.length_drop] at this; simp at this; omega)] at e
    rw [if_pos h]; exact e
  · rw [n1 _ (by omega), n2 _ (by omega)] at e
    rw [if_neg (by omega), if_neg (by omega)]; exact e
  · rw [n2 _ (by omega), cmp_nil_r, if_neg (by intro g; have := congrArg List.length g; rw [List.length_drop] at this; simp at this; omega)] at e
    rw [if_neg (by omega), if_pos h]; exact e

set_option maxHeartbeats 2000000 in
theorem rcmp_walk (a b : ByteArray) (w : World) (hs : a.size ≤ 2147483647) (hsb : b.size ≤ 2147483647) :
    Calls Try.prog 15 #[.string a, .string b] w (fun e w' => Ret (.int .i64 (cmp a b)) (fun w' => Frm [] w w') e w') := by
  go_enter Try.func15, Try.ntmps15
  go_wp2_with fail
  go_loopw [5] (fun i w' => ∃ k : Nat, k ≤ a.size ∧ k ≤ b.size ∧ i = .int .i64 k ∧ Frm [] w w' ∧ Hid (a.data.toList.take k = b.data.toList.take k)) (fun i _ => a.size - (intOf i).toNat)
  case atStart => exact ⟨0, by omega, by omega, rfl, Frm.refl _ _, Lib.hid (by simp)⟩
  case round =>
    obtain ⟨k, hka, hkb, rfl, hF, HT⟩ := hrel
    by_cases ha : k < a.size
    · by_cases hb : k < b.size
      · have hb0 : (0 : Int) ≤ (k : Int) := by omega
        have hc := cmp_at ha hb HT.out
        by_cases h1 : a[k] < b[k]
        · rw [if_pos h1] at hc
          have HC := Lib.hid hc
          have hn : a[k].toNat < b[k].toNat := UInt8.lt_iff_toNat_lt.1 h1
          have d1 : decide ((a[k].toNat : Int) < (b[k].toNat : Int)) = true := by simpa using hn
          clear hc h1
          go_wp2_with fail
          go_quiet (fail)
          go_wp2
          go_ret
          exact ⟨by rw [HC.out]; rfl, hF.drewN _⟩
        · rw [if_neg h1] at hc
          have hn : ¬ a[k].toNat < b[k].toNat := fun h => h1 (UInt8.lt_iff_toNat_lt.2 h)
          have d1 : decide ((a[k].toNat : Int) < (b[k].toNat : Int)) = false := by simpa using hn
          by_cases h2 : b[k] < a[k]
          · rw [if_pos h2] at hc
            have HC := Lib.hid hc
            have hn2 : b[k].toNat < a[k].toNat := UInt8.lt_iff_toNat_lt.1 h2
            have d2 : decide ((b[k].toNat : Int) < (a[k].toNat : Int)) = true := by simpa using hn2
            clear hc h1 h2
            go_wp2_with fail
            go_quiet (fail)
            go_wp2
            go_quiet (fail)
            go_wp2
            go_ret
            exact ⟨by rw [HC.out]; rfl, (hF.drewN _).drewN _⟩
          · have HT2 := Lib.hid (take_step ha hb HT.out (u8_tri h1 h2))
            have hn2 : ¬ b[k].toNat < a[k].toNat := fun h => h2 (UInt8.lt_iff_toNat_lt.2 h)
            have d2 : decide ((b[k].toNat : Int) < (a[k].toNat : Int)) = false := by simpa using hn2
            clear hc h1 h2
            go_wp2_with fail
            go_quiet (fail)
            go_wp2
            go_quiet (fail)
            go_wp2
            go_roundw
            case rel => exact ⟨k + 1, by omega, by omega, by go_num, hF.drewN _, HT2⟩
            case measure => simp [intOf]; omega
      · obtain rfl : k = b.size := by omega
        have hc := cmp_end (a := a) (b := b) (by rw [Nat.min_eq_right (by omega)]; exact HT.out)
        rw [if_neg (by omega), if_pos ha] at hc
        have HC := Lib.hid hc
        clear hc
        go_wp2
        go_ret
        exact ⟨by rw [HC.out]; rfl, hF⟩
    · obtain rfl : k = a.size := by omega
      have hc := cmp_end (a := a) (b := b) (by rw [Nat.min_eq_left (by omega)]; exact HT.out)
      by_cases hb : a.size < b.size
      · rw [if_pos hb] at hc
        have HC := Lib.hid hc
        clear hc
        go_wp2
        go_ret
        exact ⟨by rw [HC.out]; rfl, hF⟩
      · rw [if_neg hb, if_neg (by omega)] at hc
        have HC := Lib.hid hc
        clear hc
        go_wp2
        go_ret
        exact ⟨by rw [HC.out]; rfl, hF⟩
end Go.Proofs.Ytembnakhcggbpaa
