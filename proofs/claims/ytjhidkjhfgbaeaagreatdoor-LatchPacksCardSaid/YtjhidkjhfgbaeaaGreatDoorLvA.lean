/- Package latch: bitsOf, Pack; the law's packs. -/
import Derived.Test.YtjhidkjhfgbaeaaGreatDoorLuV
namespace Go.Proofs.YtjhidkjhfgbaeaaGreatDoor
open Go.ChangeShapes Go.WideShapes Go.ChangeAt Go.RowKit
set_option linter.unusedVariables false
set_option linter.unusedSimpArgs false
/-- The bits of threads in increasing order, behind b, if they are. -/
def btF : Int → Nat → List Int → Option Nat
  | _, acc, [] => some acc
  | b, acc, t :: l => if t ≤ b ∨ 64 ≤ t then none else btF t (acc ||| 2 ^ t.toNat) l
/-- What bitsOf returns. -/
def btV (xs : List Int) : Value := match btF (-1) 0 xs with
  | some x => .tuple #[.int .u64 (x : Int), .bool true]
  | none => .tuple #[.int .u64 0, .bool false]
theorem btF_lt : ∀ (xs : List Int) (b : Int) (acc x : Nat), -1 ≤ b → acc < 18446744073709551616 → btF b acc xs = some x → x < 18446744073709551616
  | [], b, acc, x, _, h, e => by simp [btF] at e; omega
  | t :: l, b, acc, x, hb, h, e => by
    simp only [btF] at e
    split at e
    · cases e
    · exact btF_lt l t _ x (by omega) (Nat.or_lt_two_pow (n := 64) h (two_lt t.toNat (by omega))) e
section
variable {w : World} {a : Option Addr} {n c b o : Nat} {xs : List Int}
set_option maxRecDepth 100000 in
set_option maxHeartbeats 1000000 in
theorem bitsOf_any (h : Li .i64 w a n c b o xs) (hn : n ≤ 1000000) :
    Calls Tryz.prog 74 #[.slice a n c] w (Ret (btV xs) (fun w' => w = w')) := by
  have H := Lib.hid h
  clear h
  go_enter Tryz.func74, Tryz.ntmps74
  go_wp2_with fail
  go_loopw [4, 5, 10] (fun p q i wr => ∃ (k acc : Nat) (bf : Int), k ≤ n ∧ p = .int .i64 bf ∧ q = .int .u64 (acc : Int) ∧ i = .int .i64 (k : Int) ∧ -1 ≤ bf ∧ bf < 64 ∧ acc < 18446744073709551616 ∧ btF bf acc (xs.drop k) = btF (-1) 0 xs ∧ wr = w) (fun _ _ i _ => n - (intOf i).toNat)
  case atStart => exact ⟨0, 0, -1, Nat.zero_le _, rfl, rfl, rfl, by decide, by decide, by decide, by simp, rfl⟩
  case round =>
    obtain ⟨k, acc, bf, hk, rfl, rfl, rfl, hb1, hb2, hacc, hbt, rfl⟩ := hrel
    by_cases hlt : k < n
    · obtain ⟨x, hx, _, cx⟩ := H.out.get hlt
      have i1 := fun W => ix_in (c := c) H.out.ad hlt W
      have hd : xs.drop k = x :: xs.drop (k + 1) := List.drop_eq_getElem_cons (by have := H.out.len; omega) |>.trans (by rw [(List.getElem?_eq_some_iff.1 hx).2])
      rw [hd] at hbt
      simp only [btF] at hbt
      have bl1 := World.block_lt_of_cell? wr _ cx
      by_cases hx1 : x ≤ bf
      · rw [if_pos (.inl hx1)] at hbt
        have hle : decide (x ≤ bf) = true := by simpa using hx1
        have HBT := Lib.hid hbt
        clear hx hd hbt hx1
        go_wp2_with fail
        go_ret2
        exact ⟨by rw [btV, ← HBT.out]; rfl, rfl⟩
      · have hle : decide (x ≤ bf) = false := by simpa using hx1
        by_cases hx2 : 64 ≤ x
        · rw [if_pos (.inr hx2)] at hbt
          have hle2 : decide (64 ≤ x) = true := by simpa using hx2
          have HBT := Lib.hid hbt
          clear hx hd hbt hx1 hx2
          go_wp2_with fail
          go_ret2
          exact ⟨by rw [btV, ← HBT.out]; rfl, rfl⟩
        · rw [if_neg (by omega)] at hbt
          have hle2 : decide (64 ≤ x) = false := by simpa using hx2
          obtain ⟨j, rfl⟩ := Int.eq_ofNat_of_zero_le (show 0 ≤ x by omega)
          have hj : j < 64 := by omega
          have e1 := u64_bis acc j hacc hj
          rw [Int.toNat_natCast] at hbt
          have hor : acc ||| 2 ^ j < 18446744073709551616 := Nat.or_lt_two_pow (n := 64) hacc (two_lt j hj)
          have HBT := Lib.hid hbt
          have HOR := Lib.hid hor
          have hsh : decide ((j : Int) < 0) = false := by simp
          clear hx hd hbt hor
          go_wp2_with fail
          go_roundw
          case rel => exact ⟨k + 1, acc ||| 2 ^ j, (j : Int), by omega, rfl, by first | rfl | rw [e1], by go_num, by omega, by omega, HOR.out, HBT.out, by first | rfl | trivial⟩
          case measure => simp [intOf]; omega
    · obtain rfl : k = n := by omega
      have hd : xs.drop k = [] := List.drop_eq_nil_of_le (by have := H.out.len; omega)
      rw [hd] at hbt
      simp only [btF] at hbt
      have HBT := Lib.hid hbt
      clear hbt hd
      go_wp2
      go_ret2
      exact ⟨by rw [btV, ← HBT.out]; rfl, rfl⟩
end
end Go.Proofs.YtjhidkjhfgbaeaaGreatDoor
