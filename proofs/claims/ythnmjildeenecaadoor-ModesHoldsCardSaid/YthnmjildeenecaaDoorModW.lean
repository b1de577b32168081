/- Package modes: Word, ByWord; the reference's Word; word, byWord. -/
import Derived.Test.YthnmjildeenecaaDoorModH
namespace Go.Proofs.YthnmjildeenecaaDoor
open Go.ChangeShapes Go.WideShapes Go.ChangeAt Go.RowKit

/-- The word of a mode; the mode of a word; the error. -/
def w1 : ByteArray := ⟨#[115, 104, 97, 114, 101, 100]⟩
def w2 : ByteArray := ⟨#[117, 112, 100, 97, 116, 101]⟩
def w3 : ByteArray := ⟨#[101, 120, 99, 108, 117, 115, 105, 118, 101]⟩
def noW : ByteArray := ⟨#[]⟩
def wstr (m : Int) : ByteArray := if m = 1 then w1 else if m = 2 then w2 else if m = 3 then w3 else noW
def werr (m : Int) : Int := if vm m = true then 0 else 2
def bw (s : ByteArray) : Int := if s = w1 then 1 else if s = w2 then 2 else if s = w3 then 3 else 0
def bwe (s : ByteArray) : Int := if bw s = 0 then 6 else 0
theorem wstr_bad {m : Int} (h : vm m = false) : wstr m = noW := by
  have := vm_not.1 h
  unfold wstr; rw [if_neg (by omega), if_neg (by omega), if_neg (by omega)]
theorem bw_wstr {m : Int} (h : vm m = true) : bw (wstr m) = m ∧ bwe (wstr m) = 0 := by
  rcases vm_cases h with rfl | rfl | rfl <;> decide +kernel
theorem ba_tl {a b : ByteArray} : a.toList = b.toList ↔ a = b := by
  rw [ByteArray.toList_eq, ByteArray.toList_eq]
  constructor
  · intro h; exact ByteArray.ext (Array.toList_inj.1 h)
  · rintro rfl; rfl
theorem str_eq {a b : ByteArray} : (a.toList == b.toList) = decide (a = b) := by
  by_cases e : a = b
  · subst e; simp
  · have : ¬ a.toList = b.toList := fun h => e (ba_tl.1 h)
    simp [e, this]

theorem word_any {w : World} (hL : Laid w) (m : Int) : Calls Tryd.prog 24 #[.int .i64 m] w (Ret (.tuple #[.string (wstr m), .int .i64 (werr m)]) (fun w' => w = w')) := by
  have c1 : w.cell? ⟨1, 1, none⟩ = some (.string w1) := hL.wd 1 _ rfl
  have c2 : w.cell? ⟨1, 2, none⟩ = some (.string w2) := hL.wd 2 _ rfl
  have c3 : w.cell? ⟨1, 3, none⟩ = some (.string w3) := hL.wd 3 _ rfl
  by_cases hv : vm m = true
  · have he : werr m = 0 := if_pos hv
    rw [he]
    rcases vm_cases hv with rfl | rfl | rfl
    · rw [show wstr 1 = w1 from rfl]
      have HV := Lib.hid hv
      clear hv he hL
      go_enter Tryd.func24, Tryd.ntmps24
      go_wp2_with (go_at_call 9; refine (valid_any _ _).mono ?_; rintro e w' ⟨rfl, rfl⟩; rw [HV.out])
      go_ret2
      exact ⟨rfl, rfl⟩
    · rw [show wstr 2 = w2 from rfl]
      have HV := Lib.hid hv
      clear hv he hL
      go_enter Tryd.func24, Tryd.ntmps24
      go_wp2_with (go_at_call 9; refine (valid_any _ _).mono ?_; rintro e w' ⟨rfl, rfl⟩; rw [HV.out])
      go_ret2
      exact ⟨rfl, rfl⟩
    · rw [show wstr 3 = w3 from rfl]
      have HV := Lib.hid hv
      clear hv he hL
      go_enter Tryd.func24, Tryd.ntmps24
      go_wp2_with (go_at_call 9; refine (valid_any _ _).mono ?_; rintro e w' ⟨rfl, rfl⟩; rw [HV.out])
      go_ret2
      exact ⟨rfl, rfl⟩
  · have he : werr m = 2 := if_neg hv
    have hv : vm m = false := by simpa using hv
    rw [he, wstr_bad hv]
    have HV := Lib.hid hv
    clear hv he hL
    go_enter Tryd.func24, Tryd.ntmps24
    go_wp2_with (go_at_call 9; refine (valid_any _ _).mono ?_; rintro e w' ⟨rfl, rfl⟩; rw [HV.out])
    go_ret2
    exact ⟨rfl, rfl⟩
theorem rword_any (w : World) (m : Int) : Calls Tryd.prog 15 #[.int .i64 m] w (Ret (.string (wstr m)) (fun w' => w = w')) := by
  by_cases h1 : m = 1
  · subst h1
    rw [show wstr 1 = w1 from rfl]
    go_enter Tryd.func15, Tryd.ntmps15
    go_wp2
    go_ret
    exact ⟨rfl, rfl⟩
  · have e1 : (m == 1) = false := by simpa using h1
    by_cases h2 : m = 2
    · subst h2
      rw [show wstr 2 = w2 from rfl]
      clear h1 e1
      go_enter Tryd.func15, Tryd.ntmps15
      go_wp2
      go_ret
      exact ⟨rfl, rfl⟩
    · have e2 : (m == 2) = false := by simpa using h2
      by_cases h3 : m = 3
      · subst h3
        rw [show wstr 3 = w3 from rfl]
        clear h1 e1 h2 e2
        go_enter Tryd.func15, Tryd.ntmps15
        go_wp2
        go_ret
        exact ⟨rfl, rfl⟩
      · have e3 : (m == 3) = false := by simpa using h3
        rw [show wstr m = noW by unfold wstr; rw [if_neg h1, if_neg h2, if_neg h3]]
        clear h1 h2 h3
        go_enter Tryd.func15, Tryd.ntmps15
        go_wp2
        go_ret
        exact ⟨rfl, rfl⟩

set_option maxHeartbeats 4000000 in
theorem byword_any {w : World} (hL : Laid w) (s : ByteArray) : Calls Tryd.prog 25 #[.string s] w (Ret (.tuple #[.int .i64 (bw s), .int .i64 (bwe s)]) (fun w' => w = w')) := by
  have c1 : w.cell? ⟨1, 1, none⟩ = some (.string w1) := hL.wd 1 _ rfl
  have c2 : w.cell? ⟨1, 2, none⟩ = some (.string w2) := hL.wd 2 _ rfl
  have c3 : w.cell? ⟨1, 3, none⟩ = some (.string w3) := hL.wd 3 _ rfl
  have b1 : s = w1 → bw s = 1 ∧ bwe s = 0 := fun h => by subst h; decide +kernel
  have b2 : s ≠ w1 → s = w2 → bw s = 2 ∧ bwe s = 0 := fun _ h => by subst h; decide +kernel
  have b3 : s ≠ w1 → s ≠ w2 → s = w3 → bw s = 3 ∧ bwe s = 0 := fun _ _ h => by subst h; decide +kernel
  have b4 : s ≠ w1 → s ≠ w2 → s ≠ w3 → bw s = 0 ∧ bwe s = 6 := fun h1 h2 h3 => by
    have e : bw s = 0 := by unfold bw; rw [if_neg h1, if_neg h2, if_neg h3]
    exact ⟨e, if_pos e⟩
  generalize bw s = R at b1 b2 b3 b4 ⊢
  generalize bwe s = E at b1 b2 b3 b4 ⊢
  have B1 := Lib.hid b1
  have B2 := Lib.hid b2
  have B3 := Lib.hid b3
  have B4 := Lib.hid b4
  clear b1 b2 b3 b4 hL
  go_enter Tryd.func25, Tryd.ntmps25
  go_wp2_with fail
  go_loop [4] (fun i => i = .int .i64 1 ∨ (i = .int .i64 2 ∧ Hid (s ≠ w1)) ∨ (i = .int .i64 3 ∧ Hid (s ≠ w1 ∧ s ≠ w2)) ∨ (i = .int .i64 4 ∧ Hid (s ≠ w1 ∧ s ≠ w2 ∧ s ≠ w3))) (fun i => 4 - (intOf i).toNat)
  case atStart => exact .inl rfl
  case round =>
    obtain rfl | ⟨rfl, H⟩ | ⟨rfl, H⟩ | ⟨rfl, H⟩ := hrel
    · by_cases hs : s = w1
      · obtain ⟨rfl, rfl⟩ := B1.out hs
        have d : (s.toList == w1.toList) = true := by rw [str_eq]; simpa using hs
        clear hs
        go_wp2
        go_ret2
        exact ⟨rfl, rfl⟩
      · have d : (s.toList == w1.toList) = false := by rw [str_eq]; simpa using hs
        have HS := Lib.hid hs
        clear hs
        go_wp2
        go_round
        case rel => exact .inr (.inl ⟨rfl, HS⟩)
        case measure => simp [intOf]
    · by_cases hs : s = w2
      · obtain ⟨rfl, rfl⟩ := B2.out H.out hs
        have d : (s.toList == w2.toList) = true := by rw [str_eq]; simpa using hs
        clear hs
        go_wp2
        go_ret2
        exact ⟨rfl, rfl⟩
      · have d : (s.toList == w2.toList) = false := by rw [str_eq]; simpa using hs
        have HS := Lib.hid hs
        clear hs
        go_wp2
        go_round
        case rel => exact .inr (.inr (.inl ⟨rfl, Lib.hid ⟨H.out, HS.out⟩⟩))
        case measure => simp [intOf]
    · by_cases hs : s = w3
      · obtain ⟨rfl, rfl⟩ := B3.out H.out.1 H.out.2 hs
        have d : (s.toList == w3.toList) = true := by rw [str_eq]; simpa using hs
        clear hs
        go_wp2
        go_ret2
        exact ⟨rfl, rfl⟩
      · have d : (s.toList == w3.toList) = false := by rw [str_eq]; simpa using hs
        have HS := Lib.hid hs
        clear hs
        go_wp2
        go_round
        case rel => exact .inr (.inr (.inr ⟨rfl, Lib.hid ⟨H.out.1, H.out.2, HS.out⟩⟩))
        case measure => simp [intOf]
    · obtain ⟨rfl, rfl⟩ := B4.out H.out.1 H.out.2.1 H.out.2.2
      go_wp2
      go_ret2
      exact ⟨rfl, rfl⟩

theorem word_ok {w : World} (hL : Laid w) {m no : Int} {want : ByteArray} (h1 : wstr m = want) (h2 : werr m = no) : Calls Tryd.prog 13 #[.int .i64 m, .string want, .int .i64 no] w (Ret (.bool true) (fun w' => w = w')) := by
  subst h1 h2
  have HL := Lib.hid hL
  clear hL
  go_enter Tryd.func13, Tryd.ntmps13
  go_wp2_with fail
  refine (word_any HL.out _).mono ?_
  rintro e w' ⟨rfl, rfl⟩
  go_wp2_with fail
  go_ret
  exact ⟨rfl, rfl⟩
theorem byword_ok {w : World} (hL : Laid w) {s : ByteArray} {want no : Int} (h1 : bw s = want) (h2 : bwe s = no) : Calls Tryd.prog 16 #[.string s, .int .i64 want, .int .i64 no] w (Ret (.bool true) (fun w' => w = w')) := by
  subst h1 h2
  have HL := Lib.hid hL
  clear hL
  go_enter Tryd.func16, Tryd.ntmps16
  go_wp2_with fail
  refine (byword_any HL.out _).mono ?_
  rintro e w' ⟨rfl, rfl⟩
  go_wp2_with fail
  go_ret
  exact ⟨rfl, rfl⟩
theorem list_any (w : World) (a : Option Addr) (n c : Nat) : Calls Tryd.prog 23 #[.slice a n c] w (Ret (.slice a n c) (fun w' => w = w')) := by
  go_enter Tryd.func23, Tryd.ntmps23
  go_wp2_with fail
  go_ret
  exact ⟨rfl, rfl⟩
#print axioms byword_ok
end Go.Proofs.YthnmjildeenecaaDoor
