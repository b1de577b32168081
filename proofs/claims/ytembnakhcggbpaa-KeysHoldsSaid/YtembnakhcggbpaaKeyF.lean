/- After, of the package and of its reference. -/
import Derived.Test.YtembnakhcggbpaaKeyE
namespace Go.Proofs.Ytembnakhcggbpaa
open Go.ChangeShapes Go.WideShapes Go.ChangeAt Go.RowKit
open Go.Lib (compareBytes)

abbrev noB : ByteArray := ⟨#[]⟩
def aftS (s : ByteArray) : ByteArray := (aft s).getD noB
def aftE (s : ByteArray) : Int := if aft s = none then 9 else 0
theorem ext_get {s : ByteArray} {j : Nat} (h : j < s.size) : s.data.toList.getD j 0 = s[j] := by
  have := szl s
  rw [getD_get (by omega)]; rfl

theorem up_one (x : UInt8) : [UInt8.ofNat ((x.toNat : Int) + 1).toNat] = [x + 1] := by
  rw [show ((x.toNat : Int) + 1).toNat = x.toNat + 1 by omega, List.cons.injEq]
  exact ⟨UInt8.toNat_inj.1 (by simp), rfl⟩
theorem str_up {s : ByteArray} {j : Nat} (hj : j < s.size) : strOfNums ((List.range j).map (sb s) ++ [(s[j].toNat : Int) + 1]) = s.extract 0 j ++ ⟨#[s[j] + 1]⟩ := by
  have hl := szl s
  apply ByteArray.ext
  apply Array.toList_inj.1
  rw [strOfNums_data, data_append, data_take, List.map_append]
  congr 1
  · apply List.ext_getElem
    · simp; omega
    · intro i h1 h2
      have hi : i < j := by simpa using h1
      simp only [List.map_map, List.getElem_map, List.getElem_range, Function.comp, List.getElem_take]
      rw [sb_get (by omega)]
      simp; rfl
theorem conv_up (s : ByteArray) {j : Nat} (hj : j < s.size) (w : World) : ∃ (C : Nat) (Y : World),
    (convert 9 50 (.string (s.extract 0 (j + 1)))).run Try.prog w = .ok (.slice (some ⟨w.heap.size, 0, none⟩) ((j + 1 : Nat) : Nat) C) Y ∧ Frm [] w Y ∧
    Y.cell? ⟨w.heap.size, j, none⟩ = some (.int .u8 (s[j].toNat : Int)) ∧ Y.frozen? ⟨w.heap.size, j, none⟩ = false ∧
    (convert 50 9 (.slice (some ⟨w.heap.size, 0, none⟩) (j + 1) C)).run Try.prog (Y.setCell ⟨w.heap.size, j, none⟩ (.int .u8 ((s[j].toNat : Int) + 1))) =
      .ok (.string (s.extract 0 j ++ ⟨#[s[j] + 1]⟩)) (Y.setCell ⟨w.heap.size, j, none⟩ (.int .u8 ((s[j].toNat : Int) + 1))) := by
  have hcv := run_bytes_of_string (P := Try.prog) w 9 50 5 (s.extract 0 (j + 1)) Try.underlying9 Try.underlying50 Try.underlying5
  have hsz2 : (s.extract 0 (j + 1)).size = j + 1 := by rw [ByteArray.size_extract]; omega
  generalize grownCap w (s.extract 0 (j + 1)).size 0 5 = C at hcv
  have hrow : ∀ i, i < j + 1 → (bytesRow (s.extract 0 (j + 1)) C)[i]? = some (.int .u8 (sb s i)) := by
    intro i hi
    have := bytesRow_at (s.extract 0 (j + 1)) C i (by show i < (s.extract 0 (j + 1)).size; omega)
    rw [this, sb_get (by omega)]
    simp; rfl
  generalize bytesRow (s.extract 0 (j + 1)) C = R at hcv hrow
  rw [hsz2] at hcv
  have hb : (w.drew.alloc (.cells R 5 (R.size, R.size + 1))).heap[w.heap.size]? = some (.cells R 5 (R.size, R.size + 1)) := heap_alloc_new w _
  have hRs : j < R.size := (Array.getElem?_eq_some_iff.1 (hrow j (by omega))).1
  have hFY : Frm [] w (w.drew.alloc (.cells R 5 (R.size, R.size + 1))) := (Frm.refl _ _).drew.alloc _
  generalize w.drew.alloc (.cells R 5 (R.size, R.size + 1)) = Y at hcv hb hFY
  refine ⟨C, Y, hcv, hFY, ?_, ?_, ?_⟩
  · rw [cell_of_heap hb, hrow j (by omega), sb_get hj]
  · simp [World.frozen?, hb]; omega
  · have := run_convert_bytes_arg (P := Try.prog) (Y.setCell ⟨w.heap.size, j, none⟩ (.int .u8 ((s[j].toNat : Int) + 1))) 50 5 Try.underlying50 Try.underlying5 w.heap.size 0 (j + 1) C ((List.range j).map (sb s) ++ [(s[j].toNat : Int) + 1]) (by simp)
      (fun i hi => by
        rw [cell_of_heap (heap_setCell_at _ hb), Nat.zero_add, Array.getElem?_setIfInBounds]
        by_cases e : j = i
        · subst e
          rw [if_pos rfl, if_pos hRs]
          simp
        · rw [if_neg e, hrow i hi]
          have : i < j := by omega
          simp [List.getD_eq_getElem?_getD, List.getElem?_append_left, this]) 9 Try.underlying9
    rw [str_up hj] at this
    exact this
set_option maxHeartbeats 2000000 in
theorem after_loop (s : ByteArray) (w : World) (hs : s.size ≤ 2147483647) (hk : vk s = true) (h24 : ¬ s.size < 24) :
    Calls Try.prog 29 #[.string s] w (Ret (.tuple #[.string (aftS s), .int .i64 (aftE s)]) (fun w' => Frm [] w w')) := by
  have hv := fun W => key_walk s W
  rw [hk] at hv
  have HV := Lib.hid hv
  have d1 : decide ((s.size : Int) < 24) = false := by simp; omega
  have hsz : 24 ≤ s.size := by omega
  have HA : Hid (aft s = if tn s = 0 then none else some (s.extract 0 (tn s - 1) ++ ⟨#[s.data.toList.getD (tn s - 1) 0 + 1]⟩)) := Lib.hid (by unfold aft; rw [if_neg h24])
  clear hv hk h24
  go_enter Try.func29, Try.ntmps29
  go_wp2_with fail
  refine (HV.out _).mono ?_
  rintro e w' ⟨rfl, rfl⟩
  go_wp2
  go_loopw [4] (fun n w' => ∃ k : Nat, k ≤ s.size ∧ n = .int .i64 k ∧ Frm [] w w' ∧ Hid (trN s.data.toList k = tn s)) (fun n _ => (intOf n).toNat)
  case atStart => exact ⟨s.size, Nat.le_refl _, rfl, Frm.refl _ _, Lib.hid rfl⟩
  case round =>
    obtain ⟨k, hk, rfl, hF, HT⟩ := hrel
    rcases k with _ | j
    · have hE : aft s = none := by
        rw [HA.out, if_pos]; rw [← HT.out]; rfl
      have h1 : aftS s = noB := by unfold aftS; rw [hE]; rfl
      have h2 : aftE s = 9 := by unfold aftE; rw [if_pos hE]
      have H1 := Lib.hid h1
      have H2 := Lib.hid h2
      clear hE h1 h2
      go_wp2
      go_ret2
      exact ⟨by rw [H1.out, H2.out]; rfl, hF⟩
    · have hj : j < s.size := by omega
      have htr : trN s.data.toList (j + 1) = if s.data.toList.getD j 0 = 255 then trN s.data.toList j else j + 1 := rfl
      rw [HT.out, ext_get hj] at htr
      by_cases he : s[j] = 255
      · have d2 : ((s[j].toNat : Int) == 255) = true := by rw [he]; rfl
        rw [if_pos he] at htr
        have HT2 := Lib.hid htr.symm
        clear htr he
        go_wp2_with fail
        go_roundw
        case rel => exact ⟨j, by omega, rfl, hF, HT2⟩
        case measure => simp [intOf]
      · have d2 : ((s[j].toNat : Int) == 255) = false := by
          have : s[j].toNat ≠ 255 := fun h => he (UInt8.toNat_inj.1 h)
          simpa using by omega
        rw [if_neg he] at htr
        have hE : aft s = some (s.extract 0 j ++ ⟨#[s[j] + 1]⟩) := by
          rw [HA.out, if_neg (by omega), htr, Nat.add_sub_cancel, ext_get hj]
        have h1 : aftS s = s.extract 0 j ++ ⟨#[s[j] + 1]⟩ := by unfold aftS; rw [hE]; rfl
        have h2 : aftE s = 0 := by unfold aftE; rw [if_neg (by rw [hE]; simp)]
        have hup := u8_succ he
        have hlt := s[j].toNat_lt
        have H1 := Lib.hid h1
        have H2 := Lib.hid h2
        obtain ⟨C, Y, hcv, hFY0, hcell, hfr, hcv2⟩ := conv_up s hj wr
        have hFY : Frm [] w Y := hF.trans hFY0
        have hwge : w.heap.size ≤ wr.heap.size := hF.size
        obtain ⟨g, hg⟩ : ∃ g, wr.heap.size = g := ⟨_, rfl⟩
        rw [hg] at hcv hcell hfr hcv2 hwge
        have hne : s[j].toNat ≤ 254 := by
          have : s[j].toNat ≠ 255 := fun h => he (UInt8.toNat_inj.1 h)
          omega
        have hwr : IntKind.u8.wrap ((s[j].toNat : Int) + 1) = (s[j].toNat : Int) + 1 := by
          rw [IntKind.wrap_u8']; omega
        have HFY := Lib.hid hFY
        clear hg hFY hFY0 hE h1 h2 hup htr he hF
        go_wp2_with fail
        go_ret2
        exact ⟨by rw [H1.out, H2.out]; rfl, HFY.out.setCell _ _ (.inr hwge)⟩

theorem after_short (s : ByteArray) (w : World) (hk : vk s = true) (h24 : s.size < 24) :
    Calls Try.prog 29 #[.string s] w (Ret (.tuple #[.string (aftS s), .int .i64 (aftE s)]) (fun w' => Frm [] w w')) := by
  have hv := fun W => key_walk s W
  rw [hk] at hv
  have HV := Lib.hid hv
  have hE : aft s = some (s ++ ⟨#[0]⟩) := by unfold aft; rw [if_pos h24]
  have h1 : aftS s = s ++ ⟨#[0]⟩ := by unfold aftS; rw [hE]; rfl
  have h2 : aftE s = 0 := by unfold aftE; rw [if_neg (by rw [hE]; simp)]
  have H1 := Lib.hid h1
  have H2 := Lib.hid h2
  have d1 : decide ((s.size : Int) < 24) = true := by simp; omega
  clear hv hk hE h1 h2
  go_enter Try.func29, Try.ntmps29
  go_wp2_with fail
  refine (HV.out _).mono ?_
  rintro e w' ⟨rfl, rfl⟩
  go_wp2
  go_ret2
  exact ⟨by rw [H1.out, H2.out]; rfl, Frm.refl _ _⟩
theorem after_any (s : ByteArray) (w : World) (hk : vk s = true) :
    Calls Try.prog 29 #[.string s] w (Ret (.tuple #[.string (aftS s), .int .i64 (aftE s)]) (fun w' => Frm [] w w')) := by
  have h := vk_iff.1 hk
  by_cases h24 : s.size < 24
  · exact after_short s w hk h24
  · exact after_loop s w (by omega) hk h24
theorem after_arg (s : ByteArray) (w : World) (hk : vk s = false) :
    Calls Try.prog 29 #[.string s] w (Ret (.tuple #[.string noB, .int .i64 2]) (fun w' => Frm [] w w')) := by
  have hv := fun W => key_walk s W
  rw [hk] at hv
  have HV := Lib.hid hv
  clear hv hk
  go_enter Try.func29, Try.ntmps29
  go_wp2_with fail
  refine (HV.out _).mono ?_
  rintro e w' ⟨rfl, rfl⟩
  go_wp2
  go_ret2
  exact ⟨rfl, Frm.refl _ _⟩

theorem conv_one {w : World} {g : Nat} {x : Int} (h : w.heap[g]? = some (.cells #[.int .u8 x] 5 (0, 0))) :
    (convert 50 9 (.slice (some ⟨g, 0, none⟩) 1 1)).run Try.prog w = .ok (.string (strOfNums [x])) w :=
  run_convert_bytes_arg w 50 5 Try.underlying50 Try.underlying5 g 0 1 1 [x] rfl (fun i hi => by
    rw [cell_of_heap h]
    obtain rfl : i = 0 := by omega
    rfl) 9 Try.underlying9
theorem rafter_short (s : ByteArray) (w : World) (h24 : s.size < 24) :
    Calls Try.prog 26 #[.string s] w (Ret (.tuple #[.string (aftS s), .int .i64 (aftE s)]) (fun w' => Frm [] w w')) := by
  have hE : aft s = some (s ++ ⟨#[0]⟩) := by unfold aft; rw [if_pos h24]
  have h1 : aftS s = s ++ ⟨#[0]⟩ := by unfold aftS; rw [hE]; rfl
  have h2 : aftE s = 0 := by unfold aftE; rw [if_neg (by rw [hE]; simp)]
  have H1 := Lib.hid h1
  have H2 := Lib.hid h2
  have d1 : decide ((s.size : Int) < 24) = true := by simp; omega
  have hcv := conv_one (w := w.alloc (.cells #[.int .u8 0] 5)) (heap_alloc_new w _)
  have e0 : strOfNums [0] = ⟨#[0]⟩ := rfl
  rw [e0] at hcv
  clear hE h1 h2 e0
  go_enter Try.func26, Try.ntmps26
  go_wp2_with fail
  go_ret2
  exact ⟨by rw [H1.out, H2.out]; rfl, (Frm.refl _ _).alloc _⟩
set_option maxHeartbeats 2000000 in
theorem rafter_loop (s : ByteArray) (w : World) (hs : s.size ≤ 2147483647) (h24 : ¬ s.size < 24) :
    Calls Try.prog 26 #[.string s] w (Ret (.tuple #[.string (aftS s), .int .i64 (aftE s)]) (fun w' => Frm [] w w')) := by
  have d1 : decide ((s.size : Int) < 24) = false := by simp; omega
  have hsz : 24 ≤ s.size := by omega
  have HA : Hid (aft s = if tn s = 0 then none else some (s.extract 0 (tn s - 1) ++ ⟨#[s.data.toList.getD (tn s - 1) 0 + 1]⟩)) := Lib.hid (by unfold aft; rw [if_neg h24])
  clear h24
  go_enter Try.func26, Try.ntmps26
  go_wp2_with fail
  go_loopw [4] (fun n w' => ∃ k : Nat, k ≤ s.size ∧ n = .int .i64 k ∧ Frm [] w w' ∧ Hid (trN s.data.toList k = tn s)) (fun n _ => (intOf n).toNat)
  case atStart => exact ⟨s.size, Nat.le_refl _, rfl, Frm.refl _ _, Lib.hid rfl⟩
  case round =>
    obtain ⟨k, hk, rfl, hF, HT⟩ := hrel
    rcases k with _ | j
    · have hE : aft s = none := by
        rw [HA.out, if_pos]; rw [← HT.out]; rfl
      have h1 : aftS s = noB := by unfold aftS; rw [hE]; rfl
      have h2 : aftE s = 9 := by unfold aftE; rw [if_pos hE]
      have H1 := Lib.hid h1
      have H2 := Lib.hid h2
      clear hE h1 h2
      go_wp2
      go_ret2
      exact ⟨by rw [H1.out, H2.out]; rfl, hF⟩
    · have hj : j < s.size := by omega
      have htr : trN s.data.toList (j + 1) = if s.data.toList.getD j 0 = 255 then trN s.data.toList j else j + 1 := rfl
      rw [HT.out, ext_get hj] at htr
      by_cases he : s[j] = 255
      · have d2 : ((s[j].toNat : Int) == 255) = true := by rw [he]; rfl
        rw [if_pos he] at htr
        have HT2 := Lib.hid htr.symm
        clear htr he
        go_wp2_with fail
        go_roundw
        case rel => exact ⟨j, by omega, rfl, hF, HT2⟩
        case measure => simp [intOf]
      · have d2 : ((s[j].toNat : Int) == 255) = false := by
          have : s[j].toNat ≠ 255 := fun h => he (UInt8.toNat_inj.1 h)
          simpa using by omega
        rw [if_neg he] at htr
        have hE : aft s = some (s.extract 0 j ++ ⟨#[s[j] + 1]⟩) := by
          rw [HA.out, if_neg (by omega), htr, Nat.add_sub_cancel, ext_get hj]
        have h1 : aftS s = s.extract 0 j ++ ⟨#[s[j] + 1]⟩ := by unfold aftS; rw [hE]; rfl
        have h2 : aftE s = 0 := by unfold aftE; rw [if_neg (by rw [hE]; simp)]
        have hup := u8_succ he
        have hlt := s[j].toNat_lt
        have H1 := Lib.hid h1
        have H2 := Lib.hid h2
        have hne : s[j].toNat ≤ 254 := by
          have : s[j].toNat ≠ 255 := fun h => he (UInt8.toNat_inj.1 h)
          omega
        have hwr : IntKind.u8.wrap ((s[j].toNat : Int) + 1) = (s[j].toNat : Int) + 1 := by
          rw [IntKind.wrap_u8']; omega
        have e0 : strOfNums [(s[j].toNat : Int) + 1] = ⟨#[s[j] + 1]⟩ := by
          apply ByteArray.ext
          apply Array.toList_inj.1
          exact up_one s[j]
        have hcv := fun (W : World) => conv_one (w := W.alloc (.cells #[.int .u8 ((s[j].toNat : Int) + 1)] 5)) (heap_alloc_new W _)
        rw [e0] at hcv
        have hcv2 := fun (W : World) => conv_one (w := (W.alloc (.cells #[.int .u8 ((s[j].toNat : Int) + 1)] 5)).drew) (heap_alloc_new W _)
        rw [e0] at hcv2
        clear hE h1 h2 hup htr he e0
        go_wp2_with fail
        have hw1 : IntKind.i64.wrap (((j + 1 : Nat) : Int) - 1) = (j : Int) := by rw [IntWalk.i64_in _ (by omega)]; omega
        go_region
        go_wp2
        go_ret2
        exact ⟨by rw [H1.out, H2.out]; rfl, (hF.alloc _).drew⟩
end Go.Proofs.Ytembnakhcggbpaa
