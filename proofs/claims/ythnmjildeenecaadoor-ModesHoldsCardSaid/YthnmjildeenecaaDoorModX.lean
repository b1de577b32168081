/- The walks of ModesFits, ModesAlls, ModesGoes, ModesWords. -/
import Derived.Test.YthnmjildeenecaaDoorModK
namespace Go.Proofs.YthnmjildeenecaaDoor
open Go.ChangeShapes Go.WideShapes Go.ChangeAt Go.RowKit

theorem bel {w w' : World} (h : Frm [] w w') : Below w.heap.size w w' := h.below (Nat.le_refl _) (by simp)

set_option maxHeartbeats 4000000 in
theorem walk_ModesFits (a : Int) (_ : (Lit.int .i64 a).wf = true) (b : Int) (_ : (Lit.int .i64 b).wf = true) (W : World) (hW : Laid W) :
    Calls Tryd.prog 3 #[.int .i64 a, .int .i64 b] W (Ret (.bool true) (fun w' => Below W.heap.size W w')) := by
  have HW := Lib.hid hW
  clear hW
  cases hv : vm a with
  | false =>
    have HV := Lib.hid hv
    have hs : werr a = 2 := if_neg (by rw [hv]; simp)
    have HS := Lib.hid hs
    clear hs hv
    go_enter Tryd.func3, Tryd.ntmps3
    go_wp2_with fail
    refine (valid_any _ _).mono ?_
    rintro e w' ⟨rfl, rfl⟩
    go_wp2_with fail
    refine (rvalid_any _ _).mono ?_
    rintro e w' ⟨rfl, rfl⟩
    go_wp2_with fail
    refine (fits_any HW.out _ _).mono ?_
    rintro e w' ⟨rfl, rfl⟩
    go_wp2_with fail
    refine (rfits_any _ _ _).mono ?_
    rintro e w' ⟨rfl, rfl⟩
    go_wp2_with fail
    refine (fits_any HW.out _ _).mono ?_
    rintro e w' ⟨rfl, rfl⟩
    rw [ft_comm b a]
    go_wp2_with fail
    refine (rfits_any _ _ _).mono ?_
    rintro e w' ⟨rfl, rfl⟩
    go_wp2_with fail
    refine (rvalid_any _ _).mono ?_
    rintro e w' ⟨rfl, rfl⟩
    rw [HV.out]
    go_wp2_with fail
    refine (word_ok HW.out (wstr_bad HV.out) HS.out).mono ?_
    rintro e w' ⟨rfl, rfl⟩
    go_wp2_with fail
    refine (known_true HW.out).mono ?_
    rintro e w2 ⟨rfl, hF⟩
    go_wp2_with fail
    go_ret
    exact ⟨rfl, bel hF⟩
  | true =>
    have HV := Lib.hid hv
    have hs : werr a = 0 := if_pos hv
    have HS := Lib.hid hs
    have HB := Lib.hid (bw_wstr hv)
    clear hs hv
    go_enter Tryd.func3, Tryd.ntmps3
    go_wp2_with fail
    refine (valid_any _ _).mono ?_
    rintro e w' ⟨rfl, rfl⟩
    go_wp2_with fail
    refine (rvalid_any _ _).mono ?_
    rintro e w' ⟨rfl, rfl⟩
    go_wp2_with fail
    refine (fits_any HW.out _ _).mono ?_
    rintro e w' ⟨rfl, rfl⟩
    go_wp2_with fail
    refine (rfits_any _ _ _).mono ?_
    rintro e w' ⟨rfl, rfl⟩
    go_wp2_with fail
    refine (fits_any HW.out _ _).mono ?_
    rintro e w' ⟨rfl, rfl⟩
    rw [ft_comm b a]
    go_wp2_with fail
    refine (rfits_any _ _ _).mono ?_
    rintro e w' ⟨rfl, rfl⟩
    go_wp2_with fail
    refine (rvalid_any _ _).mono ?_
    rintro e w' ⟨rfl, rfl⟩
    rw [HV.out]
    go_wp2_with fail
    refine (rword_any _ _).mono ?_
    rintro e w' ⟨rfl, rfl⟩
    go_wp2_with fail
    refine (word_ok HW.out rfl HS.out).mono ?_
    rintro e w' ⟨rfl, rfl⟩
    go_wp2_with fail
    refine (rword_any _ _).mono ?_
    rintro e w' ⟨rfl, rfl⟩
    go_wp2_with fail
    refine (byword_ok HW.out HB.out.1 HB.out.2).mono ?_
    rintro e w' ⟨rfl, rfl⟩
    go_wp2_with fail
    refine (known_true HW.out).mono ?_
    rintro e w2 ⟨rfl, hF⟩
    go_wp2_with fail
    go_ret
    exact ⟨rfl, bel hF⟩

set_option maxHeartbeats 4000000 in
theorem walk_ModesAlls (a : Option Addr) (n c : Nat) (zs : List Int) (W : World) (hW : Laid W) (hR : IsRow .i64 W a n c zs) :
    Calls Tryd.prog 4 #[.slice a n c] W (Ret (.bool true) (fun w' => Below W.heap.size W w')) := by
  obtain ⟨b, o, hL, _, _⟩ := li_of_row hR
  have HW := Lib.hid hW
  have HL := Lib.hid hL
  clear hW hL hR
  by_cases hn : 40 < n
  · have d : decide ((40 : Int) < (n : Int)) = true := by simp; omega
    go_enter Tryd.func4, Tryd.ntmps4
    go_wp2_with fail
    refine (known_true HW.out).mono ?_
    rintro e w2 ⟨rfl, hF⟩
    go_wp2_with fail
    go_ret
    exact ⟨rfl, bel hF⟩
  · have d : decide ((40 : Int) < (n : Int)) = false := by simp; omega
    go_enter Tryd.func4, Tryd.ntmps4
    go_wp2_with fail
    refine (All_any HW.out HL.out (by omega)).mono ?_
    rintro e w1 ⟨rfl, hF1⟩
    have HL1 := Lib.hid (HL.out.frm0 hF1)
    go_wp2_with fail
    refine (rAll_any HL1.out (by omega)).mono ?_
    rintro e w2 ⟨rfl, hF2⟩
    have HW2 := Lib.hid (HW.out.frm0 (hF1.trans hF2))
    go_wp2_with fail
    refine (known_true HW2.out).mono ?_
    rintro e w3 ⟨rfl, hF3⟩
    go_wp2_with fail
    go_ret
    exact ⟨rfl, bel ((hF1.trans hF2).trans hF3)⟩

set_option maxHeartbeats 4000000 in
theorem walk_ModesGoes (m : Int) (_ : (Lit.int .i64 m).wf = true) (a : Option Addr) (n c : Nat) (zs : List Int) (g : Int) (_ : (Lit.int .i64 g).wf = true) (beh : Bool) (W : World) (hW : Laid W) (hR : IsRow .i64 W a n c zs) :
    Calls Tryd.prog 5 #[.int .i64 m, .slice a n c, .int .i64 g, .bool beh] W (Ret (.bool true) (fun w' => Below W.heap.size W w')) := by
  obtain ⟨b, o, hL, _, _⟩ := li_of_row hR
  have HW := Lib.hid hW
  have HL := Lib.hid hL
  clear hW hL hR
  by_cases hn : 40 < n
  · have d : decide ((40 : Int) < (n : Int)) = true := by simp; omega
    go_enter Tryd.func5, Tryd.ntmps5
    go_wp2_with fail
    refine (known_true HW.out).mono ?_
    rintro e w2 ⟨rfl, hF⟩
    go_wp2_with fail
    go_ret
    exact ⟨rfl, bel hF⟩
  · have d : decide ((40 : Int) < (n : Int)) = false := by simp; omega
    go_enter Tryd.func5, Tryd.ntmps5
    go_wp2_with fail
    refine (Goes_any HW.out HL.out (by omega) _ _ _).mono ?_
    rintro e w1 ⟨rfl, hF1⟩
    have HL1 := Lib.hid (HL.out.frm0 hF1)
    go_wp2_with fail
    refine (rGoes_any HL1.out (by omega) _ _ _).mono ?_
    rintro e w2 ⟨rfl, rfl⟩
    have HW2 := Lib.hid (HW.out.frm0 hF1)
    go_wp2_with fail
    refine (known_true HW2.out).mono ?_
    rintro e w3 ⟨rfl, hF3⟩
    go_wp2_with fail
    go_ret
    exact ⟨rfl, bel (hF1.trans hF3)⟩

set_option maxHeartbeats 4000000 in
theorem walk_ModesWords (s : ByteArray) (_ : s.size ≤ maxLen) (W : World) (hW : Laid W) :
    Calls Tryd.prog 7 #[.string s] W (Ret (.bool true) (fun w' => Below W.heap.size W w')) := by
  have HW := Lib.hid hW
  clear hW
  by_cases hn : 60 < s.size
  · have d : decide ((60 : Int) < (s.size : Int)) = true := by simp; omega
    go_enter Tryd.func7, Tryd.ntmps7
    go_wp2_with fail
    refine (known_true HW.out).mono ?_
    rintro e w2 ⟨rfl, hF⟩
    go_wp2_with fail
    go_ret
    exact ⟨rfl, bel hF⟩
  · have d : decide ((60 : Int) < (s.size : Int)) = false := by simp; omega
    have c1 : s = w1 → bw s = 1 ∧ bwe s = 0 := fun h => by subst h; decide +kernel
    have c2 : s = w2 → bw s = 2 ∧ bwe s = 0 := fun h => by subst h; decide +kernel
    have c3 : s = w3 → bw s = 3 ∧ bwe s = 0 := fun h => by subst h; decide +kernel
    have c4 : s ≠ w1 → s ≠ w2 → s ≠ w3 → bw s = 0 ∧ bwe s = 6 := fun h1 h2 h3 => by
      have e : bw s = 0 := by unfold bw; rw [if_neg h1, if_neg h2, if_neg h3]
      exact ⟨e, if_pos e⟩
    have C1 := Lib.hid c1
    have C2 := Lib.hid c2
    have C3 := Lib.hid c3
    have C4 := Lib.hid c4
    clear c1 c2 c3 c4
    go_enter Tryd.func7, Tryd.ntmps7
    go_wp2_with fail
    refine (list_any _ _ _ _).mono ?_
    rintro e w' ⟨rfl, rfl⟩
    go_wp2_with fail
    have hLi : Li .i64 (W.alloc (.cells #[.int .i64 1, .int .i64 2, .int .i64 3] 22)) (some ⟨W.heap.size, 0, none⟩) 3 3 W.heap.size 0 [1, 2, 3] := li_new rfl (heap_alloc_new _ _)
    have hF : Frm [] W (W.alloc (.cells #[.int .i64 1, .int .i64 2, .int .i64 3] 22)) := (Frm.refl _ _).alloc _
    have k0 := hLi.cell 0 _ rfl
    have k1 := hLi.cell 1 _ rfl
    have k2 := hLi.cell 2 _ rfl
    simp only [Nat.zero_add] at k0 k1 k2
    generalize W.alloc (.cells #[.int .i64 1, .int .i64 2, .int .i64 3] 22) = X at hLi hF k0 k1 k2 ⊢
    generalize W.heap.size = p at hLi k0 k1 k2 ⊢
    have HLi := Lib.hid hLi
    clear hLi
    go_loop [12] (fun i => i = .int .i64 0 ∨ (i = .int .i64 1 ∧ Hid (s ≠ w1)) ∨ (i = .int .i64 2 ∧ Hid (s ≠ w1 ∧ s ≠ w2)) ∨ (i = .int .i64 3 ∧ Hid (s ≠ w1 ∧ s ≠ w2 ∧ s ≠ w3))) (fun i => 3 - (intOf i).toNat)
    case atStart => exact .inl rfl
    case round =>
      have HWX := Lib.hid (HW.out.frm0 hF)
      obtain rfl | ⟨rfl, H⟩ | ⟨rfl, H⟩ | ⟨rfl, H⟩ := hrel
      · have hix := fun w => ix_md (a := some ⟨p, 0, none⟩) (n := 3) (c := 3) (b := p) (o := 0) (k := 0) (fun _ => rfl) (by decide) w
        simp only [Nat.zero_add] at hix
        by_cases hs : s = w1
        · obtain ⟨hb, he⟩ := C1.out hs
          have d2 : (w1.toList == s.toList) = true := by rw [str_eq]; simpa using hs.symm
          have HB := Lib.hid hb
          have HE := Lib.hid he
          clear hs hb he
          go_wp2_with fail
          refine (rword_any _ _).mono ?_
          rintro e w' ⟨rfl, rfl⟩
          rw [show wstr 1 = w1 from rfl]
          go_wp2_with fail
          refine (byword_ok HWX.out HB.out HE.out).mono ?_
          rintro e w' ⟨rfl, rfl⟩
          go_wp2_with fail
          refine (known_true HWX.out).mono ?_
          rintro e w2 ⟨rfl, hF2⟩
          go_wp2_with fail
          go_ret
          exact ⟨rfl, bel (hF.trans hF2)⟩
        · have d2 : (w1.toList == s.toList) = false := by rw [str_eq]; simpa using fun h : w1 = s => hs h.symm
          have HS := Lib.hid hs
          clear hs
          go_wp2_with fail
          refine (rword_any _ _).mono ?_
          rintro e w' ⟨rfl, rfl⟩
          rw [show wstr 1 = w1 from rfl]
          go_wp2_with fail
          go_round
          case rel => exact .inr (.inl ⟨rfl, HS⟩)
          case measure => simp [intOf]
      · have hix := fun w => ix_md (a := some ⟨p, 0, none⟩) (n := 3) (c := 3) (b := p) (o := 0) (k := 1) (fun _ => rfl) (by decide) w
        simp only [Nat.zero_add] at hix
        by_cases hs : s = w2
        · obtain ⟨hb, he⟩ := C2.out hs
          have d2 : (w2.toList == s.toList) = true := by rw [str_eq]; simpa using hs.symm
          have HB := Lib.hid hb
          have HE := Lib.hid he
          clear hs hb he
          go_wp2_with fail
          refine (rword_any _ _).mono ?_
          rintro e w' ⟨rfl, rfl⟩
          rw [show wstr 2 = w2 from rfl]
          go_wp2_with fail
          refine (byword_ok HWX.out HB.out HE.out).mono ?_
          rintro e w' ⟨rfl, rfl⟩
          go_wp2_with fail
          refine (known_true HWX.out).mono ?_
          rintro e w2 ⟨rfl, hF2⟩
          go_wp2_with fail
          go_ret
          exact ⟨rfl, bel (hF.trans hF2)⟩
        · have d2 : (w2.toList == s.toList) = false := by rw [str_eq]; simpa using fun h : w2 = s => hs h.symm
          have HS := Lib.hid hs
          clear hs
          go_wp2_with fail
          refine (rword_any _ _).mono ?_
          rintro e w' ⟨rfl, rfl⟩
          rw [show wstr 2 = w2 from rfl]
          go_wp2_with fail
          go_round
          case rel => exact .inr (.inr (.inl ⟨rfl, Lib.hid ⟨H.out, HS.out⟩⟩))
          case measure => simp [intOf]
      · have hix := fun w => ix_md (a := some ⟨p, 0, none⟩) (n := 3) (c := 3) (b := p) (o := 0) (k := 2) (fun _ => rfl) (by decide) w
        simp only [Nat.zero_add] at hix
        by_cases hs : s = w3
        · obtain ⟨hb, he⟩ := C3.out hs
          have d2 : (w3.toList == s.toList) = true := by rw [str_eq]; simpa using hs.symm
          have HB := Lib.hid hb
          have HE := Lib.hid he
          clear hs hb he
          go_wp2_with fail
          refine (rword_any _ _).mono ?_
          rintro e w' ⟨rfl, rfl⟩
          rw [show wstr 3 = w3 from rfl]
          go_wp2_with fail
          refine (byword_ok HWX.out HB.out HE.out).mono ?_
          rintro e w' ⟨rfl, rfl⟩
          go_wp2_with fail
          refine (known_true HWX.out).mono ?_
          rintro e w2 ⟨rfl, hF2⟩
          go_wp2_with fail
          go_ret
          exact ⟨rfl, bel (hF.trans hF2)⟩
        · have d2 : (w3.toList == s.toList) = false := by rw [str_eq]; simpa using fun h : w3 = s => hs h.symm
          have HS := Lib.hid hs
          clear hs
          go_wp2_with fail
          refine (rword_any _ _).mono ?_
          rintro e w' ⟨rfl, rfl⟩
          rw [show wstr 3 = w3 from rfl]
          go_wp2_with fail
          go_round
          case rel => exact .inr (.inr (.inr ⟨rfl, Lib.hid ⟨H.out.1, H.out.2, HS.out⟩⟩))
          case measure => simp [intOf]
      · obtain ⟨hb, he⟩ := C4.out H.out.1 H.out.2.1 H.out.2.2
        have HB := Lib.hid hb
        have HE := Lib.hid he
        clear hb he
        go_wp2_with fail
        refine (byword_ok HWX.out HB.out HE.out).mono ?_
        rintro e w' ⟨rfl, rfl⟩
        go_wp2_with fail
        refine (known_true HWX.out).mono ?_
        rintro e w2 ⟨rfl, hF2⟩
        go_wp2_with fail
        go_ret
        exact ⟨rfl, bel (hF.trans hF2)⟩
#print axioms walk_ModesWords
end Go.Proofs.YthnmjildeenecaaDoor
