/- Layer 4: the walk of the examples. -/
import Derived.Test.YtegoggnocpgoiaaScrV
namespace Go.Proofs.Ytegoggnocpgoiaa
open Go.ChangeShapes Go.WideShapes Go.ChangeAt Go.RowKit

abbrev oPick : Opr := ⟨1, 1, 4, 0, noB, noB, noB, 0⟩
abbrev oRounds : Opr := ⟨4, 0, 8, 0, noB, noB, noB, 0⟩
abbrev oPut : Opr := ⟨3, 0, 0, 2, aA, cC, noB, 5⟩

set_option maxRecDepth 100000 in
set_option maxHeartbeats 12800000 in
theorem known_true (w0 : World) : Calls Try.prog 8 #[] w0 (Ret (.bool true) (fun w' => Frm [] w0 w')) := by
  have hnt := nineteen
  have hp2 := p2
  have hsz : (keyB 19).size = 21 := keyB_size 19
  have hk19 : ∀ w, Calls Try.prog 17 #[.int .u8 19] w (Ret (.string (keyB 19)) (fun w' => Frm [] w w')) := fun w => key_is 19 (by omega) _ rfl w
  have hrep := rep_any 120 19 w0 (by omega) (by omega)
  have hrs : (reps 120 19).size = 19 := rfl
  have hrr : reps 120 (19 : Int).toNat = reps 120 19 := rfl
  rw [hrr] at hrep
  have hok : OpOk ⟨3, 0, 0, 1, keyB 19, noB, noB, 0⟩ := ok_lit (by rw [hsz]; omega) (by decide) (by decide)
  have hv40 : (valB 40).size = 40 := valB_size 40
  have hcv40 : ∀ w, Calls Try.prog 19 #[.int .u8 40] w (Ret (.string (valB 40)) (fun w' => Frm [] w w')) := fun w => val_is 40 (by omega) _ rfl w
  generalize keyB 19 = K at *
  generalize reps 120 19 = S at *
  generalize valB 40 = V at *
  have HNT := Lib.hid hnt
  have HP2 := Lib.hid hp2
  have HK := Lib.hid hk19
  have HREP := Lib.hid hrep
  have HV := Lib.hid hcv40
  clear hnt hp2 hk19 hrep hrr hok hsz hcv40
  have hS : S.size ≤ 100 := by omega
  have HS := Lib.hid hrs
  have HV40 := Lib.hid hv40
  clear hrs hv40
  have g0 : Frm [] w0 w0 := Frm.refl _ _
  go_enter Try.func8, Try.ntmps8
  go_wp2_with fail
  refine HREP.out.mono ?_
  rintro e w1 ⟨rfl, g1⟩
  have hcat : (⟨#[98, 100]⟩ : ByteArray).size + S.size ≤ 9223372036854775807 := by have : (⟨#[98, 100]⟩ : ByteArray).size = 2 := rfl; omega
  go_wp2_with fail
  refine (key_is 0 (by omega) aA rfl _).mono ?_
  rintro e w2 ⟨rfl, hF⟩
  replace g1 := g1.trans hF
  clear hF
  go_wp2_with fail
  refine (HK.out _).mono ?_
  rintro e w3 ⟨rfl, hF⟩
  replace g1 := g1.trans hF
  clear hF
  rw [HNT.out]
  have hKK : (K.toList == K.toList) = true := by simp
  go_wp2_with fail
  refine (key_is 255 (by omega) ⟨#[112, 112, 120, 120]⟩ rfl _).mono ?_
  rintro e w4 ⟨rfl, hF⟩
  replace g1 := g1.trans hF
  clear hF
  go_wp2_with fail
  refine (val_is 0 (by omega) noB rfl _).mono ?_
  rintro e w5 ⟨rfl, hF⟩
  replace g1 := g1.trans hF
  clear hF
  go_wp2_with fail
  refine (val_is 3 (by omega) dD rfl _).mono ?_
  rintro e w6 ⟨rfl, hF⟩
  replace g1 := g1.trans hF
  clear hF
  go_wp2_with fail
  refine (HV.out _).mono ?_
  rintro e w7 ⟨rfl, hF⟩
  replace g1 := g1.trans hF
  clear hF
  have hv40 : ((V.size : Int) != 40) = false := by rw [HV40.out]; rfl
  go_wp2_with fail
  refine (parses_is (li_u8 (l := [8, 3, 3, 9, 4, 7]) (n := 6) rfl (heap_alloc_old _ (heap_alloc_at (k := w7.heap.size + 2) _ (by simp)))) (byt_of (by decide)) (by omega) 2 (by decide) p1 (lo_block (n := 3) rfl (heap_alloc_at (k := w7.heap.size + 3) _ (by simp)))).mono ?_
  rintro e w8 ⟨rfl, hF⟩
  have e2 := hF.heap (heap_alloc_old _ (heap_alloc_old _ (heap_alloc_old _ (heap_alloc_new w7 (.cells #[.int .i64 oPick.k, .int .i64 oPick.t, .int .i64 oPick.n, .int .i64 oPick.v, .string oPick.key, .string oPick.val, .string oPick.old, .int .i64 oPick.tk] 30))))) (by simp)
  have e3 := hF.heap (heap_alloc_old _ (heap_alloc_old _ (heap_alloc_at (k := w7.heap.size + 1) (.cells #[.int .i64 oRounds.k, .int .i64 oRounds.t, .int .i64 oRounds.n, .int .i64 oRounds.v, .string oRounds.key, .string oRounds.val, .string oRounds.old, .int .i64 oRounds.tk] 30) (by simp)))) (by simp)
  replace g1 := ((((g1.alloc _).alloc _).alloc _).alloc _).trans hF
  clear hF
  have E2 := Lib.hid e2
  have E3 := Lib.hid e3
  clear e2 e3
  go_wp2_with fail
  refine (parses_is (li_u8 (l := [5, 0, 19, 14, 41, 0, 2, 7, 4, 1, 2, 3]) (n := 12) rfl (heap_alloc_old _ (heap_alloc_at (k := w8.heap.size + 2) _ (by simp)))) (byt_of (by decide)) (by omega) 3 (by decide) HP2.out (lo_block (n := 3) rfl (heap_alloc_at (k := w8.heap.size + 3) _ (by simp)))).mono ?_
  rintro e w9 ⟨rfl, hF⟩
  have e2 := hF.heap (heap_alloc_old _ (heap_alloc_old _ (heap_alloc_old _ (heap_alloc_old _ E2.out)))) (by simp)
  have e3 := hF.heap (heap_alloc_old _ (heap_alloc_old _ (heap_alloc_old _ (heap_alloc_old _ E3.out)))) (by simp)
  have e4 := hF.heap (heap_alloc_old _ (heap_alloc_old _ (heap_alloc_old _ (heap_alloc_new w8 (.cells #[.int .i64 oPut.k, .int .i64 oPut.t, .int .i64 oPut.n, .int .i64 oPut.v, .string oPut.key, .string oPut.val, .string oPut.old, .int .i64 oPut.tk] 30))))) (by simp)
  replace g1 := ((((g1.alloc _).alloc _).alloc _).alloc _).trans hF
  clear hF E2 E3
  have E2 := Lib.hid e2
  have E3 := Lib.hid e3
  have E4 := Lib.hid e4
  clear e2 e3 e4
  go_wp2_with fail
  refine (parses_is (li_u8 (l := [5, 5, 1, 40, 13, 6, 5, 15]) (n := 8) rfl (heap_alloc_old _ (heap_alloc_new _ _))) (byt_of (by decide)) (by omega) 1 (by decide) p3 (lo_block (n := 3) rfl (heap_alloc_at (k := w9.heap.size + 1) _ (by simp)))).mono ?_
  rintro e w10 ⟨rfl, hF⟩
  have e2 := hF.heap (heap_alloc_old _ (heap_alloc_old _ E2.out)) (by simp)
  have e3 := hF.heap (heap_alloc_old _ (heap_alloc_old _ E3.out)) (by simp)
  have e4 := hF.heap (heap_alloc_old _ (heap_alloc_old _ E4.out)) (by simp)
  replace g1 := ((g1.alloc _).alloc _).trans hF
  clear hF E2 E3 E4
  have E2 := Lib.hid e2
  have E3 := Lib.hid e3
  have E4 := Lib.hid e4
  clear e2 e3 e4
  go_wp2_with fail
  refine (parses_is (li_u8 (l := [6]) (n := 1) rfl (heap_alloc_old _ (heap_alloc_new _ _))) (byt_of (by decide)) (by omega) 1 (by decide) p4 (lo_block (n := 1) rfl (heap_alloc_at (k := w10.heap.size + 1) _ (by simp)))).mono ?_
  rintro e w11 ⟨rfl, hF⟩
  have e2 := hF.heap (heap_alloc_old _ (heap_alloc_old _ E2.out)) (by simp)
  have e3 := hF.heap (heap_alloc_old _ (heap_alloc_old _ E3.out)) (by simp)
  have e4 := hF.heap (heap_alloc_old _ (heap_alloc_old _ E4.out)) (by simp)
  replace g1 := ((g1.alloc _).alloc _).trans hF
  clear hF E2 E3 E4
  have E2 := Lib.hid e2
  have E3 := Lib.hid e3
  have E4 := Lib.hid e4
  clear e2 e3 e4
  go_wp2_with fail
  refine (qnext_is (li_u8 (l := [6, 7, 9]) (n := 3) rfl (heap_alloc_new _ _)) (byt_of (by decide)) (by omega) (by omega) 1 (by decide) p5 (z := 2) (by decide)).mono ?_
  rintro e w12 ⟨rfl, hF⟩
  have e2 := hF.heap (heap_alloc_old _ E2.out) (by simp)
  have e3 := hF.heap (heap_alloc_old _ E3.out) (by simp)
  have e4 := hF.heap (heap_alloc_old _ E4.out) (by simp)
  replace g1 := (g1.alloc _).trans hF
  clear hF E2 E3 E4
  have E2 := Lib.hid e2
  have E3 := Lib.hid e3
  have E4 := Lib.hid e4
  clear e2 e3 e4
  go_wp2_with fail
  refine (qnext_short _ none 0 1 (by decide)).mono ?_
  rintro e w13 ⟨rfl, hF⟩
  have hG := hF
  go_wp2_with fail
  refine (parses_err _ none 0 0 0 2 (.inl ⟨by decide, rfl⟩)).mono ?_
  rintro e w14 ⟨rfl, hF⟩
  replace hG := hG.trans hF
  go_wp2_with fail
  refine (parses_err _ none 0 0 65 2 (.inl ⟨by decide, rfl⟩)).mono ?_
  rintro e w15 ⟨rfl, hF⟩
  replace hG := hG.trans hF
  have e2 := hG.heap E2.out (by simp)
  have e3 := hG.heap E3.out (by simp)
  have e4 := hG.heap E4.out (by simp)
  replace g1 := g1.trans hG
  obtain ⟨c0, c1, c2, c3, c4, c5, c6, c7⟩ := OpAt.block (x := oPick) e2
  simp only [Nat.zero_add] at c0 c1 c2 c3 c4 c5 c6 c7
  obtain ⟨d0, d1, d2, d3, d4, d5, d6, d7⟩ := OpAt.block (x := oRounds) e3
  simp only [Nat.zero_add] at d0 d1 d2 d3 d4 d5 d6 d7
  clear hF hG E2 E3 E4
  have E4 := Lib.hid e4
  clear e2 e3 e4
  go_wp2_with fail
  refine (writes_ok (lo_block (l := [oPick, oRounds]) (n := 2) rfl (heap_alloc_old _ (heap_alloc_new _ _))) (by intro x hx; simp at hx; rcases hx with rfl | rfl <;> exact ok_lit (by decide) (by decide) (by decide)) (by omega) wl1 (by decide) (li_u8 (l := [8, 3, 4, 7]) (n := 4) rfl (heap_alloc_at (k := w15.heap.size + 1) _ (by simp)))).mono ?_
  rintro e w16 ⟨rfl, hF⟩
  have e4 := hF.heap (heap_alloc_old _ (heap_alloc_old _ E4.out)) (by simp)
  replace g1 := ((g1.alloc _).alloc _).trans hF
  obtain ⟨b0, b1, b2, b3, b4, b5, b6, b7⟩ := OpAt.block (x := oPut) e4
  simp only [Nat.zero_add] at b0 b1 b2 b3 b4 b5 b6 b7
  clear c0 c1 c2 c3 c4 c5 c6 c7 d0 d1 d2 d3 d4 d5 d6 d7 hF e4 E4
  go_wp2_with fail
  refine (writes_ok (lo_block (l := [oPut]) (n := 1) rfl (heap_alloc_old _ (heap_alloc_new _ _))) (by intro x hx; simp at hx; subst hx; exact ok_lit (by decide) (by decide) (by decide)) (by omega) wl2 (by decide) (li_u8 (l := [5, 41, 0, 2]) (n := 4) rfl (heap_alloc_at (k := w16.heap.size + 1) _ (by simp)))).mono ?_
  rintro e w17 ⟨rfl, hF⟩
  replace g1 := ((g1.alloc _).alloc _).trans hF
  clear b0 b1 b2 b3 b4 b5 b6 b7 hF
  go_wp2_with fail
  refine (writes_err (lo_block (l := [⟨1, 32, 1, 0, noB, noB, noB, 0⟩]) (n := 1) rfl (heap_alloc_new _ _)) (by intro x hx; simp at hx; subst hx; exact ok_lit (by decide) (by decide) (by decide)) (by omega) (.inl ⟨wl3, rfl⟩)).mono ?_
  rintro e w18 ⟨rfl, hF⟩
  replace g1 := (g1.alloc _).trans hF
  clear hF
  go_wp2_with fail
  refine (valid_is _ ⟨2, 1, 0, 0, noB, noB, noB, 0⟩ (ok_lit (by decide) (by decide) (by decide)) false wl4).mono ?_
  rintro e w19 ⟨rfl, hF⟩
  replace g1 := g1.trans hF
  go_wp2
  go_ret
  exact ⟨rfl, g1⟩
end Go.Proofs.Ytegoggnocpgoiaa
