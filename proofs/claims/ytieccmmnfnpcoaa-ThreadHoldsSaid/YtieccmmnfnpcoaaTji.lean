/- Stage 12: ThreadHolds, the whole. (By gen_tjd.py.) -/
import Derived.Test.YtieccmmnfnpcoaaTjg
namespace Go.Proofs.Ytieccmmnfnpcoaa
open Go.ChangeShapes Go.WideShapes Go.ChangeAt Go.RowKit
set_option linter.unusedVariables false
set_option linter.unusedSimpArgs false
set_option maxRecDepth 1000000 in
set_option maxHeartbeats 25600000 in
theorem holds_all (w : World) {a0 : Option Addr} {n c0 : Nat} {l0 : List Int} (hl0 : l0.length = n) (hrd : 0 < n → Rd w (.slice a0 n c0) (u64s l0)) {aL : Option Addr} {nL cL bL oL : Nat} {Ls : List (List Ins)} (hLs : LsL w aL nL cL bL oL Ls) {a1 : Option Addr} {m1 c1 b1 o1 : Nat} {ks : List Int} (hL : Li .u8 w a1 m1 c1 b1 o1 ks) (hks : ∀ x ∈ ks, (Lit.int .u8 x).wf = true) (kk : Nat) (hkk : kk ≤ 255) :
    Calls Try.prog 7 #[.slice a0 n c0, .slice aL nL cL, .slice a1 m1 c1, .int .u8 kk] w (Ret (.bool true) (fun w' => Frm [] w w')) := by
  have HL := Lib.hid hL
  have HLS := Lib.hid hLs
  have HKS := Lib.hid hks
  have HKK := Lib.hid hkk
  have HRD := Lib.hid hrd
  have HL0 := Lib.hid hl0
  clear hL hLs hks hkk hrd hl0
  have HCO := Lib.hid (codes_any HLS.out 6 (by omega))
  by_cases hn1 : n < 1
  · have d1 : decide ((n : Int) < 1) = true := by simp; omega
    go_enter Try.func7, Try.ntmps7
    go_wp2_with fail
    refine (known_true _).mono ?_
    rintro e w' ⟨rfl, hq⟩
    have HQ := Lib.hid hq
    clear hq
    go_wp2_with fail
    go_ret
    exact ⟨rfl, HQ.out⟩
  have d1 : decide ((n : Int) < 1) = false := by simp; omega
  by_cases hn20 : 20 < n
  · have d2 : decide ((20 : Int) < n) = true := by simp; omega
    go_enter Try.func7, Try.ntmps7
    go_wp2_with fail
    refine (known_true _).mono ?_
    rintro e w' ⟨rfl, hq⟩
    have HQ := Lib.hid hq
    clear hq
    go_wp2_with fail
    go_ret
    exact ⟨rfl, HQ.out⟩
  have d2 : decide ((20 : Int) < n) = false := by simp; omega
  by_cases hm : 60 < m1
  · have d3 : decide ((60 : Int) < m1) = true := by simp; omega
    go_enter Try.func7, Try.ntmps7
    go_wp2_with fail
    refine HCO.out.mono ?_
    rintro e w1 ⟨r, rfl, rfl, hr⟩
    cases r
    · go_wp2_with fail
      refine (known_true _).mono ?_
      rintro e w' ⟨rfl, hq⟩
      have HQ := Lib.hid hq
      clear hq
      go_wp2_with fail
      go_ret
      exact ⟨rfl, HQ.out⟩
    · go_wp2_with fail
      refine (known_true _).mono ?_
      rintro e w' ⟨rfl, hq⟩
      have HQ := Lib.hid hq
      clear hq
      go_wp2_with fail
      go_ret
      exact ⟨rfl, HQ.out⟩
  have d3 : decide ((60 : Int) < m1) = false := by simp; omega
  have HN1 := Lib.hid hn1
  have HN20 := Lib.hid hn20
  have HM := Lib.hid hm
  clear hn1 hn20 hm
  go_enter Try.func7, Try.ntmps7
  go_wp2_with fail
  refine HCO.out.mono ?_
  rintro e w1 ⟨r, rfl, rfl, hr⟩
  cases r
  · go_wp2_with fail
    refine (known_true _).mono ?_
    rintro e w' ⟨rfl, hq⟩
    have HQ := Lib.hid hq
    clear hq
    go_wp2_with fail
    go_ret
    exact ⟨rfl, HQ.out⟩
  · have HR := Lib.hid (hr rfl)
    clear hr
    go_wp2_with fail
    refine (arena_any (HRD.out (by have := HN1.out; omega)) (by have := HN1.out; have := HL0.out; omega) (by have := HN20.out; have := HL0.out; omega)).mono ?_
    rintro e w2 ⟨p, d, c, rfl, hF2, hM2, hp2, hd2⟩
    have HF2 := Lib.hid hF2
    have HNE := Lib.hid (mat_New hM2)
    clear hF2 hM2
    go_wp2_with fail
    refine HNE.out.mono ?_
    rintro e w3 ⟨q, F, rfl, hF3, hm3, hn3⟩
    have HF3 := Lib.hid (HF2.out.trans hF3)
    have HM3 := Lib.hid hm3
    have HN3 := Lib.hid (show ∀ x ∈ F, w1.heap.size ≤ x from fun x hx => by have := hn3 x hx; have := HF2.out.size; omega)
    clear hF3 hm3 hn3 hp2 hd2
    go_upto_if 71 with fail
    refine wp_cond_false rfl ?_
    refine wp_skip ?_
    rename_i K4 hK4
    refine hK4 _ _ ?_
    exact holds4 w1 _ HF3.out HM3.out HN3.out rfl HLS.out HR.out.1 HR.out.2 HL.out HKS.out (by have := HM.out; omega) HL0.out (by have := HN20.out; omega) a0 c0 kk HKK.out _ _ _ _ _ _ _ _ _ _ _ _ _ _ _ _ _ _ _ _ _ _ _ _ _ _ _ _ _ _ _ _ _ _ _ _ _ _ _ _ _ _ _ _ _ _ _ _ _ _ _ _ _ _ _ _ _ _ _ _ _ _ _ _ _ _ _ _ _ _ _ _ _ _ _ _ _ _ _ _ _ _ _ _ _ _ _ _ _ _ _ _ _ _ _ _ _ _ _ _ _ _ _ _ _ _ _ _ _ _ _ _ _ _ _ _ _ _ _ _ _ _ _ _ _ _ _ _ _ _ _ _ _ _ _ _ _ _ _ _ _ _ _ _ _ _ _ _ _ _ _ _ _ _ _ _ _ _ _ _ _ _ _ _ _ _ _ _ _ _ _ _ _ _ _ _ _ _ _ _ _ _ _ _ _ _ _ _ _ _ _ _ _ _ _ _ _ _ _ _ _ _ _ _ _ _ _ _ _ _ _ _ _ _ _ _ _ _ _ _ _ _ _ _ _ _ _ _ _ _ _ _ _ _ _ _ _ _ _ _ _ _ _ _ _ _ _ _ _ _ _ _ _ _ _ _ _ _ _ _ _ _ _ _ _ _ _ _ _ _ _ _ _ _ _ _ _ _ _ _ _ _ _

open Go.ChangeShapes Go.WideShapes Go.ChangeAt Go.RowKit
set_option linter.unusedVariables false
theorem walk_ThreadHolds (a0 : Option Addr) (n0 c0 : Nat) (z0 : List Int) (aL : Option Addr) (nL cL bL oL : Nat) (Ls : List (List Ins)) (a1 : Option Addr) (n1 c1 : Nat) (z1 : List Int) (k : Int) (hk : (Lit.int .u8 k).wf = true) (w : World)
    (h0 : IsRow .u64 w a0 n0 c0 z0) (hL : LsL w aL nL cL bL oL Ls) (h1 : IsRow .u8 w a1 n1 c1 z1) :
    Calls Try.prog 7 #[.slice a0 n0 c0, .slice aL nL cL, .slice a1 n1 c1, .int .u8 k] w (Ret (.bool true) (fun w' => Below w.heap.size w w')) := by
  obtain ⟨b1, o1, hLi, hwf, _⟩ := li_of_row h1
  have hk0 : 0 ≤ k ∧ k ≤ 255 := by
    have e0 : IntKind.u8.min = 0 := rfl
    have e1 : IntKind.u8.max = 255 := rfl
    simp [Lit.wf] at hk; omega
  obtain ⟨y, rfl⟩ := Int.eq_ofNat_of_zero_le hk0.1
  obtain ⟨_, _, hl0, _, _⟩ := li_of_row h0
  refine (holds_all w hl0.len (fun hp => (h0.rd hp).1) hL hLi hwf y (by omega)).mono ?_
  rintro e w' ⟨rfl, hq⟩
  exact ⟨rfl, hq.below (Nat.le_refl _) (fun x hx => by cases hx)⟩
#print axioms walk_ThreadHolds
end Go.Proofs.Ytieccmmnfnpcoaa
