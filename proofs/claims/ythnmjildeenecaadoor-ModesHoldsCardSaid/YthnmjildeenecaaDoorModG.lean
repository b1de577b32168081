/- Package modes: Grants. -/
import Derived.Test.YthnmjildeenecaaDoorModF
namespace Go.Proofs.YthnmjildeenecaaDoor
open Go.ChangeShapes Go.WideShapes Go.ChangeAt Go.RowKit

theorem drop_one {q : List Int} {k : Nat} {x : Int} (hx : q[k]? = some x) : q.drop k = x :: q.drop (k + 1) := by
  have hk : k < q.length := (List.getElem?_eq_some_iff.1 hx).1
  rw [List.getElem?_eq_getElem hk, Option.some.injEq] at hx
  rw [← hx]; exact List.drop_eq_getElem_cons hk
theorem drop_empty {q : List Int} {k : Nat} : (!(q.drop k).isEmpty) = decide (k < q.length) := by
  rw [Bool.eq_iff_iff]
  simp [List.drop_eq_nil_iff]
theorem grant_halt {h q : List Int} {k R : Nat} {x g : Int} {b : Bool} (hx : q[k]? = some x) (hb : decide (k + 1 < q.length) = b) (hg : goB x (h ++ q.take k) g b = false) (hR : grant (h ++ q.take k) (q.drop k) g + k = R) : R = k := by
  rw [drop_one hx, grant_no (by rw [drop_empty, hb]; exact hg)] at hR
  omega
theorem grant_next {h q : List Int} {k R : Nat} {x g : Int} {b : Bool} (hx : q[k]? = some x) (hb : decide (k + 1 < q.length) = b) (hg : goB x (h ++ q.take k) g b = true) (hR : grant (h ++ q.take k) (q.drop k) g + k = R) :
    grant (h ++ q.take (k + 1)) (q.drop (k + 1)) (if x = 1 then g + 1 else g) + (k + 1) = R := by
  rw [drop_one hx, grant_yes (by rw [drop_empty, hb]; exact hg)] at hR
  rw [take_one hx, ← List.append_assoc]
  omega
theorem grant_end {h q : List Int} {k R : Nat} {g g' : Int} (hk : q.length ≤ k) (hR : grant (h ++ q.take k) (q.drop k) g + k = R) : grant (h ++ q.take k) (q.drop k) g' + k = R := by
  rw [List.drop_of_length_le hk] at hR ⊢
  exact hR
theorem grant_out {h q : List Int} {k R : Nat} {g : Int} (hk : q.length ≤ k) (hR : grant (h ++ q.take k) (q.drop k) g + k = R) : R = k := by
  rw [List.drop_of_length_le hk, grant_nil] at hR
  omega
/-- The least number of an int. -/
def lo64 : Int := -9223372036854775808
theorem wrap_up {g : Int} (h0 : lo64 ≤ g) (h1 : g < 4) : wrap64 (g + 1) = g + 1 :=
  IntWalk.wrap64_in (g + 1) (by unfold lo64 at h0; omega)

set_option maxHeartbeats 8000000 in
theorem Grants_any {w : World} (hW : Laid w) {a1 a2 : Option Addr} {n1 c1 b1 o1 n c b o : Nat} {h q : List Int} (hH : Li .i64 w a1 n1 c1 b1 o1 h) (hQ : Li .i64 w a2 n c b o q) (hn1 : n1 ≤ 400) (hn : n ≤ 400) (g0 : Int) (hg0 : lo64 ≤ g0) :
    Calls Tryd.prog 21 #[.slice a1 n1 c1, .slice a2 n c, .int .i64 g0] w (Ret (.int .i64 (grant h q g0 : Nat)) (fun w' => Frm [] w w')) := by
  obtain ⟨R, hR⟩ : ∃ R, grant h q g0 = R := ⟨_, rfl⟩
  have hR0 : grant (h ++ q.take 0) (q.drop 0) g0 + 0 = R := by simpa using hR
  rw [hR]
  have HR := Lib.hid hR0
  have HW := Lib.hid hW
  have HH := Lib.hid hH
  have HQ := Lib.hid hQ
  have HG0 := Lib.hid hg0
  have HLQ := Lib.hid hQ.len
  clear hR hR0 hW hH hQ hg0
  go_enter Tryd.func21, Tryd.ntmps21
  go_wp2_with fail
  refine (setof_any HH.out (by omega)).mono ?_
  rintro e w1 ⟨rfl, hF1⟩
  go_wp2_with fail
  have e2 := heap_alloc_new w1 (.cells #[.bool (st h 0), .bool (st h 1), .bool (st h 2), .bool (st h 3)] 43)
  have e3 := hF1.alloc (.cells #[.bool (st h 0), .bool (st h 1), .bool (st h 2), .bool (st h 3)] 43)
  generalize (w1.alloc (.cells #[.bool (st h 0), .bool (st h 1), .bool (st h 2), .bool (st h 3)] 43)) = X at e2 e3 ⊢
  have hsz := hF1.size
  generalize w1.heap.size = p at e2 hsz ⊢
  have H2 : Hid (SetAt X p (h ++ q.take 0)) := Lib.hid (by rw [List.take_zero, List.append_nil]; exact e2)
  clear e2 hF1
  go_loopw [2, 14] (fun s i w' => ∃ (k : Nat) (g : Int), k ≤ n ∧ i = .int .i64 k ∧ s = .int .i64 g ∧ Frm [] w w' ∧ Hid (SetAt w' p (h ++ q.take k)) ∧ Hid (grant (h ++ q.take k) (q.drop k) g + k = R) ∧ Hid (k < n → lo64 ≤ g)) (fun _ i _ => n - (intOf i).toNat)
  case atStart => exact ⟨0, g0, by omega, rfl, rfl, e3, H2, HR, Lib.hid (fun _ => HG0.out)⟩
  case round =>
    clear e3 H2 HR
    obtain ⟨k, g, hk, rfl, rfl, hF, HS, HR, HG⟩ := hrel
    by_cases hlt : k < n
    · obtain ⟨x, hx, hg, hc⟩ := (HQ.out.frm0 hF).get hlt
      have hix := ix_md (c := c) HQ.out.ad hlt
      obtain ⟨c0, c1, c2, c3⟩ := HS.out.cells
      have HX := Lib.hid hx
      clear hx hg
      have hb0 : (k : Int) < (n : Int) := by omega
      have HW1 := Lib.hid (HW.out.frm0 hF)
      by_cases hl : k + 1 < n
      · have hbh : decide ((k : Int) < (n : Int) - 1) = true := by simp; omega
        have hbq : decide (k + 1 < q.length) = true := by rw [HLQ.out]; simp; omega
        have HBQ := Lib.hid hbq
        clear hbq
        cases hv : goB x (h ++ q.take k) g true with
        | false =>
          have hRk := grant_halt HX.out HBQ.out hv HR.out
          have HRk := Lib.hid hRk
          have HV := Lib.hid hv
          clear hv hRk
          go_wp2_with fail
          refine (goes_any HW1.out _ _ _ _ _ _ _).mono ?_
          rintro e w2 ⟨rfl, hF2⟩
          rw [gs_st, HV.out]
          go_wp2_with fail
          go_ret
          exact ⟨by rw [HRk.out]; rfl, hF.trans hF2⟩
        | true =>
          have hRk := grant_next HX.out HBQ.out hv HR.out
          have hgw := goB_vw hv
          have HRk := Lib.hid hRk
          have HV := Lib.hid hv
          have HGW := Lib.hid hgw
          clear hv hRk hgw
          by_cases hx1 : x = 1
          · have d1 : (x == 1) = true := by simpa using hx1
            have HX1 := Lib.hid hx1
            clear hx1
            go_wp2_with fail
            refine (goes_any HW1.out _ _ _ _ _ _ _).mono ?_
            rintro e w2 ⟨rfl, hF2⟩
            rw [gs_st, HV.out]
            clear c0 c1 c2 c3 hc hix
            have HS2 := Lib.hid (HS.out.frm hF2 (by simp))
            go_wp2_with fail
            refine (add_any HS2.out x).mono ?_
            rintro e w3 ⟨rfl, hF3, hS3⟩
            have HS3 := Lib.hid hS3
            clear hS3
            go_wp2_with fail
            go_roundw
            case rel =>
              have hwr := wrap_up (HG.out hlt) (HGW.out.2.2 HX1.out (by first | rfl | trivial))
              refine ⟨k + 1, _, by omega, by go_num, rfl, (hF.trans hF2).trans_new hF3 (fun y hy => .inr (by simp at hy; omega)), Lib.hid (by rw [take_one HX.out, ← List.append_assoc]; exact HS3.out), Lib.hid ?_, Lib.hid (fun _ => ?_)⟩
              · have := HRk.out
                rw [if_pos HX1.out] at this
                rw [hwr]; exact this
              · rw [hwr]; have := HG.out hlt; omega
            case measure => simp [intOf]; omega
          · have d1 : (x == 1) = false := by simpa using hx1
            have HX1 := Lib.hid hx1
            clear hx1
            go_wp2_with fail
            refine (goes_any HW1.out _ _ _ _ _ _ _).mono ?_
            rintro e w2 ⟨rfl, hF2⟩
            rw [gs_st, HV.out]
            clear c0 c1 c2 c3 hc hix
            have HS2 := Lib.hid (HS.out.frm hF2 (by simp))
            go_wp2_with fail
            refine (add_any HS2.out x).mono ?_
            rintro e w3 ⟨rfl, hF3, hS3⟩
            have HS3 := Lib.hid hS3
            clear hS3
            go_wp2_with fail
            go_roundw
            case rel =>
              refine ⟨k + 1, g, by omega, by go_num, rfl, (hF.trans hF2).trans_new hF3 (fun y hy => .inr (by simp at hy; omega)), Lib.hid (by rw [take_one HX.out, ← List.append_assoc]; exact HS3.out), Lib.hid ?_, Lib.hid (fun _ => HG.out hlt)⟩
              have := HRk.out
              rw [if_neg HX1.out] at this
              exact this
            case measure => simp [intOf]; omega
      · have hbh : decide ((k : Int) < (n : Int) - 1) = false := by simp; omega
        have hbq : decide (k + 1 < q.length) = false := by rw [HLQ.out]; simp; omega
        have HBQ := Lib.hid hbq
        clear hbq
        cases hv : goB x (h ++ q.take k) g false with
        | false =>
          have hRk := grant_halt HX.out HBQ.out hv HR.out
          have HRk := Lib.hid hRk
          have HV := Lib.hid hv
          clear hv hRk
          go_wp2_with fail
          refine (goes_any HW1.out _ _ _ _ _ _ _).mono ?_
          rintro e w2 ⟨rfl, hF2⟩
          rw [gs_st, HV.out]
          go_wp2_with fail
          go_ret
          exact ⟨by rw [HRk.out]; rfl, hF.trans hF2⟩
        | true =>
          have hRk := grant_next HX.out HBQ.out hv HR.out
          have hgw := goB_vw hv
          have HRk := Lib.hid hRk
          have HV := Lib.hid hv
          have HGW := Lib.hid hgw
          clear hv hRk hgw
          by_cases hx1 : x = 1
          · have d1 : (x == 1) = true := by simpa using hx1
            have HX1 := Lib.hid hx1
            clear hx1
            go_wp2_with fail
            refine (goes_any HW1.out _ _ _ _ _ _ _).mono ?_
            rintro e w2 ⟨rfl, hF2⟩
            rw [gs_st, HV.out]
            clear c0 c1 c2 c3 hc hix
            have HS2 := Lib.hid (HS.out.frm hF2 (by simp))
            go_wp2_with fail
            refine (add_any HS2.out x).mono ?_
            rintro e w3 ⟨rfl, hF3, hS3⟩
            have HS3 := Lib.hid hS3
            clear hS3
            go_wp2_with fail
            go_roundw
            case rel =>
              exact ⟨k + 1, _, by omega, by go_num, rfl, (hF.trans hF2).trans_new hF3 (fun y hy => .inr (by simp at hy; omega)), Lib.hid (by rw [take_one HX.out, ← List.append_assoc]; exact HS3.out), Lib.hid (grant_end (by rw [HLQ.out]; omega) HRk.out), Lib.hid (fun h => by omega)⟩
            case measure => simp [intOf]; omega
          · have d1 : (x == 1) = false := by simpa using hx1
            have HX1 := Lib.hid hx1
            clear hx1
            go_wp2_with fail
            refine (goes_any HW1.out _ _ _ _ _ _ _).mono ?_
            rintro e w2 ⟨rfl, hF2⟩
            rw [gs_st, HV.out]
            clear c0 c1 c2 c3 hc hix
            have HS2 := Lib.hid (HS.out.frm hF2 (by simp))
            go_wp2_with fail
            refine (add_any HS2.out x).mono ?_
            rintro e w3 ⟨rfl, hF3, hS3⟩
            have HS3 := Lib.hid hS3
            clear hS3
            go_wp2_with fail
            go_roundw
            case rel =>
              refine ⟨k + 1, g, by omega, by go_num, rfl, (hF.trans hF2).trans_new hF3 (fun y hy => .inr (by simp at hy; omega)), Lib.hid (by rw [take_one HX.out, ← List.append_assoc]; exact HS3.out), Lib.hid ?_, Lib.hid (fun _ => HG.out hlt)⟩
              have := HRk.out
              rw [if_neg HX1.out] at this
              exact this
            case measure => simp [intOf]; omega
    · obtain rfl : k = n := by omega
      have hRk := grant_out (by rw [HLQ.out]; exact Nat.le_refl _) HR.out
      have HRk := Lib.hid hRk
      clear hRk
      go_wp2_with fail
      go_ret
      exact ⟨by rw [HRk.out]; rfl, hF⟩
#print axioms Grants_any
end Go.Proofs.YthnmjildeenecaaDoor
