/- Package modes: Goes, All; the reference's All, Goes. -/
import Derived.Test.YthnmjildeenecaaDoorModD
namespace Go.Proofs.YthnmjildeenecaaDoor
open Go.ChangeShapes Go.WideShapes Go.ChangeAt Go.RowKit

theorem Goes_any {w : World} (hW : Laid w) {a : Option Addr} {n c b o : Nat} {l : List Int} (hL : Li .i64 w a n c b o l) (hn : n ≤ 1000) (m g : Int) (beh : Bool) :
    Calls Tryd.prog 19 #[.int .i64 m, .slice a n c, .int .i64 g, .bool beh] w (Ret (.bool (goB m l g beh)) (fun w' => Frm [] w w')) := by
  rw [← gs_st]
  go_enter Tryd.func19, Tryd.ntmps19
  go_wp2_with fail
  refine (setof_any hL hn).mono ?_
  rintro e w1 ⟨rfl, hF⟩
  have HL1 := Lib.hid (hW.frm0 hF)
  go_wp2_with fail
  refine (goes_any HL1.out _ _ _ _ _ _ _).mono ?_
  rintro e w2 ⟨rfl, hF2⟩
  go_wp2_with fail
  go_ret
  exact ⟨rfl, hF.trans hF2⟩

theorem allF_append : ∀ (p l r : List Int), allF p (l ++ r) = (allF p l && allF (p ++ l) r)
  | p, [], r => by simp [allF]
  | p, y :: l, r => by
    show (vm y && wi y p && allF (p ++ [y]) (l ++ r)) = _
    rw [allF_append (p ++ [y]) l r]
    simp only [allF, List.append_assoc, List.singleton_append, Bool.and_assoc]
theorem allM_take {l : List Int} (k : Nat) (h : allM l = true) : allM (l.take k) = true := by
  unfold allM at h ⊢
  rw [← List.take_append_drop k l, allF_append, Bool.and_eq_true] at h
  exact h.1
theorem take_one {l : List Int} {k : Nat} {x : Int} (hx : l[k]? = some x) : l.take (k + 1) = l.take k ++ [x] := by
  rw [List.take_add_one, hx]; rfl
theorem allM_bad {l : List Int} {k : Nat} {x : Int} (hx : l[k]? = some x) (h : (vm x && wi x (l.take k)) = false) : allM l = false := by
  cases ha : allM l with
  | false => rfl
  | true =>
    have := allM_take (k + 1) ha
    rw [take_one hx, allM_snoc, h] at this
    simp at this
theorem allM_step {l : List Int} {k : Nat} {x : Int} (hx : l[k]? = some x) (h : (vm x && wi x (l.take k)) = true) (ha : allM (l.take k) = true) : allM (l.take (k + 1)) = true := by
  rw [take_one hx, allM_snoc, h, ha]; rfl

set_option maxHeartbeats 4000000 in
theorem All_any {w : World} (hW : Laid w) {a : Option Addr} {n c b o : Nat} {l : List Int} (hL : Li .i64 w a n c b o l) (hn : n ≤ 1000) :
    Calls Tryd.prog 17 #[.slice a n c] w (Ret (.bool (allM l)) (fun w' => Frm [] w w')) := by
  have hgood : allM (l.take n) = true → allM l = true := fun h => by rwa [List.take_of_length_le (by rw [hL.len]; exact Nat.le_refl _)] at h
  have hbad := fun k x hx h => allM_bad (l := l) (k := k) (x := x) hx h
  generalize allM l = R at hgood hbad ⊢
  have HG := Lib.hid hgood
  have HB := Lib.hid hbad
  have HL := Lib.hid hL
  have HW := Lib.hid hW
  clear hgood hbad hL hW
  go_enter Tryd.func17, Tryd.ntmps17
  go_wp2_with fail
  have e2 : SetAt (w.alloc (.cells #[.bool false, .bool false, .bool false, .bool false] 43)) w.heap.size [] := by
    unfold SetAt
    exact heap_alloc_new _ _
  have e3 : Frm [] w (w.alloc (.cells #[.bool false, .bool false, .bool false, .bool false] 43)) := (Frm.refl _ _).alloc _
  generalize (w.alloc (.cells #[.bool false, .bool false, .bool false, .bool false] 43)) = X at e2 e3 ⊢
  have H2 := Lib.hid e2
  clear e2
  go_loopw [8] (fun i w' => ∃ k : Nat, k ≤ n ∧ i = .int .i64 k ∧ Frm [] w w' ∧ Hid (SetAt w' w.heap.size (l.take k)) ∧ Hid (allM (l.take k) = true)) (fun i _ => n - (intOf i).toNat)
  case atStart => exact ⟨0, by omega, rfl, e3, H2, Lib.hid rfl⟩
  case round =>
    obtain ⟨k, hk, rfl, hF, HS, HA⟩ := hrel
    by_cases hlt : k < n
    · obtain ⟨x, hx, hg, hc⟩ := (HL.out.frm0 hF).get hlt
      have hix := ix_md (c := c) HL.out.ad hlt
      obtain ⟨c0, c1, c2, c3⟩ := HS.out.cells
      have HX := Lib.hid hx
      clear hx hg
      have hb0 : (k : Int) < (n : Int) := by omega
      have HW1 := Lib.hid (HW.out.frm0 hF)
      cases hv : (vm x && wi x (l.take k)) with
      | false =>
        have HR := Lib.hid (HB.out k x HX.out hv)
        have HV := Lib.hid hv
        clear hv
        go_wp2_with fail
        refine (takes_any HW1.out _ _ _ _ _).mono ?_
        rintro e w1 ⟨rfl, hF1⟩
        rw [tk_st, HV.out]
        go_wp2_with fail
        go_ret
        exact ⟨by rw [HR.out]; rfl, hF.trans hF1⟩
      | true =>
        have HV := Lib.hid hv
        clear hv
        go_wp2_with fail
        refine (takes_any HW1.out _ _ _ _ _).mono ?_
        rintro e w1 ⟨rfl, hF1⟩
        rw [tk_st, HV.out]
        clear c0 c1 c2 c3 hc hix
        have HS1 := Lib.hid (HS.out.frm hF1 (by simp))
        go_wp2_with fail
        refine (add_any HS1.out x).mono ?_
        rintro e w2 ⟨rfl, hF2, hS2⟩
        have HS2 := Lib.hid hS2
        clear hS2
        go_wp2_with fail
        go_roundw
        case rel =>
          refine ⟨k + 1, by omega, by go_num, (hF.trans hF1).trans_new hF2 (fun x hx => .inr (by simp at hx; omega)), Lib.hid ?_, Lib.hid (allM_step HX.out HV.out HA.out)⟩
          rw [take_one HX.out]; exact HS2.out
        case measure => simp [intOf]; omega
    · obtain rfl : k = n := by omega
      have HR := Lib.hid (HG.out HA.out)
      go_wp2_with fail
      go_ret
      exact ⟨by rw [HR.out]; rfl, hF⟩
#print axioms All_any
end Go.Proofs.YthnmjildeenecaaDoor
