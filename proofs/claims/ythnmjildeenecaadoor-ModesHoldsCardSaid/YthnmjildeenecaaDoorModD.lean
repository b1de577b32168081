/- Package modes: setOf. -/
import Derived.Test.YthnmjildeenecaaDoorModC
namespace Go.Proofs.YthnmjildeenecaaDoor
open Go.ChangeShapes Go.WideShapes Go.ChangeAt Go.RowKit

set_option maxHeartbeats 4000000 in
theorem setof_any {w : World} {a : Option Addr} {n c b o : Nat} {l : List Int} (hL : Li .i64 w a n c b o l) (hn : n ≤ 1000) :
    Calls Tryd.prog 30 #[.slice a n c] w (Ret (.agg #[.bool (st l 0), .bool (st l 1), .bool (st l 2), .bool (st l 3)]) (fun w' => Frm [] w w')) := by
  have HL := Lib.hid hL
  clear hL
  go_enter Tryd.func30, Tryd.ntmps30
  go_wp2_with fail
  have e1 : ((w.alloc (.cells #[.bool false, .bool false, .bool false, .bool false] 43)).alloc (.cells #[.bool false, .bool false, .bool false, .bool false] 43)).heap[w.heap.size]? = some (.cells #[.bool false, .bool false, .bool false, .bool false] 43 (0, 0)) := heap_alloc_old _ (heap_alloc_new _ _)
  have e2 : SetAt ((w.alloc (.cells #[.bool false, .bool false, .bool false, .bool false] 43)).alloc (.cells #[.bool false, .bool false, .bool false, .bool false] 43)) (w.heap.size + 1) [] := by
    unfold SetAt
    exact heap_alloc_at _ (by simp)
  have e3 : Frm [] w ((w.alloc (.cells #[.bool false, .bool false, .bool false, .bool false] 43)).alloc (.cells #[.bool false, .bool false, .bool false, .bool false] 43)) := ((Frm.refl _ _).alloc _).alloc _
  generalize ((w.alloc (.cells #[.bool false, .bool false, .bool false, .bool false] 43)).alloc (.cells #[.bool false, .bool false, .bool false, .bool false] 43)) = X at e1 e2 e3 ⊢
  have H1 := Lib.hid e1
  have H2 := Lib.hid e2
  clear e1 e2
  go_loopw [8] (fun i w' => ∃ k : Nat, k ≤ n ∧ i = .int .i64 k ∧ Frm [] w w' ∧ Hid (w'.heap[w.heap.size]? = some (.cells #[.bool false, .bool false, .bool false, .bool false] 43 (0, 0))) ∧ Hid (SetAt w' (w.heap.size + 1) (l.take k))) (fun i _ => n - (intOf i).toNat)
  case atStart => exact ⟨0, by omega, rfl, e3, H1, H2⟩
  case round =>
    obtain ⟨k, hk, rfl, hF, HR, HS⟩ := hrel
    by_cases hlt : k < n
    · obtain ⟨x, hx, hg, hc⟩ := (HL.out.frm0 hF).get hlt
      have hix := ix_md (c := c) HL.out.ad hlt
      have HX := Lib.hid hx
      clear hx hg
      have hb0 : (k : Int) < (n : Int) := by omega
      go_wp2_with fail
      refine (add_any HS.out x).mono ?_
      rintro e w1 ⟨rfl, hF1, hS1⟩
      have HS1 := Lib.hid hS1
      clear hS1
      go_wp2_with fail
      go_roundw
      case rel =>
        refine ⟨k + 1, by omega, by go_num, hF.trans_new hF1 (fun x hx => .inr (by simp at hx; omega)), Lib.hid (hF1.heap HR.out (by simp)), Lib.hid ?_⟩
        have := HS1.out
        rw [List.take_add_one, HX.out]; exact this
      case measure => simp [intOf]; omega
    · obtain ⟨c0, c1, c2, c3⟩ := HS.out.cells
      have hlen := HL.out.len
      rw [List.take_of_length_le (by omega)] at c0 c1 c2 c3
      have r0 := cells4 HR.out
      obtain ⟨r0, r1, r2, r3⟩ := r0
      obtain ⟨z0, z1, z2, z3⟩ := frozen4 HR.out
      have HT := Lib.hid hlen
      clear hlen
      go_wp2_with fail
      obtain ⟨k0, k1, k2, k3⟩ := cells4 (setCells4 HR.out (.bool (st l 0)) (.bool (st l 1)) (.bool (st l 2)) (.bool (st l 3)))
      exact bodyPost_ret (v := .agg #[.bool (st l 0), .bool (st l 1), .bool (st l 2), .bool (st l 3)]) (by simp [results, Tryd.results30, go_sem, k0, k1, k2, k3]) rfl ⟨rfl, hF.set4 _ _ _ _ _ _ _ _ _ (.inr (Nat.le_refl _))⟩

theorem gs_no {b0 b1 b2 b3 : Bool} {m g : Int} {b : Bool} (h : tk b0 b1 b2 b3 m = false) : gs b0 b1 b2 b3 m g b = false := by unfold gs; rw [h]; rfl
theorem gs_yes {b0 b1 b2 b3 : Bool} {m g : Int} {b : Bool} (h : tk b0 b1 b2 b3 m = true) : gs b0 b1 b2 b3 m g b = (decide (m ≠ 1) || !b || decide (g < 4)) := by unfold gs; rw [h]; rfl

set_option maxHeartbeats 4000000 in
theorem goes_any {w : World} (hL : Laid w) (b0 b1 b2 b3 : Bool) (m g : Int) (b : Bool) :
    Calls Tryd.prog 29 #[.int .i64 m, .agg #[.bool b0, .bool b1, .bool b2, .bool b3], .int .i64 g, .bool b] w (Ret (.bool (gs b0 b1 b2 b3 m g b)) (fun w' => Frm [] w w')) := by
  have hL1 : Laid (w.alloc (.cells #[.bool b0, .bool b1, .bool b2, .bool b3] 43)) := hL.alloc _
  have hF : Frm [] w (w.alloc (.cells #[.bool b0, .bool b1, .bool b2, .bool b3] 43)) := (Frm.refl _ _).alloc _
  have HL := Lib.hid hL1
  have HF := Lib.hid hF
  clear hL1 hF hL
  cases ht : tk b0 b1 b2 b3 m with
  | false =>
    rw [gs_no ht]
    have HT := Lib.hid ht
    clear ht
    go_enter Tryd.func29, Tryd.ntmps29
    go_wp2_with fail
    refine (takes_any HL.out _ _ _ _ _).mono ?_
    rintro e w1 ⟨rfl, hF1⟩
    rw [HT.out]
    go_wp2_with fail
    go_ret
    exact ⟨rfl, HF.out.trans hF1⟩
  | true =>
    rw [gs_yes ht]
    have HT := Lib.hid ht
    clear ht
    by_cases hm : m = 1
    · subst hm
      cases b with
      | false =>
        go_enter Tryd.func29, Tryd.ntmps29
        go_wp2_with fail
        refine (takes_any HL.out _ _ _ _ _).mono ?_
        rintro e w1 ⟨rfl, hF1⟩
        rw [HT.out]
        go_wp2_with fail
        go_ret
        exact ⟨rfl, HF.out.trans hF1⟩
      | true =>
        have e : (decide ((1 : Int) ≠ 1) || !true || decide (g < 4)) = decide (g < 4) := by simp
        rw [e]
        clear e
        go_enter Tryd.func29, Tryd.ntmps29
        go_wp2_with fail
        refine (takes_any HL.out _ _ _ _ _).mono ?_
        rintro e w1 ⟨rfl, hF1⟩
        rw [HT.out]
        go_wp2_with fail
        go_ret
        exact ⟨rfl, HF.out.trans hF1⟩
    · have e : (decide (m ≠ 1) || !b || decide (g < 4)) = true := by simp [hm]
      have d : (m != 1) = true := by simpa using hm
      rw [e]
      clear e hm
      go_enter Tryd.func29, Tryd.ntmps29
      go_wp2_with fail
      refine (takes_any HL.out _ _ _ _ _).mono ?_
      rintro e w1 ⟨rfl, hF1⟩
      rw [HT.out]
      go_wp2_with fail
      go_ret
      exact ⟨rfl, HF.out.trans hF1⟩
#print axioms goes_any
end Go.Proofs.YthnmjildeenecaaDoor
