/- The reference's Grants. -/
import Derived.Test.YthnmjildeenecaaDoorModG
namespace Go.Proofs.YthnmjildeenecaaDoor
open Go.ChangeShapes Go.WideShapes Go.ChangeAt Go.RowKit

theorem info_md : (Tryd.prog.info? 22).map (fun i => (i.zero, i.size, i.bytes)) = some (some (.int .i64 0), 1, 8) := by kernel_rfl

set_option maxRecDepth 100000 in
set_option maxHeartbeats 8000000 in
theorem rGrants_any {w : World} {a1 a2 : Option Addr} {n1 c1 b1 o1 n c b o : Nat} {h q : List Int} (hH : Li .i64 w a1 n1 c1 b1 o1 h) (hQ : Li .i64 w a2 n c b o q) (hn1 : n1 ≤ 400) (hn : n ≤ 400) (g0 : Int) (hg0 : lo64 ≤ g0) :
    Calls Tryd.prog 22 #[.slice a1 n1 c1, .slice a2 n c, .int .i64 g0] w (Ret (.int .i64 (grant h q g0 : Nat)) (fun w' => Frm [] w w')) := by
  obtain ⟨R, hR⟩ : ∃ R, grant h q g0 = R := ⟨_, rfl⟩
  have hR0 : grant (h ++ q.take 0) (q.drop 0) g0 + 0 = R := by simpa using hR
  rw [hR]
  have HR := Lib.hid hR0
  have HH := Lib.hid hH
  have HQ := Lib.hid hQ
  have HG0 := Lib.hid hg0
  have HLQ := Lib.hid hQ.len
  have HLH := Lib.hid hH.len
  clear hR hR0 hH hQ hg0
  go_enter Tryd.func22, Tryd.ntmps22
  go_wp2_with (at_builtin; refine wpl_app Tryd.underlying30 info_md (by decide) (by decide) rfl (.const (.slice none 0 0)) (.tmp 9) rfl (B := w.heap.size) (a := none) (n := 0) (c := 0) (m := n1) (l := []) (l2 := h) (by simp [Act.eval]) (by simp [Act.eval]) (Row.nil _ _ _ _) HH.out (by simp; omega) (Nat.le_refl _) ?_; intro a3 c3 w3 hR3 hF3)
  have hF3' : Frm [] w w3 := hF3.weak (fun x hx => by cases hx)
  have HR3 : Hid (Row .i64 22 w.heap.size w3 a3 n1 c3 (h ++ q.take 0)) := Lib.hid (by simpa using hR3)
  clear hR3 hF3
  go_loopw [2, 7, 8] (fun s v i w' => ∃ (k r c' : Nat) (g : Int) (a' : Option Addr), k ≤ n ∧ r ≤ n1 + k ∧ i = .int .i64 k ∧ s = .int .i64 g ∧ v = .slice a' r c' ∧ Frm [] w w' ∧ Hid (Row .i64 22 w.heap.size w' a' r c' (h ++ q.take k)) ∧ Hid (grant (h ++ q.take k) (q.drop k) g + k = R) ∧ Hid (k < n → lo64 ≤ g)) (fun _ _ i _ => n - (intOf i).toNat)
  case atStart => exact ⟨0, n1, c3, g0, a3, by omega, by omega, rfl, rfl, rfl, hF3', HR3, HR, Lib.hid (fun _ => HG0.out)⟩
  case round =>
    clear hF3' HR3 HR
    obtain ⟨k, r, c', g, a', hk, hr, rfl, rfl, rfl, hF, HA, HR, HG⟩ := hrel
    by_cases hlt : k < n
    · obtain ⟨x, hx, hg, hc⟩ := (HQ.out.frm0 hF).get hlt
      have hix := ix_md (c := c) HQ.out.ad hlt
      obtain ⟨bA, hA⟩ := HA.out.li
      have HLA := Lib.hid hA
      have HX := Lib.hid hx
      have hqb := (HQ.out.frm0 hF).lt (by omega)
      have HC := Lib.hid hc
      clear hx hg hA
      have hb0 : (k : Int) < (n : Int) := by omega
      by_cases hl : k + 1 < n
      · have hbh : decide ((k : Int) + 1 < (n : Int)) = true := by simp; omega
        have hbq : decide (k + 1 < q.length) = true := by rw [HLQ.out]; simp; omega
        have HBQ := Lib.hid hbq
        clear hbq
        cases hv : goB x (h ++ q.take k) g true with
        | false =>
          have hRk := grant_halt HX.out HBQ.out hv HR.out
          have HRk := Lib.hid hRk
          have HV := Lib.hid hv
          clear hv hRk
          go_wp2_with fail
          refine (rGoes_any HLA.out (by omega) _ _ _).mono ?_
          rintro e w2 ⟨rfl, rfl⟩
          rw [HV.out]
          go_wp2_with fail
          go_ret
          exact ⟨by rw [HRk.out]; rfl, hF⟩
        | true =>
          have hRk := grant_next HX.out HBQ.out hv HR.out
          have hgw := goB_vw hv
          have HRk := Lib.hid hRk
          have HV := Lib.hid hv
          have HGW := Lib.hid hgw
          clear hv hRk hgw
          by_cases hx1 : x = 1
          · have d1 : (x == 1) = true := by simpa using hx1
            have HX1 := Lib.hid hx1
            clear hx1
            have hwr := wrap_up (HG.out hlt) (HGW.out.2.2 HX1.out (by first | rfl | trivial))
            have hg4 : g < 4 := HGW.out.2.2 HX1.out (by first | rfl | trivial)
            have d4 : decide (4 < g + 1) = false := by simp; omega
            clear hg4
            go_wp2_with fail
            refine (rGoes_any HLA.out (by omega) _ _ _).mono ?_
            rintro e w2 ⟨rfl, rfl⟩
            rw [HV.out]
            go_wp2_with (at_builtin; refine wpl_app Tryd.underlying30 info_md (by decide) (by decide) rfl (.tmp 29) (.tmp 34) rfl (B := w.heap.size) (a := a') (n := r) (c := c') (m := 1) (l := h ++ q.take k) (l2 := [x]) (by simp [Act.eval]) (by simp [Act.eval]) (HA.out.frm0 ((Frm.refl _ _).alloc _)) (li_new rfl (heap_alloc_new _ _)) (by rw [List.length_append, List.length_take, HLH.out]; omega) (by have := hF.size; simp; omega) ?_; intro a4 c4 w4 hR4 hF4; have hF4' : Frm [] w w4 := (hF.alloc (.cells #[.int .i64 x] 22)).trans_new hF4 (fun y hy => .inr (HA.out.blk y hy).1); have HR5 : Hid (Row .i64 22 w.heap.size w4 a4 (r + 1) c4 (h ++ q.take (k + 1))) := Lib.hid (by rw [take_one HX.out, ← List.append_assoc]; exact hR4); have hc4 := (HQ.out.frm0 hF4').cell k x HX.out; clear hR4 hF4)
            go_roundw
            case rel =>
              refine ⟨k + 1, r + 1, c4, _, a4, by omega, by omega, by go_num, rfl, rfl, hF4', HR5, Lib.hid ?_, Lib.hid (fun _ => ?_)⟩
              · have := HRk.out
                rw [if_pos HX1.out] at this
                rw [hwr]; exact this
              · rw [hwr]; have := HG.out hlt; omega
            case measure => simp [intOf]; omega
          · have d1 : (x == 1) = false := by simpa using hx1
            have HX1 := Lib.hid hx1
            clear hx1
            go_wp2_with fail
            refine (rGoes_any HLA.out (by omega) _ _ _).mono ?_
            rintro e w2 ⟨rfl, rfl⟩
            rw [HV.out]
            go_wp2_with (at_builtin; refine wpl_app Tryd.underlying30 info_md (by decide) (by decide) rfl (.tmp 29) (.tmp 34) rfl (B := w.heap.size) (a := a') (n := r) (c := c') (m := 1) (l := h ++ q.take k) (l2 := [x]) (by simp [Act.eval]) (by simp [Act.eval]) (HA.out.frm0 ((Frm.refl _ _).alloc _)) (li_new rfl (heap_alloc_new _ _)) (by rw [List.length_append, List.length_take, HLH.out]; omega) (by have := hF.size; simp; omega) ?_; intro a4 c4 w4 hR4 hF4; have hF4' : Frm [] w w4 := (hF.alloc (.cells #[.int .i64 x] 22)).trans_new hF4 (fun y hy => .inr (HA.out.blk y hy).1); have HR5 : Hid (Row .i64 22 w.heap.size w4 a4 (r + 1) c4 (h ++ q.take (k + 1))) := Lib.hid (by rw [take_one HX.out, ← List.append_assoc]; exact hR4); have hc4 := (HQ.out.frm0 hF4').cell k x HX.out; clear hR4 hF4)
            go_roundw
            case rel =>
              refine ⟨k + 1, r + 1, c4, g, a4, by omega, by omega, by go_num, rfl, rfl, hF4', HR5, Lib.hid ?_, Lib.hid (fun _ => HG.out hlt)⟩
              have := HRk.out
              rw [if_neg HX1.out] at this
              exact this
            case measure => simp [intOf]; omega
      · have hbh : decide ((k : Int) + 1 < (n : Int)) = false := by simp; omega
        have hbq : decide (k + 1 < q.length) = false := by rw [HLQ.out]; simp; omega
        have HBQ := Lib.hid hbq
        clear hbq
        cases hv : goB x (h ++ q.take k) g false with
        | false =>
          have hRk := grant_halt HX.out HBQ.out hv HR.out
          have HRk := Lib.hid hRk
          have HV := Lib.hid hv
          clear hv hRk
          go_wp2_with fail
          refine (rGoes_any HLA.out (by omega) _ _ _).mono ?_
          rintro e w2 ⟨rfl, rfl⟩
          rw [HV.out]
          go_wp2_with fail
          go_ret
          exact ⟨by rw [HRk.out]; rfl, hF⟩
        | true =>
          have hRk := grant_next HX.out HBQ.out hv HR.out
          have hgw := goB_vw hv
          have HRk := Lib.hid hRk
          have HV := Lib.hid hv
          have HGW := Lib.hid hgw
          clear hv hRk hgw
          by_cases hx1 : x = 1
          · have d1 : (x == 1) = true := by simpa using hx1
            have HX1 := Lib.hid hx1
            clear hx1
            cases d4 : decide (4 < wrap64 (g + 1)) with
            | false =>
              go_wp2_with fail
              refine (rGoes_any HLA.out (by omega) _ _ _).mono ?_
              rintro e w2 ⟨rfl, rfl⟩
              rw [HV.out]
              go_wp2_with (at_builtin; refine wpl_app Tryd.underlying30 info_md (by decide) (by decide) rfl (.tmp 29) (.tmp 34) rfl (B := w.heap.size) (a := a') (n := r) (c := c') (m := 1) (l := h ++ q.take k) (l2 := [x]) (by simp [Act.eval]) (by simp [Act.eval]) (HA.out.frm0 ((Frm.refl _ _).alloc _)) (li_new rfl (heap_alloc_new _ _)) (by rw [List.length_append, List.length_take, HLH.out]; omega) (by have := hF.size; simp; omega) ?_; intro a4 c4 w4 hR4 hF4; have hF4' : Frm [] w w4 := (hF.alloc (.cells #[.int .i64 x] 22)).trans_new hF4 (fun y hy => .inr (HA.out.blk y hy).1); have HR5 : Hid (Row .i64 22 w.heap.size w4 a4 (r + 1) c4 (h ++ q.take (k + 1))) := Lib.hid (by rw [take_one HX.out, ← List.append_assoc]; exact hR4); have hc4 := (HQ.out.frm0 hF4').cell k x HX.out; clear hR4 hF4)
              go_roundw
              case rel => exact ⟨k + 1, r + 1, c4, _, a4, by omega, by omega, by go_num, rfl, rfl, hF4', HR5, Lib.hid (grant_end (by rw [HLQ.out]; omega) HRk.out), Lib.hid (fun h => by omega)⟩
              case measure => simp [intOf]; omega
            | true =>
              go_wp2_with fail
              refine (rGoes_any HLA.out (by omega) _ _ _).mono ?_
              rintro e w2 ⟨rfl, rfl⟩
              rw [HV.out]
              go_wp2_with (at_builtin; refine wpl_app Tryd.underlying30 info_md (by decide) (by decide) rfl (.tmp 29) (.tmp 34) rfl (B := w.heap.size) (a := a') (n := r) (c := c') (m := 1) (l := h ++ q.take k) (l2 := [x]) (by simp [Act.eval]) (by simp [Act.eval]) (HA.out.frm0 ((Frm.refl _ _).alloc _)) (li_new rfl (heap_alloc_new _ _)) (by rw [List.length_append, List.length_take, HLH.out]; omega) (by have := hF.size; simp; omega) ?_; intro a4 c4 w4 hR4 hF4; have hF4' : Frm [] w w4 := (hF.alloc (.cells #[.int .i64 x] 22)).trans_new hF4 (fun y hy => .inr (HA.out.blk y hy).1); have HR5 : Hid (Row .i64 22 w.heap.size w4 a4 (r + 1) c4 (h ++ q.take (k + 1))) := Lib.hid (by rw [take_one HX.out, ← List.append_assoc]; exact hR4); have hc4 := (HQ.out.frm0 hF4').cell k x HX.out; clear hR4 hF4)
              go_roundw
              case rel => exact ⟨k + 1, r + 1, c4, _, a4, by omega, by omega, by go_num, rfl, rfl, hF4', HR5, Lib.hid (grant_end (by rw [HLQ.out]; omega) HRk.out), Lib.hid (fun h => by omega)⟩
              case measure => simp [intOf]; omega
          · have d1 : (x == 1) = false := by simpa using hx1
            have HX1 := Lib.hid hx1
            clear hx1
            go_wp2_with fail
            refine (rGoes_any HLA.out (by omega) _ _ _).mono ?_
            rintro e w2 ⟨rfl, rfl⟩
            rw [HV.out]
            go_wp2_with (at_builtin; refine wpl_app Tryd.underlying30 info_md (by decide) (by decide) rfl (.tmp 29) (.tmp 34) rfl (B := w.heap.size) (a := a') (n := r) (c := c') (m := 1) (l := h ++ q.take k) (l2 := [x]) (by simp [Act.eval]) (by simp [Act.eval]) (HA.out.frm0 ((Frm.refl _ _).alloc _)) (li_new rfl (heap_alloc_new _ _)) (by rw [List.length_append, List.length_take, HLH.out]; omega) (by have := hF.size; simp; omega) ?_; intro a4 c4 w4 hR4 hF4; have hF4' : Frm [] w w4 := (hF.alloc (.cells #[.int .i64 x] 22)).trans_new hF4 (fun y hy => .inr (HA.out.blk y hy).1); have HR5 : Hid (Row .i64 22 w.heap.size w4 a4 (r + 1) c4 (h ++ q.take (k + 1))) := Lib.hid (by rw [take_one HX.out, ← List.append_assoc]; exact hR4); have hc4 := (HQ.out.frm0 hF4').cell k x HX.out; clear hR4 hF4)
            go_roundw
            case rel =>
              refine ⟨k + 1, r + 1, c4, g, a4, by omega, by omega, by go_num, rfl, rfl, hF4', HR5, Lib.hid ?_, Lib.hid (fun _ => HG.out hlt)⟩
              have := HRk.out
              rw [if_neg HX1.out] at this
              exact this
            case measure => simp [intOf]; omega
    · obtain rfl : k = n := by omega
      have hRk := grant_out (by rw [HLQ.out]; exact Nat.le_refl _) HR.out
      have HRk := Lib.hid hRk
      clear hRk
      go_wp2_with fail
      go_ret
      exact ⟨by rw [HRk.out]; rfl, hF⟩
#print axioms rGrants_any
end Go.Proofs.YthnmjildeenecaaDoor
