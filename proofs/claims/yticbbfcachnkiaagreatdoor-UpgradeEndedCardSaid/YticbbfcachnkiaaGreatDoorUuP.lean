/- Package latch: queue. -/
import Derived.Test.YticbbfcachnkiaaGreatDoorUuL
namespace Go.Proofs.YticbbfcachnkiaaGreatDoor
open Go.ChangeShapes Go.WideShapes Go.ChangeAt Go.RowKit
set_option linter.unusedVariables false
set_option linter.unusedSimpArgs false

/-- Who waits, from the node k on to the node la: at most f of them. -/
def qL (T nb : Nat) (ws : List Int) (la : Int) : Nat → Int → Option (List (Int × Int))
  | 0, _ => none
  | f + 1, k =>
    if ws.getD (mdW nb k.toNat) 0 = 1 ∨ ws.getD (mdW nb k.toNat) 0 = 2 ∨ ws.getD (mdW nb k.toNat) 0 = 3 then
      if k = la then some [(k / 2, ws.getD (mdW nb k.toNat) 0)]
      else if isL T (ws.getD (nxW nb k.toNat) 0 - 1) = true then (qL T nb ws la f (ws.getD (nxW nb k.toNat) 0 - 1)).map (fun l => (k / 2, ws.getD (mdW nb k.toNat) 0) :: l)
      else none
    else none
def slN : Value → Nat
  | .slice _ n _ => n
  | _ => 0
/-- What queue returns. -/
def qRes (r : Option (List (Int × Int))) (B d p c : Nat) (ws : List Int) (w : World) (e : Ending) (w' : World) : Prop :=
  match r with
  | some l => ∃ a n k, Ret (.tuple #[.slice a n k, .int .i64 0]) (fun w' => Frm [d] w w' ∧ MemAt w' p d c ws ∧ Row2 B w' a n k l) e w'
  | none => Ret (.tuple #[.slice none 0 0, .int .i64 12]) (fun w' => Frm [d] w w' ∧ MemAt w' p d c ws) e w'
section
variable {w : World} {p d c np nb T : Nat} {ws : List Int}
set_option maxRecDepth 1000000 in
set_option maxHeartbeats 4000000 in
theorem queue_any (hM : MemAt w p d c ws) (hN : Nd w np nb T) (hnd : np ≠ d) (fit : nb + 6 * T ≤ ws.length) (hws : ∀ (i : Nat) (x : Int), ws[i]? = some x → 0 ≤ x ∧ x < 18446744073709551616) (fi la : Int) (hfi : isL T fi = true) :
    Calls Tryz.prog 92 #[.iface 24 (.pointer (some ⟨p, 0, none⟩)), .pointer (some ⟨np, 0, none⟩), .int .i64 fi, .int .i64 la] w (qRes (qL T nb ws la T fi) w.heap.size d p c ws w) := by
  have hd := hM.dlt
  have hp := hM.plt
  have T64 := hN.t64
  have le := hM.le
  have HM := Lib.hid hM
  have HN := Lib.hid hN
  have HWS := Lib.hid hws
  have hfb := isL_le hfi
  have e0 : (fi == -1) = false := by simp; omega
  clear hM hN hws
  go_enter Tryz.func92, Tryz.ntmps92
  go_wp2_with fail
  go_loopw [10, 11] (fun i j wr => ∃ (a : Option Addr) (n k : Nat) (D : List (Int × Int)) (x : Nat), i = .slice a n k ∧ j = .int .i64 (x : Int) ∧ isL T x = true ∧ n ≤ T ∧ Hid (qL T nb ws la T fi = (qL T nb ws la (T - n) x).map (D ++ ·)) ∧ Hid (Frm [d] w wr) ∧ Hid (MemAt wr p d c ws) ∧ Hid (Row2 w.heap.size wr a n k D)) (fun i _ _ => T - slN i)
  case atStart => exact ⟨none, 0, 0, [], fi.toNat, rfl, by rw [Int.toNat_of_nonneg hfb.1], by rw [Int.toNat_of_nonneg hfb.1]; exact hfi, by omega, Lib.hid (by rw [Int.toNat_of_nonneg hfb.1]; cases qL T nb ws la (T - 0) fi <;> simp_all), Lib.hid (Frm.refl _ _), HM, Lib.hid (Row2.nil _ _)⟩
  case round =>
    obtain ⟨a, n, k, D, x, rfl, rfl, hx, hn, HQ, HF, HMr, HR⟩ := hrel
    have hxb := isL_le hx
    have HNr := Lib.hid (HN.out.frmD HF.out (by simpa using hnd))
    by_cases hlt : n < T
    · have e1 : decide ((n : Int) < (T : Int)) = true := by simpa using hlt
      go_wp2_with fail
      refine (threads_nd HNr.out).mono ?_
      rintro e w' ⟨rfl, rfl⟩
      go_wp2_with fail
      have hxT : x < 2 * T := by omega
      have le2 : nb + 6 * T ≤ 65536 := by omega
      have hv : ws[mdW nb x]? = some (ws.getD (mdW nb x) 0) := by
        have : mdW nb x < ws.length := by unfold mdW; omega
        simp [List.getD, List.getElem?_eq_getElem this]
      have hu : ws[nxW nb x]? = some (ws.getD (nxW nb x) 0) := by
        have : nxW nb x < ws.length := by unfold nxW; omega
        simp [List.getD, List.getElem?_eq_getElem this]
      have hQs : qL T nb ws la (T - n) (x : Int) = if ws.getD (mdW nb x) 0 = 1 ∨ ws.getD (mdW nb x) 0 = 2 ∨ ws.getD (mdW nb x) 0 = 3 then
          if (x : Int) = la then some [((x : Int) / 2, ws.getD (mdW nb x) 0)]
          else if isL T (ws.getD (nxW nb x) 0 - 1) = true then (qL T nb ws la (T - (n + 1)) (ws.getD (nxW nb x) 0 - 1)).map (fun l => ((x : Int) / 2, ws.getD (mdW nb x) 0) :: l)
          else none
        else none := by
        rw [show T - n = (T - (n + 1)) + 1 by omega]; rfl
      generalize ws.getD (mdW nb x) 0 = v at hv hQs
      generalize ws.getD (nxW nb x) 0 = u at hu hQs
      have hvb := HWS.out _ _ hv
      have hub := HWS.out _ _ hu
      by_cases hvm : v = 1 ∨ v = 2 ∨ v = 3
      · rw [if_pos hvm] at hQs
        refine (waiter_ok HMr.out HNr.out hnd le2 x hxT v hvm hv).mono ?_
        rintro e w1 ⟨rfl, hF1, hM1⟩
        have HF1 := Lib.hid hF1
        have HM1 := Lib.hid hM1
        have HR1 := Lib.hid (HR.out.frm hF1 (fun y hy => by have := (HR.out.blk y hy).1; simp; omega))
        have HQs := Lib.hid hQs
        have HU := Lib.hid hu
        have HVM := Lib.hid hvm
        clear hF1 hM1 hQs hu hv hvm
        have hB1 : w.heap.size ≤ w1.heap.size := Nat.le_trans HF.out.size HF1.out.size
        have hDl : D.length ≤ 64 := by have := HR.out.len; omega
        by_cases hl : (x : Int) = la
        · have e2 : ((x : Int) == la) = true := by simpa using hl
          have HQQ : Hid (qL T nb ws la T fi = some (D ++ [((x : Int) / 2, v)])) := Lib.hid (by rw [HQ.out, HQs.out, if_pos hl]; rfl)
          clear hl
          go_wp2_with (at_builtin; refine wpl_app2 Tryz.underlying116 rfl (.tmp 32) (.tmp 34) rfl (B := w.heap.size) (a := a) (n := n) (c := k) (c2 := 1) (g := w1.heap.size + 1) (l := D) (y := ((x : Int) / 2, v)) (sv := .slice (some ⟨w1.heap.size + 1, 0, none⟩) 1 1) (by simp [Act.eval]) (by simp [Act.eval]) rfl (HR1.out.frm0 (by (repeat' (first | exact Frm.refl _ _ | apply Frm.alloc | (refine Frm.setCell ?_ _ _ (.inr (by simp))))))) (by rw [cell_of_heap (heap_alloc_at _ (by simp))]; rfl) (by rw [cell_of_heap (heap_alloc_at _ (by simp))]; rfl) (by omega) (by simp; omega) ?_; intro a1 k1 w2 hR2 f2 p2; have F2 : Frm (blk (.slice a n k)) w1 w2 := Frm.trans (Frm.nil (by (repeat' (first | exact Frm.refl _ _ | apply Frm.alloc | (refine Frm.setCell ?_ _ _ (.inr (by simp))))))) f2; have HM2 := Lib.hid (HM1.out.frm F2 (fun hy => by have := (HR1.out.blk _ hy).1; omega) (fun hy => by have := (HR1.out.blk _ hy).1; omega)); have HF2 := Lib.hid ((HF.out.trans HF1.out).trans_new F2 (fun y hy => .inr ((HR1.out.blk y hy).1))); have HR2 := Lib.hid hR2; clear hR2 f2 p2 F2)
          go_wp2
          go_ret2
          rw [HQQ.out]
          exact ⟨a1, n + 1, k1, rfl, HF2.out, HM2.out, HR2.out⟩
        · have e2 : ((x : Int) == la) = false := by simpa using hl
          have HQs := Lib.hid (show qL T nb ws la (T - n) (x : Int) = _ from by rw [HQs.out, if_neg hl])
          clear hl
          go_wp2_with (at_builtin; refine wpl_app2 Tryz.underlying116 rfl (.tmp 32) (.tmp 34) rfl (B := w.heap.size) (a := a) (n := n) (c := k) (c2 := 1) (g := w1.heap.size + 1) (l := D) (y := ((x : Int) / 2, v)) (sv := .slice (some ⟨w1.heap.size + 1, 0, none⟩) 1 1) (by simp [Act.eval]) (by simp [Act.eval]) rfl (HR1.out.frm0 (by (repeat' (first | exact Frm.refl _ _ | apply Frm.alloc | (refine Frm.setCell ?_ _ _ (.inr (by simp))))))) (by rw [cell_of_heap (heap_alloc_at _ (by simp))]; rfl) (by rw [cell_of_heap (heap_alloc_at _ (by simp))]; rfl) (by omega) (by simp; omega) ?_; intro a1 k1 w2 hR2 f2 p2; have F2 : Frm (blk (.slice a n k)) w1 w2 := Frm.trans (Frm.nil (by (repeat' (first | exact Frm.refl _ _ | apply Frm.alloc | (refine Frm.setCell ?_ _ _ (.inr (by simp))))))) f2; have HM2 := Lib.hid (HM1.out.frm F2 (fun hy => by have := (HR1.out.blk _ hy).1; omega) (fun hy => by have := (HR1.out.blk _ hy).1; omega)); have HF2 := Lib.hid ((HF.out.trans HF1.out).trans_new F2 (fun y hy => .inr ((HR1.out.blk y hy).1))); have HR2 := Lib.hid hR2; clear hR2 f2 p2 F2)
          have HN2 := Lib.hid (HN.out.frmD HF2.out (by simpa using hnd))
          cases hu2 : isL T (u - 1) with
          | true =>
            have HQs2 := Lib.hid (show qL T nb ws la (T - n) (x : Int) = _ from by rw [HQs.out, if_pos hu2])
            have HU2 := Lib.hid hu2
            have hub2 := isL_le hu2
            clear hu2
            refine (behind_ok HM2.out HN2.out hnd le2 x hxT u HU2.out HU.out).mono ?_
            rintro e w3 ⟨rfl, hF3, hM3⟩
            have HF3 := Lib.hid hF3
            have HM3 := Lib.hid hM3
            have HR3 := Lib.hid (HR2.out.frm hF3 (fun y hy => by have := (HR2.out.blk y hy).1; simp; omega))
            clear hF3 hM3
            go_wp2_with fail
            go_roundw
            case rel => exact ⟨a1, n + 1, k1, D ++ [((x : Int) / 2, v)], (u - 1).toNat, rfl, by rw [Int.toNat_of_nonneg hub2.1], by rw [Int.toNat_of_nonneg hub2.1]; exact HU2.out, by omega, Lib.hid (by rw [HQ.out, HQs2.out, Int.toNat_of_nonneg hub2.1]; cases qL T nb ws la (T - (n + 1)) (u - 1) <;> simp), Lib.hid (HF2.out.trans HF3.out), HM3, HR3⟩
            case measure => simp [slN]; omega
          | false =>
            have HQQ : Hid (qL T nb ws la T fi = none) := Lib.hid (by rw [HQ.out, HQs.out, if_neg (by simp [hu2])]; rfl)
            refine (behind_bad HM2.out HN2.out hnd le2 x hxT u hub.1 hu2 HU.out).mono ?_
            rintro e w3 ⟨rfl, hF3, hM3⟩
            have HF3 := Lib.hid hF3
            have HM3 := Lib.hid hM3
            clear hF3 hM3 hu2
            go_wp2
            go_ret2
            rw [HQQ.out]
            exact ⟨rfl, HF2.out.trans HF3.out, HM3.out⟩
      · rw [if_neg hvm] at hQs
        have HQQ : Hid (qL T nb ws la T fi = none) := Lib.hid (by rw [HQ.out, hQs]; rfl)
        clear hQs
        refine (waiter_bad HMr.out HNr.out hnd le2 x hxT v hvb.1 hvb.2 hvm hv).mono ?_
        rintro e w1 ⟨rfl, hF1, hM1⟩
        have HF1 := Lib.hid hF1
        have HM1 := Lib.hid hM1
        clear hF1 hM1 hv hu hvm
        go_wp2
        go_ret2
        rw [HQQ.out]
        exact ⟨rfl, (HF.out.trans HF1.out).trans (by (repeat' (first | exact Frm.refl _ _ | apply Frm.alloc | (refine Frm.setCell ?_ _ _ (.inr (by simp)))))), HM1.out.frm (D := []) (by (repeat' (first | exact Frm.refl _ _ | apply Frm.alloc | (refine Frm.setCell ?_ _ _ (.inr (by simp)))))) (by simp) (by simp)⟩
    · have e1 : decide ((n : Int) < (T : Int)) = false := by simpa using hlt
      have hQ : qL T nb ws la T fi = none := by rw [HQ.out, show T - n = 0 by omega]; rfl
      have HQQ := Lib.hid hQ
      clear hQ
      go_wp2_with fail
      refine (threads_nd HNr.out).mono ?_
      rintro e w' ⟨rfl, rfl⟩
      go_wp2
      go_ret2
      rw [HQQ.out]
      exact ⟨rfl, HF.out, HMr.out⟩
end
end Go.Proofs.YticbbfcachnkiaaGreatDoor
