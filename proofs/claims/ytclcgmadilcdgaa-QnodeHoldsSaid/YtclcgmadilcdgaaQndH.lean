/- Layer 7: the walk of QnodeHolds (by gen_qndh.py). -/
import Derived.Test.YtclcgmadilcdgaaQndK
import Derived.Test.YtclcgmadilcdgaaQndS
namespace Go.Proofs.Ytclcgmadilcdgaa
open Go.ChangeShapes Go.WideShapes Go.ChangeAt Go.RowKit

theorem cells3 {w : World} {b : Nat} {x0 x1 x2 : Value} {t : TypeId} (h : w.heap[b]? = some (.cells #[x0, x1, x2] t (0, 0))) :
    w.cell? ⟨b, 0, none⟩ = some x0 ∧ w.cell? ⟨b, 1, none⟩ = some x1 ∧ w.cell? ⟨b, 2, none⟩ = some x2 := by
  refine ⟨?_, ?_, ?_⟩ <;> rw [cell_of_heap h] <;> rfl
theorem h_of {w : World} {p b t K : Nat} (h : Nd w p b t) {a c : Nat} (ha : a < t) (hc : c < 2) (hK : K = a * 2 + c) : Calls Try.prog 27 #[.pointer (some ⟨p, 0, none⟩), .int .i64 a, .int .i64 c] w (Ret (.tuple #[.int .i64 K, .int .i64 0]) (fun w' => w = w')) := by
  have e : (K : Int) = (a : Int) * 2 + (c : Int) := by omega
  rw [e]; exact of_yes h a c ha hc
theorem h_owner {w : World} {p b t K : Nat} (h : Nd w p b t) {a c : Nat} (ha : a < t) (hc : c < 2) (hK : K = a * 2 + c) : Calls Try.prog 18 #[.pointer (some ⟨p, 0, none⟩), .int .i64 K, .int .i64 a, .int .i64 0] w (Ret (.bool true) (fun w' => w = w')) := by
  have e : (a : Int) = (K : Int) / 2 := by omega
  rw [e]; exact qowner (owner_yes h K (by omega))
theorem h_node {w : World} {p b t K : Nat} (h : Nd w p b t) (hK : K < 2 * t) {r : Int} (hr : r = (K : Int) + 1) : Calls Try.prog 26 #[.pointer (some ⟨p, 0, none⟩), .int .u64 r, .int .i64 K, .int .i64 0] w (Ret (.bool true) (fun w' => w = w')) := by
  have e1 : r = ((K + 1 : Nat) : Int) := by omega
  have e2 : (K : Int) = ((K + 1 : Nat) : Int) - 1 := by omega
  rw [e1]
  conv => arg 3; rw [e2]
  exact qnode (node_yes h (K + 1) (by omega))
theorem h_ref {w : World} {p b t K : Nat} (h : Nd w p b t) (hK : K < 2 * t) {r : Int} (hr : r = (K : Int) + 1) : Calls Try.prog 28 #[.pointer (some ⟨p, 0, none⟩), .int .i64 K] w (Ret (.tuple #[.int .u64 r, .int .i64 0]) (fun w' => w = w')) := by
  rw [hr]; exact ref_yes h K hK
theorem h_next {w : World} {p b t K : Nat} (h : Nd w p b t) (fit : b + 6 * t ≤ 65536) (hK : K < 2 * t) {v : Int} (hv : v = (b : Int) + ((3 * K + 0 : Nat) : Int)) : Calls Try.prog 19 #[.pointer (some ⟨p, 0, none⟩), .int .i64 K] w (Ret (.int .i64 v) (fun w' => w = w')) := by
  have e : v = (b : Int) + (K : Int) * 3 + 0 := by omega
  rw [e]; exact next_yes h fit K hK
theorem h_wait {w : World} {p b t K : Nat} (h : Nd w p b t) (fit : b + 6 * t ≤ 65536) (hK : K < 2 * t) {v : Int} (hv : v = (b : Int) + ((3 * K + 1 : Nat) : Int)) : Calls Try.prog 21 #[.pointer (some ⟨p, 0, none⟩), .int .i64 K] w (Ret (.int .i64 v) (fun w' => w = w')) := by
  have e : v = (b : Int) + (K : Int) * 3 + 1 := by omega
  rw [e]; exact wait_yes h fit K hK
theorem h_mode {w : World} {p b t K : Nat} (h : Nd w p b t) (fit : b + 6 * t ≤ 65536) (hK : K < 2 * t) {v : Int} (hv : v = (b : Int) + ((3 * K + 2 : Nat) : Int)) : Calls Try.prog 23 #[.pointer (some ⟨p, 0, none⟩), .int .i64 K] w (Ret (.int .i64 v) (fun w' => w = w')) := by
  have e : v = (b : Int) + (K : Int) * 3 + 2 := by omega
  rw [e]; exact mode_yes h fit K hK

set_option maxRecDepth 100000 in
set_option maxHeartbeats 8000000 in
theorem walk_QnodeHolds (b : Int) (wb : (Lit.int .i64 b).wf = true) (t : Int) (_wt : (Lit.int .i64 t).wf = true) (w : World) :
    Calls Try.prog 7 #[.int .i64 b, .int .i64 t] w (Ret (.bool true) (fun w' => Below w.heap.size w w')) := by
  by_cases hr : 0 ≤ b ∧ 1 ≤ t ∧ t ≤ 64 ∧ b + 6 * t ≤ 65536
  · obtain ⟨r0, r1, r2, r3⟩ := hr
    obtain ⟨b, rfl⟩ := Int.eq_ofNat_of_zero_le r0
    obtain ⟨t, rfl⟩ := Int.eq_ofNat_of_zero_le (show 0 ≤ t by omega)
    have t1 : 1 ≤ t := by omega
    have t64 : t ≤ 64 := by omega
    have fit : b + 6 * t ≤ 65536 := by omega
    have hb1 : decide ((t : Int) < 1) = false := by simp; omega
    have hb1' : decide (t < 1) = false := by simp; omega
    have hb2 : decide (64 < (t : Int)) = false := by simp; omega
    have hb2' : decide (64 < t) = false := by simp; omega
    clear r0 r1 r2 r3 wb _wt
    have hmm := @run_makeMap Try.prog
    go_enter Try.func7, Try.ntmps7
    go_wp2_with fail
    refine (new_ok _ b t t1 t64 fit).mono ?_
    rintro e w1 ⟨rfl, hF1, hN⟩
    have HN := Lib.hid hN
    have hlt := lt_of_heap hN.at_
    clear hN
    go_wp2_with fail
    refine (threads_nd HN.out).mono ?_
    rintro e w' ⟨rfl, rfl⟩
    go_wp2_with fail
    obtain ⟨X, hX⟩ : ∃ X, X = w1.alloc (.map #[] 0) := ⟨_, rfl⟩
    have hXs : X.heap.size = w1.heap.size + 1 := by rw [hX]; simp
    have hS0 : Sn X w1.heap.size b 0 := by rw [hX]; exact Sn.made _ _
    have hFX : Frm [] w1 X := by rw [hX]; exact (Frm.refl _ _).alloc _
    rw [← hX]
    clear hX hmm
    have HNX := Lib.hid (HN.out.frm hFX)
    have HS0 := Lib.hid hS0
    have hq : w.heap.size ≤ w1.heap.size := hF1.size
    have HF := Lib.hid ((hF1.trans hFX).nil (D := [w1.heap.size]))
    have HPQ : Hid (w.heap.size ∉ [w1.heap.size]) := Lib.hid (by simp; omega)
    have HXS := Lib.hid hXs
    clear hS0 hFX hF1 hXs HN
    have hql : w1.heap.size < X.heap.size := HS0.out.lt
    generalize w1.heap.size = q at *
    generalize hp : w.heap.size = p at *
    have HPW := Lib.hid hp
    clear hp
    go_loopw [8] (fun i wr => ∃ a : Nat, a ≤ t ∧ i = .int .i64 a ∧ Frm [q] X wr ∧ Hid (Sn wr q b (6 * a))) (fun i _ => t - (intOf i).toNat)
    case atStart => exact ⟨0, by omega, rfl, Frm.refl _ _, HS0⟩
    case round =>
      obtain ⟨a, ha, rfl, hF, HS⟩ := hrel
      by_cases hlt2 : a < t
      · have hd1 : decide ((a : Int) < (t : Int)) = true := by simp; omega
        go_wp2_with fail
        go_loopw [9] (fun i wr2 => ∃ c : Nat, c ≤ 2 ∧ i = .int .i64 c ∧ Frm [q] X wr2 ∧ Hid (Sn wr2 q b (6 * a + 3 * c))) (fun i _ => 2 - (intOf i).toNat)
        case atStart => exact ⟨0, by omega, rfl, hF, HS⟩
        case round =>
          clear HS hF
          obtain ⟨c, hc, rfl, hF2, HS2⟩ := hrel
          by_cases hc2 : c < 2
          · obtain ⟨K, hK⟩ : ∃ K : Nat, K = a * 2 + c := ⟨_, rfl⟩
            have k2 : K < 2 * t := by omega
            obtain ⟨r, hr⟩ : ∃ r : Int, r = (K : Int) + 1 := ⟨_, rfl⟩
            obtain ⟨v0, hv0⟩ : ∃ v : Int, v = (b : Int) + ((3 * K + 0 : Nat) : Int) := ⟨_, rfl⟩
            obtain ⟨v1, hv1⟩ : ∃ v : Int, v = (b : Int) + ((3 * K + 1 : Nat) : Int) := ⟨_, rfl⟩
            obtain ⟨v2, hv2⟩ : ∃ v : Int, v = (b : Int) + ((3 * K + 2 : Nat) : Int) := ⟨_, rfl⟩
            have hr0 : (r == 0) = false := by simp; omega
            have l0 : decide (v0 < (b : Int)) = false := by simp; omega
            have l1 : decide (v1 < (b : Int)) = false := by simp; omega
            have l2 : decide (v2 < (b : Int)) = false := by simp; omega
            have m0 : decide ((b : Int) + (t : Int) * 2 * 3 ≤ v0) = false := by simp; omega
            have m1 : decide ((b : Int) + (t : Int) * 2 * 3 ≤ v1) = false := by simp; omega
            have m2 : decide ((b : Int) + (t : Int) * 2 * 3 ≤ v2) = false := by simp; omega
            have HN2 := Lib.hid (HNX.out.frmD hF2 HPQ.out)
            have HS3 : Hid (Sn wr q b (3 * K + 0)) := Lib.hid (by have := HS2.out; rw [show 3 * K + 0 = 6 * a + 3 * c by omega]; exact this)
            have HK := Lib.hid hK
            have HR := Lib.hid hr
            have HV0 := Lib.hid hv0
            have HV1 := Lib.hid hv1
            have HV2 := Lib.hid hv2
            clear hK hr hv0 hv1 hv2 HS2
            go_wp2_with fail
            refine (h_of HN2.out hlt2 hc2 HK.out).mono ?_
            rintro e w' ⟨rfl, rfl⟩
            go_wp2_with fail
            refine (h_owner HN2.out hlt2 hc2 HK.out).mono ?_
            rintro e w' ⟨rfl, rfl⟩
            go_wp2_with fail
            refine (h_ref HN2.out k2 HR.out).mono ?_
            rintro e w' ⟨rfl, rfl⟩
            go_wp2_with fail
            refine (h_node HN2.out k2 HR.out).mono ?_
            rintro e w' ⟨rfl, rfl⟩
            go_wp2_with fail
            refine (h_next HN2.out fit k2 HV0.out).mono ?_
            rintro e w' ⟨rfl, rfl⟩
            go_wp2_with fail
            refine (h_wait HN2.out fit k2 HV1.out).mono ?_
            rintro e w' ⟨rfl, rfl⟩
            go_wp2_with fail
            refine (h_mode HN2.out fit k2 HV2.out).mono ?_
            rintro e w' ⟨rfl, rfl⟩
            go_wp2_with fail
            obtain ⟨Y, hY⟩ : ∃ Y, Y = wr.alloc (.cells #[.int .i64 v0, .int .i64 v1, .int .i64 v2] 3) := ⟨_, rfl⟩
            have hFY : Frm [] wr Y := by rw [hY]; exact (Frm.refl _ _).alloc _
            have hG : Y.heap[wr.heap.size]? = some (.cells #[.int .i64 v0, .int .i64 v1, .int .i64 v2] 3 (0, 0)) := by rw [hY]; exact heap_alloc_new _ _
            have hgq : wr.heap.size ∉ [q] := by have := HS3.out.lt; simp; omega
            rw [← hY]
            clear hY
            have HG := Lib.hid hG
            have HGQ := Lib.hid hgq
            have HSY := Lib.hid (HS3.out.frm hFY (by simp))
            have HNY := Lib.hid (HN2.out.frm hFY)
            have HFY := Lib.hid hFY
            clear hG hgq hFY
            go_loopw [100] (fun i y => ∃ k : Nat, k ≤ 3 ∧ i = .int .i64 k ∧ Frm [q] Y y ∧ Hid (Sn y q b (3 * K + k))) (fun i _ => 3 - (intOf i).toNat)
            case atStart => exact ⟨0, by omega, rfl, Frm.refl _ _, HSY⟩
            case round =>
              obtain ⟨k, hk, rfl, hF3, HSy⟩ := hrel
              obtain ⟨s0, s1, s2⟩ := cells3 (hF3.heap HG.out HGQ.out)
              have HNy := Lib.hid (HNY.out.frmD hF3 HPQ.out)
              have hkk : k = 0 ∨ k = 1 ∨ k = 2 ∨ k = 3 := by omega
              rcases hkk with rfl | rfl | rfl | rfl
              · go_wp2_with (first
                  | (at_lookup; refine wpl_look rfl _ _ rfl HSy.out (by omega) rfl _ rfl HV0.out ?_)
                  | (at_mapUpdate; refine wpl_put rfl _ _ rfl HSy.out (by omega) rfl _ rfl HV0.out ?_; intro yq hSq hFq)
                  | (go_at_call 12; refine (base_nd HNy.out).mono ?_; rintro e w' ⟨rfl, rfl⟩)
                  | (go_at_call 14; refine (len_nd HNy.out).mono ?_; rintro e w' ⟨rfl, rfl⟩))
                go_roundw
                case rel => exact ⟨1, by omega, by go_num, hF3.trans hFq, Lib.hid hSq⟩
                case measure => simp [intOf]
              · go_wp2_with (first
                  | (at_lookup; refine wpl_look rfl _ _ rfl HSy.out (by omega) rfl _ rfl HV1.out ?_)
                  | (at_mapUpdate; refine wpl_put rfl _ _ rfl HSy.out (by omega) rfl _ rfl HV1.out ?_; intro yq hSq hFq)
                  | (go_at_call 12; refine (base_nd HNy.out).mono ?_; rintro e w' ⟨rfl, rfl⟩)
                  | (go_at_call 14; refine (len_nd HNy.out).mono ?_; rintro e w' ⟨rfl, rfl⟩))
                go_roundw
                case rel => exact ⟨2, by omega, by go_num, hF3.trans hFq, Lib.hid hSq⟩
                case measure => simp [intOf]
              · go_wp2_with (first
                  | (at_lookup; refine wpl_look rfl _ _ rfl HSy.out (by omega) rfl _ rfl HV2.out ?_)
                  | (at_mapUpdate; refine wpl_put rfl _ _ rfl HSy.out (by omega) rfl _ rfl HV2.out ?_; intro yq hSq hFq)
                  | (go_at_call 12; refine (base_nd HNy.out).mono ?_; rintro e w' ⟨rfl, rfl⟩)
                  | (go_at_call 14; refine (len_nd HNy.out).mono ?_; rintro e w' ⟨rfl, rfl⟩))
                go_roundw
                case rel => exact ⟨3, by omega, by go_num, hF3.trans hFq, Lib.hid hSq⟩
                case measure => simp [intOf]
              · go_wp2
                go_roundw
                case rel => exact ⟨c + 1, by omega, by go_num, hF2.trans (HFY.out.nil.trans hF3), Lib.hid (by have := HSy.out; have e := HK.out; rw [show 6 * a + 3 * (c + 1) = 3 * K + 3 by omega]; exact this)⟩
                case measure => simp [intOf]; omega
          · obtain rfl : c = 2 := by omega
            go_wp2
            go_roundw
            case rel => exact ⟨a + 1, by omega, by go_num, hF2, Lib.hid (by have := HS2.out; rw [show 6 * (a + 1) = 6 * a + 3 * 2 by omega]; exact this)⟩
            case measure => simp [intOf]; omega
      · obtain rfl : a = t := by omega
        obtain ⟨J, hJ⟩ : ∃ J, J = 6 * a := ⟨_, rfl⟩
        have hJb : ((J : Int) == (a : Int) * 2 * 3) = true := by simp; omega
        have HJ := Lib.hid (show Sn wr q b J by rw [hJ]; exact HS.out)
        have HN3 := Lib.hid (HNX.out.frmD hF HPQ.out)
        clear hJ
        go_wp2_with (first
          | (at_len; refine wpl_len rfl _ rfl HJ.out rfl ?_)
          | (go_at_call 14; refine (len_nd HN3.out).mono ?_; rintro e w' ⟨rfl, rfl⟩)
          | (go_at_call 10; refine known_true.mono ?_; rintro e y1 ⟨rfl, g1⟩))
        go_ret
        exact ⟨rfl, ((HF.out.trans hF).trans g1.nil).below (Nat.le_refl _) (by have := HPW.out; simp; omega)⟩
  · have HR := Lib.hid (fun w => new_bad w b t hr wb)
    clear hr
    go_enter Try.func7, Try.ntmps7
    go_wp2_with fail
    refine (HR.out _).mono ?_
    rintro e w1 ⟨rfl, hF1⟩
    go_wp2_with fail
    refine known_true.mono ?_
    rintro e w2 ⟨rfl, hF2⟩
    go_wp2
    go_ret
    exact ⟨rfl, (hF1.trans hF2).below (Nat.le_refl _) (by simp)⟩
#print axioms walk_QnodeHolds
end Go.Proofs.Ytclcgmadilcdgaa
