/- The law's some and works. -/
import Derived.Test.YtoieedlkffmcgaaMcX
namespace Go.Proofs.Ytoieedlkffmcgaa
open Go.ChangeShapes Go.WideShapes Go.ChangeAt Go.RowKit
set_option linter.unusedVariables false

/-- Values by their index. -/
def vof (f : Nat → Value) (n : Nat) : Array Value := ((List.range n).map f).toArray
theorem vof_get (f : Nat → Value) {n i : Nat} (h : i < n) : (vof f n)[i]? = some (f i) := by
  unfold vof; rw [List.getElem?_toArray, List.getElem?_map, List.getElem?_range h]; rfl
theorem vof_size (f : Nat → Value) (n : Nat) : (vof f n).size = n := by simp [vof]
theorem vof_set (f : Nat → Value) {n i : Nat} (h : i < n) (v : Value) : (vof f n).setIfInBounds i v = vof (fun j => if j = i then v else f j) n := by
  apply Array.ext_getElem?
  intro j
  rw [Array.getElem?_setIfInBounds]
  by_cases hj : j < n
  · rw [vof_get (fun j => if j = i then v else f j) hj, vof_get f hj]
    by_cases e : i = j
    · subst e; rw [if_pos rfl, if_pos (by rw [vof_size]; exact h), if_pos rfl]
    · rw [if_neg e, if_neg (fun x => e x.symm)]
  · have h1 : (vof (fun j => if j = i then v else f j) n)[j]? = none := Array.getElem?_eq_none (by rw [vof_size]; omega)
    have h2 : (vof f n)[j]? = none := Array.getElem?_eq_none (by rw [vof_size]; omega)
    rw [h1, h2, if_neg (by omega)]

theorem some_true {w : World} {hs : Nat → Bool} {n g i : Nat} (hb : w.heap[g]? = some (.cells (vof (fun i => .bool (hs i)) n) 4 (0, 0))) (hn : n ≤ 64) (hi : i < n) (ht : hs i = true) :
    Calls Try.prog 18 #[.slice (some ⟨g, 0, none⟩) n n] w (Ret (.bool true) (fun w' => w = w')) := by
  have HB := Lib.hid hb
  have HT := Lib.hid ht
  clear hb ht
  go_enter Try.func18, Try.ntmps18
  go_wp2
  go_loop [7] (fun x => ∃ k : Nat, k ≤ i ∧ x = .int .i64 k) (fun x => i - (intOf x).toNat)
  case atStart => exact ⟨0, Nat.zero_le _, rfl⟩
  case round =>
    obtain ⟨k, hk, rfl⟩ := hrel
    have hkn : k < n := by omega
    have hc : w.cell? ⟨g, k, none⟩ = some (.bool (hs k)) := by rw [cell_of_heap HB.out, vof_get _ hkn]
    by_cases e : k = i
    · subst e
      rw [HT.out] at hc
      go_wp2
      go_ret
      exact ⟨rfl, rfl⟩
    · cases hv : hs k with
      | true =>
        rw [hv] at hc
        clear hv
        go_wp2
        go_ret
        exact ⟨rfl, rfl⟩
      | false =>
        rw [hv] at hc
        clear hv
        go_wp2
        go_round
        case rel => exact ⟨k + 1, by omega, by go_num⟩
        case measure => simp [intOf]; omega
theorem some_false {w : World} {hs : Nat → Bool} {n g : Nat} (hb : w.heap[g]? = some (.cells (vof (fun i => .bool (hs i)) n) 4 (0, 0))) (hn : n ≤ 64) (hf : ∀ i, i < n → hs i = false) :
    Calls Try.prog 18 #[.slice (some ⟨g, 0, none⟩) n n] w (Ret (.bool false) (fun w' => w = w')) := by
  have HB := Lib.hid hb
  have HT := Lib.hid hf
  clear hb hf
  go_enter Try.func18, Try.ntmps18
  go_wp2
  go_loop [7] (fun x => ∃ k : Nat, k ≤ n ∧ x = .int .i64 k) (fun x => n - (intOf x).toNat)
  case atStart => exact ⟨0, Nat.zero_le _, rfl⟩
  case round =>
    obtain ⟨k, hk, rfl⟩ := hrel
    by_cases hkn : k < n
    · have hc : w.cell? ⟨g, k, none⟩ = some (.bool false) := by rw [cell_of_heap HB.out, vof_get _ hkn, HT.out k hkn]
      go_wp2
      go_round
      case rel => exact ⟨k + 1, by omega, by go_num⟩
      case measure => simp [intOf]; omega
    · obtain rfl : k = n := by omega
      go_wp2
      go_ret
      exact ⟨rfl, rfl⟩

/-- A program of a thread as a value: none, or one that lies at q. -/
def pvI (p : Option (Bool × Int × Int)) (q : Nat) : Value := match p with
  | none => .nilIface
  | some (back, _, _) => .iface (Ip back) (.pointer (some ⟨q, 0, none⟩))
set_option maxRecDepth 100000 in
set_option maxHeartbeats 600000 in
theorem works_true {w : World} {p d c bp n i0 : Nat} {ws : List Int} {pg : Nat → Option (Bool × Int × Int)} {qa : Nat → Nat} (hM : MemAt w p d c ws)
    (hb : w.heap[bp]? = some (.cells (vof (fun i => pvI (pg i) (qa i)) n) 37 (0, 0))) (hn : n ≤ 64) (hi : i0 < n) (hs0 : ∃ x, pg i0 = some x)
    (hR : ∀ i, i < n → ∀ back s o, pg i = some (back, s, o) → PgR w (qa i) back 1 n 0 (2 * i) s o false)
    (hS : ∀ i, i < n → ∀ back s o, pg i = some (back, s, o) → ∃ e' s' o' ws' wait, Stp 1 n 0 (2 * i) ws back s o e' s' o' ws' wait 0 ∧ (e' = false → Ok back s' o') ∧ (i = i0 → wait = false)) :
    Calls Try.prog 19 #[.slice (some ⟨bp, 0, none⟩) n n, .pointer (some ⟨p, 0, none⟩)] w (Ret (.bool true) (fun w' => Frm [] w w')) := by
  have HB := Lib.hid hb
  have HM := Lib.hid hM
  have HS0 := Lib.hid hs0
  have HR := Lib.hid hR
  have HS := Lib.hid hS
  clear hb hM hs0 hR hS
  go_enter Try.func19, Try.ntmps19
  go_wp2
  go_loopw [5, 7, 8, 9, 10, 11, 14, 15, 16, 17, 18, 19, 20, 21, 22, 23, 24, 25, 26, 27, 28, 29, 30, 31, 32, 33, 34, 35, 36, 37, 38, 39, 40, 41, 42, 43] (fun f _ _ _ _ _ x _ _ _ _ _ _ _ _ _ _ _ _ _ _ _ _ _ _ _ _ _ _ _ _ _ _ _ _ _ wr => ∃ k : Nat, k ≤ i0 ∧ x = .int .i64 k ∧ Frm [] w wr) (fun _ _ _ _ _ _ x _ _ _ _ _ _ _ _ _ _ _ _ _ _ _ _ _ _ _ _ _ _ _ _ _ _ _ _ _ _ => i0 - (intOf x).toNat)
  case atStart => exact ⟨0, Nat.zero_le _, rfl, Frm.refl _ _⟩
  case round =>
    obtain ⟨k, hk, rfl, hF⟩ := hrel
    have hkn : k < n := by omega
    have hkz : (k : Int) < (n : Int) := by omega
    have hc : wr.cell? ⟨bp, k, none⟩ = some (pvI (pg k) (qa k)) := by rw [cell_of_heap (hF.heap HB.out (by simp)), vof_get _ hkn]
    have HF := Lib.hid hF
    clear hF
    cases hv : pg k with
    | none =>
      have hne : k ≠ i0 := fun e => by obtain ⟨x, hx⟩ := HS0.out; rw [← e, hv] at hx; cases hx
      rw [hv] at hc
      simp only [pvI] at hc
      clear hv
      go_wp2
      go_roundw
      case rel => exact ⟨k + 1, by omega, by go_num, HF.out⟩
      case measure => simp [intOf]; omega
    | some x =>
      obtain ⟨back, s, o⟩ := x
      obtain ⟨e', s', o', ws', wait, hst, hok, hw⟩ := HS.out k hkn back s o hv
      have hr := HR.out k hkn back s o hv
      rw [hv] at hc
      simp only [pvI] at hc
      have HST := Lib.hid hst
      have HOK := Lib.hid hok
      have HW := Lib.hid hw
      have hm1 := m_Copy back (qa k)
      have hc1 := c_Copy back
      have hc2 := c_Step back
      have HR1 := Lib.hid (Copy_any (hr.frm HF.out (by simp)))
      clear hv hst hok hw hr
      go_wp2_with fail
      refine HR1.out.mono ?_
      rintro e w1 ⟨q', rfl, g1, hR1, hq1⟩
      have HG1 := Lib.hid (HF.out.trans g1)
      have HRq := Lib.hid hR1
      have hq0 : w.heap.size ≤ q' := by have := HF.out.size; omega
      clear HR1 g1 hR1 hq1 hm1 hc1
      go_wp2_with fail
      refine (copy_ok (HM.out.frm HG1.out (by simp) (by simp))).mono ?_
      rintro e w2 ⟨p', d', c', rfl, g2, hM2, hp2, hd2⟩
      have hqp : q' ≠ p' := by have := HRq.out.lt; omega
      have hqd : q' ≠ d' := by have := HRq.out.lt; omega
      have hd0 : w.heap.size ≤ d' := by have := HG1.out.size; omega
      have HRS := Lib.hid (Step_any hM2 (HRq.out.frm g2 (by simp)) hqd hqp HST.out HOK.out)
      have HG2 := Lib.hid (HG1.out.trans g2)
      have hm2 := m_Step back q'
      clear g2 hM2 hp2 hd2 HRq HG1
      go_wp2_with fail
      refine HRS.out.mono ?_
      rintro e w3 ⟨rfl, g3, _, _⟩
      have HG3 := Lib.hid (HG2.out.trans_new g3 (by simp; omega))
      clear g3 HRS hm2 hc2
      cases hwt : wait with
      | false =>
        clear hwt
        go_wp2
        go_ret
        exact ⟨rfl, HG3.out⟩
      | true =>
        have hne : k ≠ i0 := fun e => by have := HW.out e; rw [hwt] at this; cases this
        clear hwt
        go_wp2
        go_roundw
        case rel => exact ⟨k + 1, by omega, by go_num, HG3.out⟩
        case measure => simp [intOf]; omega
#print axioms works_true
end Go.Proofs.Ytoieedlkffmcgaa
