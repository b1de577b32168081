/- Layer 5: the walks of KeysNexts and KeysOrders. -/
import Derived.Test.YtembnakhcggbpaaKeyY
namespace Go.Proofs.Ytembnakhcggbpaa
open Go.ChangeShapes Go.WideShapes Go.ChangeAt Go.RowKit
open Go.Lib (compareBytes)

theorem bool_not {b : Bool} (h : ¬ b = true) : b = false := by cases b <;> simp_all
/-- The reference's After, of any string. -/
theorem rafter_any (s : ByteArray) (w : World) (hs : s.size ≤ 2147483647) :
    Calls Try.prog 26 #[.string s] w (Ret (.tuple #[.string (aftS s), .int .i64 (aftE s)]) (fun w' => Frm [] w w')) := by
  by_cases h24 : s.size < 24
  · exact rafter_short s w h24
  · exact rafter_loop s w hs h24
/-- The separator of two keys, of the package and of its reference. -/
theorem bet_both {a b : ByteArray} (ha : vk a = true) (hb : vk b = true) : ∃ (S : ByteArray) (e : Int),
    (∀ W, Calls Try.prog 27 #[.string a, .string b] W (Ret (.tuple #[.string S, .int .i64 e]) (fun w' => Frm [] W w'))) ∧
    (∀ W, Calls Try.prog 25 #[.string a, .string b, .string S, .int .i64 e] W (Ret (.bool true) (fun w' => Frm [] W w'))) := by
  have h1 := vk_iff.1 ha
  have h2 := vk_iff.1 hb
  by_cases h : 0 ≤ cmp a b
  · exact ⟨noB, 13, fun W => rbetween_order a b W (by omega) (by omega) h, fun W => between_of (between_order a b W ha hb h)⟩
  · have hc : cmp a b = -1 := by rcases cmpC a b with g | g | g <;> omega
    exact ⟨betS a b, 0, fun W => rbetween_ok a b W (by omega) (by omega) hc, fun W => between_of (between_ok a b W ha hb hc)⟩

set_option maxRecDepth 100000 in
set_option maxHeartbeats 2000000 in
theorem nexts_walk (a b : ByteArray) (ha : a.size ≤ 100) (hb : b.size ≤ 100) (w : World) :
    Calls Try.prog 6 #[.string a, .string b] w (Ret (.bool true) (fun w' => Frm [] w w')) := by
  have d1 : decide ((100 : Int) < (a.size : Int)) = false := by simp; omega
  have d2 : decide ((100 : Int) < (b.size : Int)) = false := by simp; omega
  have k1 := fun W => rkey_walk a W
  have k2 := fun W => rkey_walk b W
  by_cases ka : vk a = true
  · rw [ka] at k1
    have h1 := fun W => rafter_any a W (by omega)
    have h2 := fun W => after_of (after_any a W ka)
    generalize aftS a = S at *
    generalize aftE a = E at *
    have K1 := Lib.hid k1
    have H1 := Lib.hid h1
    have H2 := Lib.hid h2
    clear k1 h1 h2
    by_cases kb : vk b = true
    · rw [kb] at k2
      obtain ⟨S2, e2, h3, h4⟩ := bet_both ka kb
      have K2 := Lib.hid k2
      have H3 := Lib.hid h3
      have H4 := Lib.hid h4
      clear k2 h3 h4 ka kb
      go_enter Try.func6, Try.ntmps6
      go_wp2_with fail
      refine (K1.out _).mono ?_
      rintro e w' ⟨rfl, rfl⟩
      go_wp2_with fail
      refine (H1.out _).mono ?_
      rintro e w1 ⟨rfl, hF1⟩
      go_wp2_with fail
      refine (H2.out _).mono ?_
      rintro e w2 ⟨rfl, hF2⟩
      go_wp2_with fail
      refine (K2.out _).mono ?_
      rintro e w' ⟨rfl, rfl⟩
      go_wp2_with fail
      refine (H3.out _).mono ?_
      rintro e w3 ⟨rfl, hF3⟩
      go_wp2_with fail
      refine (H4.out _).mono ?_
      rintro e w4 ⟨rfl, hF4⟩
      go_wp2_with fail
      refine (known_true _).mono ?_
      rintro e w5 ⟨rfl, hF5⟩
      go_wp2
      go_ret
      exact ⟨rfl, (((hF1.trans hF2).trans hF3).trans hF4).trans hF5⟩
    · have kb := bool_not kb
      rw [kb] at k2
      have h4 := fun W => between_of (between_arg a b W (.inr kb))
      have K2 := Lib.hid k2
      have H4 := Lib.hid h4
      clear k2 h4 ka kb
      go_enter Try.func6, Try.ntmps6
      go_wp2_with fail
      refine (K1.out _).mono ?_
      rintro e w' ⟨rfl, rfl⟩
      go_wp2_with fail
      refine (H1.out _).mono ?_
      rintro e w1 ⟨rfl, hF1⟩
      go_wp2_with fail
      refine (H2.out _).mono ?_
      rintro e w2 ⟨rfl, hF2⟩
      go_wp2_with fail
      refine (K2.out _).mono ?_
      rintro e w' ⟨rfl, rfl⟩
      go_wp2_with fail
      refine (H4.out _).mono ?_
      rintro e w4 ⟨rfl, hF4⟩
      go_wp2_with fail
      refine (known_true _).mono ?_
      rintro e w5 ⟨rfl, hF5⟩
      go_wp2
      go_ret
      exact ⟨rfl, ((hF1.trans hF2).trans hF4).trans hF5⟩
  · have ka := bool_not ka
    rw [ka] at k1
    have h1 := fun W => after_of (after_arg a W ka)
    have h2 := fun W => between_of (between_arg a b W (.inl ka))
    have h3 := fun W => between_of (between_arg b a W (.inr ka))
    have K1 := Lib.hid k1
    have H1 := Lib.hid h1
    have H2 := Lib.hid h2
    have H3 := Lib.hid h3
    clear k1 h1 h2 h3 ka k2
    go_enter Try.func6, Try.ntmps6
    go_wp2_with fail
    refine (K1.out _).mono ?_
    rintro e w' ⟨rfl, rfl⟩
    go_wp2_with fail
    refine (H1.out _).mono ?_
    rintro e w1 ⟨rfl, hF1⟩
    go_wp2_with fail
    refine (H2.out _).mono ?_
    rintro e w2 ⟨rfl, hF2⟩
    go_wp2_with fail
    refine (H3.out _).mono ?_
    rintro e w3 ⟨rfl, hF3⟩
    go_wp2_with fail
    refine (known_true _).mono ?_
    rintro e w5 ⟨rfl, hF5⟩
    go_wp2
    go_ret
    exact ⟨rfl, ((hF1.trans hF2).trans hF3).trans hF5⟩
theorem walk_KeysNexts (a : ByteArray) (_ha : a.size ≤ maxLen) (b : ByteArray) (_hb : b.size ≤ maxLen) (w : World) :
    Calls Try.prog 6 #[.string a, .string b] w (Ret (.bool true) (fun w' => Below w.heap.size w w')) := by
  clear _ha _hb
  by_cases ha : a.size ≤ 100
  · by_cases hb : b.size ≤ 100
    · exact (nexts_walk a b ha hb w).mono fun _ _ hh => ⟨hh.1, bel hh.2⟩
    · have d1 : decide ((100 : Int) < (a.size : Int)) = false := by simp; omega
      have d2 : decide ((100 : Int) < (b.size : Int)) = true := by simp; omega
      go_enter Try.func6, Try.ntmps6
      go_wp2_with fail
      refine (known_true _).mono ?_
      rintro e w6 ⟨rfl, hF6⟩
      go_wp2
      go_ret
      exact ⟨rfl, bel hF6⟩
  · have d1 : decide ((100 : Int) < (a.size : Int)) = true := by simp; omega
    go_enter Try.func6, Try.ntmps6
    go_wp2_with fail
    refine (known_true _).mono ?_
    rintro e w6 ⟨rfl, hF6⟩
    go_wp2
    go_ret
    exact ⟨rfl, bel hF6⟩

theorem pfB {a b : ByteArray} {k : Nat} (hk : k ≤ a.size) : Lib.hasPrefix b.data.toList (a.extract 0 k).data.toList = decide (k ≤ pf a b) := by
  have h1 := szl a
  have h2 := szl b
  rw [← Lib.hasPrefix_of_take, data_take, List.length_take, h1, h2, Nat.min_eq_left hk, Bool.eq_iff_iff]
  simp only [Bool.and_eq_true, decide_eq_true_eq, beq_iff_eq]
  constructor
  · rintro ⟨g1, g2⟩
    exact take_pfx (by omega) (by omega) g2.symm
  · intro g
    have := pfx_le a.data.toList b.data.toList
    exact ⟨by have := this.2; unfold pf at g; omega, (take_of_pfx g).symm⟩

set_option maxRecDepth 100000 in
set_option maxHeartbeats 4000000 in
theorem orders_walk (a b : ByteArray) (ha : a.size ≤ 100) (hb : b.size ≤ 100) (w : World) :
    Calls Try.prog 3 #[.string a, .string b] w (Ret (.bool true) (fun w' => Frm [] w w')) := by
  have d1 : decide ((100 : Int) < (a.size : Int)) = false := by simp; omega
  have d2 : decide ((100 : Int) < (b.size : Int)) = false := by simp; omega
  have hple : pf a b ≤ a.size := by have := (pfx_le a.data.toList b.data.toList).1; rw [szl] at this; exact this
  have k1 := fun W => key_walk a W
  have k2 := fun W => rkey_walk a W
  have k3 := fun W => val_walk a W
  have k4 := fun W => rval_walk a W
  have k5 := fun W => cmp_walk a b W
  have k6 := fun W => rcmp_walk a b W (by omega) (by omega)
  have k7 := fun W => cmp_walk b a W
  have k8 := fun W => rcmp_walk b a W (by omega) (by omega)
  have k9 := fun W => pf_walk a b W (by omega)
  have k10 := fun W => pf_walk b a W (by omega)
  have hpc : pf b a = pf a b := pfx_comm _ _
  rw [hpc] at k10
  have khp : ∀ (k : Nat) (W : World), k < a.size → Calls Try.prog 9 #[.string b, .string (a.extract 0 (k + 1))] W (fun e w' => e = .returned (.bool (decide (k + 1 ≤ pf a b))) ∧ W = w') := fun k W hk => by
    rw [← pfB (by omega)]; exact hp_walk _ _ W
  clear hpc
  generalize pf a b = p at *
  generalize hx1 : vk a = x1 at *
  generalize hx2 : vv a = x2 at *
  generalize hx3 : cmp a b = x3 at *
  generalize hx4 : cmp b a = x4 at *
  clear hx1 hx2 hx3 hx4
  have e1 : (x1 == x1) = true := by simp
  have e2 : (x2 == x2) = true := by simp
  have e3 : (x3 == x3) = true := by simp
  have e4 : (x4 == x4) = true := by simp
  have e5 : ((p : Int) == (p : Int)) = true := by simp
  have K1 := Lib.hid k1
  have K2 := Lib.hid k2
  have K3 := Lib.hid k3
  have K4 := Lib.hid k4
  have K5 := Lib.hid k5
  have K6 := Lib.hid k6
  have K7 := Lib.hid k7
  have K8 := Lib.hid k8
  have K9 := Lib.hid k9
  have K10 := Lib.hid k10
  have KHP := Lib.hid khp
  clear k1 k2 k3 k4 k5 k6 k7 k8 k9 k10 khp
  go_enter Try.func3, Try.ntmps3
  go_wp2_with fail
  go_loopw [5] (fun i w' => ∃ k : Nat, k ≤ p ∧ i = .int .i64 k ∧ Frm [] w w') (fun i _ => p - (intOf i).toNat)
  case atStart => exact ⟨0, by omega, rfl, Frm.refl _ _⟩
  case round =>
    obtain ⟨k, hk, rfl, hF⟩ := hrel
    by_cases hlt : k < p
    · have hb0 : (0 : Int) ≤ (k : Int) := by omega
      have hb1 : (k : Int) < (a.size : Int) := by omega
      have hc := fun W => KHP.out k W (by omega)
      rw [show decide (k + 1 ≤ p) = true from decide_eq_true (by omega)] at hc
      have HC := Lib.hid hc
      clear hc
      go_wp2_with fail
      refine (HC.out _).mono ?_
      rintro e w' ⟨rfl, rfl⟩
      go_wp2
      go_roundw
      case rel => exact ⟨k + 1, by omega, by go_num, hF⟩
      case measure => simp [intOf]; omega
    · obtain rfl : k = p := by omega
      by_cases hka : k < a.size
      · have hb0 : (0 : Int) ≤ (k : Int) := by omega
        have hb1 : (k : Int) < (a.size : Int) := by omega
        have hc := fun W => KHP.out k W hka
        rw [show decide (k + 1 ≤ k) = false by simp] at hc
        have HC := Lib.hid hc
        clear hc
        go_wp2_with fail
        refine (HC.out _).mono ?_
        rintro e w' ⟨rfl, rfl⟩
        go_wp2_with fail
        refine (K1.out _).mono ?_
        rintro e w' ⟨rfl, rfl⟩
        go_wp2_with fail
        refine (K2.out _).mono ?_
        rintro e w' ⟨rfl, rfl⟩
        go_wp2_with fail
        refine (K3.out _).mono ?_
        rintro e w' ⟨rfl, rfl⟩
        go_wp2_with fail
        refine (K4.out _).mono ?_
        rintro e w' ⟨rfl, rfl⟩
        go_wp2_with fail
        refine (K5.out _).mono ?_
        rintro e w' ⟨rfl, rfl⟩
        go_wp2_with fail
        refine (K6.out _).mono ?_
        rintro e w6 ⟨rfl, hF6⟩
        go_wp2_with fail
        refine (K7.out _).mono ?_
        rintro e w' ⟨rfl, rfl⟩
        go_wp2_with fail
        refine (K8.out _).mono ?_
        rintro e w8 ⟨rfl, hF8⟩
        go_wp2_with fail
        refine (K9.out _).mono ?_
        rintro e w9 ⟨rfl, hF9⟩
        go_wp2_with fail
        refine (K10.out _).mono ?_
        rintro e w10 ⟨rfl, hF10⟩
        go_wp2_with fail
        refine (known_true _).mono ?_
        rintro e w11 ⟨rfl, hF11⟩
        go_wp2
        go_ret
        exact ⟨rfl, ((((hF.trans hF6).trans hF8).trans hF9).trans hF10).trans hF11⟩
      · obtain rfl : k = a.size := by omega
        go_wp2_with fail
        refine (K1.out _).mono ?_
        rintro e w' ⟨rfl, rfl⟩
        go_wp2_with fail
        refine (K2.out _).mono ?_
        rintro e w' ⟨rfl, rfl⟩
        go_wp2_with fail
        refine (K3.out _).mono ?_
        rintro e w' ⟨rfl, rfl⟩
        go_wp2_with fail
        refine (K4.out _).mono ?_
        rintro e w' ⟨rfl, rfl⟩
        go_wp2_with fail
        refine (K5.out _).mono ?_
        rintro e w' ⟨rfl, rfl⟩
        go_wp2_with fail
        refine (K6.out _).mono ?_
        rintro e w6 ⟨rfl, hF6⟩
        go_wp2_with fail
        refine (K7.out _).mono ?_
        rintro e w' ⟨rfl, rfl⟩
        go_wp2_with fail
        refine (K8.out _).mono ?_
        rintro e w8 ⟨rfl, hF8⟩
        go_wp2_with fail
        refine (K9.out _).mono ?_
        rintro e w9 ⟨rfl, hF9⟩
        go_wp2_with fail
        refine (K10.out _).mono ?_
        rintro e w10 ⟨rfl, hF10⟩
        go_wp2_with fail
        refine (known_true _).mono ?_
        rintro e w11 ⟨rfl, hF11⟩
        go_wp2
        go_ret
        exact ⟨rfl, ((((hF.trans hF6).trans hF8).trans hF9).trans hF10).trans hF11⟩
theorem walk_KeysOrders (a : ByteArray) (_ha : a.size ≤ maxLen) (b : ByteArray) (_hb : b.size ≤ maxLen) (w : World) :
    Calls Try.prog 3 #[.string a, .string b] w (Ret (.bool true) (fun w' => Below w.heap.size w w')) := by
  clear _ha _hb
  by_cases ha : a.size ≤ 100
  · by_cases hb : b.size ≤ 100
    · exact (orders_walk a b ha hb w).mono fun _ _ hh => ⟨hh.1, bel hh.2⟩
    · have d1 : decide ((100 : Int) < (a.size : Int)) = false := by simp; omega
      have d2 : decide ((100 : Int) < (b.size : Int)) = true := by simp; omega
      go_enter Try.func3, Try.ntmps3
      go_wp2_with fail
      refine (known_true _).mono ?_
      rintro e w6 ⟨rfl, hF6⟩
      go_wp2
      go_ret
      exact ⟨rfl, bel hF6⟩
  · have d1 : decide ((100 : Int) < (a.size : Int)) = true := by simp; omega
    go_enter Try.func3, Try.ntmps3
    go_wp2_with fail
    refine (known_true _).mono ?_
    rintro e w6 ⟨rfl, hF6⟩
    go_wp2
    go_ret
    exact ⟨rfl, bel hF6⟩
end Go.Proofs.Ytembnakhcggbpaa
