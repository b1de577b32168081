/- Layer 5: the walk of KeysHolds, the whole (by gen_keyho.py). -/
import Derived.Test.YtembnakhcggbpaaKeyHa
namespace Go.Proofs.Ytembnakhcggbpaa
open Go.ChangeShapes Go.WideShapes Go.ChangeAt Go.RowKit
set_option linter.unusedVariables false

set_option maxRecDepth 1000000 in
set_option maxHeartbeats 25600000 in
theorem holds_walk (a b c : ByteArray) (ha : a.size ≤ 100) (hb : b.size ≤ 100) (hc : c.size ≤ 100) (w : World) :
    Calls Try.prog 7 #[.string a, .string b, .string c] w (Ret (.bool true) (fun w' => Frm [] w w')) := by
  have d1 : decide ((100 : Int) < (a.size : Int)) = false := by simp; omega
  have d2 : decide ((100 : Int) < (b.size : Int)) = false := by simp; omega
  have d3 : decide ((100 : Int) < (c.size : Int)) = false := by simp; omega
  have KC : Hid (∀ (x y : ByteArray) W, Calls Try.prog 14 #[.string x, .string y] W (fun e w' => e = .returned (.int .i64 (cmp x y)) ∧ W = w')) := Lib.hid (fun x y W => cmp_walk x y W)
  have KK : Hid (∀ (x : ByteArray) W, Calls Try.prog 10 #[.string x] W (fun e w' => e = .returned (.bool (vk x)) ∧ W = w')) := Lib.hid (fun x W => key_walk x W)
  go_enter Try.func7, Try.ntmps7
  change Code.wp Try.prog (bT 0) _ _ _
  rw [show bT 0 = Code.seq (fstS (bT 0)) (bT 1) from by kernel_rfl]
  refine wp_seq_k ?_
  intro K0 hK0
  have HK0 := Lib.hid hK0
  clear hK0
  conv => arg 2; whnf
  go_wp2_with fail
  refine HK0.out _ _ ?_
  rw [show bT 1 = Code.seq (fstS (bT 1)) (bT 2) from by kernel_rfl]
  refine wp_seq_k ?_
  intro K1 hK1
  have HK1 := Lib.hid hK1
  clear hK1
  conv => arg 2; whnf
  go_wp2_with fail
  refine HK1.out _ _ ?_
  rw [show bT 2 = Code.seq (fstS (bT 2)) (bT 3) from by kernel_rfl]
  refine wp_seq_k ?_
  intro K2 hK2
  have HK2 := Lib.hid hK2
  clear hK2
  conv => arg 2; whnf
  go_wp2_with fail
  refine (KC.out _ _ _).mono ?_
  rintro e w' ⟨rfl, rfl⟩
  go_wp2_with fail
  refine HK2.out _ _ ?_
  rw [show bT 3 = Code.seq (fstS (bT 3)) (bT 4) from by kernel_rfl]
  refine wp_seq_k ?_
  intro K3 hK3
  have HK3 := Lib.hid hK3
  clear hK3
  conv => arg 2; whnf
  have hcc := cmpC a b
  have hcn := cmpN a b
  obtain ⟨β, hβ1, hβ2⟩ := same_test a b
  have htr := @cmp_tr a b c
  have k1 := fun W => KC.out b a W
  have k2 := fun W => KC.out b c W
  have k3 := fun W => KC.out a c W
  generalize hxx : cmp a b = x at *
  have HXX := Lib.hid hxx
  clear hxx
  generalize cmp b a = y at *
  generalize cmp b c = z at *
  generalize cmp a c = v at *
  have e1 : IntKind.i64.wrap (-y) = x := by rw [IntWalk.i64_in _ (by omega)]; omega
  have e2 : (x != x) = false := by simp
  have e3 : decide (x < -1) = false := by simp; omega
  have e4 : decide (1 < x) = false := by simp; omega
  have e5 : (β != β) = false := by simp
  have K1 := Lib.hid k1
  have K2 := Lib.hid k2
  have K3 := Lib.hid k3
  clear k1 k2 k3
  by_cases hx : x ≤ 0
  · have e6 : decide (x ≤ 0) = true := by simpa using hx
    by_cases hz : z ≤ 0
    · have e7 : decide (z ≤ 0) = true := by simpa using hz
      have hv := htr hx hz
      have e8 : decide (0 < v) = false := by simp; omega
      clear hcc hcn htr hv hx hz
      go_wp2_with fail
      refine (K1.out _).mono ?_
      rintro e w' ⟨rfl, rfl⟩
      go_wp2_with fail
      refine (K2.out _).mono ?_
      rintro e w' ⟨rfl, rfl⟩
      go_wp2_with fail
      refine (K3.out _).mono ?_
      rintro e w' ⟨rfl, rfl⟩
      go_wp2_with fail
      (obtain rfl := HXX.out; exact HK3.out _ _ (holdsA a b c ha hb hc w _ (Frm.refl _ _) _ _ _ _ _ _ _ _ _ _ _ _ _ _ _ _ _ _ _ _ _ _ _ _ _ _ _ _ _ _ _ _ _ _ _ _ _ _ _ _ _ _ _ _ _ _ _ _ _ _ _ _ _ _ _ _ _ _ _ _ _ _ _ _ _ _ _ _ _ _ _ _ _ _ _ _ _ _ _ _ _ _ _ _ _ _ _ _ _ _ _ _ _ _ _ _ _ _ _ _ _ _ _ _ _ _ _ _ _ _ _ _ _ _ _ _ _ _ _ _ _ _ _ _ _ _ _ _ _ _ _ _ _ _ _ _ _ _ _ _ _ _ _ _ _ _ _ _ _ _ _ _ _ _ _ _ _ _ _ _ _ _ _ _ _ _ _ _ _ _ _ _ _ _ _ _ _ _ _ _ _ _ _ _ _ _ _ _ _ _ _ _ _ _ _ _ _ _ _ _ _ _ _ _ _ _ _ _ _ _ _ _ _ _ _ _ _ _ _ _ _ _ _ _ _ _ _ _ _ _ _ _ _ _ _ _ _ _ _ _ _ _ _ _ _ _ _ _ _ _ _ _ _))
    · have e7 : decide (z ≤ 0) = false := by simpa using hz
      clear hcc hcn htr hx hz
      go_wp2_with fail
      refine (K1.out _).mono ?_
      rintro e w' ⟨rfl, rfl⟩
      go_wp2_with fail
      refine (K2.out _).mono ?_
      rintro e w' ⟨rfl, rfl⟩
      go_wp2_with fail
      (obtain rfl := HXX.out; exact HK3.out _ _ (holdsA a b c ha hb hc w _ (Frm.refl _ _) _ _ _ _ _ _ _ _ _ _ _ _ _ _ _ _ _ _ _ _ _ _ _ _ _ _ _ _ _ _ _ _ _ _ _ _ _ _ _ _ _ _ _ _ _ _ _ _ _ _ _ _ _ _ _ _ _ _ _ _ _ _ _ _ _ _ _ _ _ _ _ _ _ _ _ _ _ _ _ _ _ _ _ _ _ _ _ _ _ _ _ _ _ _ _ _ _ _ _ _ _ _ _ _ _ _ _ _ _ _ _ _ _ _ _ _ _ _ _ _ _ _ _ _ _ _ _ _ _ _ _ _ _ _ _ _ _ _ _ _ _ _ _ _ _ _ _ _ _ _ _ _ _ _ _ _ _ _ _ _ _ _ _ _ _ _ _ _ _ _ _ _ _ _ _ _ _ _ _ _ _ _ _ _ _ _ _ _ _ _ _ _ _ _ _ _ _ _ _ _ _ _ _ _ _ _ _ _ _ _ _ _ _ _ _ _ _ _ _ _ _ _ _ _ _ _ _ _ _ _ _ _ _ _ _ _ _ _ _ _ _ _ _ _ _ _ _ _ _ _ _ _ _))
  · have e6 : decide (x ≤ 0) = false := by simpa using hx
    clear hcc hcn htr hx
    go_wp2_with fail
    refine (K1.out _).mono ?_
    rintro e w' ⟨rfl, rfl⟩
    go_wp2_with fail
    (obtain rfl := HXX.out; exact HK3.out _ _ (holdsA a b c ha hb hc w _ (Frm.refl _ _) _ _ _ _ _ _ _ _ _ _ _ _ _ _ _ _ _ _ _ _ _ _ _ _ _ _ _ _ _ _ _ _ _ _ _ _ _ _ _ _ _ _ _ _ _ _ _ _ _ _ _ _ _ _ _ _ _ _ _ _ _ _ _ _ _ _ _ _ _ _ _ _ _ _ _ _ _ _ _ _ _ _ _ _ _ _ _ _ _ _ _ _ _ _ _ _ _ _ _ _ _ _ _ _ _ _ _ _ _ _ _ _ _ _ _ _ _ _ _ _ _ _ _ _ _ _ _ _ _ _ _ _ _ _ _ _ _ _ _ _ _ _ _ _ _ _ _ _ _ _ _ _ _ _ _ _ _ _ _ _ _ _ _ _ _ _ _ _ _ _ _ _ _ _ _ _ _ _ _ _ _ _ _ _ _ _ _ _ _ _ _ _ _ _ _ _ _ _ _ _ _ _ _ _ _ _ _ _ _ _ _ _ _ _ _ _ _ _ _ _ _ _ _ _ _ _ _ _ _ _ _ _ _ _ _ _ _ _ _ _ _ _ _ _ _ _ _ _ _ _ _ _ _))
set_option maxRecDepth 100000 in
theorem walk_KeysHolds (a : ByteArray) (_ha : a.size ≤ maxLen) (b : ByteArray) (_hb : b.size ≤ maxLen) (c : ByteArray) (_hc : c.size ≤ maxLen) (w : World) :
    Calls Try.prog 7 #[.string a, .string b, .string c] w (Ret (.bool true) (fun w' => Below w.heap.size w w')) := by
  clear _ha _hb _hc
  by_cases ha : a.size ≤ 100
  · by_cases hb : b.size ≤ 100
    · by_cases hc : c.size ≤ 100
      · exact (holds_walk a b c ha hb hc w).mono fun _ _ hh => ⟨hh.1, bel hh.2⟩
      · have d1 : decide ((100 : Int) < (a.size : Int)) = false := by simp; omega
        have d2 : decide ((100 : Int) < (b.size : Int)) = false := by simp; omega
        have d3 : decide ((100 : Int) < (c.size : Int)) = true := by simp; omega
        go_enter Try.func7, Try.ntmps7
        go_wp2_with fail
        refine (known_true _).mono ?_
        rintro e w6 ⟨rfl, hF6⟩
        go_wp2
        go_ret
        exact ⟨rfl, bel hF6⟩
    · have d1 : decide ((100 : Int) < (a.size : Int)) = false := by simp; omega
      have d2 : decide ((100 : Int) < (b.size : Int)) = true := by simp; omega
      go_enter Try.func7, Try.ntmps7
      go_wp2_with fail
      refine (known_true _).mono ?_
      rintro e w6 ⟨rfl, hF6⟩
      go_wp2
      go_ret
      exact ⟨rfl, bel hF6⟩
  · have d1 : decide ((100 : Int) < (a.size : Int)) = true := by simp; omega
    go_enter Try.func7, Try.ntmps7
    go_wp2_with fail
    refine (known_true _).mono ?_
    rintro e w6 ⟨rfl, hF6⟩
    go_wp2
    go_ret
    exact ⟨rfl, bel hF6⟩
end Go.Proofs.Ytembnakhcggbpaa
