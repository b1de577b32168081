/- Layer 1: the law's helper makes. -/
import Derived.Test.YthmpmpjkkjjbbaaRefDo
namespace Go.Proofs.Ythmpmpjkkjjbbaa
open Go.ChangeShapes Go.WideShapes Go.ChangeAt Go.RowKit

theorem mErr_same {n : Nat} {k k' x : Int} (h1 : 1 ≤ k) (h4 : k ≤ 4) (g1 : 1 ≤ k') (g4 : k' ≤ 4) : mErr n k x = mErr n k' x := by
  unfold mErr; rw [if_neg (show ¬ (k < 1 ∨ 4 < k) by omega), if_neg (show ¬ (k' < 1 ∨ 4 < k') by omega)]
theorem mRes_b_same {ws : List Int} {k k' x b a b' a' : Int} (h1 : 1 ≤ k) (h4 : k ≤ 4) (g1 : 1 ≤ k') (g4 : k' ≤ 4) : (mRes ws ⟨k, x, b, a⟩).b = (mRes ws ⟨k', x, b', a'⟩).b := by
  unfold mRes
  simp only [mErr_same h1 h4 g1 g4]
  split <;> rfl
theorem mWs_load' {ws : List Int} {x b a : Int} : mWs ws ⟨1, x, b, a⟩ = ws := by
  have h := mWs_load (ws := ws) (x := x)
  unfold mWs aft at h ⊢
  simpa using h
theorem mWs_store' {ws : List Int} {x b b' a : Int} {k : Int} (hk : k = 2 ∨ k = 4) : mWs ws ⟨k, x, b, a⟩ = mWs ws ⟨k, x, b', a⟩ := by
  unfold mWs aft; simp [hk]
theorem mRes_load' {ws : List Int} {x b a : Int} : mRes ws ⟨1, x, b, a⟩ = mRes ws ⟨1, x, 0, 0⟩ := by
  unfold mRes aft; simp
theorem mRes_store' {ws : List Int} {x b b' a : Int} {k : Int} (hk : k = 2 ∨ k = 4) : mRes ws ⟨k, x, b, a⟩ = mRes ws ⟨k, x, b', a⟩ := by
  unfold mRes aft; simp [hk]

set_option maxHeartbeats 1600000 in
theorem makes_mem {w : World} {p d c : Nat} {ws : List Int} (hM : MemAt w p d c ws) (k x b a : Int) (hk1 : 1 ≤ k) (hk4 : k ≤ 4) (rk rw_ rb ra no : Int) (hb : rb = (mRes ws ⟨k, x, b, a⟩).b) (hno : no = mErr ws.length k x) :
    Calls Try.prog 14 #[.iface 26 (.pointer (some ⟨p, 0, none⟩)), .agg #[.int .i64 k, .int .i64 x, .int .u64 b, .int .u64 a], .agg #[.int .i64 rk, .int .i64 rw_, .int .u64 rb, .int .u64 ra], .int .i64 no] w
    (Ret (.bool true) (fun w' => Frm [d] w w' ∧ MemAt w' p d c (mWs ws ⟨k, x, b, a⟩))) := by
  have hkk : k = 1 ∨ k = 2 ∨ k = 3 ∨ k = 4 := by omega
  rcases hkk with rfl | rfl | rfl | rfl
  · have e1 := mRes_load' (ws := ws) (x := x) (b := b) (a := a)
    have e2 : mWs ws ⟨1, x, b, a⟩ = mWs ws ⟨1, x, 0, 0⟩ := by rw [mWs_load', mWs_load']
    rw [e1] at hb; rw [e2]
    clear e1 e2
    have HB := Lib.hid hb
    have HN := Lib.hid hno
    clear hb hno
    go_enter Try.func14, Try.ntmps14
    go_wp2_with fail
    refine (step_true (loads_mem ((hM.alloc _).alloc _) x rb no) (by rw [HB.out, HN.out]; simp)).mono ?_
    rintro e w1 ⟨rfl, hF1, hM1⟩
    go_wp2
    go_ret
    exact ⟨rfl, (((Frm.refl _ _).alloc _).alloc _).trans hF1, hM1⟩
  · have e1 := mRes_store' (ws := ws) (x := x) (b := b) (b' := 0) (a := a) (k := 2) (by simp)
    have e2 := mWs_store' (ws := ws) (x := x) (b := b) (b' := 0) (a := a) (k := 2) (by simp)
    rw [e1] at hb; rw [e2]
    clear e1 e2
    have HB := Lib.hid hb
    have HN := Lib.hid hno
    clear hb hno
    go_enter Try.func14, Try.ntmps14
    go_wp2_with fail
    refine (step_true (stores_mem ((hM.alloc _).alloc _) x a no) (by rw [HN.out]; simp)).mono ?_
    rintro e w1 ⟨rfl, hF1, hM1⟩
    go_wp2
    go_ret
    exact ⟨rfl, (((Frm.refl _ _).alloc _).alloc _).trans hF1, hM1⟩
  · subst hb hno
    by_cases he : mErr ws.length 3 x = 0
    · have he1 : (mErr ws.length 3 x == 0) = true := by simp [he]
      by_cases hv : (mRes ws ⟨3, x, b, a⟩).b = b
      · have hv1 : ((mRes ws ⟨3, x, b, a⟩).b == b) = true := by simp [hv]
        have HE := Lib.hid he
        have HV := Lib.hid hv
        clear he hv
        go_enter Try.func14, Try.ntmps14
        go_wp2_with fail
        refine (step_true (compares_mem ((hM.alloc _).alloc _) x b a _ true) (by rw [HE.out, HV.out]; simp)).mono ?_
        rintro e w1 ⟨rfl, hF1, hM1⟩
        go_wp2
        go_ret
        exact ⟨rfl, (((Frm.refl _ _).alloc _).alloc _).trans hF1, hM1⟩
      · have hv1 : ((mRes ws ⟨3, x, b, a⟩).b == b) = false := by simp [hv]
        have HE := Lib.hid he
        have HV := Lib.hid hv
        clear he hv
        go_enter Try.func14, Try.ntmps14
        go_wp2_with fail
        refine (step_true (compares_mem ((hM.alloc _).alloc _) x b a _ false) (by rw [hv1]; simp)).mono ?_
        rintro e w1 ⟨rfl, hF1, hM1⟩
        go_wp2
        go_ret
        exact ⟨rfl, (((Frm.refl _ _).alloc _).alloc _).trans hF1, hM1⟩
    · have he1 : (mErr ws.length 3 x == 0) = false := by simp [he]
      go_enter Try.func14, Try.ntmps14
      go_wp2_with fail
      refine (step_true (compares_mem ((hM.alloc _).alloc _) x b a _ false) (by rw [he1]; simp)).mono ?_
      rintro e w1 ⟨rfl, hF1, hM1⟩
      go_wp2
      go_ret
      exact ⟨rfl, (((Frm.refl _ _).alloc _).alloc _).trans hF1, hM1⟩
  · have e1 := mRes_store' (ws := ws) (x := x) (b := b) (b' := 0) (a := a) (k := 4) (by simp)
    have e2 := mWs_store' (ws := ws) (x := x) (b := b) (b' := 0) (a := a) (k := 4) (by simp)
    rw [e1] at hb; rw [e2]
    clear e1 e2
    have HB := Lib.hid hb
    have HN := Lib.hid hno
    clear hb hno
    go_enter Try.func14, Try.ntmps14
    go_wp2_with fail
    refine (step_true (swaps_mem ((hM.alloc _).alloc _) x a rb no) (by rw [HB.out, HN.out]; simp)).mono ?_
    rintro e w1 ⟨rfl, hF1, hM1⟩
    go_wp2
    go_ret
    exact ⟨rfl, (((Frm.refl _ _).alloc _).alloc _).trans hF1, hM1⟩

set_option maxHeartbeats 1600000 in
theorem makes_once {w : World} {q p d c : Nat} {n : Acc} {ws : List Int} (ho : OnceAt w q p n) (hM : MemAt w p d c ws) (hqp : q ≠ p) (hqd : q ≠ d) (k x b a : Int) (hk1 : 1 ≤ k) (hk4 : k ≤ 4) (rk rw_ rb ra no : Int) (hb : rb = (oRes n ws ⟨k, x, b, a⟩).b) (hno : no = oErr n ws.length k x) :
    Calls Try.prog 14 #[.iface 50 (.pointer (some ⟨q, 0, none⟩)), .agg #[.int .i64 k, .int .i64 x, .int .u64 b, .int .u64 a], .agg #[.int .i64 rk, .int .i64 rw_, .int .u64 rb, .int .u64 ra], .int .i64 no] w
    (Ret (.bool true) (fun w' => Frm [d, q] w w' ∧ MemAt w' p d c (oWs n ws ⟨k, x, b, a⟩) ∧ OnceAt w' q p (oAcc n ws ⟨k, x, b, a⟩))) := by
  have hkk : k = 1 ∨ k = 2 ∨ k = 3 ∨ k = 4 := by omega
  rcases hkk with rfl | rfl | rfl | rfl
  · have e1 : oRes n ws ⟨1, x, b, a⟩ = oRes n ws ⟨1, x, 0, 0⟩ := by unfold oRes; rw [mRes_load']
    have e2 : oWs n ws ⟨1, x, b, a⟩ = oWs n ws ⟨1, x, 0, 0⟩ := by unfold oWs; rw [mWs_load', mWs_load']
    have e3 : oAcc n ws ⟨1, x, b, a⟩ = oAcc n ws ⟨1, x, 0, 0⟩ := by unfold oAcc; rw [mRes_load']
    rw [e1] at hb; rw [e2, e3]
    clear e1 e2 e3
    have HB := Lib.hid hb
    have HN := Lib.hid hno
    clear hb hno
    go_enter Try.func14, Try.ntmps14
    go_wp2_with fail
    refine (step_true (loads_once (ho.frm (((Frm.refl [] _).alloc _).alloc _) (by simp)) ((hM.alloc _).alloc _) hqp hqd x rb no) (by rw [HB.out, HN.out]; simp)).mono ?_
    rintro e w1 ⟨rfl, hF1, hM1, hO1⟩
    go_wp2
    go_ret
    exact ⟨rfl, (((Frm.refl _ _).alloc _).alloc _).trans hF1, hM1, hO1⟩
  · have e1 : oRes n ws ⟨2, x, b, a⟩ = oRes n ws ⟨2, x, 0, a⟩ := by unfold oRes; rw [mRes_store' (by simp)]
    have e2 : oWs n ws ⟨2, x, b, a⟩ = oWs n ws ⟨2, x, 0, a⟩ := by unfold oWs; rw [mWs_store' (by simp)]
    have e3 : oAcc n ws ⟨2, x, b, a⟩ = oAcc n ws ⟨2, x, 0, a⟩ := by unfold oAcc; rw [mRes_store' (by simp)]
    rw [e1] at hb; rw [e2, e3]
    clear e1 e2 e3
    have HB := Lib.hid hb
    have HN := Lib.hid hno
    clear hb hno
    go_enter Try.func14, Try.ntmps14
    go_wp2_with fail
    refine (step_true (stores_once (ho.frm (((Frm.refl [] _).alloc _).alloc _) (by simp)) ((hM.alloc _).alloc _) hqp hqd x a no) (by rw [HN.out]; simp)).mono ?_
    rintro e w1 ⟨rfl, hF1, hM1, hO1⟩
    go_wp2
    go_ret
    exact ⟨rfl, (((Frm.refl _ _).alloc _).alloc _).trans hF1, hM1, hO1⟩
  · subst hb hno
    by_cases he : oErr n ws.length 3 x = 0
    · have he1 : (oErr n ws.length 3 x == 0) = true := by simp [he]
      by_cases hv : (oRes n ws ⟨3, x, b, a⟩).b = b
      · have hv1 : ((oRes n ws ⟨3, x, b, a⟩).b == b) = true := by simp [hv]
        have HE := Lib.hid he
        have HV := Lib.hid hv
        clear he hv
        go_enter Try.func14, Try.ntmps14
        go_wp2_with fail
        refine (step_true (compares_once (ho.frm (((Frm.refl [] _).alloc _).alloc _) (by simp)) ((hM.alloc _).alloc _) hqp hqd x b a _ true) (by rw [HE.out, HV.out]; simp)).mono ?_
        rintro e w1 ⟨rfl, hF1, hM1, hO1⟩
        go_wp2
        go_ret
        exact ⟨rfl, (((Frm.refl _ _).alloc _).alloc _).trans hF1, hM1, hO1⟩
      · have hv1 : ((oRes n ws ⟨3, x, b, a⟩).b == b) = false := by simp [hv]
        have HE := Lib.hid he
        have HV := Lib.hid hv
        clear he hv
        go_enter Try.func14, Try.ntmps14
        go_wp2_with fail
        refine (step_true (compares_once (ho.frm (((Frm.refl [] _).alloc _).alloc _) (by simp)) ((hM.alloc _).alloc _) hqp hqd x b a _ false) (by rw [hv1]; simp)).mono ?_
        rintro e w1 ⟨rfl, hF1, hM1, hO1⟩
        go_wp2
        go_ret
        exact ⟨rfl, (((Frm.refl _ _).alloc _).alloc _).trans hF1, hM1, hO1⟩
    · have he1 : (oErr n ws.length 3 x == 0) = false := by simp [he]
      go_enter Try.func14, Try.ntmps14
      go_wp2_with fail
      refine (step_true (compares_once (ho.frm (((Frm.refl [] _).alloc _).alloc _) (by simp)) ((hM.alloc _).alloc _) hqp hqd x b a _ false) (by rw [he1]; simp)).mono ?_
      rintro e w1 ⟨rfl, hF1, hM1, hO1⟩
      go_wp2
      go_ret
      exact ⟨rfl, (((Frm.refl _ _).alloc _).alloc _).trans hF1, hM1, hO1⟩
  · have e1 : oRes n ws ⟨4, x, b, a⟩ = oRes n ws ⟨4, x, 0, a⟩ := by unfold oRes; rw [mRes_store' (by simp)]
    have e2 : oWs n ws ⟨4, x, b, a⟩ = oWs n ws ⟨4, x, 0, a⟩ := by unfold oWs; rw [mWs_store' (by simp)]
    have e3 : oAcc n ws ⟨4, x, b, a⟩ = oAcc n ws ⟨4, x, 0, a⟩ := by unfold oAcc; rw [mRes_store' (by simp)]
    rw [e1] at hb; rw [e2, e3]
    clear e1 e2 e3
    have HB := Lib.hid hb
    have HN := Lib.hid hno
    clear hb hno
    go_enter Try.func14, Try.ntmps14
    go_wp2_with fail
    refine (step_true (swaps_once (ho.frm (((Frm.refl [] _).alloc _).alloc _) (by simp)) ((hM.alloc _).alloc _) hqp hqd x a rb no) (by rw [HB.out, HN.out]; simp)).mono ?_
    rintro e w1 ⟨rfl, hF1, hM1, hO1⟩
    go_wp2
    go_ret
    exact ⟨rfl, (((Frm.refl _ _).alloc _).alloc _).trans hF1, hM1, hO1⟩
end Go.Proofs.Ythmpmpjkkjjbbaa
