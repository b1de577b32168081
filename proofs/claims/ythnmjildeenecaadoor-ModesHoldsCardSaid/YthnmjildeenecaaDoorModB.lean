/- Package modes: Fits, a set's add and takes, setOf; the reference's Fits and With. -/
import Derived.Test.YthnmjildeenecaaDoorModA
import Derived.Test.YthnmjildeenecaaDoorRw
namespace Go.Proofs.YthnmjildeenecaaDoor
open Go.ChangeShapes Go.WideShapes Go.ChangeAt Go.RowKit

set_option maxHeartbeats 1000000 in
theorem fits_any {w : World} (hL : Laid w) (a b : Int) : Calls Tryd.prog 11 #[.int .i64 a, .int .i64 b] w (Ret (.bool (ft a b)) (fun w' => w = w')) := by
  by_cases ha : vm a = true
  · by_cases hb : vm b = true
    · have c11 : w.cell? ⟨0, 5, none⟩ = some (.bool true) := hL.tg 1 1 _ _ rfl rfl (by decide)
      have c12 : w.cell? ⟨0, 6, none⟩ = some (.bool true) := hL.tg 1 2 _ _ rfl rfl (by decide)
      have c13 : w.cell? ⟨0, 7, none⟩ = some (.bool false) := hL.tg 1 3 _ _ rfl rfl (by decide)
      have c21 : w.cell? ⟨0, 9, none⟩ = some (.bool true) := hL.tg 2 1 _ _ rfl rfl (by decide)
      have c22 : w.cell? ⟨0, 10, none⟩ = some (.bool false) := hL.tg 2 2 _ _ rfl rfl (by decide)
      have c23 : w.cell? ⟨0, 11, none⟩ = some (.bool false) := hL.tg 2 3 _ _ rfl rfl (by decide)
      have c31 : w.cell? ⟨0, 13, none⟩ = some (.bool false) := hL.tg 3 1 _ _ rfl rfl (by decide)
      have c32 : w.cell? ⟨0, 14, none⟩ = some (.bool false) := hL.tg 3 2 _ _ rfl rfl (by decide)
      have c33 : w.cell? ⟨0, 15, none⟩ = some (.bool false) := hL.tg 3 3 _ _ rfl rfl (by decide)
      have HA : ∀ x, Hid (vm x = true) → vm x = true := fun x h => h.out
      rcases vm_cases ha with rfl | rfl | rfl <;> rcases vm_cases hb with rfl | rfl | rfl
      all_goals
        have H1 := Lib.hid ha
        have H2 := Lib.hid hb
        clear ha hb hL
        go_enter Tryd.func11, Tryd.ntmps11
        go_wp2_with (go_at_call 9; refine (valid_any _ _).mono ?_; rintro e w' ⟨rfl, rfl⟩; first | rw [H1.out] | rw [H2.out])
        go_ret
        exact ⟨rfl, rfl⟩
    · have hb : vm b = false := by simpa using hb
      have ht : ft a b = false := by
        cases h : ft a b with
        | false => rfl
        | true => rw [(ft_vm h).2] at hb; cases hb
      rw [ht]
      have H1 := Lib.hid ha
      have H2 := Lib.hid hb
      clear ha hb hL ht
      go_enter Tryd.func11, Tryd.ntmps11
      go_wp2_with (go_at_call 9; refine (valid_any _ _).mono ?_; rintro e w' ⟨rfl, rfl⟩; first | rw [H1.out] | rw [H2.out])
      go_ret
      exact ⟨rfl, rfl⟩
  · have ha : vm a = false := by simpa using ha
    have ht : ft a b = false := by
      cases h : ft a b with
      | false => rfl
      | true => rw [(ft_vm h).1] at ha; cases ha
    rw [ht]
    have H1 := Lib.hid ha
    clear ha hL ht
    go_enter Tryd.func11, Tryd.ntmps11
    go_wp2_with (go_at_call 9; refine (valid_any _ _).mono ?_; rintro e w' ⟨rfl, rfl⟩; rw [H1.out])
    go_ret
    exact ⟨rfl, rfl⟩

set_option maxHeartbeats 1000000 in
theorem rfits_any (w : World) (a b : Int) : Calls Tryd.prog 12 #[.int .i64 a, .int .i64 b] w (Ret (.bool (ft a b)) (fun w' => w = w')) := by
  by_cases a1 : a = 1
  · subst a1
    by_cases b1 : b = 1
    · subst b1
      rw [show ft 1 1 = true from rfl]
      go_enter Tryd.func12, Tryd.ntmps12
      go_wp2
      go_ret
      exact ⟨rfl, rfl⟩
    · have d1 : (b == 1) = false := by simpa using b1
      by_cases b2 : b = 2
      · subst b2
        rw [show ft 1 2 = true from rfl]
        clear b1 d1
        go_enter Tryd.func12, Tryd.ntmps12
        go_wp2
        go_ret
        exact ⟨rfl, rfl⟩
      · have d2 : (b == 2) = false := by simpa using b2
        have ht : ft 1 b = false := by rw [← Bool.not_eq_true, ft_iff]; omega
        rw [ht]
        clear ht b1 b2
        go_enter Tryd.func12, Tryd.ntmps12
        go_wp2
        go_ret
        exact ⟨rfl, rfl⟩
  · have c1 : (a == 1) = false := by simpa using a1
    by_cases a2 : a = 2
    · subst a2
      clear a1 c1
      by_cases b1 : b = 1
      · subst b1
        rw [show ft 2 1 = true from rfl]
        go_enter Tryd.func12, Tryd.ntmps12
        go_wp2
        go_ret
        exact ⟨rfl, rfl⟩
      · have d1 : (b == 1) = false := by simpa using b1
        have ht : ft 2 b = false := by rw [← Bool.not_eq_true, ft_iff]; omega
        rw [ht]
        clear ht b1
        go_enter Tryd.func12, Tryd.ntmps12
        go_wp2
        go_ret
        exact ⟨rfl, rfl⟩
    · have c2 : (a == 2) = false := by simpa using a2
      have ht : ft a b = false := by rw [← Bool.not_eq_true, ft_iff]; omega
      rw [ht]
      clear ht a1 a2
      go_enter Tryd.func12, Tryd.ntmps12
      go_wp2
      go_ret
      exact ⟨rfl, rfl⟩

theorem wi_bad {m : Int} {l : List Int} {i : Nat} (hi : i < l.length) (h : ft m (l.getD i 0) = false) : wi m l = false := by
  cases hw : wi m l with
  | false => rfl
  | true =>
    have := List.all_eq_true.1 hw (l.getD i 0) (by rw [List.getD_eq_getElem?_getD, List.getElem?_eq_getElem hi]; exact List.getElem_mem hi)
    rw [this] at h; cases h
theorem wi_good {m : Int} {l : List Int} (h : ∀ i, i < l.length → ft m (l.getD i 0) = true) : wi m l = true :=
  List.all_eq_true.2 fun x hx => by
    obtain ⟨i, hi, rfl⟩ := List.getElem_of_mem hx
    have := h i hi
    rwa [List.getD_eq_getElem?_getD, List.getElem?_eq_getElem hi] at this

set_option maxHeartbeats 1000000 in
theorem with_any {w : World} {a : Option Addr} {n c b o : Nat} {l : List Int} (hL : Li .i64 w a n c b o l) (hn : n ≤ 1000) (m : Int) :
    Calls Tryd.prog 28 #[.int .i64 m, .slice a n c] w (Ret (.bool (wi m l)) (fun w' => w = w')) := by
  have hbad := fun i hi h => wi_bad (m := m) (l := l) (i := i) hi h
  have hgood := wi_good (m := m) (l := l)
  rw [hL.len] at hbad hgood
  generalize wi m l = R at hbad hgood ⊢
  have HG := Lib.hid hgood
  have HB := Lib.hid hbad
  have HL := Lib.hid hL
  clear hgood hbad hL
  go_enter Tryd.func28, Tryd.ntmps28
  go_wp2_with fail
  go_loop [5] (fun i => ∃ k : Nat, k ≤ n ∧ i = .int .i64 k ∧ Hid (∀ j, j < k → ft m (l.getD j 0) = true)) (fun i => n - (intOf i).toNat)
  case atStart => exact ⟨0, by omega, rfl, Lib.hid (fun j hj => by omega)⟩
  case round =>
    obtain ⟨k, hk, rfl, HI⟩ := hrel
    by_cases hlt : k < n
    · obtain ⟨x, hx, hg, hc⟩ := HL.out.get hlt
      have hix := ix_md (c := c) HL.out.ad hlt
      have HX := Lib.hid hx
      have HGD := Lib.hid hg
      clear hx hg
      have hb0 : (k : Int) < (n : Int) := by omega
      by_cases hf : ft m x = true
      · have HF := Lib.hid hf
        clear hf
        go_wp2_with (go_at_call 12; refine (rfits_any _ _ _).mono ?_; rintro e w' ⟨rfl, rfl⟩; rw [HF.out])
        go_round
        case rel =>
          refine ⟨k + 1, by omega, by go_num, Lib.hid (fun j hj => ?_)⟩
          by_cases e : j = k
          · subst e; rw [HGD.out]; exact HF.out
          · exact HI.out j (by omega)
        case measure => simp [intOf]; omega
      · have hf : ft m x = false := by simpa using hf
        have HR := Lib.hid (HB.out k hlt (by rw [HGD.out]; exact hf))
        have HF := Lib.hid hf
        clear hf
        go_wp2_with (go_at_call 12; refine (rfits_any _ _ _).mono ?_; rintro e w' ⟨rfl, rfl⟩; rw [HF.out])
        go_ret
        exact ⟨by rw [HR.out]; rfl, rfl⟩
    · have HR := Lib.hid (HG.out (fun j hj => HI.out j (by omega)))
      go_wp2
      go_ret
      exact ⟨by rw [HR.out]; rfl, rfl⟩
#print axioms with_any
end Go.Proofs.YthnmjildeenecaaDoor
