/- The reference: least. -/
import Derived.Test.YtegoggnocpgoiaaScrAr
import Derived.Deep.RegionHeld3
namespace Go.Proofs.Ytegoggnocpgoiaa
open Go.ChangeShapes Go.WideShapes Go.ChangeAt Go.RowKit

/-- Whether a byte says a part of an operation. -/
def pB (o : Opr) (p : Int) (n : Nat) : Bool :=
  if p = 107 then decide (keyB (n : Int) = o.key) else if p = 111 then decide (valB (n : Int) = o.old) else if p = 118 then decide (valB (n : Int) = o.val) else decide ((n : Int) % 32 + 1 = o.n)
/-- The least byte that says it. -/
def lst (o : Opr) (p : Int) : Option Nat := (List.range 256).find? (pB o p)
theorem lst_hit {o : Opr} {p : Int} {k : Nat} (hk : k < 256) (h : ∀ j : Nat, j < k → pB o p j = false) (hv : pB o p k = true) : lst o p = some k := by
  unfold lst
  rw [List.find?_range_eq_some]
  exact ⟨hv, by simpa using hk, fun j hj => by simp [h j hj]⟩
theorem lst_miss {o : Opr} {p : Int} (h : ∀ j : Nat, j < 256 → pB o p j = false) : lst o p = none := by
  unfold lst
  rw [List.find?_range_eq_none]
  intro j hj; simp [h j hj]
theorem lst_some {o : Opr} {p : Int} {k : Nat} (h : lst o p = some k) : k < 256 ∧ pB o p k = true ∧ ∀ j : Nat, j < k → pB o p j = false := by
  unfold lst at h
  obtain ⟨h1, h2, h3⟩ := List.find?_range_eq_some.1 h
  exact ⟨by simpa using h2, h1, fun j hj => by simpa using h3 j hj⟩

set_option maxRecDepth 100000 in
set_option maxHeartbeats 4000000 in
theorem least_k (w : World) (o : Opr) : Calls Try.prog 30 #[.agg #[.int .i64 o.k, .int .i64 o.t, .int .i64 o.n, .int .i64 o.v, .string o.key, .string o.val, .string o.old, .int .i64 o.tk], .int .u8 107] w (Ret (.tuple #[.int .u8 (((lst o 107).getD 0 : Nat) : Int), .bool (lst o 107).isSome]) (fun w' => Frm [] w w')) := by
  have hhit := fun (k : Nat) => @lst_hit o 107 k
  have hmiss := @lst_miss o 107
  have hpb : ∀ k : Nat, pB o 107 k = decide (keyB (k : Int) = o.key) := fun k => by unfold pB; rw [if_pos rfl]
  generalize lst o 107 = V at hhit hmiss ⊢
  have HH := Lib.hid hhit
  have HMS := Lib.hid hmiss
  have HPBE := Lib.hid hpb
  have e0 := heap_alloc_new w (.cells #[.int .i64 o.k, .int .i64 o.t, .int .i64 o.n, .int .i64 o.v, .string o.key, .string o.val, .string o.old, .int .i64 o.tk] 30)
  have hF0 : Frm [] w (w.alloc (.cells #[.int .i64 o.k, .int .i64 o.t, .int .i64 o.n, .int .i64 o.v, .string o.key, .string o.val, .string o.old, .int .i64 o.tk] 30)) := (Frm.refl _ _).alloc _
  obtain ⟨X, hX⟩ : ∃ X, w.alloc (.cells #[.int .i64 o.k, .int .i64 o.t, .int .i64 o.n, .int .i64 o.v, .string o.key, .string o.val, .string o.old, .int .i64 o.tk] 30) = X := ⟨_, rfl⟩
  rw [hX] at e0 hF0
  have hcell : ∀ w', Frm [] X w' → w'.cell? ⟨w.heap.size, 4, none⟩ = some (.string o.key) := fun w' hF => by
    rw [cell_of_heap (hF.heap e0 (by simp))]; rfl
  have HX := Lib.hid hX
  have HCELL := Lib.hid hcell
  have HF0 := Lib.hid hF0
  clear hhit hmiss hpb e0 hX hcell hF0
  go_enter Try.func30, Try.ntmps30
  go_wp2_with fail
  rw [HX.out]
  go_loopw [6] (fun i w' => ∃ k : Nat, k ≤ 256 ∧ i = .int .i64 k ∧ Frm [] X w' ∧ Hid (∀ j : Nat, j < k → pB o 107 j = false)) (fun i _ => 256 - (intOf i).toNat)
  case atStart => exact ⟨0, by omega, rfl, Frm.refl _ _, Lib.hid (fun j hj => by omega)⟩
  case round =>
    obtain ⟨k, hk, rfl, hF, HI⟩ := hrel
    by_cases hlt : k < 256
    · have hb0 : (0 : Int) ≤ (k : Int) := by omega
      have hb1 : (k : Int) ≤ 255 := by omega
      have hcl : ∀ w', Frm [] wr w' → w'.cell? ⟨w.heap.size, 4, none⟩ = some (.string o.key) := fun w' h => HCELL.out w' (hF.trans h)
      by_cases hv : keyB (k : Int) = o.key
      · have hR := HH.out k hlt HI.out (by rw [HPBE.out]; simpa using hv)
        have HR := Lib.hid hR
        have d1 : ((keyB (k : Int)).toList == (o.key).toList) = true := by rw [str_eq]; simpa using hv
        clear hR hv
        go_wp2_with fail
        go_region_held3 (fun w' => Frm [] wr w')
          ((repeat' (first | assumption | exact Frm.refl _ _ | apply Frm.drew | apply Frm.alloc | (refine Frm.trans ?_ hF1))))
          ((go_at_call 18; refine (rkey_any (k : Int) hb0 hb1 _).mono ?_; rintro e w1 ⟨rfl, hF1⟩))
        go_wp2
        go_ret2
        exact ⟨by rw [HR.out]; rfl, (HF0.out.trans hF).trans (((Frm.refl _ _).drew).trans hF1)⟩
      · have d1 : ((keyB (k : Int)).toList == (o.key).toList) = false := by rw [str_eq]; simpa using hv
        have hpbk : pB o 107 k = false := by rw [HPBE.out]; simpa using hv
        have HPB := Lib.hid hpbk
        clear hv hpbk
        go_wp2_with fail
        go_region_held3 (fun w' => Frm [] wr w')
          ((repeat' (first | assumption | exact Frm.refl _ _ | apply Frm.drew | apply Frm.alloc | (refine Frm.trans ?_ hF1))))
          ((go_at_call 18; refine (rkey_any (k : Int) hb0 hb1 _).mono ?_; rintro e w1 ⟨rfl, hF1⟩))
        go_wp2
        go_roundw
        case rel =>
          refine ⟨k + 1, by omega, by go_num, hF.trans (((Frm.refl _ _).drew).trans hF1), Lib.hid (fun j hj => ?_)⟩
          by_cases e : j = k
          · subst e; exact HPB.out
          · exact HI.out j (by omega)
        case measure => simp [intOf]; omega
    · obtain rfl : k = 256 := by omega
      have hR := HMS.out HI.out
      have HR := Lib.hid hR
      clear hR
      go_wp2
      go_ret2
      exact ⟨by rw [HR.out]; rfl, HF0.out.trans hF⟩

set_option maxRecDepth 100000 in
set_option maxHeartbeats 4000000 in
theorem least_o (w : World) (o : Opr) : Calls Try.prog 30 #[.agg #[.int .i64 o.k, .int .i64 o.t, .int .i64 o.n, .int .i64 o.v, .string o.key, .string o.val, .string o.old, .int .i64 o.tk], .int .u8 111] w (Ret (.tuple #[.int .u8 (((lst o 111).getD 0 : Nat) : Int), .bool (lst o 111).isSome]) (fun w' => Frm [] w w')) := by
  have hhit := fun (k : Nat) => @lst_hit o 111 k
  have hmiss := @lst_miss o 111
  have hpb : ∀ k : Nat, pB o 111 k = decide (valB (k : Int) = o.old) := fun k => by unfold pB; rw [if_neg (by decide), if_pos rfl]
  generalize lst o 111 = V at hhit hmiss ⊢
  have HH := Lib.hid hhit
  have HMS := Lib.hid hmiss
  have HPBE := Lib.hid hpb
  have e0 := heap_alloc_new w (.cells #[.int .i64 o.k, .int .i64 o.t, .int .i64 o.n, .int .i64 o.v, .string o.key, .string o.val, .string o.old, .int .i64 o.tk] 30)
  have hF0 : Frm [] w (w.alloc (.cells #[.int .i64 o.k, .int .i64 o.t, .int .i64 o.n, .int .i64 o.v, .string o.key, .string o.val, .string o.old, .int .i64 o.tk] 30)) := (Frm.refl _ _).alloc _
  obtain ⟨X, hX⟩ : ∃ X, w.alloc (.cells #[.int .i64 o.k, .int .i64 o.t, .int .i64 o.n, .int .i64 o.v, .string o.key, .string o.val, .string o.old, .int .i64 o.tk] 30) = X := ⟨_, rfl⟩
  rw [hX] at e0 hF0
  have hcell : ∀ w', Frm [] X w' → w'.cell? ⟨w.heap.size, 6, none⟩ = some (.string o.old) := fun w' hF => by
    rw [cell_of_heap (hF.heap e0 (by simp))]; rfl
  have HX := Lib.hid hX
  have HCELL := Lib.hid hcell
  have HF0 := Lib.hid hF0
  clear hhit hmiss hpb e0 hX hcell hF0
  go_enter Try.func30, Try.ntmps30
  go_wp2_with fail
  rw [HX.out]
  go_loopw [6] (fun i w' => ∃ k : Nat, k ≤ 256 ∧ i = .int .i64 k ∧ Frm [] X w' ∧ Hid (∀ j : Nat, j < k → pB o 111 j = false)) (fun i _ => 256 - (intOf i).toNat)
  case atStart => exact ⟨0, by omega, rfl, Frm.refl _ _, Lib.hid (fun j hj => by omega)⟩
  case round =>
    obtain ⟨k, hk, rfl, hF, HI⟩ := hrel
    by_cases hlt : k < 256
    · have hb0 : (0 : Int) ≤ (k : Int) := by omega
      have hb1 : (k : Int) ≤ 255 := by omega
      have hcl : ∀ w', Frm [] wr w' → w'.cell? ⟨w.heap.size, 6, none⟩ = some (.string o.old) := fun w' h => HCELL.out w' (hF.trans h)
      by_cases hv : valB (k : Int) = o.old
      · have hR := HH.out k hlt HI.out (by rw [HPBE.out]; simpa using hv)
        have HR := Lib.hid hR
        have d1 : ((valB (k : Int)).toList == (o.old).toList) = true := by rw [str_eq]; simpa using hv
        clear hR hv
        go_wp2_with fail
        go_region_held3 (fun w' => Frm [] wr w')
          ((repeat' (first | assumption | exact Frm.refl _ _ | apply Frm.drew | apply Frm.alloc | (refine Frm.trans ?_ hF1))))
          ((go_at_call 20; refine (rval_any (k : Int) hb0 hb1 _).mono ?_; rintro e w1 ⟨rfl, hF1⟩))
        go_wp2
        go_ret2
        exact ⟨by rw [HR.out]; rfl, (HF0.out.trans hF).trans (((Frm.refl _ _).drew).trans hF1)⟩
      · have d1 : ((valB (k : Int)).toList == (o.old).toList) = false := by rw [str_eq]; simpa using hv
        have hpbk : pB o 111 k = false := by rw [HPBE.out]; simpa using hv
        have HPB := Lib.hid hpbk
        clear hv hpbk
        go_wp2_with fail
        go_region_held3 (fun w' => Frm [] wr w')
          ((repeat' (first | assumption | exact Frm.refl _ _ | apply Frm.drew | apply Frm.alloc | (refine Frm.trans ?_ hF1))))
          ((go_at_call 20; refine (rval_any (k : Int) hb0 hb1 _).mono ?_; rintro e w1 ⟨rfl, hF1⟩))
        go_wp2
        go_roundw
        case rel =>
          refine ⟨k + 1, by omega, by go_num, hF.trans (((Frm.refl _ _).drew).trans hF1), Lib.hid (fun j hj => ?_)⟩
          by_cases e : j = k
          · subst e; exact HPB.out
          · exact HI.out j (by omega)
        case measure => simp [intOf]; omega
    · obtain rfl : k = 256 := by omega
      have hR := HMS.out HI.out
      have HR := Lib.hid hR
      clear hR
      go_wp2
      go_ret2
      exact ⟨by rw [HR.out]; rfl, HF0.out.trans hF⟩

set_option maxRecDepth 100000 in
set_option maxHeartbeats 4000000 in
theorem least_v (w : World) (o : Opr) : Calls Try.prog 30 #[.agg #[.int .i64 o.k, .int .i64 o.t, .int .i64 o.n, .int .i64 o.v, .string o.key, .string o.val, .string o.old, .int .i64 o.tk], .int .u8 118] w (Ret (.tuple #[.int .u8 (((lst o 118).getD 0 : Nat) : Int), .bool (lst o 118).isSome]) (fun w' => Frm [] w w')) := by
  have hhit := fun (k : Nat) => @lst_hit o 118 k
  have hmiss := @lst_miss o 118
  have hpb : ∀ k : Nat, pB o 118 k = decide (valB (k : Int) = o.val) := fun k => by unfold pB; rw [if_neg (by decide), if_neg (by decide), if_pos rfl]
  generalize lst o 118 = V at hhit hmiss ⊢
  have HH := Lib.hid hhit
  have HMS := Lib.hid hmiss
  have HPBE := Lib.hid hpb
  have e0 := heap_alloc_new w (.cells #[.int .i64 o.k, .int .i64 o.t, .int .i64 o.n, .int .i64 o.v, .string o.key, .string o.val, .string o.old, .int .i64 o.tk] 30)
  have hF0 : Frm [] w (w.alloc (.cells #[.int .i64 o.k, .int .i64 o.t, .int .i64 o.n, .int .i64 o.v, .string o.key, .string o.val, .string o.old, .int .i64 o.tk] 30)) := (Frm.refl _ _).alloc _
  obtain ⟨X, hX⟩ : ∃ X, w.alloc (.cells #[.int .i64 o.k, .int .i64 o.t, .int .i64 o.n, .int .i64 o.v, .string o.key, .string o.val, .string o.old, .int .i64 o.tk] 30) = X := ⟨_, rfl⟩
  rw [hX] at e0 hF0
  have hcell : ∀ w', Frm [] X w' → w'.cell? ⟨w.heap.size, 5, none⟩ = some (.string o.val) := fun w' hF => by
    rw [cell_of_heap (hF.heap e0 (by simp))]; rfl
  have HX := Lib.hid hX
  have HCELL := Lib.hid hcell
  have HF0 := Lib.hid hF0
  clear hhit hmiss hpb e0 hX hcell hF0
  go_enter Try.func30, Try.ntmps30
  go_wp2_with fail
  rw [HX.out]
  go_loopw [6] (fun i w' => ∃ k : Nat, k ≤ 256 ∧ i = .int .i64 k ∧ Frm [] X w' ∧ Hid (∀ j : Nat, j < k → pB o 118 j = false)) (fun i _ => 256 - (intOf i).toNat)
  case atStart => exact ⟨0, by omega, rfl, Frm.refl _ _, Lib.hid (fun j hj => by omega)⟩
  case round =>
    obtain ⟨k, hk, rfl, hF, HI⟩ := hrel
    by_cases hlt : k < 256
    · have hb0 : (0 : Int) ≤ (k : Int) := by omega
      have hb1 : (k : Int) ≤ 255 := by omega
      have hcl : ∀ w', Frm [] wr w' → w'.cell? ⟨w.heap.size, 5, none⟩ = some (.string o.val) := fun w' h => HCELL.out w' (hF.trans h)
      by_cases hv : valB (k : Int) = o.val
      · have hR := HH.out k hlt HI.out (by rw [HPBE.out]; simpa using hv)
        have HR := Lib.hid hR
        have d1 : ((valB (k : Int)).toList == (o.val).toList) = true := by rw [str_eq]; simpa using hv
        clear hR hv
        go_wp2_with fail
        go_region_held3 (fun w' => Frm [] wr w')
          ((repeat' (first | assumption | exact Frm.refl _ _ | apply Frm.drew | apply Frm.alloc | (refine Frm.trans ?_ hF1))))
          ((go_at_call 20; refine (rval_any (k : Int) hb0 hb1 _).mono ?_; rintro e w1 ⟨rfl, hF1⟩))
        go_wp2
        go_ret2
        exact ⟨by rw [HR.out]; rfl, (HF0.out.trans hF).trans (((Frm.refl _ _).drew).trans hF1)⟩
      · have d1 : ((valB (k : Int)).toList == (o.val).toList) = false := by rw [str_eq]; simpa using hv
        have hpbk : pB o 118 k = false := by rw [HPBE.out]; simpa using hv
        have HPB := Lib.hid hpbk
        clear hv hpbk
        go_wp2_with fail
        go_region_held3 (fun w' => Frm [] wr w')
          ((repeat' (first | assumption | exact Frm.refl _ _ | apply Frm.drew | apply Frm.alloc | (refine Frm.trans ?_ hF1))))
          ((go_at_call 20; refine (rval_any (k : Int) hb0 hb1 _).mono ?_; rintro e w1 ⟨rfl, hF1⟩))
        go_wp2
        go_roundw
        case rel =>
          refine ⟨k + 1, by omega, by go_num, hF.trans (((Frm.refl _ _).drew).trans hF1), Lib.hid (fun j hj => ?_)⟩
          by_cases e : j = k
          · subst e; exact HPB.out
          · exact HI.out j (by omega)
        case measure => simp [intOf]; omega
    · obtain rfl : k = 256 := by omega
      have hR := HMS.out HI.out
      have HR := Lib.hid hR
      clear hR
      go_wp2
      go_ret2
      exact ⟨by rw [HR.out]; rfl, HF0.out.trans hF⟩

set_option maxRecDepth 100000 in
set_option maxHeartbeats 4000000 in
theorem least_n (w : World) (o : Opr) : Calls Try.prog 30 #[.agg #[.int .i64 o.k, .int .i64 o.t, .int .i64 o.n, .int .i64 o.v, .string o.key, .string o.val, .string o.old, .int .i64 o.tk], .int .u8 110] w (Ret (.tuple #[.int .u8 (((lst o 110).getD 0 : Nat) : Int), .bool (lst o 110).isSome]) (fun w' => Frm [] w w')) := by
  have hhit := fun (k : Nat) => @lst_hit o 110 k
  have hmiss := @lst_miss o 110
  have hpb : ∀ k : Nat, pB o 110 k = decide ((k : Int) % 32 + 1 = o.n) := fun k => by unfold pB; rw [if_neg (by decide), if_neg (by decide), if_neg (by decide)]
  generalize lst o 110 = V at hhit hmiss ⊢
  have HH := Lib.hid hhit
  have HMS := Lib.hid hmiss
  have HPBE := Lib.hid hpb
  clear hhit hmiss hpb
  go_enter Try.func30, Try.ntmps30
  go_wp2_with fail
  go_loop [6] (fun i => ∃ k : Nat, k ≤ 256 ∧ i = .int .i64 k ∧ Hid (∀ j : Nat, j < k → pB o 110 j = false)) (fun i => 256 - (intOf i).toNat)
  case atStart => exact ⟨0, by omega, rfl, Lib.hid (fun j hj => by omega)⟩
  case round =>
    obtain ⟨k, hk, rfl, HI⟩ := hrel
    by_cases hlt : k < 256
    · have hb0 : (0 : Int) ≤ (k : Int) := by omega
      have hb1 : (k : Int) ≤ 255 := by omega
      by_cases hv : (k : Int) % 32 + 1 = o.n
      · have hR := HH.out k hlt HI.out (by rw [HPBE.out]; simpa using hv)
        have HR := Lib.hid hR
        have d1 : ((k : Int) % 32 + 1 == o.n) = true := by simpa using hv
        clear hR hv
        go_wp2
        go_ret2
        exact ⟨by rw [HR.out]; rfl, (Frm.refl _ _).alloc _⟩
      · have d1 : ((k : Int) % 32 + 1 == o.n) = false := by simpa using hv
        have hpbk : pB o 110 k = false := by rw [HPBE.out]; simpa using hv
        have HPB := Lib.hid hpbk
        clear hv hpbk
        go_wp2
        go_round
        case rel =>
          refine ⟨k + 1, by omega, by go_num, Lib.hid (fun j hj => ?_)⟩
          by_cases e : j = k
          · subst e; exact HPB.out
          · exact HI.out j (by omega)
        case measure => simp [intOf]; omega
    · obtain rfl : k = 256 := by omega
      have hR := HMS.out HI.out
      have HR := Lib.hid hR
      clear hR
      go_wp2
      go_ret2
      exact ⟨by rw [HR.out]; rfl, (Frm.refl _ _).alloc _⟩
end Go.Proofs.Ytegoggnocpgoiaa
