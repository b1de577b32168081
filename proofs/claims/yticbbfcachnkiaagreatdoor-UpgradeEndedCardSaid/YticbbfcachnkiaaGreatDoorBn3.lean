/- LtB, LtC, LtD, LtE, LtM, LtF, LtG in one text (by mkbundle.py). -/
import Derived.Test.YticbbfcachnkiaaGreatDoorBn2
/- Package modes: Fits, a set's add and takes, setOf; the reference's Fits and With. -/
namespace Go.Proofs.YticbbfcachnkiaaGreatDoor
open Go.ChangeShapes Go.WideShapes Go.ChangeAt Go.RowKit

set_option maxHeartbeats 1000000 in
theorem fits_any {w : World} (hL : Laid w) (a b : Int) : Calls Tryz.prog 126 #[.int .i64 a, .int .i64 b] w (Ret (.bool (ft a b)) (fun w' => w = w')) := by
  by_cases ha : vm a = true
  · by_cases hb : vm b = true
    · have c11 : w.cell? ⟨1, 5, none⟩ = some (.bool true) := hL.tg 1 1 _ _ rfl rfl (by decide)
      have c12 : w.cell? ⟨1, 6, none⟩ = some (.bool true) := hL.tg 1 2 _ _ rfl rfl (by decide)
      have c13 : w.cell? ⟨1, 7, none⟩ = some (.bool false) := hL.tg 1 3 _ _ rfl rfl (by decide)
      have c21 : w.cell? ⟨1, 9, none⟩ = some (.bool true) := hL.tg 2 1 _ _ rfl rfl (by decide)
      have c22 : w.cell? ⟨1, 10, none⟩ = some (.bool false) := hL.tg 2 2 _ _ rfl rfl (by decide)
      have c23 : w.cell? ⟨1, 11, none⟩ = some (.bool false) := hL.tg 2 3 _ _ rfl rfl (by decide)
      have c31 : w.cell? ⟨1, 13, none⟩ = some (.bool false) := hL.tg 3 1 _ _ rfl rfl (by decide)
      have c32 : w.cell? ⟨1, 14, none⟩ = some (.bool false) := hL.tg 3 2 _ _ rfl rfl (by decide)
      have c33 : w.cell? ⟨1, 15, none⟩ = some (.bool false) := hL.tg 3 3 _ _ rfl rfl (by decide)
      have HA : ∀ x, Hid (vm x = true) → vm x = true := fun x h => h.out
      rcases vm_cases ha with rfl | rfl | rfl <;> rcases vm_cases hb with rfl | rfl | rfl
      all_goals
        have H1 := Lib.hid ha
        have H2 := Lib.hid hb
        clear ha hb hL
        go_enter Tryz.func126, Tryz.ntmps126
        go_wp2_with (go_at_call 69; refine (valid_any _ _).mono ?_; rintro e w' ⟨rfl, rfl⟩; first | rw [H1.out] | rw [H2.out])
        go_ret
        exact ⟨rfl, rfl⟩
    · have hb : vm b = false := by simpa using hb
      have ht : ft a b = false := by
        cases h : ft a b with
        | false => rfl
        | true => rw [(ft_vm h).2] at hb; cases hb
      rw [ht]
      have H1 := Lib.hid ha
      have H2 := Lib.hid hb
      clear ha hb hL ht
      go_enter Tryz.func126, Tryz.ntmps126
      go_wp2_with (go_at_call 69; refine (valid_any _ _).mono ?_; rintro e w' ⟨rfl, rfl⟩; first | rw [H1.out] | rw [H2.out])
      go_ret
      exact ⟨rfl, rfl⟩
  · have ha : vm a = false := by simpa using ha
    have ht : ft a b = false := by
      cases h : ft a b with
      | false => rfl
      | true => rw [(ft_vm h).1] at ha; cases ha
    rw [ht]
    have H1 := Lib.hid ha
    clear ha hL ht
    go_enter Tryz.func126, Tryz.ntmps126
    go_wp2_with (go_at_call 69; refine (valid_any _ _).mono ?_; rintro e w' ⟨rfl, rfl⟩; rw [H1.out])
    go_ret
    exact ⟨rfl, rfl⟩

set_option maxHeartbeats 1000000 in
theorem rfits_any (w : World) (a b : Int) : Calls Tryz.prog 113 #[.int .i64 a, .int .i64 b] w (Ret (.bool (ft a b)) (fun w' => w = w')) := by
  by_cases a1 : a = 1
  · subst a1
    by_cases b1 : b = 1
    · subst b1
      rw [show ft 1 1 = true from rfl]
      go_enter Tryz.func113, Tryz.ntmps113
      go_wp2
      go_ret
      exact ⟨rfl, rfl⟩
    · have d1 : (b == 1) = false := by simpa using b1
      by_cases b2 : b = 2
      · subst b2
        rw [show ft 1 2 = true from rfl]
        clear b1 d1
        go_enter Tryz.func113, Tryz.ntmps113
        go_wp2
        go_ret
        exact ⟨rfl, rfl⟩
      · have d2 : (b == 2) = false := by simpa using b2
        have ht : ft 1 b = false := by rw [← Bool.not_eq_true, ft_iff]; omega
        rw [ht]
        clear ht b1 b2
        go_enter Tryz.func113, Tryz.ntmps113
        go_wp2
        go_ret
        exact ⟨rfl, rfl⟩
  · have c1 : (a == 1) = false := by simpa using a1
    by_cases a2 : a = 2
    · subst a2
      clear a1 c1
      by_cases b1 : b = 1
      · subst b1
        rw [show ft 2 1 = true from rfl]
        go_enter Tryz.func113, Tryz.ntmps113
        go_wp2
        go_ret
        exact ⟨rfl, rfl⟩
      · have d1 : (b == 1) = false := by simpa using b1
        have ht : ft 2 b = false := by rw [← Bool.not_eq_true, ft_iff]; omega
        rw [ht]
        clear ht b1
        go_enter Tryz.func113, Tryz.ntmps113
        go_wp2
        go_ret
        exact ⟨rfl, rfl⟩
    · have c2 : (a == 2) = false := by simpa using a2
      have ht : ft a b = false := by rw [← Bool.not_eq_true, ft_iff]; omega
      rw [ht]
      clear ht a1 a2
      go_enter Tryz.func113, Tryz.ntmps113
      go_wp2
      go_ret
      exact ⟨rfl, rfl⟩

theorem wi_bad {m : Int} {l : List Int} {i : Nat} (hi : i < l.length) (h : ft m (l.getD i 0) = false) : wi m l = false := by
  cases hw : wi m l with
  | false => rfl
  | true =>
    have := List.all_eq_true.1 hw (l.getD i 0) (by rw [List.getD_eq_getElem?_getD, List.getElem?_eq_getElem hi]; exact List.getElem_mem hi)
    rw [this] at h; cases h
theorem wi_good {m : Int} {l : List Int} (h : ∀ i, i < l.length → ft m (l.getD i 0) = true) : wi m l = true :=
  List.all_eq_true.2 fun x hx => by
    obtain ⟨i, hi, rfl⟩ := List.getElem_of_mem hx
    have := h i hi
    rwa [List.getD_eq_getElem?_getD, List.getElem?_eq_getElem hi] at this

set_option maxHeartbeats 1000000 in
theorem with_any {w : World} {a : Option Addr} {n c b o : Nat} {l : List Int} (hL : Li .i64 w a n c b o l) (hn : n ≤ 1000) (m : Int) :
    Calls Tryz.prog 103 #[.int .i64 m, .slice a n c] w (Ret (.bool (wi m l)) (fun w' => w = w')) := by
  have hbad := fun i hi h => wi_bad (m := m) (l := l) (i := i) hi h
  have hgood := wi_good (m := m) (l := l)
  rw [hL.len] at hbad hgood
  generalize wi m l = R at hbad hgood ⊢
  have HG := Lib.hid hgood
  have HB := Lib.hid hbad
  have HL := Lib.hid hL
  clear hgood hbad hL
  go_enter Tryz.func103, Tryz.ntmps103
  go_wp2_with fail
  go_loop [5] (fun i => ∃ k : Nat, k ≤ n ∧ i = .int .i64 k ∧ Hid (∀ j, j < k → ft m (l.getD j 0) = true)) (fun i => n - (intOf i).toNat)
  case atStart => exact ⟨0, by omega, rfl, Lib.hid (fun j hj => by omega)⟩
  case round =>
    obtain ⟨k, hk, rfl, HI⟩ := hrel
    by_cases hlt : k < n
    · obtain ⟨x, hx, hg, hc⟩ := HL.out.get hlt
      have hix := ix_md (c := c) HL.out.ad hlt
      have HX := Lib.hid hx
      have HGD := Lib.hid hg
      clear hx hg
      have hb0 : (k : Int) < (n : Int) := by omega
      by_cases hf : ft m x = true
      · have HF := Lib.hid hf
        clear hf
        go_wp2_with (go_at_call 113; refine (rfits_any _ _ _).mono ?_; rintro e w' ⟨rfl, rfl⟩; rw [HF.out])
        go_round
        case rel =>
          refine ⟨k + 1, by omega, by go_num, Lib.hid (fun j hj => ?_)⟩
          by_cases e : j = k
          · subst e; rw [HGD.out]; exact HF.out
          · exact HI.out j (by omega)
        case measure => simp [intOf]; omega
      · have hf : ft m x = false := by simpa using hf
        have HR := Lib.hid (HB.out k hlt (by rw [HGD.out]; exact hf))
        have HF := Lib.hid hf
        clear hf
        go_wp2_with (go_at_call 113; refine (rfits_any _ _ _).mono ?_; rintro e w' ⟨rfl, rfl⟩; rw [HF.out])
        go_ret
        exact ⟨by rw [HR.out]; rfl, rfl⟩
    · have HR := Lib.hid (HG.out (fun j hj => HI.out j (by omega)))
      go_wp2
      go_ret
      exact ⟨by rw [HR.out]; rfl, rfl⟩
end Go.Proofs.YticbbfcachnkiaaGreatDoor

/- Package modes: a set's add and takes, setOf. -/
namespace Go.Proofs.YticbbfcachnkiaaGreatDoor
open Go.ChangeShapes Go.WideShapes Go.ChangeAt Go.RowKit

/-- A set as it lies; as it is handed on. -/
def bits (l : List Int) : Array Value := #[.bool (st l 0), .bool (st l 1), .bool (st l 2), .bool (st l 3)]
def SetAt (w : World) (g : Nat) (l : List Int) : Prop := w.heap[g]? = some (.cells (bits l) 210 (0, 0))
theorem SetAt.frm {D : List Nat} {w w' : World} {g : Nat} {l : List Int} (h : SetAt w g l) (hf : Frm D w w') (hd : g ∉ D) : SetAt w' g l := hf.heap h hd
theorem SetAt.cells {w : World} {g : Nat} {l : List Int} (h : SetAt w g l) : w.cell? ⟨g, 0, none⟩ = some (.bool (st l 0)) ∧ w.cell? ⟨g, 1, none⟩ = some (.bool (st l 1)) ∧ w.cell? ⟨g, 2, none⟩ = some (.bool (st l 2)) ∧ w.cell? ⟨g, 3, none⟩ = some (.bool (st l 3)) :=
  cells4 h

theorem bits_snoc (l : List Int) (m : Int) (i : Nat) (hi : cl m = i) (h4 : i < 4) : (bits l).setIfInBounds i (.bool true) = bits (l ++ [m]) := by
  have h0 := st_snoc_at l m
  have hf := fun j h => st_snoc_far l m j h
  rw [hi] at h0 hf
  unfold bits
  obtain rfl | rfl | rfl | rfl : i = 0 ∨ i = 1 ∨ i = 2 ∨ i = 3 := by omega
  · rw [hf 1 (by decide), hf 2 (by decide), hf 3 (by decide), show st (l ++ [m]) 0 = true from h0]; rfl
  · rw [hf 0 (by decide), hf 2 (by decide), hf 3 (by decide), show st (l ++ [m]) 1 = true from h0]; rfl
  · rw [hf 0 (by decide), hf 1 (by decide), hf 3 (by decide), show st (l ++ [m]) 2 = true from h0]; rfl
  · rw [hf 0 (by decide), hf 1 (by decide), hf 2 (by decide), show st (l ++ [m]) 3 = true from h0]; rfl

set_option maxHeartbeats 1000000 in
theorem add_any {w : World} {g : Nat} {l : List Int} (hS : SetAt w g l) (m : Int) : Calls Tryz.prog 123 #[.pointer (some ⟨g, 0, none⟩), .int .i64 m] w (Ret (.tuple #[]) (fun w' => Frm [g] w w' ∧ SetAt w' g (l ++ [m]))) := by
  obtain ⟨c0, c1, c2, c3⟩ := hS.cells
  have hz : ∀ i, w.frozen? ⟨g, i, none⟩ = false := fun i => frozen_of_heap hS
  have z0 := hz 0
  have z1 := hz 1
  have z2 := hz 2
  have z3 := hz 3
  have hset : ∀ i : Nat, cl m = i → i < 4 → Frm [g] w (w.setCell ⟨g, i, none⟩ (.bool true)) ∧ SetAt (w.setCell ⟨g, i, none⟩ (.bool true)) g (l ++ [m]) := fun i hi h4 =>
    ⟨(Frm.refl _ _).setCell _ _ (.inl (by simp)), by unfold SetAt; rw [← bits_snoc l m i hi h4]; exact heap_setCell_at _ hS⟩
  clear hz hS
  by_cases hm : vm m = true
  · rcases vm_cases hm with rfl | rfl | rfl
    · have h := hset 1 rfl (by decide)
      have H := Lib.hid h
      have H1 := Lib.hid hm
      clear hset h hm
      go_enter Tryz.func123, Tryz.ntmps123
      go_wp2_with (go_at_call 69; refine (valid_any _ _).mono ?_; rintro e w' ⟨rfl, rfl⟩; rw [H1.out])
      go_end0
      exact ⟨rfl, H.out⟩
    · have h := hset 2 rfl (by decide)
      have H := Lib.hid h
      have H1 := Lib.hid hm
      clear hset h hm
      go_enter Tryz.func123, Tryz.ntmps123
      go_wp2_with (go_at_call 69; refine (valid_any _ _).mono ?_; rintro e w' ⟨rfl, rfl⟩; rw [H1.out])
      go_end0
      exact ⟨rfl, H.out⟩
    · have h := hset 3 rfl (by decide)
      have H := Lib.hid h
      have H1 := Lib.hid hm
      clear hset h hm
      go_enter Tryz.func123, Tryz.ntmps123
      go_wp2_with (go_at_call 69; refine (valid_any _ _).mono ?_; rintro e w' ⟨rfl, rfl⟩; rw [H1.out])
      go_end0
      exact ⟨rfl, H.out⟩
  · have hm : vm m = false := by simpa using hm
    have h := hset 0 (by unfold cl; rw [hm]; rfl) (by decide)
    have H := Lib.hid h
    have H1 := Lib.hid hm
    clear hset h hm
    go_enter Tryz.func123, Tryz.ntmps123
    go_wp2_with (go_at_call 69; refine (valid_any _ _).mono ?_; rintro e w' ⟨rfl, rfl⟩; rw [H1.out])
    go_end0
    exact ⟨rfl, H.out⟩

/-- Whether one bit of a set goes with a mode. -/
def okB (b0 b1 b2 b3 : Bool) (m : Int) (j : Nat) : Bool := match j with | 0 => !b0 | 1 => !b1 || ft m 1 | 2 => !b2 || ft m 2 | _ => !b3
theorem tk_of {b0 b1 b2 b3 : Bool} {m : Int} (h : ∀ j, j < 4 → okB b0 b1 b2 b3 m j = true) : tk b0 b1 b2 b3 m = vm m := by
  have h0 : (!b0) = true := h 0 (by decide)
  have h1 : (!b1 || ft m 1) = true := h 1 (by decide)
  have h2 : (!b2 || ft m 2) = true := h 2 (by decide)
  have h3 : (!b3) = true := h 3 (by decide)
  unfold tk; rw [h0, h1, h2, h3]; simp
theorem tk_bad {b0 b1 b2 b3 : Bool} {m : Int} {j : Nat} (hj : j < 4) (h : okB b0 b1 b2 b3 m j = false) : tk b0 b1 b2 b3 m = false := by
  obtain rfl | rfl | rfl | rfl : j = 0 ∨ j = 1 ∨ j = 2 ∨ j = 3 := by omega
  · have h : (!b0) = false := h; unfold tk; rw [h]; simp
  · have h : (!b1 || ft m 1) = false := h; unfold tk; rw [h]; simp
  · have h : (!b2 || ft m 2) = false := h; unfold tk; rw [h]; simp
  · have h : (!b3) = false := h; unfold tk; rw [h]; simp

theorem ix_set (b0 b1 b2 b3 : Bool) (W : World) :
    (Instr.index 210 (.agg #[.bool b0, .bool b1, .bool b2, .bool b3]) (.int .i64 0)).run Tryz.prog W = .ok (.bool b0) W ∧
    (Instr.index 210 (.agg #[.bool b0, .bool b1, .bool b2, .bool b3]) (.int .i64 1)).run Tryz.prog W = .ok (.bool b1) W ∧
    (Instr.index 210 (.agg #[.bool b0, .bool b1, .bool b2, .bool b3]) (.int .i64 2)).run Tryz.prog W = .ok (.bool b2) W ∧
    (Instr.index 210 (.agg #[.bool b0, .bool b1, .bool b2, .bool b3]) (.int .i64 3)).run Tryz.prog W = .ok (.bool b3) W := by
  refine ⟨?_, ?_, ?_, ?_⟩ <;> kernel_rfl

set_option maxHeartbeats 4000000 in
theorem takes_any {w : World} (hL : Laid w) (b0 b1 b2 b3 : Bool) (m : Int) :
    Calls Tryz.prog 122 #[.agg #[.bool b0, .bool b1, .bool b2, .bool b3], .int .i64 m] w (Ret (.bool (tk b0 b1 b2 b3 m)) (fun w' => Frm [] w w')) := by
  have hgood := tk_of (b0 := b0) (b1 := b1) (b2 := b2) (b3 := b3) (m := m)
  have hbad := fun j (hj : j < 4) h => tk_bad (b0 := b0) (b1 := b1) (b2 := b2) (b3 := b3) (m := m) (j := j) hj h
  have hL1 : Laid (w.alloc (.cells #[.bool b0, .bool b1, .bool b2, .bool b3] 210)) := hL.alloc _
  have hF : Frm [] w (w.alloc (.cells #[.bool b0, .bool b1, .bool b2, .bool b3] 210)) := (Frm.refl _ _).alloc _
  have i0 := fun W => (ix_set b0 b1 b2 b3 W).1
  have i1 := fun W => (ix_set b0 b1 b2 b3 W).2.1
  have i2 := fun W => (ix_set b0 b1 b2 b3 W).2.2.1
  have i3 := fun W => (ix_set b0 b1 b2 b3 W).2.2.2
  generalize tk b0 b1 b2 b3 m = R at hgood hbad ⊢
  have HG := Lib.hid hgood
  have HB := Lib.hid hbad
  have HL := Lib.hid hL1
  have HF := Lib.hid hF
  clear hgood hbad hL1 hF hL
  go_enter Tryz.func122, Tryz.ntmps122
  go_wp2_with fail
  go_loop [8] (fun i => ∃ k : Nat, Hid (∀ j, j < k → okB b0 b1 b2 b3 m j = true) ∧ ((k = 0 ∧ i = .int .i64 0) ∨ (k = 1 ∧ i = .int .i64 1) ∨ (k = 2 ∧ i = .int .i64 2) ∨ (k = 3 ∧ i = .int .i64 3) ∨ (k = 4 ∧ i = .int .i64 4))) (fun i => 4 - (intOf i).toNat)
  case atStart => exact ⟨0, Lib.hid (fun j hj => by omega), .inl ⟨rfl, rfl⟩⟩
  case round =>
    obtain ⟨k, HI, ⟨rfl, rfl⟩ | ⟨rfl, rfl⟩ | ⟨rfl, rfl⟩ | ⟨rfl, rfl⟩ | ⟨rfl, rfl⟩⟩ := hrel
    · cases b0 with
      | false =>
        go_wp2_with fail
        go_round
        case rel => exact ⟨1, Lib.hid (fun i hi => by
          by_cases e : i = 0
          · subst e; rfl
          · exact HI.out i (by omega)), .inr (.inl ⟨rfl, rfl⟩)⟩
        case measure => simp [intOf]
      | true =>
        cases hf : ft m 0 with
        | true =>
          rw [ft_zero] at hf; cases hf
        | false =>
          have HR := Lib.hid (HB.out 0 (by decide) rfl)
          have HT := Lib.hid hf
          clear hf
          go_wp2_with (go_at_call 126; refine (fits_any HL.out _ _).mono ?_; rintro e w' ⟨rfl, rfl⟩; rw [HT.out])
          go_ret
          exact ⟨by rw [HR.out]; rfl, HF.out⟩
    · cases b1 with
      | false =>
        go_wp2_with fail
        go_round
        case rel => exact ⟨2, Lib.hid (fun i hi => by
          by_cases e : i = 1
          · subst e; rfl
          · exact HI.out i (by omega)), .inr (.inr (.inl ⟨rfl, rfl⟩))⟩
        case measure => simp [intOf]
      | true =>
        cases hf : ft m 1 with
        | true =>
          have HT := Lib.hid hf
          clear hf
          go_wp2_with (go_at_call 126; refine (fits_any HL.out _ _).mono ?_; rintro e w' ⟨rfl, rfl⟩; rw [HT.out])
          go_round
          case rel => exact ⟨2, Lib.hid (fun i hi => by
            by_cases e : i = 1
            · subst e; exact HT.out
            · exact HI.out i (by omega)), .inr (.inr (.inl ⟨rfl, rfl⟩))⟩
          case measure => simp [intOf]
        | false =>
          have HR := Lib.hid (HB.out 1 (by decide) hf)
          have HT := Lib.hid hf
          clear hf
          go_wp2_with (go_at_call 126; refine (fits_any HL.out _ _).mono ?_; rintro e w' ⟨rfl, rfl⟩; rw [HT.out])
          go_ret
          exact ⟨by rw [HR.out]; rfl, HF.out⟩
    · cases b2 with
      | false =>
        go_wp2_with fail
        go_round
        case rel => exact ⟨3, Lib.hid (fun i hi => by
          by_cases e : i = 2
          · subst e; rfl
          · exact HI.out i (by omega)), .inr (.inr (.inr (.inl ⟨rfl, rfl⟩)))⟩
        case measure => simp [intOf]
      | true =>
        cases hf : ft m 2 with
        | true =>
          have HT := Lib.hid hf
          clear hf
          go_wp2_with (go_at_call 126; refine (fits_any HL.out _ _).mono ?_; rintro e w' ⟨rfl, rfl⟩; rw [HT.out])
          go_round
          case rel => exact ⟨3, Lib.hid (fun i hi => by
            by_cases e : i = 2
            · subst e; exact HT.out
            · exact HI.out i (by omega)), .inr (.inr (.inr (.inl ⟨rfl, rfl⟩)))⟩
          case measure => simp [intOf]
        | false =>
          have HR := Lib.hid (HB.out 2 (by decide) hf)
          have HT := Lib.hid hf
          clear hf
          go_wp2_with (go_at_call 126; refine (fits_any HL.out _ _).mono ?_; rintro e w' ⟨rfl, rfl⟩; rw [HT.out])
          go_ret
          exact ⟨by rw [HR.out]; rfl, HF.out⟩
    · cases b3 with
      | false =>
        go_wp2_with fail
        go_round
        case rel => exact ⟨4, Lib.hid (fun i hi => by
          by_cases e : i = 3
          · subst e; rfl
          · exact HI.out i (by omega)), .inr (.inr (.inr (.inr (⟨rfl, rfl⟩))))⟩
        case measure => simp [intOf]
      | true =>
        cases hf : ft m 3 with
        | true =>
          rw [ft_three] at hf; cases hf
        | false =>
          have HR := Lib.hid (HB.out 3 (by decide) rfl)
          have HT := Lib.hid hf
          clear hf
          go_wp2_with (go_at_call 126; refine (fits_any HL.out _ _).mono ?_; rintro e w' ⟨rfl, rfl⟩; rw [HT.out])
          go_ret
          exact ⟨by rw [HR.out]; rfl, HF.out⟩
    · have HR := Lib.hid (HG.out HI.out)
      go_wp2_with (go_at_call 69; refine (valid_any _ _).mono ?_; rintro e w' ⟨rfl, rfl⟩)
      go_ret
      exact ⟨by rw [HR.out]; rfl, HF.out⟩
end Go.Proofs.YticbbfcachnkiaaGreatDoor

/- Package modes: setOf. -/
namespace Go.Proofs.YticbbfcachnkiaaGreatDoor
open Go.ChangeShapes Go.WideShapes Go.ChangeAt Go.RowKit

set_option maxHeartbeats 4000000 in
theorem setof_any {w : World} {a : Option Addr} {n c b o : Nat} {l : List Int} (hL : Li .i64 w a n c b o l) (hn : n ≤ 1000) :
    Calls Tryz.prog 184 #[.slice a n c] w (Ret (.agg #[.bool (st l 0), .bool (st l 1), .bool (st l 2), .bool (st l 3)]) (fun w' => Frm [] w w')) := by
  have HL := Lib.hid hL
  clear hL
  go_enter Tryz.func184, Tryz.ntmps184
  go_wp2_with fail
  have e1 : ((w.alloc (.cells #[.bool false, .bool false, .bool false, .bool false] 210)).alloc (.cells #[.bool false, .bool false, .bool false, .bool false] 210)).heap[w.heap.size]? = some (.cells #[.bool false, .bool false, .bool false, .bool false] 210 (0, 0)) := heap_alloc_old _ (heap_alloc_new _ _)
  have e2 : SetAt ((w.alloc (.cells #[.bool false, .bool false, .bool false, .bool false] 210)).alloc (.cells #[.bool false, .bool false, .bool false, .bool false] 210)) (w.heap.size + 1) [] := by
    unfold SetAt
    exact heap_alloc_at _ (by simp)
  have e3 : Frm [] w ((w.alloc (.cells #[.bool false, .bool false, .bool false, .bool false] 210)).alloc (.cells #[.bool false, .bool false, .bool false, .bool false] 210)) := ((Frm.refl _ _).alloc _).alloc _
  generalize ((w.alloc (.cells #[.bool false, .bool false, .bool false, .bool false] 210)).alloc (.cells #[.bool false, .bool false, .bool false, .bool false] 210)) = X at e1 e2 e3 ⊢
  have H1 := Lib.hid e1
  have H2 := Lib.hid e2
  clear e1 e2
  go_loopw [8] (fun i w' => ∃ k : Nat, k ≤ n ∧ i = .int .i64 k ∧ Frm [] w w' ∧ Hid (w'.heap[w.heap.size]? = some (.cells #[.bool false, .bool false, .bool false, .bool false] 210 (0, 0))) ∧ Hid (SetAt w' (w.heap.size + 1) (l.take k))) (fun i _ => n - (intOf i).toNat)
  case atStart => exact ⟨0, by omega, rfl, e3, H1, H2⟩
  case round =>
    obtain ⟨k, hk, rfl, hF, HR, HS⟩ := hrel
    by_cases hlt : k < n
    · obtain ⟨x, hx, hg, hc⟩ := (HL.out.frm0 hF).get hlt
      have hix := ix_md (c := c) HL.out.ad hlt
      have HX := Lib.hid hx
      clear hx hg
      have hb0 : (k : Int) < (n : Int) := by omega
      go_wp2_with fail
      refine (add_any HS.out x).mono ?_
      rintro e w1 ⟨rfl, hF1, hS1⟩
      have HS1 := Lib.hid hS1
      clear hS1
      go_wp2_with fail
      go_roundw
      case rel =>
        refine ⟨k + 1, by omega, by go_num, hF.trans_new hF1 (fun x hx => .inr (by simp at hx; omega)), Lib.hid (hF1.heap HR.out (by simp)), Lib.hid ?_⟩
        have := HS1.out
        rw [List.take_add_one, HX.out]; exact this
      case measure => simp [intOf]; omega
    · obtain ⟨c0, c1, c2, c3⟩ := HS.out.cells
      have hlen := HL.out.len
      rw [List.take_of_length_le (by omega)] at c0 c1 c2 c3
      have r0 := cells4 HR.out
      obtain ⟨r0, r1, r2, r3⟩ := r0
      obtain ⟨z0, z1, z2, z3⟩ := frozen4 HR.out
      have HT := Lib.hid hlen
      clear hlen
      go_wp2_with fail
      obtain ⟨k0, k1, k2, k3⟩ := cells4 (setCells4 HR.out (.bool (st l 0)) (.bool (st l 1)) (.bool (st l 2)) (.bool (st l 3)))
      exact bodyPost_ret (v := .agg #[.bool (st l 0), .bool (st l 1), .bool (st l 2), .bool (st l 3)]) (by simp [results, Tryz.results184, go_sem, k0, k1, k2, k3]) rfl ⟨rfl, hF.set4 _ _ _ _ _ _ _ _ _ (.inr (Nat.le_refl _))⟩

theorem gs_no {b0 b1 b2 b3 : Bool} {m g : Int} {b : Bool} (h : tk b0 b1 b2 b3 m = false) : gs b0 b1 b2 b3 m g b = false := by unfold gs; rw [h]; rfl
theorem gs_yes {b0 b1 b2 b3 : Bool} {m g : Int} {b : Bool} (h : tk b0 b1 b2 b3 m = true) : gs b0 b1 b2 b3 m g b = (decide (m ≠ 1) || !b || decide (g < 4)) := by unfold gs; rw [h]; rfl

set_option maxHeartbeats 4000000 in
theorem goes_any {w : World} (hL : Laid w) (b0 b1 b2 b3 : Bool) (m g : Int) (b : Bool) :
    Calls Tryz.prog 183 #[.int .i64 m, .agg #[.bool b0, .bool b1, .bool b2, .bool b3], .int .i64 g, .bool b] w (Ret (.bool (gs b0 b1 b2 b3 m g b)) (fun w' => Frm [] w w')) := by
  have hL1 : Laid (w.alloc (.cells #[.bool b0, .bool b1, .bool b2, .bool b3] 210)) := hL.alloc _
  have hF : Frm [] w (w.alloc (.cells #[.bool b0, .bool b1, .bool b2, .bool b3] 210)) := (Frm.refl _ _).alloc _
  have HL := Lib.hid hL1
  have HF := Lib.hid hF
  clear hL1 hF hL
  cases ht : tk b0 b1 b2 b3 m with
  | false =>
    rw [gs_no ht]
    have HT := Lib.hid ht
    clear ht
    go_enter Tryz.func183, Tryz.ntmps183
    go_wp2_with fail
    refine (takes_any HL.out _ _ _ _ _).mono ?_
    rintro e w1 ⟨rfl, hF1⟩
    rw [HT.out]
    go_wp2_with fail
    go_ret
    exact ⟨rfl, HF.out.trans hF1⟩
  | true =>
    rw [gs_yes ht]
    have HT := Lib.hid ht
    clear ht
    by_cases hm : m = 1
    · subst hm
      cases b with
      | false =>
        go_enter Tryz.func183, Tryz.ntmps183
        go_wp2_with fail
        refine (takes_any HL.out _ _ _ _ _).mono ?_
        rintro e w1 ⟨rfl, hF1⟩
        rw [HT.out]
        go_wp2_with fail
        go_ret
        exact ⟨rfl, HF.out.trans hF1⟩
      | true =>
        have e : (decide ((1 : Int) ≠ 1) || !true || decide (g < 4)) = decide (g < 4) := by simp
        rw [e]
        clear e
        go_enter Tryz.func183, Tryz.ntmps183
        go_wp2_with fail
        refine (takes_any HL.out _ _ _ _ _).mono ?_
        rintro e w1 ⟨rfl, hF1⟩
        rw [HT.out]
        go_wp2_with fail
        go_ret
        exact ⟨rfl, HF.out.trans hF1⟩
    · have e : (decide (m ≠ 1) || !b || decide (g < 4)) = true := by simp [hm]
      have d : (m != 1) = true := by simpa using hm
      rw [e]
      clear e hm
      go_enter Tryz.func183, Tryz.ntmps183
      go_wp2_with fail
      refine (takes_any HL.out _ _ _ _ _).mono ?_
      rintro e w1 ⟨rfl, hF1⟩
      rw [HT.out]
      go_wp2_with fail
      go_ret
      exact ⟨rfl, HF.out.trans hF1⟩
end Go.Proofs.YticbbfcachnkiaaGreatDoor

/- Package modes: Goes, All; the reference's All, Goes. -/
namespace Go.Proofs.YticbbfcachnkiaaGreatDoor
open Go.ChangeShapes Go.WideShapes Go.ChangeAt Go.RowKit

theorem Goes_any {w : World} (hW : Laid w) {a : Option Addr} {n c b o : Nat} {l : List Int} (hL : Li .i64 w a n c b o l) (hn : n ≤ 1000) (m g : Int) (beh : Bool) :
    Calls Tryz.prog 178 #[.int .i64 m, .slice a n c, .int .i64 g, .bool beh] w (Ret (.bool (goB m l g beh)) (fun w' => Frm [] w w')) := by
  rw [← gs_st]
  go_enter Tryz.func178, Tryz.ntmps178
  go_wp2_with fail
  refine (setof_any hL hn).mono ?_
  rintro e w1 ⟨rfl, hF⟩
  have HL1 := Lib.hid (hW.frm0 hF)
  go_wp2_with fail
  refine (goes_any HL1.out _ _ _ _ _ _ _).mono ?_
  rintro e w2 ⟨rfl, hF2⟩
  go_wp2_with fail
  go_ret
  exact ⟨rfl, hF.trans hF2⟩

theorem allF_append : ∀ (p l r : List Int), allF p (l ++ r) = (allF p l && allF (p ++ l) r)
  | p, [], r => by simp [allF]
  | p, y :: l, r => by
    show (vm y && wi y p && allF (p ++ [y]) (l ++ r)) = _
    rw [allF_append (p ++ [y]) l r]
    simp only [allF, List.append_assoc, List.singleton_append, Bool.and_assoc]
theorem allM_take {l : List Int} (k : Nat) (h : allM l = true) : allM (l.take k) = true := by
  unfold allM at h ⊢
  rw [← List.take_append_drop k l, allF_append, Bool.and_eq_true] at h
  exact h.1
theorem take_one {l : List Int} {k : Nat} {x : Int} (hx : l[k]? = some x) : l.take (k + 1) = l.take k ++ [x] := by
  rw [List.take_add_one, hx]; rfl
theorem allM_bad {l : List Int} {k : Nat} {x : Int} (hx : l[k]? = some x) (h : (vm x && wi x (l.take k)) = false) : allM l = false := by
  cases ha : allM l with
  | false => rfl
  | true =>
    have := allM_take (k + 1) ha
    rw [take_one hx, allM_snoc, h] at this
    simp at this
theorem allM_step {l : List Int} {k : Nat} {x : Int} (hx : l[k]? = some x) (h : (vm x && wi x (l.take k)) = true) (ha : allM (l.take k) = true) : allM (l.take (k + 1)) = true := by
  rw [take_one hx, allM_snoc, h, ha]; rfl

set_option maxHeartbeats 4000000 in
theorem All_any {w : World} (hW : Laid w) {a : Option Addr} {n c b o : Nat} {l : List Int} (hL : Li .i64 w a n c b o l) (hn : n ≤ 1000) :
    Calls Tryz.prog 116 #[.slice a n c] w (Ret (.bool (allM l)) (fun w' => Frm [] w w')) := by
  have hgood : allM (l.take n) = true → allM l = true := fun h => by rwa [List.take_of_length_le (by rw [hL.len]; exact Nat.le_refl _)] at h
  have hbad := fun k x hx h => allM_bad (l := l) (k := k) (x := x) hx h
  generalize allM l = R at hgood hbad ⊢
  have HG := Lib.hid hgood
  have HB := Lib.hid hbad
  have HL := Lib.hid hL
  have HW := Lib.hid hW
  clear hgood hbad hL hW
  go_enter Tryz.func116, Tryz.ntmps116
  go_wp2_with fail
  have e2 : SetAt (w.alloc (.cells #[.bool false, .bool false, .bool false, .bool false] 210)) w.heap.size [] := by
    unfold SetAt
    exact heap_alloc_new _ _
  have e3 : Frm [] w (w.alloc (.cells #[.bool false, .bool false, .bool false, .bool false] 210)) := (Frm.refl _ _).alloc _
  generalize (w.alloc (.cells #[.bool false, .bool false, .bool false, .bool false] 210)) = X at e2 e3 ⊢
  have H2 := Lib.hid e2
  clear e2
  go_loopw [8] (fun i w' => ∃ k : Nat, k ≤ n ∧ i = .int .i64 k ∧ Frm [] w w' ∧ Hid (SetAt w' w.heap.size (l.take k)) ∧ Hid (allM (l.take k) = true)) (fun i _ => n - (intOf i).toNat)
  case atStart => exact ⟨0, by omega, rfl, e3, H2, Lib.hid rfl⟩
  case round =>
    obtain ⟨k, hk, rfl, hF, HS, HA⟩ := hrel
    by_cases hlt : k < n
    · obtain ⟨x, hx, hg, hc⟩ := (HL.out.frm0 hF).get hlt
      have hix := ix_md (c := c) HL.out.ad hlt
      obtain ⟨c0, c1, c2, c3⟩ := HS.out.cells
      have HX := Lib.hid hx
      clear hx hg
      have hb0 : (k : Int) < (n : Int) := by omega
      have HW1 := Lib.hid (HW.out.frm0 hF)
      cases hv : (vm x && wi x (l.take k)) with
      | false =>
        have HR := Lib.hid (HB.out k x HX.out hv)
        have HV := Lib.hid hv
        clear hv
        go_wp2_with fail
        refine (takes_any HW1.out _ _ _ _ _).mono ?_
        rintro e w1 ⟨rfl, hF1⟩
        rw [tk_st, HV.out]
        go_wp2_with fail
        go_ret
        exact ⟨by rw [HR.out]; rfl, hF.trans hF1⟩
      | true =>
        have HV := Lib.hid hv
        clear hv
        go_wp2_with fail
        refine (takes_any HW1.out _ _ _ _ _).mono ?_
        rintro e w1 ⟨rfl, hF1⟩
        rw [tk_st, HV.out]
        clear c0 c1 c2 c3 hc hix
        have HS1 := Lib.hid (HS.out.frm hF1 (by simp))
        go_wp2_with fail
        refine (add_any HS1.out x).mono ?_
        rintro e w2 ⟨rfl, hF2, hS2⟩
        have HS2 := Lib.hid hS2
        clear hS2
        go_wp2_with fail
        go_roundw
        case rel =>
          refine ⟨k + 1, by omega, by go_num, (hF.trans hF1).trans_new hF2 (fun x hx => .inr (by simp at hx; omega)), Lib.hid ?_, Lib.hid (allM_step HX.out HV.out HA.out)⟩
          rw [take_one HX.out]; exact HS2.out
        case measure => simp [intOf]; omega
    · obtain rfl : k = n := by omega
      have HR := Lib.hid (HG.out HA.out)
      go_wp2_with fail
      go_ret
      exact ⟨by rw [HR.out]; rfl, hF⟩
end Go.Proofs.YticbbfcachnkiaaGreatDoor

/- A latch's state in plain words. No program in it but modes' goB. -/
namespace Go.Proofs.YticbbfcachnkiaaGreatDoor
set_option linter.unusedVariables false

/-- What the second and the third word of a latch say. -/
structure LS where
  sh : Nat
  up : Int
  ex : Int
  wa : Int
  gr : Int
  fi : Int
  la : Int
deriving DecidableEq
namespace LS
/-- Whether a thread holds S. -/
def has (s : LS) (t : Int) : Bool := t != -1 && s.sh.testBit t.toNat
/-- The mode in which a thread holds it. -/
def of (s : LS) (t : Int) : Int := if s.ex = t then 3 else if s.up = t then 2 else if s.has t then 1 else 0
def held (s : LS) : List Int := (if s.sh = 0 then [] else [1]) ++ (if s.up = -1 then [] else [2]) ++ (if s.ex = -1 then [] else [3])
def goes (s : LS) (m : Int) (b : Bool) : Bool := goB m s.held s.gr b
def drop (s : LS) (t : Int) : LS := if s.of t = 1 then { s with sh := s.sh &&& (18446744073709551615 - 2 ^ t.toNat) } else if s.of t = 2 then { s with up := -1 } else if s.of t = 3 then { s with ex := -1 } else s
def nil0 (s : LS) : LS := if s.sh = 0 then { s with gr := 0 } else s
def take (s : LS) (t : Int) : LS := (s.drop t).nil0
def put (s : LS) (t m : Int) : LS := if m = 1 then { s with sh := s.sh ||| 2 ^ t.toNat, gr := min (s.gr + 1) 4 } else if m = 2 then { s with up := t } else if m = 3 then { s with ex := t } else s
def give (s : LS) (t m : Int) : LS := (s.take t).put t m
/-- The third word. -/
def w1 (s : LS) : Int := (s.up + 1) + (s.ex + 1) * 256 + (s.wa + 1) * 65536 + (s.fi + 1) * 16777216 + (s.la + 1) * 4294967296 + s.gr * 1099511627776
/-- The numbers fit their bits. -/
structure Fit (s : LS) : Prop where
  sh : s.sh < 18446744073709551616
  up : -1 ≤ s.up ∧ s.up < 64
  ex : -1 ≤ s.ex ∧ s.ex < 64
  wa : -1 ≤ s.wa ∧ s.wa < 64
  gr : 0 ≤ s.gr ∧ s.gr ≤ 4
  fi : -1 ≤ s.fi ∧ s.fi < 128
  la : -1 ≤ s.la ∧ s.la < 128
end LS
end Go.Proofs.YticbbfcachnkiaaGreatDoor

/- The reference's All, Goes. -/
namespace Go.Proofs.YticbbfcachnkiaaGreatDoor
open Go.ChangeShapes Go.WideShapes Go.ChangeAt Go.RowKit

theorem cut_to_md {a : Option Addr} {n c k : Nat} (hk : k ≤ c) (W : World) : (Instr.sliceAt 100 (.slice a n c) none (some (.int .i64 (k : Int))) none).run Tryz.prog W = .ok (.slice a k c) W := by
  have h1 : (k : Int) ≤ (c : Int) := by omega
  cases a <;> simp [go_sem, h1, Addr.add]
theorem Li.take {k : IntKind} {w : World} {a : Option Addr} {n c b o : Nat} {l : List Int} (h : Li k w a n c b o l) {i : Nat} (hi : i ≤ n) : Li k w a i c b o (l.take i) := by
  have hc := h.cap
  refine ⟨by rw [List.length_take, h.len]; omega, fun hp => h.ad (by omega), fun j x hx => ?_, by omega⟩
  rw [List.getElem?_take] at hx
  split at hx
  · exact h.cell _ _ hx
  · cases hx
theorem rvalid_q {m : Int} {v : Bool} (h : vm m = v) (w : World) (n : Nat) : Calls Tryz.prog 35 #[.int .i64 m] (w.drewN n) fun e w'' => e = .returned (.bool v) ∧ ∃ m, w'' = w.drewN m := by
  subst h
  exact Calls.quiet_of_same ((rvalid_any (w.drewN n) m).mono fun _ _ hh => ⟨hh.1, hh.2.symm⟩)
theorem with_q {w : World} {a : Option Addr} {n c b o : Nat} {l : List Int} (hL : Li .i64 w a n c b o l) (hn : n ≤ 1000) {m : Int} {v : Bool} (h : wi m l = v) (k : Nat) :
    Calls Tryz.prog 103 #[.int .i64 m, .slice a n c] (w.drewN k) fun e w'' => e = .returned (.bool v) ∧ ∃ m, w'' = w.drewN m := by
  subst h
  exact Calls.quiet_of_same ((with_any (hL.frm0 ((Frm.refl [] w).drewN k)) hn m).mono fun _ _ hh => ⟨hh.1, hh.2.symm⟩)

set_option maxHeartbeats 4000000 in
theorem rGoes_any {w : World} {a : Option Addr} {n c b o : Nat} {l : List Int} (hL : Li .i64 w a n c b o l) (hn : n ≤ 1000) (m g : Int) (beh : Bool) :
    Calls Tryz.prog 82 #[.int .i64 m, .slice a n c, .int .i64 g, .bool beh] w (Ret (.bool (goB m l g beh)) (fun w' => w = w')) := by
  have HL := Lib.hid hL
  clear hL
  cases hv : vm m with
  | false =>
    rw [show goB m l g beh = false by unfold goB; rw [hv]; rfl]
    have HV := Lib.hid hv
    clear hv
    go_enter Tryz.func82, Tryz.ntmps82
    go_wp2_with fail
    refine (rvalid_any _ _).mono ?_
    rintro e w' ⟨rfl, rfl⟩
    rw [HV.out]
    go_wp2_with fail
    go_ret
    exact ⟨rfl, rfl⟩
  | true =>
    cases hw : wi m l with
    | false =>
      rw [show goB m l g beh = false by unfold goB; rw [hv, hw]; rfl]
      have HV := Lib.hid hv
      have HI := Lib.hid hw
      clear hv hw
      go_enter Tryz.func82, Tryz.ntmps82
      go_wp2_with fail
      refine (rvalid_any _ _).mono ?_
      rintro e w' ⟨rfl, rfl⟩
      rw [HV.out]
      go_wp2_with fail
      refine (with_any HL.out hn _).mono ?_
      rintro e w' ⟨rfl, rfl⟩
      rw [HI.out]
      go_wp2_with fail
      go_ret
      exact ⟨rfl, rfl⟩
    | true =>
      rw [show goB m l g beh = !(decide (m = 1) && beh && decide (4 ≤ g)) by unfold goB; rw [hv, hw]; rfl]
      have HV := Lib.hid hv
      have HI := Lib.hid hw
      clear hv hw
      by_cases hm : m = 1
      · subst hm
        cases beh with
        | false =>
          rw [show (!(decide ((1 : Int) = 1) && false && decide (4 ≤ g))) = true by simp]
          go_enter Tryz.func82, Tryz.ntmps82
          go_wp2_with fail
          refine (rvalid_any _ _).mono ?_
          rintro e w' ⟨rfl, rfl⟩
          rw [HV.out]
          go_wp2_with fail
          refine (with_any HL.out hn _).mono ?_
          rintro e w' ⟨rfl, rfl⟩
          rw [HI.out]
          go_wp2_with fail
          go_ret
          exact ⟨rfl, rfl⟩
        | true =>
          by_cases hg : 4 ≤ g
          · have hg' : decide (4 ≤ g) = true := by simpa using hg
            rw [show (!(decide ((1 : Int) = 1) && true && decide (4 ≤ g))) = false by simp [hg]]
            go_enter Tryz.func82, Tryz.ntmps82
            go_wp2_with fail
            refine (rvalid_any _ _).mono ?_
            rintro e w' ⟨rfl, rfl⟩
            rw [HV.out]
            go_wp2_with fail
            refine (with_any HL.out hn _).mono ?_
            rintro e w' ⟨rfl, rfl⟩
            rw [HI.out]
            go_wp2_with fail
            go_ret
            exact ⟨rfl, rfl⟩
          · have hg' : decide (4 ≤ g) = false := by simpa using hg
            rw [show (!(decide ((1 : Int) = 1) && true && decide (4 ≤ g))) = true by simp [hg]]
            go_enter Tryz.func82, Tryz.ntmps82
            go_wp2_with fail
            refine (rvalid_any _ _).mono ?_
            rintro e w' ⟨rfl, rfl⟩
            rw [HV.out]
            go_wp2_with fail
            refine (with_any HL.out hn _).mono ?_
            rintro e w' ⟨rfl, rfl⟩
            rw [HI.out]
            go_wp2_with fail
            go_ret
            exact ⟨rfl, rfl⟩
      · have d : (m == 1) = false := by simpa using hm
        rw [show (!(decide (m = 1) && beh && decide (4 ≤ g))) = true by simp [hm]]
        clear hm
        go_enter Tryz.func82, Tryz.ntmps82
        go_wp2_with fail
        refine (rvalid_any _ _).mono ?_
        rintro e w' ⟨rfl, rfl⟩
        rw [HV.out]
        go_wp2_with fail
        refine (with_any HL.out hn _).mono ?_
        rintro e w' ⟨rfl, rfl⟩
        rw [HI.out]
        go_wp2_with fail
        go_ret
        exact ⟨rfl, rfl⟩
end Go.Proofs.YticbbfcachnkiaaGreatDoor

/- Package modes: Grants. -/
namespace Go.Proofs.YticbbfcachnkiaaGreatDoor
open Go.ChangeShapes Go.WideShapes Go.ChangeAt Go.RowKit

theorem drop_one {q : List Int} {k : Nat} {x : Int} (hx : q[k]? = some x) : q.drop k = x :: q.drop (k + 1) := by
  have hk : k < q.length := (List.getElem?_eq_some_iff.1 hx).1
  rw [List.getElem?_eq_getElem hk, Option.some.injEq] at hx
  rw [← hx]; exact List.drop_eq_getElem_cons hk
theorem drop_empty {q : List Int} {k : Nat} : (!(q.drop k).isEmpty) = decide (k < q.length) := by
  rw [Bool.eq_iff_iff]
  simp [List.drop_eq_nil_iff]
theorem grant_halt {h q : List Int} {k R : Nat} {x g : Int} {b : Bool} (hx : q[k]? = some x) (hb : decide (k + 1 < q.length) = b) (hg : goB x (h ++ q.take k) g b = false) (hR : grant (h ++ q.take k) (q.drop k) g + k = R) : R = k := by
  rw [drop_one hx, grant_no (by rw [drop_empty, hb]; exact hg)] at hR
  omega
theorem grant_next {h q : List Int} {k R : Nat} {x g : Int} {b : Bool} (hx : q[k]? = some x) (hb : decide (k + 1 < q.length) = b) (hg : goB x (h ++ q.take k) g b = true) (hR : grant (h ++ q.take k) (q.drop k) g + k = R) :
    grant (h ++ q.take (k + 1)) (q.drop (k + 1)) (if x = 1 then g + 1 else g) + (k + 1) = R := by
  rw [drop_one hx, grant_yes (by rw [drop_empty, hb]; exact hg)] at hR
  rw [take_one hx, ← List.append_assoc]
  omega
theorem grant_end {h q : List Int} {k R : Nat} {g g' : Int} (hk : q.length ≤ k) (hR : grant (h ++ q.take k) (q.drop k) g + k = R) : grant (h ++ q.take k) (q.drop k) g' + k = R := by
  rw [List.drop_of_length_le hk] at hR ⊢
  exact hR
theorem grant_out {h q : List Int} {k R : Nat} {g : Int} (hk : q.length ≤ k) (hR : grant (h ++ q.take k) (q.drop k) g + k = R) : R = k := by
  rw [List.drop_of_length_le hk, grant_nil] at hR
  omega
/-- The least number of an int. -/
def lo64 : Int := -9223372036854775808
theorem wrap_up {g : Int} (h0 : lo64 ≤ g) (h1 : g < 4) : wrap64 (g + 1) = g + 1 :=
  IntWalk.wrap64_in (g + 1) (by unfold lo64 at h0; omega)

end Go.Proofs.YticbbfcachnkiaaGreatDoor
