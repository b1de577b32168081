/- Package modes: a set's add and takes, setOf. -/
import Derived.Test.YthnmjildeenecaaDoorModB
namespace Go.Proofs.YthnmjildeenecaaDoor
open Go.ChangeShapes Go.WideShapes Go.ChangeAt Go.RowKit

/-- A set as it lies; as it is handed on. -/
def bits (l : List Int) : Array Value := #[.bool (st l 0), .bool (st l 1), .bool (st l 2), .bool (st l 3)]
def SetAt (w : World) (g : Nat) (l : List Int) : Prop := w.heap[g]? = some (.cells (bits l) 43 (0, 0))
theorem SetAt.frm {D : List Nat} {w w' : World} {g : Nat} {l : List Int} (h : SetAt w g l) (hf : Frm D w w') (hd : g ∉ D) : SetAt w' g l := hf.heap h hd
theorem SetAt.cells {w : World} {g : Nat} {l : List Int} (h : SetAt w g l) : w.cell? ⟨g, 0, none⟩ = some (.bool (st l 0)) ∧ w.cell? ⟨g, 1, none⟩ = some (.bool (st l 1)) ∧ w.cell? ⟨g, 2, none⟩ = some (.bool (st l 2)) ∧ w.cell? ⟨g, 3, none⟩ = some (.bool (st l 3)) :=
  cells4 h

theorem bits_snoc (l : List Int) (m : Int) (i : Nat) (hi : cl m = i) (h4 : i < 4) : (bits l).setIfInBounds i (.bool true) = bits (l ++ [m]) := by
  have h0 := st_snoc_at l m
  have hf := fun j h => st_snoc_far l m j h
  rw [hi] at h0 hf
  unfold bits
  obtain rfl | rfl | rfl | rfl : i = 0 ∨ i = 1 ∨ i = 2 ∨ i = 3 := by omega
  · rw [hf 1 (by decide), hf 2 (by decide), hf 3 (by decide), show st (l ++ [m]) 0 = true from h0]; rfl
  · rw [hf 0 (by decide), hf 2 (by decide), hf 3 (by decide), show st (l ++ [m]) 1 = true from h0]; rfl
  · rw [hf 0 (by decide), hf 1 (by decide), hf 3 (by decide), show st (l ++ [m]) 2 = true from h0]; rfl
  · rw [hf 0 (by decide), hf 1 (by decide), hf 2 (by decide), show st (l ++ [m]) 3 = true from h0]; rfl

set_option maxHeartbeats 1000000 in
theorem add_any {w : World} {g : Nat} {l : List Int} (hS : SetAt w g l) (m : Int) : Calls Tryd.prog 27 #[.pointer (some ⟨g, 0, none⟩), .int .i64 m] w (Ret (.tuple #[]) (fun w' => Frm [g] w w' ∧ SetAt w' g (l ++ [m]))) := by
  obtain ⟨c0, c1, c2, c3⟩ := hS.cells
  have hz : ∀ i, w.frozen? ⟨g, i, none⟩ = false := fun i => frozen_of_heap hS
  have z0 := hz 0
  have z1 := hz 1
  have z2 := hz 2
  have z3 := hz 3
  have hset : ∀ i : Nat, cl m = i → i < 4 → Frm [g] w (w.setCell ⟨g, i, none⟩ (.bool true)) ∧ SetAt (w.setCell ⟨g, i, none⟩ (.bool true)) g (l ++ [m]) := fun i hi h4 =>
    ⟨(Frm.refl _ _).setCell _ _ (.inl (by simp)), by unfold SetAt; rw [← bits_snoc l m i hi h4]; exact heap_setCell_at _ hS⟩
  clear hz hS
  by_cases hm : vm m = true
  · rcases vm_cases hm with rfl | rfl | rfl
    · have h := hset 1 rfl (by decide)
      have H := Lib.hid h
      have H1 := Lib.hid hm
      clear hset h hm
      go_enter Tryd.func27, Tryd.ntmps27
      go_wp2_with (go_at_call 9; refine (valid_any _ _).mono ?_; rintro e w' ⟨rfl, rfl⟩; rw [H1.out])
      go_end0
      exact ⟨rfl, H.out⟩
    · have h := hset 2 rfl (by decide)
      have H := Lib.hid h
      have H1 := Lib.hid hm
      clear hset h hm
      go_enter Tryd.func27, Tryd.ntmps27
      go_wp2_with (go_at_call 9; refine (valid_any _ _).mono ?_; rintro e w' ⟨rfl, rfl⟩; rw [H1.out])
      go_end0
      exact ⟨rfl, H.out⟩
    · have h := hset 3 rfl (by decide)
      have H := Lib.hid h
      have H1 := Lib.hid hm
      clear hset h hm
      go_enter Tryd.func27, Tryd.ntmps27
      go_wp2_with (go_at_call 9; refine (valid_any _ _).mono ?_; rintro e w' ⟨rfl, rfl⟩; rw [H1.out])
      go_end0
      exact ⟨rfl, H.out⟩
  · have hm : vm m = false := by simpa using hm
    have h := hset 0 (by unfold cl; rw [hm]; rfl) (by decide)
    have H := Lib.hid h
    have H1 := Lib.hid hm
    clear hset h hm
    go_enter Tryd.func27, Tryd.ntmps27
    go_wp2_with (go_at_call 9; refine (valid_any _ _).mono ?_; rintro e w' ⟨rfl, rfl⟩; rw [H1.out])
    go_end0
    exact ⟨rfl, H.out⟩

/-- Whether one bit of a set goes with a mode. -/
def okB (b0 b1 b2 b3 : Bool) (m : Int) (j : Nat) : Bool := match j with | 0 => !b0 | 1 => !b1 || ft m 1 | 2 => !b2 || ft m 2 | _ => !b3
theorem tk_of {b0 b1 b2 b3 : Bool} {m : Int} (h : ∀ j, j < 4 → okB b0 b1 b2 b3 m j = true) : tk b0 b1 b2 b3 m = vm m := by
  have h0 : (!b0) = true := h 0 (by decide)
  have h1 : (!b1 || ft m 1) = true := h 1 (by decide)
  have h2 : (!b2 || ft m 2) = true := h 2 (by decide)
  have h3 : (!b3) = true := h 3 (by decide)
  unfold tk; rw [h0, h1, h2, h3]; simp
theorem tk_bad {b0 b1 b2 b3 : Bool} {m : Int} {j : Nat} (hj : j < 4) (h : okB b0 b1 b2 b3 m j = false) : tk b0 b1 b2 b3 m = false := by
  obtain rfl | rfl | rfl | rfl : j = 0 ∨ j = 1 ∨ j = 2 ∨ j = 3 := by omega
  · have h : (!b0) = false := h; unfold tk; rw [h]; simp
  · have h : (!b1 || ft m 1) = false := h; unfold tk; rw [h]; simp
  · have h : (!b2 || ft m 2) = false := h; unfold tk; rw [h]; simp
  · have h : (!b3) = false := h; unfold tk; rw [h]; simp

theorem ix_set (b0 b1 b2 b3 : Bool) (W : World) :
    (Instr.index 43 (.agg #[.bool b0, .bool b1, .bool b2, .bool b3]) (.int .i64 0)).run Tryd.prog W = .ok (.bool b0) W ∧
    (Instr.index 43 (.agg #[.bool b0, .bool b1, .bool b2, .bool b3]) (.int .i64 1)).run Tryd.prog W = .ok (.bool b1) W ∧
    (Instr.index 43 (.agg #[.bool b0, .bool b1, .bool b2, .bool b3]) (.int .i64 2)).run Tryd.prog W = .ok (.bool b2) W ∧
    (Instr.index 43 (.agg #[.bool b0, .bool b1, .bool b2, .bool b3]) (.int .i64 3)).run Tryd.prog W = .ok (.bool b3) W := by
  refine ⟨?_, ?_, ?_, ?_⟩ <;> kernel_rfl

set_option maxHeartbeats 4000000 in
theorem takes_any {w : World} (hL : Laid w) (b0 b1 b2 b3 : Bool) (m : Int) :
    Calls Tryd.prog 26 #[.agg #[.bool b0, .bool b1, .bool b2, .bool b3], .int .i64 m] w (Ret (.bool (tk b0 b1 b2 b3 m)) (fun w' => Frm [] w w')) := by
  have hgood := tk_of (b0 := b0) (b1 := b1) (b2 := b2) (b3 := b3) (m := m)
  have hbad := fun j (hj : j < 4) h => tk_bad (b0 := b0) (b1 := b1) (b2 := b2) (b3 := b3) (m := m) (j := j) hj h
  have hL1 : Laid (w.alloc (.cells #[.bool b0, .bool b1, .bool b2, .bool b3] 43)) := hL.alloc _
  have hF : Frm [] w (w.alloc (.cells #[.bool b0, .bool b1, .bool b2, .bool b3] 43)) := (Frm.refl _ _).alloc _
  have i0 := fun W => (ix_set b0 b1 b2 b3 W).1
  have i1 := fun W => (ix_set b0 b1 b2 b3 W).2.1
  have i2 := fun W => (ix_set b0 b1 b2 b3 W).2.2.1
  have i3 := fun W => (ix_set b0 b1 b2 b3 W).2.2.2
  generalize tk b0 b1 b2 b3 m = R at hgood hbad ⊢
  have HG := Lib.hid hgood
  have HB := Lib.hid hbad
  have HL := Lib.hid hL1
  have HF := Lib.hid hF
  clear hgood hbad hL1 hF hL
  go_enter Tryd.func26, Tryd.ntmps26
  go_wp2_with fail
  go_loop [8] (fun i => ∃ k : Nat, Hid (∀ j, j < k → okB b0 b1 b2 b3 m j = true) ∧ ((k = 0 ∧ i = .int .i64 0) ∨ (k = 1 ∧ i = .int .i64 1) ∨ (k = 2 ∧ i = .int .i64 2) ∨ (k = 3 ∧ i = .int .i64 3) ∨ (k = 4 ∧ i = .int .i64 4))) (fun i => 4 - (intOf i).toNat)
  case atStart => exact ⟨0, Lib.hid (fun j hj => by omega), .inl ⟨rfl, rfl⟩⟩
  case round =>
    obtain ⟨k, HI, ⟨rfl, rfl⟩ | ⟨rfl, rfl⟩ | ⟨rfl, rfl⟩ | ⟨rfl, rfl⟩ | ⟨rfl, rfl⟩⟩ := hrel
    · cases b0 with
      | false =>
        go_wp2_with fail
        go_round
        case rel => exact ⟨1, Lib.hid (fun i hi => by
          by_cases e : i = 0
          · subst e; rfl
          · exact HI.out i (by omega)), .inr (.inl ⟨rfl, rfl⟩)⟩
        case measure => simp [intOf]
      | true =>
        cases hf : ft m 0 with
        | true =>
          rw [ft_zero] at hf; cases hf
        | false =>
          have HR := Lib.hid (HB.out 0 (by decide) rfl)
          have HT := Lib.hid hf
          clear hf
          go_wp2_with (go_at_call 11; refine (fits_any HL.out _ _).mono ?_; rintro e w' ⟨rfl, rfl⟩; rw [HT.out])
          go_ret
          exact ⟨by rw [HR.out]; rfl, HF.out⟩
    · cases b1 with
      | false =>
        go_wp2_with fail
        go_round
        case rel => exact ⟨2, Lib.hid (fun i hi => by
          by_cases e : i = 1
          · subst e; rfl
          · exact HI.out i (by omega)), .inr (.inr (.inl ⟨rfl, rfl⟩))⟩
        case measure => simp [intOf]
      | true =>
        cases hf : ft m 1 with
        | true =>
          have HT := Lib.hid hf
          clear hf
          go_wp2_with (go_at_call 11; refine (fits_any HL.out _ _).mono ?_; rintro e w' ⟨rfl, rfl⟩; rw [HT.out])
          go_round
          case rel => exact ⟨2, Lib.hid (fun i hi => by
            by_cases e : i = 1
            · subst e; exact HT.out
            · exact HI.out i (by omega)), .inr (.inr (.inl ⟨rfl, rfl⟩))⟩
          case measure => simp [intOf]
        | false =>
          have HR := Lib.hid (HB.out 1 (by decide) hf)
          have HT := Lib.hid hf
          clear hf
          go_wp2_with (go_at_call 11; refine (fits_any HL.out _ _).mono ?_; rintro e w' ⟨rfl, rfl⟩; rw [HT.out])
          go_ret
          exact ⟨by rw [HR.out]; rfl, HF.out⟩
    · cases b2 with
      | false =>
        go_wp2_with fail
        go_round
        case rel => exact ⟨3, Lib.hid (fun i hi => by
          by_cases e : i = 2
          · subst e; rfl
          · exact HI.out i (by omega)), .inr (.inr (.inr (.inl ⟨rfl, rfl⟩)))⟩
        case measure => simp [intOf]
      | true =>
        cases hf : ft m 2 with
        | true =>
          have HT := Lib.hid hf
          clear hf
          go_wp2_with (go_at_call 11; refine (fits_any HL.out _ _).mono ?_; rintro e w' ⟨rfl, rfl⟩; rw [HT.out])
          go_round
          case rel => exact ⟨3, Lib.hid (fun i hi => by
            by_cases e : i = 2
            · subst e; exact HT.out
            · exact HI.out i (by omega)), .inr (.inr (.inr (.inl ⟨rfl, rfl⟩)))⟩
          case measure => simp [intOf]
        | false =>
          have HR := Lib.hid (HB.out 2 (by decide) hf)
          have HT := Lib.hid hf
          clear hf
          go_wp2_with (go_at_call 11; refine (fits_any HL.out _ _).mono ?_; rintro e w' ⟨rfl, rfl⟩; rw [HT.out])
          go_ret
          exact ⟨by rw [HR.out]; rfl, HF.out⟩
    · cases b3 with
      | false =>
        go_wp2_with fail
        go_round
        case rel => exact ⟨4, Lib.hid (fun i hi => by
          by_cases e : i = 3
          · subst e; rfl
          · exact HI.out i (by omega)), .inr (.inr (.inr (.inr (⟨rfl, rfl⟩))))⟩
        case measure => simp [intOf]
      | true =>
        cases hf : ft m 3 with
        | true =>
          rw [ft_three] at hf; cases hf
        | false =>
          have HR := Lib.hid (HB.out 3 (by decide) rfl)
          have HT := Lib.hid hf
          clear hf
          go_wp2_with (go_at_call 11; refine (fits_any HL.out _ _).mono ?_; rintro e w' ⟨rfl, rfl⟩; rw [HT.out])
          go_ret
          exact ⟨by rw [HR.out]; rfl, HF.out⟩
    · have HR := Lib.hid (HG.out HI.out)
      go_wp2_with (go_at_call 9; refine (valid_any _ _).mono ?_; rintro e w' ⟨rfl, rfl⟩)
      go_ret
      exact ⟨by rw [HR.out]; rfl, HF.out⟩
#print axioms takes_any
end Go.Proofs.YthnmjildeenecaaDoor
