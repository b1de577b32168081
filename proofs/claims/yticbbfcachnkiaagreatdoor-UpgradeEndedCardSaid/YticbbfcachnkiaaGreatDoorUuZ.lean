/- A reference's Same of two states of latches that are equal; the law's looks. -/
import Derived.Test.YticbbfcachnkiaaGreatDoorUuT
import Derived.BigQuiet
namespace Go.Proofs.YticbbfcachnkiaaGreatDoor
open Go.ChangeShapes Go.WideShapes Go.ChangeAt Go.RowKit
set_option linter.unusedVariables false
set_option linter.unusedSimpArgs false
theorem ix_in {a : Option Addr} {n c b o k : Nat} (ha : 0 < n → a = some ⟨b, o, none⟩) (hk : k < n) (w : World) : (Instr.indexAt 48 (.slice a n c) (.int .i64 (k : Int))).run Tryz.prog w = .ok (.pointer (some ⟨b, o + k, none⟩)) w := by
  obtain rfl := ha (by omega)
  have h1 : (k : Int) < (n : Int) := by omega
  simp [go_sem, h1]
theorem ix_wt {a : Option Addr} {n c b o k : Nat} (ha : 0 < n → a = some ⟨b, o, none⟩) (hk : k < n) (w : World) : (Instr.indexAt 116 (.slice a n c) (.int .i64 (k : Int))).run Tryz.prog w = .ok (.pointer (some ⟨b, o + k * 2, none⟩)) w := by
  obtain rfl := ha (by omega)
  have h1 : (k : Int) < (n : Int) := by omega
  simp [go_sem, h1]
/-- A slice of pairs that is read alone. -/
structure Li2 (w : World) (a : Option Addr) (n c b o : Nat) (l : List (Int × Int)) : Prop where
  len : l.length = n
  ad : 0 < n → a = some ⟨b, o, none⟩
  cell : ∀ i x, l[i]? = some x → w.cell? ⟨b, o + i * 2, none⟩ = some (.int .i64 x.1) ∧ w.cell? ⟨b, o + i * 2 + 1, none⟩ = some (.int .i64 x.2)
namespace Li2
variable {w w' : World} {a : Option Addr} {n c b o : Nat} {l : List (Int × Int)}
theorem lt (h : Li2 w a n c b o l) (hn : 0 < n) : b < w.heap.size := by
  have hl := h.len
  have := (h.cell 0 (l[0]'(by omega)) (List.getElem?_eq_getElem _)).1
  exact World.block_lt_of_cell? w _ this
theorem frm {D : List Nat} (h : Li2 w a n c b o l) (hf : Frm D w w') (hd : 0 < n → b ∉ D) : Li2 w' a n c b o l := by
  refine ⟨h.len, h.ad, fun i x hx => ?_⟩
  have hn : 0 < n := by have := (List.getElem?_eq_some_iff.1 hx).1; have := h.len; omega
  rw [hf.cell (h.lt hn) (hd hn), hf.cell (h.lt hn) (hd hn)]; exact h.cell i x hx
theorem frm0 (h : Li2 w a n c b o l) (hf : Frm [] w w') : Li2 w' a n c b o l := h.frm hf (by simp)
theorem nil (w : World) (b o : Nat) : Li2 w none 0 0 b o [] := ⟨rfl, fun h => by omega, fun i x hx => by simp at hx⟩
theorem get (h : Li2 w a n c b o l) {i : Nat} (hi : i < n) : ∃ x, l[i]? = some x ∧ w.cell? ⟨b, o + i * 2, none⟩ = some (.int .i64 x.1) ∧ w.cell? ⟨b, o + i * 2 + 1, none⟩ = some (.int .i64 x.2) := by
  have hl := h.len
  have e : l[i]? = some (l[i]'(by omega)) := List.getElem?_eq_getElem _
  exact ⟨_, e, h.cell _ _ e⟩
end Li2
section
variable {w : World} {a1 a2 e1 e2 : Option Addr} {n c1 c2 m f1 f2 b1 o1 b2 o2 p1 q1 p2 q2 : Nat} {xs : List Int} {ys : List (Int × Int)}
set_option maxRecDepth 1000000 in
set_option maxHeartbeats 4000000 in
theorem lsame_any (h1 : Li .i64 w a1 n c1 b1 o1 xs) (h2 : Li .i64 w a2 n c2 b2 o2 xs) (k1 : Li2 w e1 m f1 p1 q1 ys) (k2 : Li2 w e2 m f2 p2 q2 ys) (hn : n ≤ 1000000) (hm : m ≤ 1000000) (up ex wa gr : Int) :
    Calls Tryz.prog 48 #[.agg #[.slice a1 n c1, .int .i64 up, .int .i64 ex, .int .i64 wa, .int .i64 gr, .slice e1 m f1], .agg #[.slice a2 n c2, .int .i64 up, .int .i64 ex, .int .i64 wa, .int .i64 gr, .slice e2 m f2]] w
      (Ret (.bool true) (fun w' => Frm [] w w')) := by
  obtain ⟨X, hX⟩ : ∃ X, X = (w.alloc (.cells #[.slice a1 n c1, .int .i64 up, .int .i64 ex, .int .i64 wa, .int .i64 gr, .slice e1 m f1] 118)).alloc (.cells #[.slice a2 n c2, .int .i64 up, .int .i64 ex, .int .i64 wa, .int .i64 gr, .slice e2 m f2] 118) := ⟨_, rfl⟩
  have hFX : Frm [] w X := by rw [hX]; exact ((Frm.refl _ _).alloc _).alloc _
  have g0 : X.heap[w.heap.size]? = some (.cells #[.slice a1 n c1, .int .i64 up, .int .i64 ex, .int .i64 wa, .int .i64 gr, .slice e1 m f1] 118 (0, 0)) := by rw [hX]; exact heap_alloc_old _ (heap_alloc_new _ _)
  have g1 : X.heap[w.heap.size + 1]? = some (.cells #[.slice a2 n c2, .int .i64 up, .int .i64 ex, .int .i64 wa, .int .i64 gr, .slice e2 m f2] 118 (0, 0)) := by rw [hX]; exact heap_alloc_at _ (by simp)
  have H1 := Lib.hid h1
  have H2 := Lib.hid h2
  have K1 := Lib.hid k1
  have K2 := Lib.hid k2
  have HFX := Lib.hid hFX
  have G0 := Lib.hid g0
  have G1 := Lib.hid g1
  obtain ⟨s0, s1, s2, s3, s4, s5⟩ := cells6L g0
  obtain ⟨t0, t1, t2, t3, t4, t5⟩ := cells6L g1
  have l0 := lt_of_heap g0
  have l1 := lt_of_heap g1
  clear h1 h2 k1 k2 hFX g0 g1
  go_enter Tryz.func48, Tryz.ntmps48
  go_wp2_with fail
  rw [← hX]
  clear hX
  go_wp2_with fail
  go_loopw [5] (fun i wr => ∃ j : Nat, j ≤ n ∧ i = .int .i64 (j : Int) ∧ Frm [] X wr) (fun i _ => n - (intOf i).toNat)
  case atStart => exact ⟨0, Nat.zero_le _, rfl, Frm.refl _ _⟩
  case round =>
    obtain ⟨j, hj, rfl, hF⟩ := hrel
    have HF := Lib.hid hF
    have g0 := hF.heap G0.out (by simp)
    have g1 := hF.heap G1.out (by simp)
    clear s0 s1 s2 s3 s4 s5 t0 t1 t2 t3 t4 t5 l0 l1
    obtain ⟨s0, s1, s2, s3, s4, s5⟩ := cells6L g0
    obtain ⟨t0, t1, t2, t3, t4, t5⟩ := cells6L g1
    have l0 := lt_of_heap g0
    have l1 := lt_of_heap g1
    clear hF g0 g1
    by_cases hlt : j < n
    · obtain ⟨x, hx, _, cx⟩ := (H1.out.frm0 (HFX.out.trans HF.out)).get hlt
      obtain ⟨x', hx', _, cx'⟩ := (H2.out.frm0 (HFX.out.trans HF.out)).get hlt
      obtain rfl : x = x' := Option.some.inj (hx.symm.trans hx')
      have i1 := fun W => ix_in (c := c1) H1.out.ad hlt W
      have i2 := fun W => ix_in (c := c2) H2.out.ad hlt W
      have bl1 := World.block_lt_of_cell? wr _ cx
      have bl2 := World.block_lt_of_cell? wr _ cx'
      clear hx hx'
      go_wp2_with fail
      go_quiet (fail)
      go_wp2_with fail
      go_roundw
      case rel => exact ⟨j + 1, by omega, by go_num, HF.out.drewN _⟩
      case measure => simp [intOf]; omega
    · obtain rfl : j = n := by omega
      go_wp2_with fail
      go_loopw [6] (fun i wq => ∃ j : Nat, j ≤ m ∧ i = .int .i64 (j : Int) ∧ Frm [] wr wq) (fun i _ => m - (intOf i).toNat)
      case atStart => exact ⟨0, Nat.zero_le _, rfl, Frm.refl _ _⟩
      case round =>
        obtain ⟨j, hj, rfl, hF2⟩ := hrel
        have HF2 := Lib.hid (HF.out.trans hF2)
        have g0 := HF2.out.heap G0.out (by simp)
        have g1 := HF2.out.heap G1.out (by simp)
        clear s0 s1 s2 s3 s4 s5 t0 t1 t2 t3 t4 t5 l0 l1
        obtain ⟨s0, s1, s2, s3, s4, s5⟩ := cells6L g0
        obtain ⟨t0, t1, t2, t3, t4, t5⟩ := cells6L g1
        have l0 := lt_of_heap g0
        have l1 := lt_of_heap g1
        have HF3 := Lib.hid hF2
        clear hF2 g0 g1
        by_cases hlt : j < m
        · obtain ⟨x, hx, cx, cy⟩ := (K1.out.frm0 (HFX.out.trans HF2.out)).get hlt
          obtain ⟨x', hx', cx', cy'⟩ := (K2.out.frm0 (HFX.out.trans HF2.out)).get hlt
          obtain rfl : x = x' := Option.some.inj (hx.symm.trans hx')
          have i1 := fun W => ix_wt (c := f1) K1.out.ad hlt W
          have i2 := fun W => ix_wt (c := f2) K2.out.ad hlt W
          have bl1 := World.block_lt_of_cell? _ _ cx
          have bl2 := World.block_lt_of_cell? _ _ cx'
          clear hx hx'
          go_wp2_with fail
          go_quiet (fail)
          go_wp2_with fail
          go_roundw
          case rel => exact ⟨j + 1, by omega, by go_num, HF3.out.drewN _⟩
          case measure => simp [intOf]; omega
        · obtain rfl : j = m := by omega
          go_wp2
          go_ret
          exact ⟨rfl, HFX.out.trans HF2.out⟩
end
theorem prs_get {l : List (Int × Int)} {i : Nat} {x : Int × Int} (h : l[i]? = some x) : (prs l)[i * 2]? = some (.int .i64 x.1) ∧ (prs l)[i * 2 + 1]? = some (.int .i64 x.2) := by
  induction l generalizing i with
  | nil => simp at h
  | cons a l ih =>
    rw [prs_cons]
    cases i with
    | zero => simp at h; subst h; exact ⟨rfl, rfl⟩
    | succ i =>
      have := ih (i := i) (by simpa using h)
      rw [show (i + 1) * 2 = i * 2 + 2 by omega]
      simpa using this
theorem Row2.li {B : Nat} {w : World} {a : Option Addr} {n c : Nat} {l : List (Int × Int)} (h : Row2 B w a n c l) : ∃ b, Li2 w a n c b 0 l := by
  obtain ⟨⟨_, h⟩, hn⟩ := h
  subst hn
  rcases h with ⟨hv, hl⟩ | ⟨g, cap, cur, hv, hg, hh, hc, hm, hz, ht⟩
  · have : l = [] := List.length_eq_zero_iff.1 hl
    subst this
    simp at hv
    obtain ⟨rfl, rfl⟩ := hv
    exact ⟨0, Li2.nil _ _ _⟩
  · simp at hv
    obtain ⟨rfl, rfl⟩ := hv
    refine ⟨g, rfl, fun _ => rfl, fun i x hx => ?_⟩
    have hi := (List.getElem?_eq_some_iff.1 hx).1
    obtain ⟨e1, e2⟩ := prs_get hx
    have key : ∀ (j : Nat) (v : Value), (prs l)[j]? = some v → w.cell? ⟨g, j, none⟩ = some v := fun j v hv => by
      rw [cell_of_heap hh, ← Array.getElem?_toList]
      have hj := (List.getElem?_eq_some_iff.1 hv).1
      rw [prs_length] at hj
      rw [← ht, List.getElem?_take, if_pos (by omega)] at hv
      exact hv
    rw [Nat.zero_add]
    exact ⟨key _ _ e1, key _ _ e2⟩
section
variable {w : World} {T B np p d cc : Nat} {ws : List Int}
theorem Bnd.i (h : Bnd ws) : ∀ (i : Nat) (x : Int), ws[i]? = some x → 0 ≤ x ∧ x < 18446744073709551616 := fun i x hx => h.get hx
end
end Go.Proofs.YticbbfcachnkiaaGreatDoor
