/- A reference's Same of two states of latches that are equal; the law's looks. -/
import Derived.Test.YtjhidkjhfgbaeaaGreatDoorLuY
import Derived.Test.YtjhidkjhfgbaeaaGreatDoorLuT
import Derived.BigQuiet
namespace Go.Proofs.YtjhidkjhfgbaeaaGreatDoor
open Go.ChangeShapes Go.WideShapes Go.ChangeAt Go.RowKit
set_option linter.unusedVariables false
set_option linter.unusedSimpArgs false
theorem ix_in {a : Option Addr} {n c b o k : Nat} (ha : 0 < n → a = some ⟨b, o, none⟩) (hk : k < n) (w : World) : (Instr.indexAt 22 (.slice a n c) (.int .i64 (k : Int))).run Tryz.prog w = .ok (.pointer (some ⟨b, o + k, none⟩)) w := by
  obtain rfl := ha (by omega)
  have h1 : (k : Int) < (n : Int) := by omega
  simp [go_sem, h1]
theorem ix_wt {a : Option Addr} {n c b o k : Nat} (ha : 0 < n → a = some ⟨b, o, none⟩) (hk : k < n) (w : World) : (Instr.indexAt 23 (.slice a n c) (.int .i64 (k : Int))).run Tryz.prog w = .ok (.pointer (some ⟨b, o + k * 2, none⟩)) w := by
  obtain rfl := ha (by omega)
  have h1 : (k : Int) < (n : Int) := by omega
  simp [go_sem, h1]
/-- A slice of pairs that is read alone. -/
structure Li2 (w : World) (a : Option Addr) (n c b o : Nat) (l : List (Int × Int)) : Prop where
  len : l.length = n
  ad : 0 < n → a = some ⟨b, o, none⟩
  cell : ∀ i x, l[i]? = some x → w.cell? ⟨b, o + i * 2, none⟩ = some (.int .i64 x.1) ∧ w.cell? ⟨b, o + i * 2 + 1, none⟩ = some (.int .i64 x.2)
namespace Li2
variable {w w' : World} {a : Option Addr} {n c b o : Nat} {l : List (Int × Int)}
theorem lt (h : Li2 w a n c b o l) (hn : 0 < n) : b < w.heap.size := by
  have hl := h.len
  have := (h.cell 0 (l[0]'(by omega)) (List.getElem?_eq_getElem _)).1
  exact World.block_lt_of_cell? w _ this
theorem frm {D : List Nat} (h : Li2 w a n c b o l) (hf : Frm D w w') (hd : 0 < n → b ∉ D) : Li2 w' a n c b o l := by
  refine ⟨h.len, h.ad, fun i x hx => ?_⟩
  have hn : 0 < n := by have := (List.getElem?_eq_some_iff.1 hx).1; have := h.len; omega
  rw [hf.cell (h.lt hn) (hd hn), hf.cell (h.lt hn) (hd hn)]; exact h.cell i x hx
theorem frm0 (h : Li2 w a n c b o l) (hf : Frm [] w w') : Li2 w' a n c b o l := h.frm hf (by simp)
theorem nil (w : World) (b o : Nat) : Li2 w none 0 0 b o [] := ⟨rfl, fun h => by omega, fun i x hx => by simp at hx⟩
theorem get (h : Li2 w a n c b o l) {i : Nat} (hi : i < n) : ∃ x, l[i]? = some x ∧ w.cell? ⟨b, o + i * 2, none⟩ = some (.int .i64 x.1) ∧ w.cell? ⟨b, o + i * 2 + 1, none⟩ = some (.int .i64 x.2) := by
  have hl := h.len
  have e : l[i]? = some (l[i]'(by omega)) := List.getElem?_eq_getElem _
  exact ⟨_, e, h.cell _ _ e⟩
end Li2
section
variable {w : World} {a1 a2 e1 e2 : Option Addr} {n c1 c2 m f1 f2 b1 o1 b2 o2 p1 q1 p2 q2 : Nat} {xs : List Int} {ys : List (Int × Int)}
set_option maxRecDepth 1000000 in
set_option maxHeartbeats 4000000 in
theorem lsame_any (h1 : Li .i64 w a1 n c1 b1 o1 xs) (h2 : Li .i64 w a2 n c2 b2 o2 xs) (k1 : Li2 w e1 m f1 p1 q1 ys) (k2 : Li2 w e2 m f2 p2 q2 ys) (hn : n ≤ 1000000) (hm : m ≤ 1000000) (up ex wa gr : Int) :
    Calls Tryz.prog 27 #[.agg #[.slice a1 n c1, .int .i64 up, .int .i64 ex, .int .i64 wa, .int .i64 gr, .slice e1 m f1], .agg #[.slice a2 n c2, .int .i64 up, .int .i64 ex, .int .i64 wa, .int .i64 gr, .slice e2 m f2]] w
      (Ret (.bool true) (fun w' => Frm [] w w')) := by
  obtain ⟨X, hX⟩ : ∃ X, X = (w.alloc (.cells #[.slice a1 n c1, .int .i64 up, .int .i64 ex, .int .i64 wa, .int .i64 gr, .slice e1 m f1] 25)).alloc (.cells #[.slice a2 n c2, .int .i64 up, .int .i64 ex, .int .i64 wa, .int .i64 gr, .slice e2 m f2] 25) := ⟨_, rfl⟩
  have hFX : Frm [] w X := by rw [hX]; exact ((Frm.refl _ _).alloc _).alloc _
  have g0 : X.heap[w.heap.size]? = some (.cells #[.slice a1 n c1, .int .i64 up, .int .i64 ex, .int .i64 wa, .int .i64 gr, .slice e1 m f1] 25 (0, 0)) := by rw [hX]; exact heap_alloc_old _ (heap_alloc_new _ _)
  have g1 : X.heap[w.heap.size + 1]? = some (.cells #[.slice a2 n c2, .int .i64 up, .int .i64 ex, .int .i64 wa, .int .i64 gr, .slice e2 m f2] 25 (0, 0)) := by rw [hX]; exact heap_alloc_at _ (by simp)
  have H1 := Lib.hid h1
  have H2 := Lib.hid h2
  have K1 := Lib.hid k1
  have K2 := Lib.hid k2
  have HFX := Lib.hid hFX
  have G0 := Lib.hid g0
  have G1 := Lib.hid g1
  obtain ⟨s0, s1, s2, s3, s4, s5⟩ := cells6L g0
  obtain ⟨t0, t1, t2, t3, t4, t5⟩ := cells6L g1
  have l0 := lt_of_heap g0
  have l1 := lt_of_heap g1
  clear h1 h2 k1 k2 hFX g0 g1
  go_enter Tryz.func27, Tryz.ntmps27
  go_wp2_with fail
  rw [← hX]
  clear hX
  go_wp2_with fail
  go_loopw [5] (fun i wr => ∃ j : Nat, j ≤ n ∧ i = .int .i64 (j : Int) ∧ Frm [] X wr) (fun i _ => n - (intOf i).toNat)
  case atStart => exact ⟨0, Nat.zero_le _, rfl, Frm.refl _ _⟩
  case round =>
    obtain ⟨j, hj, rfl, hF⟩ := hrel
    have HF := Lib.hid hF
    have g0 := hF.heap G0.out (by simp)
    have g1 := hF.heap G1.out (by simp)
    clear s0 s1 s2 s3 s4 s5 t0 t1 t2 t3 t4 t5 l0 l1
    obtain ⟨s0, s1, s2, s3, s4, s5⟩ := cells6L g0
    obtain ⟨t0, t1, t2, t3, t4, t5⟩ := cells6L g1
    have l0 := lt_of_heap g0
    have l1 := lt_of_heap g1
    clear hF g0 g1
    by_cases hlt : j < n
    · obtain ⟨x, hx, _, cx⟩ := (H1.out.frm0 (HFX.out.trans HF.out)).get hlt
      obtain ⟨x', hx', _, cx'⟩ := (H2.out.frm0 (HFX.out.trans HF.out)).get hlt
      obtain rfl : x = x' := Option.some.inj (hx.symm.trans hx')
      have i1 := fun W => ix_in (c := c1) H1.out.ad hlt W
      have i2 := fun W => ix_in (c := c2) H2.out.ad hlt W
      have bl1 := World.block_lt_of_cell? wr _ cx
      have bl2 := World.block_lt_of_cell? wr _ cx'
      clear hx hx'
      go_wp2_with fail
      go_quiet (fail)
      go_wp2_with fail
      go_roundw
      case rel => exact ⟨j + 1, by omega, by go_num, HF.out.drewN _⟩
      case measure => simp [intOf]; omega
    · obtain rfl : j = n := by omega
      go_wp2_with fail
      go_loopw [6] (fun i wq => ∃ j : Nat, j ≤ m ∧ i = .int .i64 (j : Int) ∧ Frm [] wr wq) (fun i _ => m - (intOf i).toNat)
      case atStart => exact ⟨0, Nat.zero_le _, rfl, Frm.refl _ _⟩
      case round =>
        obtain ⟨j, hj, rfl, hF2⟩ := hrel
        have HF2 := Lib.hid (HF.out.trans hF2)
        have g0 := HF2.out.heap G0.out (by simp)
        have g1 := HF2.out.heap G1.out (by simp)
        clear s0 s1 s2 s3 s4 s5 t0 t1 t2 t3 t4 t5 l0 l1
        obtain ⟨s0, s1, s2, s3, s4, s5⟩ := cells6L g0
        obtain ⟨t0, t1, t2, t3, t4, t5⟩ := cells6L g1
        have l0 := lt_of_heap g0
        have l1 := lt_of_heap g1
        have HF3 := Lib.hid hF2
        clear hF2 g0 g1
        by_cases hlt : j < m
        · obtain ⟨x, hx, cx, cy⟩ := (K1.out.frm0 (HFX.out.trans HF2.out)).get hlt
          obtain ⟨x', hx', cx', cy'⟩ := (K2.out.frm0 (HFX.out.trans HF2.out)).get hlt
          obtain rfl : x = x' := Option.some.inj (hx.symm.trans hx')
          have i1 := fun W => ix_wt (c := f1) K1.out.ad hlt W
          have i2 := fun W => ix_wt (c := f2) K2.out.ad hlt W
          have bl1 := World.block_lt_of_cell? _ _ cx
          have bl2 := World.block_lt_of_cell? _ _ cx'
          clear hx hx'
          go_wp2_with fail
          go_quiet (fail)
          go_wp2_with fail
          go_roundw
          case rel => exact ⟨j + 1, by omega, by go_num, HF3.out.drewN _⟩
          case measure => simp [intOf]; omega
        · obtain rfl : j = m := by omega
          go_wp2
          go_ret
          exact ⟨rfl, HFX.out.trans HF2.out⟩
end
theorem prs_get {l : List (Int × Int)} {i : Nat} {x : Int × Int} (h : l[i]? = some x) : (prs l)[i * 2]? = some (.int .i64 x.1) ∧ (prs l)[i * 2 + 1]? = some (.int .i64 x.2) := by
  induction l generalizing i with
  | nil => simp at h
  | cons a l ih =>
    rw [prs_cons]
    cases i with
    | zero => simp at h; subst h; exact ⟨rfl, rfl⟩
    | succ i =>
      have := ih (i := i) (by simpa using h)
      rw [show (i + 1) * 2 = i * 2 + 2 by omega]
      simpa using this
theorem Row2.li {B : Nat} {w : World} {a : Option Addr} {n c : Nat} {l : List (Int × Int)} (h : Row2 B w a n c l) : ∃ b, Li2 w a n c b 0 l := by
  obtain ⟨⟨_, h⟩, hn⟩ := h
  subst hn
  rcases h with ⟨hv, hl⟩ | ⟨g, cap, cur, hv, hg, hh, hc, hm, hz, ht⟩
  · have : l = [] := List.length_eq_zero_iff.1 hl
    subst this
    simp at hv
    obtain ⟨rfl, rfl⟩ := hv
    exact ⟨0, Li2.nil _ _ _⟩
  · simp at hv
    obtain ⟨rfl, rfl⟩ := hv
    refine ⟨g, rfl, fun _ => rfl, fun i x hx => ?_⟩
    have hi := (List.getElem?_eq_some_iff.1 hx).1
    obtain ⟨e1, e2⟩ := prs_get hx
    have key : ∀ (j : Nat) (v : Value), (prs l)[j]? = some v → w.cell? ⟨g, j, none⟩ = some v := fun j v hv => by
      rw [cell_of_heap hh, ← Array.getElem?_toList]
      have hj := (List.getElem?_eq_some_iff.1 hv).1
      rw [prs_length] at hj
      rw [← ht, List.getElem?_take, if_pos (by omega)] at hv
      exact hv
    rw [Nat.zero_add]
    exact ⟨key _ _ e1, key _ _ e2⟩
section
variable {w : World} {T B np p d cc : Nat} {ws : List Int}
theorem Bnd.i (h : Bnd ws) : ∀ (i : Nat) (x : Int), ws[i]? = some x → 0 ≤ x ∧ x < 18446744073709551616 := fun i x hx => h.get hx
set_option maxRecDepth 1000000 in
set_option maxHeartbeats 4000000 in
/-- What the latch is looked at as. -/
theorem looks_true (h : Scn T w B np p d cc ws) (hT : 0 < T) {w0 w1 : Nat} (h0 : ws[1]? = some (w0 : Int)) (h1 : ws[2]? = some (w1 : Int)) {s : LS} {l : List (Int × Int)} (hl : lkR T 3 ws w0 w1 = some (s, l))
    {a2 e2 : Option Addr} {n c2 m f2 b2 o2 p2 q2 : Nat} (k1 : Li .i64 w a2 n c2 b2 o2 (bitsL s.sh)) (k2 : Li2 w e2 m f2 p2 q2 l) (hd1 : 0 < n → b2 ≠ d) (hd2 : 0 < m → p2 ≠ d) (hn : n ≤ 1000000) (hm : m ≤ 1000000) :
    Calls Tryz.prog 22 #[.pointer (some ⟨p, 0, none⟩), .pointer (some ⟨np, 0, none⟩), .int .i64 0, .agg #[.slice a2 n c2, .int .i64 s.up, .int .i64 s.ex, .int .i64 s.wa, .int .i64 s.gr, .slice e2 m f2], .int .i64 0] w
      (Ret (.bool true) (fun w' => Frm [d] w w' ∧ Scn T w' B np p d cc ws)) := by
  have hlo := h.lo
  obtain ⟨X, hX⟩ : ∃ X, X = w.alloc (.cells #[.slice a2 n c2, .int .i64 s.up, .int .i64 s.ex, .int .i64 s.wa, .int .i64 s.gr, .slice e2 m f2] 25) := ⟨_, rfl⟩
  have hFX : Frm [] w X := by rw [hX]; exact (Frm.refl _ _).alloc _
  have g0 : X.heap[w.heap.size]? = some (.cells #[.slice a2 n c2, .int .i64 s.up, .int .i64 s.ex, .int .i64 s.wa, .int .i64 s.gr, .slice e2 m f2] 25 (0, 0)) := by rw [hX]; exact heap_alloc_new _ _
  have hS := h.frm0 hFX
  have H := Look_any hS.mem hS.nd hS.laid (by omega) (by omega) (by rw [h.len]; omega) h.bnd.i w0 w1 h0 h1 hT
  rw [hl] at H
  have H := Lib.hid H
  have HS := Lib.hid hS
  have HS0 := Lib.hid h
  have HFX := Lib.hid hFX
  have G0 := Lib.hid g0
  have K1 := Lib.hid k1
  have K2 := Lib.hid k2
  have hld := h.lt.2.2
  clear h hFX g0 k1 k2 hS h0 h1 hl
  go_enter Tryz.func22, Tryz.ntmps22
  go_wp2_with fail
  rw [← hX]
  clear hX
  refine H.out.mono ?_
  rintro e w1 ⟨a, n', k, a3, n3, k3, rfl, hF1, hM1, hR1, hR2⟩
  obtain ⟨gb, hL1⟩ := hR1.li
  obtain ⟨gb2, hL2⟩ := hR2.li
  have hnn : n' = n := hL1.len.symm.trans K1.out.len
  have hmm : n3 = m := hL2.len.symm.trans K2.out.len
  subst hnn hmm
  have HF1 := Lib.hid hF1
  have HL1 := Lib.hid hL1
  have HL2 := Lib.hid hL2
  have HM1 := Lib.hid hM1
  have hbx := hF1.heap G0.out (by simp; omega)
  obtain ⟨d0, d1, d2, d3, d4, d5⟩ := cells6L hbx
  have hbl := lt_of_heap hbx
  have HBX := Lib.hid hbx
  clear hF1 hL1 hL2 hM1 hR1 hR2 hbx
  obtain ⟨Y, hY⟩ : ∃ Y, Y = w1.alloc (.cells #[.slice a n' k, .int .i64 s.up, .int .i64 s.ex, .int .i64 s.wa, .int .i64 s.gr, .slice a3 n3 k3] 25) := ⟨_, rfl⟩
  have hFY : Frm [] w1 Y := by rw [hY]; exact (Frm.refl _ _).alloc _
  go_wp2_with fail
  rw [← hY]
  clear hY
  refine (lsame_any (HL1.out.frm0 hFY) (K1.out.frm ((HFX.out.nil.trans HF1.out).trans hFY.nil) (by simpa using hd1)) (HL2.out.frm0 hFY) (K2.out.frm ((HFX.out.nil.trans HF1.out).trans hFY.nil) (by simpa using hd2)) hn hm s.up s.ex s.wa s.gr).mono ?_
  rintro e w2 ⟨rfl, hF2⟩
  have HF2 := Lib.hid (hFY.trans hF2)
  clear hF2 hFY
  go_wp2
  go_ret
  have hF := HF1.out.trans HF2.out.nil
  refine ⟨rfl, HFX.out.nil.trans hF, HM1.out.frm HF2.out (by simp) (by simp), HS.out.nd.frmD hF (by simp; omega), HS.out.laid.frm hF (by simp; omega), HS.out.bnd, ?_, HS.out.len⟩
  have := hF.size
  have := HFX.out.size
  omega
end
end Go.Proofs.YtjhidkjhfgbaeaaGreatDoor
