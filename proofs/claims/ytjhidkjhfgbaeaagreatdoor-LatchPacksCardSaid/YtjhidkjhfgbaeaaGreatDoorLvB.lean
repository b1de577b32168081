/- Package latch: Pack; the law's packs and unpacks. -/
import Derived.Test.YtjhidkjhfgbaeaaGreatDoorLvA
namespace Go.Proofs.YtjhidkjhfgbaeaaGreatDoor
open Go.ChangeShapes Go.WideShapes Go.ChangeAt Go.RowKit
set_option linter.unusedVariables false
set_option linter.unusedSimpArgs false
/-- The state that an api.Latch and two nodes say. -/
def pkS (x : Nat) (up ex wa gr fi la : Int) : LS := ⟨x, up, ex, wa, gr, fi, la⟩
/-- What Pack returns. -/
def pkO (xs : List Int) (up ex wa gr fi la : Int) : Option LS := match btF (-1) 0 xs with
  | some x => if (pkS x up ex wa gr fi la).may 64 = true then some (pkS x up ex wa gr fi la) else none
  | none => none
def pkV : Option LS → Value
  | some s => .tuple #[.agg #[.int .u64 (s.sh : Int), .int .u64 s.w1], .int .i64 0]
  | none => .tuple #[.agg #[.int .u64 0, .int .u64 0], .int .i64 2]
theorem setCells2 {w : World} {b : Nat} {x0 x1 : Value} {t : TypeId} {f : Nat × Nat} (h : w.heap[b]? = some (.cells #[x0, x1] t f)) (y0 y1 : Value) :
    ((w.setCell ⟨b, 0, none⟩ y0).setCell ⟨b, 1, none⟩ y1).heap[b]? = some (.cells #[y0, y1] t f) := by
  have := heap_setCell_at (i := 1) y1 (heap_setCell_at (i := 0) y0 h)
  simpa using this
section
variable {w : World} {a e2 : Option Addr} {n c b o m f2 : Nat} {xs : List Int}
set_option maxRecDepth 1000000 in
set_option maxHeartbeats 4000000 in
theorem Pack_any (h : Li .i64 w a n c b o xs) (hn : n ≤ 1000000) (hL : Laid w) (up ex wa gr fi la : Int) :
    Calls Tryz.prog 45 #[.agg #[.slice a n c, .int .i64 up, .int .i64 ex, .int .i64 wa, .int .i64 gr, .slice e2 m f2], .int .i64 fi, .int .i64 la] w (Ret (pkV (pkO xs up ex wa gr fi la)) (fun w' => Frm [] w w')) := by
  obtain ⟨X, hX⟩ : ∃ X, X = (w.alloc (.cells #[.slice a n c, .int .i64 up, .int .i64 ex, .int .i64 wa, .int .i64 gr, .slice e2 m f2] 25)).alloc (.cells #[.int .u64 0, .int .u64 0] 27) := ⟨_, rfl⟩
  have hFX : Frm [] w X := by rw [hX]; exact ((Frm.refl _ _).alloc _).alloc _
  have g0 : X.heap[w.heap.size]? = some (.cells #[.slice a n c, .int .i64 up, .int .i64 ex, .int .i64 wa, .int .i64 gr, .slice e2 m f2] 25 (0, 0)) := by rw [hX]; exact heap_alloc_old _ (heap_alloc_new _ _)
  have g1 : X.heap[w.heap.size + 1]? = some (.cells #[.int .u64 0, .int .u64 0] 27 (0, 0)) := by rw [hX]; exact heap_alloc_at _ (by simp)
  obtain ⟨s0, s1, s2, s3, s4, s5⟩ := cells6L g0
  have hl0 := lt_of_heap g0
  have hl1 := lt_of_heap g1
  have HBO := Lib.hid (bitsOf_any (h.frm0 hFX) hn)
  have HFX := Lib.hid hFX
  have HL := Lib.hid hL
  have G1 := Lib.hid g1
  clear h hFX hL g0 g1
  go_enter Tryz.func45, Tryz.ntmps45
  go_wp2_with fail
  rw [← hX]
  clear hX
  go_wp2_with fail
  cases hb : btF (-1) 0 xs with
  | none =>
    have hv : btV xs = .tuple #[.int .u64 0, .bool false] := by rw [btV, hb]
    have hr : pkO xs up ex wa gr fi la = none := by rw [pkO, hb]
    rw [hv] at HBO
    refine HBO.out.mono ?_
    rintro e w1 ⟨rfl, rfl⟩
    go_wp2_with fail
    have hFY : Frm [] X (X.alloc (.cells #[.int .u64 0, .int .i64 up, .int .i64 ex, .int .i64 wa, .int .i64 gr, .int .i64 fi, .int .i64 la] 89)) := (Frm.refl _ _).alloc _
    refine (allNodes_any _).mono ?_
    rintro e w2 ⟨rfl, hF2, -⟩
    have hF := hFY.trans hF2
    have hb1 := hF.heap G1.out (by simp)
    obtain ⟨q0, q1⟩ := cells2L hb1
    have z0 : w2.frozen? ⟨w.heap.size + 1, 0, none⟩ = false := frozen_of_heap hb1
    have z1 : w2.frozen? ⟨w.heap.size + 1, 1, none⟩ = false := frozen_of_heap hb1
    have hl2 := lt_of_heap hb1
    have HF := Lib.hid hF
    have HB1 := Lib.hid hb1
    clear hFY hF2 hF hb1
    go_wp2_with fail
    have hW0 := setCells2 HB1.out (.int .u64 0) (.int .u64 0)
    have hWF := ((Frm.refl [w.heap.size + 1] w2).setCell ⟨w.heap.size + 1, 0, none⟩ (.int .u64 0) (.inl (by simp))).setCell ⟨w.heap.size + 1, 1, none⟩ (.int .u64 0) (.inl (by simp))
    generalize ((w2.setCell ⟨w.heap.size + 1, 0, none⟩ (.int .u64 0)).setCell ⟨w.heap.size + 1, 1, none⟩ (.int .u64 0)) = Y at hW0 hWF ⊢
    obtain ⟨y0, y1⟩ := cells2L hW0
    exact bodyPost_ret (v := .tuple #[.agg #[.int .u64 0, .int .u64 0], .int .i64 2]) (by simp [results, Tryz.results45, go_sem, y0, y1]) rfl ⟨by rw [hr]; rfl, (HFX.out.trans HF.out).trans_new hWF (fun x hx => .inr (by simp at hx; omega))⟩
  | some x =>
    have hv : btV xs = .tuple #[.int .u64 (x : Int), .bool true] := by rw [btV, hb]
    have hx := btF_lt xs (-1) 0 x (by decide) (by decide) hb
    have hr : pkO xs up ex wa gr fi la = if (pkS x up ex wa gr fi la).may 64 = true then some (pkS x up ex wa gr fi la) else none := by rw [pkO, hb]
    rw [hv] at HBO
    refine HBO.out.mono ?_
    rintro e w1 ⟨rfl, rfl⟩
    go_wp2_with fail
    obtain ⟨Y, hY⟩ : ∃ Y, Y = X.alloc (.cells #[.int .u64 (x : Int), .int .i64 up, .int .i64 ex, .int .i64 wa, .int .i64 gr, .int .i64 fi, .int .i64 la] 89) := ⟨_, rfl⟩
    have hFY : Frm [] X Y := by rw [hY]; exact (Frm.refl _ _).alloc _
    have hsY : Y.heap[X.heap.size]? = some (.cells #[.int .u64 (x : Int), .int .i64 up, .int .i64 ex, .int .i64 wa, .int .i64 gr, .int .i64 fi, .int .i64 la] 89 (0, 0)) := by rw [hY]; exact heap_alloc_new _ _
    rw [← hY]
    clear hY
    refine (allNodes_any _).mono ?_
    rintro e w2 ⟨rfl, hF2, hN2⟩
    have hF := hFY.trans hF2
    have hb1 := hF.heap G1.out (by simp)
    obtain ⟨q0, q1⟩ := cells2L hb1
    have z0 : w2.frozen? ⟨w.heap.size + 1, 0, none⟩ = false := frozen_of_heap hb1
    have z1 : w2.frozen? ⟨w.heap.size + 1, 1, none⟩ = false := frozen_of_heap hb1
    have hl2 := lt_of_heap hb1
    have hst : StAt w2 X.heap.size 0 (pkS x up ex wa gr fi la) := cells7 (hF2.heap hsY (by simp))
    have HST := Lib.hid hst
    have HN2 := Lib.hid hN2
    have HM := Lib.hid (may_any hst hN2 (HL.out.frm0 (HFX.out.trans hF)) hx)
    have HF := Lib.hid hF
    have HB1 := Lib.hid hb1
    clear hFY hF2 hF hb1 hsY hst hN2
    cases hm : (pkS x up ex wa gr fi la).may 64 with
    | false =>
      rw [hm] at HM hr
      rw [if_neg (by decide)] at hr
      go_wp2_with fail
      refine HM.out.mono ?_
      rintro e w3 ⟨rfl, hF3⟩
      have HF3 := Lib.hid hF3
      have hb3 := hF3.heap HB1.out (by simp)
      have HB3 := Lib.hid hb3
      obtain ⟨q0', q1'⟩ := cells2L hb3
      have z0' : w3.frozen? ⟨w.heap.size + 1, 0, none⟩ = false := frozen_of_heap hb3
      have z1' : w3.frozen? ⟨w.heap.size + 1, 1, none⟩ = false := frozen_of_heap hb3
      have hl3 := lt_of_heap hb3
      clear hF3 hb3 q0 q1 z0 z1
      go_wp2_with fail
      have hW0 := setCells2 HB3.out (.int .u64 0) (.int .u64 0)
      have hWF := ((Frm.refl [w.heap.size + 1] w3).setCell ⟨w.heap.size + 1, 0, none⟩ (.int .u64 0) (.inl (by simp))).setCell ⟨w.heap.size + 1, 1, none⟩ (.int .u64 0) (.inl (by simp))
      generalize ((w3.setCell ⟨w.heap.size + 1, 0, none⟩ (.int .u64 0)).setCell ⟨w.heap.size + 1, 1, none⟩ (.int .u64 0)) = Y at hW0 hWF ⊢
      obtain ⟨y0, y1⟩ := cells2L hW0
      exact bodyPost_ret (v := .tuple #[.agg #[.int .u64 0, .int .u64 0], .int .i64 2]) (by simp [results, Tryz.results45, go_sem, y0, y1]) rfl ⟨by rw [hr]; rfl, ((HFX.out.trans HF.out).trans HF3.out).trans_new hWF (fun x hx => .inr (by simp at hx; omega))⟩
    | true =>
      rw [hm] at HM hr
      rw [if_pos rfl] at hr
      have hg := may_gd (Nat.le_refl 64) hm
      have HG := Lib.hid hg
      clear hg
      go_wp2_with fail
      refine HM.out.mono ?_
      rintro e w3 ⟨rfl, hF3⟩
      have HF3 := Lib.hid hF3
      have HWD := Lib.hid (words_any (HST.out.frm hF3 (by simp)) (HN2.out.frm hF3) (HG.out.fit (by decide)) HG.out.fi.2 HG.out.la.2)
      clear hF3 q0 q1 z0 z1
      go_wp2_with fail
      refine HWD.out.mono ?_
      rintro e w4 ⟨rfl, hF4⟩
      have hb3 := (HF3.out.trans hF4).heap HB1.out (by simp)
      have HF4 := Lib.hid hF4
      have HB3 := Lib.hid hb3
      obtain ⟨q0', q1'⟩ := cells2L hb3
      have z0' : w4.frozen? ⟨w.heap.size + 1, 0, none⟩ = false := frozen_of_heap hb3
      have z1' : w4.frozen? ⟨w.heap.size + 1, 1, none⟩ = false := frozen_of_heap hb3
      have hl3 := lt_of_heap hb3
      clear hF4 hb3
      generalize hs : pkS x up ex wa gr fi la = s
      rw [hs] at hr
      go_wp2_with fail
      have hW0 := setCells2 HB3.out (.int .u64 (s.sh : Int)) (.int .u64 s.w1)
      have hWF := ((Frm.refl [w.heap.size + 1] w4).setCell ⟨w.heap.size + 1, 0, none⟩ (.int .u64 (s.sh : Int)) (.inl (by simp))).setCell ⟨w.heap.size + 1, 1, none⟩ (.int .u64 s.w1) (.inl (by simp))
      generalize ((w4.setCell ⟨w.heap.size + 1, 0, none⟩ (.int .u64 (s.sh : Int))).setCell ⟨w.heap.size + 1, 1, none⟩ (.int .u64 s.w1)) = Y at hW0 hWF ⊢
      obtain ⟨y0, y1⟩ := cells2L hW0
      exact bodyPost_ret (v := .tuple #[.agg #[.int .u64 (s.sh : Int), .int .u64 s.w1], .int .i64 0]) (by simp [results, Tryz.results45, go_sem, y0, y1]) rfl ⟨by rw [hr]; rfl, (((HFX.out.trans HF.out).trans HF3.out).trans HF4.out).trans_new hWF (fun x hx => .inr (by simp at hx; omega))⟩
end
end Go.Proofs.YtjhidkjhfgbaeaaGreatDoor
