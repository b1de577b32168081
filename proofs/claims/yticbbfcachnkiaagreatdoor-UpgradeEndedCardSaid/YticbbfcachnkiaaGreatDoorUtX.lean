/- Package latch: node, finish, refuse, standLast, park (by gen_ltx.py). -/
import Derived.Test.YticbbfcachnkiaaGreatDoorUtW
namespace Go.Proofs.YticbbfcachnkiaaGreatDoor
open Go.ChangeShapes Go.WideShapes Go.ChangeAt Go.RowKit
set_option linter.unusedVariables false
set_option linter.unusedSimpArgs false

/-- The numbers of a state are those of threads and nodes that there are. -/
structure Gd (T : Nat) (s : LS) : Prop where
  sh : s.sh < 18446744073709551616
  up : -1 ≤ s.up ∧ s.up < T
  ex : -1 ≤ s.ex ∧ s.ex < T
  wa : -1 ≤ s.wa ∧ s.wa < T
  gr : 0 ≤ s.gr ∧ s.gr ≤ 4
  fi : -1 ≤ s.fi ∧ s.fi < 2 * T
  la : -1 ≤ s.la ∧ s.la < 2 * T
namespace Gd
variable {T : Nat} {s : LS}
theorem fit (h : Gd T s) (hT : T ≤ 64) : s.Fit := ⟨h.sh, ⟨h.up.1, by have := h.up.2; omega⟩, ⟨h.ex.1, by have := h.ex.2; omega⟩, ⟨h.wa.1, by have := h.wa.2; omega⟩, h.gr, ⟨h.fi.1, by have := h.fi.2; omega⟩, ⟨h.la.1, by have := h.la.2; omega⟩⟩
theorem drop (h : Gd T s) (t : Int) : Gd T (s.drop t) := by
  unfold LS.drop
  split
  · exact ⟨Nat.lt_of_le_of_lt Nat.and_le_left h.sh, h.up, h.ex, h.wa, h.gr, h.fi, h.la⟩
  · split
    · exact ⟨h.sh, ⟨Int.le_refl _, by have := h.up; show (-1 : Int) < T; omega⟩, h.ex, h.wa, h.gr, h.fi, h.la⟩
    · split
      · exact ⟨h.sh, h.up, ⟨Int.le_refl _, by have := h.up; show (-1 : Int) < T; omega⟩, h.wa, h.gr, h.fi, h.la⟩
      · exact h
theorem nil0 (h : Gd T s) : Gd T s.nil0 := by
  unfold LS.nil0
  split
  · exact ⟨h.sh, h.up, h.ex, h.wa, ⟨Int.le_refl _, by show (0 : Int) ≤ 4; decide⟩, h.fi, h.la⟩
  · exact h
theorem take (h : Gd T s) (t : Int) : Gd T (s.take t) := (h.drop t).nil0
theorem put (h : Gd T s) (t : Nat) (ht : t < T) (hT : T ≤ 64) (md : Int) : Gd T (s.put t md) := by
  unfold LS.put
  have h2 : 2 ^ t < 18446744073709551616 := two_lt t (by omega)
  split
  · exact ⟨by show s.sh ||| 2 ^ (Int.toNat (t : Int)) < _; rw [Int.toNat_natCast]; exact Nat.or_lt_two_pow (n := 64) h.sh h2, h.up, h.ex, h.wa, by have := h.gr; constructor <;> (show _ ≤ _; simp only []; omega), h.fi, h.la⟩
  · split
    · exact ⟨h.sh, ⟨by show (-1 : Int) ≤ t; omega, by show (t : Int) < T; omega⟩, h.ex, h.wa, h.gr, h.fi, h.la⟩
    · split
      · exact ⟨h.sh, h.up, ⟨by show (-1 : Int) ≤ t; omega, by show (t : Int) < T; omega⟩, h.wa, h.gr, h.fi, h.la⟩
      · exact h
theorem give (h : Gd T s) (t : Nat) (ht : t < T) (hT : T ≤ 64) (md : Int) : Gd T (s.give t md) := (h.take t).put t ht hT md
end Gd
theorem may_gd {T : Nat} {s : LS} (hT : T ≤ 64) (h : s.may T = true) : Gd T s := by
  have hf := may_fi h
  simp [LS.may, LS.mayB, LS.mayC, isT] at h
  obtain ⟨⟨⟨⟨h1, h2⟩, h3⟩, h4⟩, h5, ⟨h6, h7⟩, h8⟩ := h
  have hp : 2 ^ T ≤ 2 ^ 64 := Nat.pow_le_pow_right (by decide) hT
  refine ⟨by have : (2 : Nat) ^ 64 = 18446744073709551616 := by decide
             omega, by omega, by omega, by omega, by omega, ?_, ?_⟩
  · rcases hf with ⟨g, _⟩ | ⟨g, _⟩
    · omega
    · have := isL_le g; omega
  · rcases hf with ⟨_, g⟩ | ⟨_, g⟩
    · omega
    · have := isL_le g; omega

namespace Mv
def fin (m : Mv) : Int := if m.s0 ≠ m.s.sh then 10 else if m.s1 ≠ m.s.w1 then 11 else if m.wk = [] then 13 else 12
def finish (m : Mv) : Mv := { m with nx := m.fin }
def refuse (m : Mv) : Mv := { m with rf := true }.finish
def nd (m : Mv) : Int := 2 * (m.t : Int) + 1
def standLast (m : Mv) : Mv := { m with s := { m.s with fi := if m.s.fi = -1 then m.nd else m.s.fi, la := m.nd } }.finish
def park (m : Mv) : Mv := if m.k = 2 then m.finish else if m.s.la = -1 then m.standLast else { m with nx := 7 }
end Mv
section
variable {w : World} {q T qe ql : Nat} {a : Option Addr} {n c : Nat} {m : Mv}
theorem node_any (h : MvAt w q T qe ql a n c m) : Calls Tryz.prog 164 #[.pointer (some ⟨q, 0, none⟩)] w (fun e w' => ∃ k, Ret (.int .i64 m.nd) (fun w' => w' = w.drewN k) e w') := by
  have hn : (m.t : Int) * 2 + ((1 : Nat) : Int) = m.nd := by unfold Mv.nd; omega
  have HO : Hid (Qt 68 #[.pointer (some ⟨q, 0, none⟩), .int .i64 (m.t : Int), .int .i64 1] (.tuple #[.int .i64 m.nd, .int .i64 0]) w) := Lib.hid (Qt.of fun w' hf => by
    have := of_yes (h.nd.frm hf) m.t 1 h.tT (by decide)
    rw [hn] at this
    exact this)
  obtain ⟨c0, c1, c2, c3, c4, c5, c6, c7, c8, c9, c10, c11, c12, c13, c14, c15, c16, c17, c18, c19, c20, c21⟩ := h.cells
  have hbl := h.lt
  clear h hn
  go_enter Tryz.func164, Tryz.ntmps164
  go_wp2_with fail
  go_quiet ((go_at_call 68; with_reducible exact HO.out.at_ _))
  go_wp2
  go_ret
  exact ⟨_, rfl, rfl⟩
noncomputable def finT (k : Nat) : Code := dropS k (Tryz.f169.body.getD .skip)
set_option maxRecDepth 1000000 in
set_option maxHeartbeats 4000000 in
theorem finEnd {W : World} {g : Nat} (hF : Frm [q] w W) (h : MvAt W q T qe ql a n c m) (hn : n = m.wk.length) (hg : W.heap[g]? = some (.cells #[.int .u64 (m.s.sh : Int), .int .u64 m.s.w1] 128 (0, 0))) (v1 v3 v4 v5 v6 v7 v8 v9 v10 v11 v12 v13 v14 v15 v16 v17 v18 v19 v20 v21 v22 v23 v24 v25 v26 v27 v28 v29 v30 v31 v32 v33 v34 v35 v36 v37 v38 v39 v40 v41 v42 v43 v44 v45 v46 : Value) :
    Code.wp Tryz.prog (finT 1) (bodyPost Tryz.prog Tryz.f169 (Ret (.tuple #[]) (fun w' => Frm [q] w w' ∧ MvAt w' q T qe ql a n c m.finish))) ⟨List.toArray (.pointer (some ⟨q, 0, none⟩) :: v1 :: .pointer (some ⟨g, 0, none⟩) :: v3 :: v4 :: v5 :: v6 :: v7 :: v8 :: v9 :: v10 :: v11 :: v12 :: v13 :: v14 :: v15 :: v16 :: v17 :: v18 :: v19 :: v20 :: v21 :: v22 :: v23 :: v24 :: v25 :: v26 :: v27 :: v28 :: v29 :: v30 :: v31 :: v32 :: v33 :: v34 :: v35 :: v36 :: v37 :: v38 :: v39 :: v40 :: v41 :: v42 :: v43 :: v44 :: v45 :: v46 :: []), []⟩ W := by
  have HF := Lib.hid hF
  have HM := Lib.hid h
  obtain ⟨c0, c1, c2, c3, c4, c5, c6, c7, c8, c9, c10, c11, c12, c13, c14, c15, c16, c17, c18, c19, c20, c21⟩ := h.cells
  obtain ⟨y0, y1⟩ := cells2 hg
  have hbl := h.lt
  have hgl := lt_of_heap hg
  have z6 := h.frz 6
  clear h hF hg
  by_cases e0 : m.s0 = m.s.sh
  · have f0 : ((m.s0 : Int) != (m.s.sh : Int)) = false := by simp [e0]
    have HE0 := Lib.hid e0
    clear e0
    by_cases e1 : m.s1 = m.s.w1
    · have f1 : (m.s1 != m.s.w1) = false := by simp [e1]
      have HE1 := Lib.hid e1
      clear e1
      by_cases e2 : m.wk = []
      · have f2 : decide ((0 : Int) < n) = false := by simp [hn, e2]
        have f3 : n = 0 := by simp [hn, e2]
        have hfin : m.fin = 13 := by unfold Mv.fin; rw [if_neg (by simp [HE0.out]), if_neg (by simp [HE1.out]), if_pos e2]
        rw [show m.finish = { m with nx := 13 } from by unfold Mv.finish; rw [hfin]]
        clear hfin e2 hn
        conv => arg 2; whnf
        go_wp2_with fail
        go_quiet (fail)
        go_wp2_with fail
        go_quiet (fail)
        go_wp2
        go_end0
        exact ⟨rfl, (HF.out.drewN _).setCell ⟨q, 6, none⟩ (.int .i64 13) (.inl (by simp)), (HM.out.drewN _).set_nx 13⟩
      · have f2 : decide ((0 : Int) < n) = true := by have := List.length_pos_iff.2 e2; simp; omega
        have f3 : 0 < n := by simpa using f2
        have hfin : m.fin = 12 := by unfold Mv.fin; rw [if_neg (by simp [HE0.out]), if_neg (by simp [HE1.out]), if_neg e2]
        rw [show m.finish = { m with nx := 12 } from by unfold Mv.finish; rw [hfin]]
        clear hfin e2 hn
        conv => arg 2; whnf
        go_wp2_with fail
        go_quiet (fail)
        go_wp2_with fail
        go_quiet (fail)
        go_wp2
        go_end0
        exact ⟨rfl, (HF.out.drewN _).setCell ⟨q, 6, none⟩ (.int .i64 12) (.inl (by simp)), (HM.out.drewN _).set_nx 12⟩
    · have f1 : (m.s1 != m.s.w1) = true := by simp [e1]
      have hfin : m.fin = 11 := by unfold Mv.fin; rw [if_neg (by simp [HE0.out]), if_pos e1]
      rw [show m.finish = { m with nx := 11 } from by unfold Mv.finish; rw [hfin]]
      clear hfin e1 hn
      conv => arg 2; whnf
      go_wp2_with fail
      go_quiet (fail)
      go_wp2_with fail
      go_quiet (fail)
      go_wp2
      go_end0
      exact ⟨rfl, (HF.out.drewN _).setCell ⟨q, 6, none⟩ (.int .i64 11) (.inl (by simp)), (HM.out.drewN _).set_nx 11⟩
  · have f0 : ((m.s0 : Int) != (m.s.sh : Int)) = true := by simp; omega
    have hfin : m.fin = 10 := by unfold Mv.fin; rw [if_pos e0]
    rw [show m.finish = { m with nx := 10 } from by unfold Mv.finish; rw [hfin]]
    clear hfin e0 hn
    conv => arg 2; whnf
    go_wp2_with fail
    go_quiet (fail)
    go_wp2
    go_end0
    exact ⟨rfl, (HF.out.drewN _).setCell ⟨q, 6, none⟩ (.int .i64 10) (.inl (by simp)), (HM.out.drewN _).set_nx 10⟩
set_option maxRecDepth 1000000 in
set_option maxHeartbeats 4000000 in
theorem finish_any (h : MvAt w q T qe ql a n c m) (hn : n = m.wk.length) (hg : Gd T m.s) :
    Calls Tryz.prog 169 #[.pointer (some ⟨q, 0, none⟩)] w (Ret (.tuple #[]) (fun w' => Frm [q] w w' ∧ MvAt w' q T qe ql a n c m.finish)) := by
  have HM : Hid (∀ w', Frm [] w w' → MvAt w' q T qe ql a n c m) := Lib.hid fun w' hf => h.frm hf (by simp)
  have HW : Hid (∀ w', Frm [] w w' → Calls Tryz.prog 179 #[.pointer (some ⟨q, 11, none⟩), .pointer (some ⟨q, 0, none⟩)] w' (Ret (.agg #[.int .u64 m.s.sh, .int .u64 m.s.w1]) (fun x => Frm [] w' x))) := Lib.hid fun w' hf => words_any (h.st.frm hf (by simp)) (h.nd.frm hf) (hg.fit h.t64) hg.fi.2 hg.la.2
  have hz : ∀ w', Frm [] (w.alloc (.cells #[.int .u64 0, .int .u64 0] 128)) w' → (w'.cell? ⟨w.heap.size, 0, none⟩ = some (.int .u64 0) ∧ w'.cell? ⟨w.heap.size, 1, none⟩ = some (.int .u64 0)) ∧ w'.frozen? ⟨w.heap.size, 0, none⟩ = false ∧ w'.frozen? ⟨w.heap.size, 1, none⟩ = false ∧ w.heap.size < w'.heap.size := fun w' hf => by
    have := hf.heap (heap_alloc_new _ _) (by simp)
    exact ⟨cells2 this, frozen_of_heap this, frozen_of_heap this, lt_of_heap this⟩
  have HZ := Lib.hid hz
  have hbl := h.lt
  clear h hz
  go_enter Tryz.func169, Tryz.ntmps169
  refine wp_seq_k ?_
  intro K hK
  have HK := Lib.hid hK
  clear hK
  go_region_held3 (fun w' => Frm [] w w') (repeat' (first | assumption | exact Frm.refl _ _ | apply Frm.drew | apply Frm.drewN | apply Frm.alloc | (refine Frm.setCell ?_ _ _ (.inr (Nat.le_refl _))) | (refine Frm.trans ?_ g1))) ((go_at_call 179; (with_reducible refine (HW.out _ (by assumption)).mono ?_); rintro e w1 ⟨rfl, g1⟩; first | (have g2 : Frm [] (w.alloc (.cells #[.int .u64 0, .int .u64 0] 128)) w1 := (Frm.refl [] (w.alloc (.cells #[.int .u64 0, .int .u64 0] 128))).drew.trans g1; obtain ⟨⟨t0, t1⟩, u0, u1, tl⟩ := HZ.out _ g2) | (have g2 : Frm [] (w.alloc (.cells #[.int .u64 0, .int .u64 0] 128)) w1 := g1; obtain ⟨⟨t0, t1⟩, u0, u1, tl⟩ := HZ.out _ g2) | skip))
  · have hF : Frm [] w (w1.alloc (.cells #[.int .u64 (m.s.sh : Int), .int .u64 m.s.w1] 128)) := by assumption
    refine HK.out _ _ ?_
    exact finEnd (g := w1.heap.size) hF.nil (HM.out _ hF) hn (heap_alloc_new _ _) _ _ _ _ _ _ _ _ _ _ _ _ _ _ _ _ _ _ _ _ _ _ _ _ _ _ _ _ _ _ _ _ _ _ _ _ _ _ _ _ _ _ _ _ _
  · have hF : Frm [] w ((w1.setCell ⟨w.heap.size, 0, none⟩ (.int .u64 (m.s.sh : Int))).setCell ⟨w.heap.size, 1, none⟩ (.int .u64 m.s.w1)) := (((((Frm.refl [] w).alloc _).trans g2).setCell _ _ (.inr (Nat.le_refl _))).setCell _ _ (.inr (Nat.le_refl _)))
    have hB := g2.heap (heap_alloc_new _ _) (by simp)
    refine HK.out _ _ ?_
    exact finEnd (g := w.heap.size) hF.nil (HM.out _ hF) hn (heap_setCell_at (i := 1) _ (heap_setCell_at (i := 0) _ hB)) _ _ _ _ _ _ _ _ _ _ _ _ _ _ _ _ _ _ _ _ _ _ _ _ _ _ _ _ _ _ _ _ _ _ _ _ _ _ _ _ _ _ _ _ _
end
end Go.Proofs.YticbbfcachnkiaaGreatDoor
