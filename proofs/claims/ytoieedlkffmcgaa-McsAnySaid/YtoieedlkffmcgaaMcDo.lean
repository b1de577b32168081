/- The law's does (by gen_mcdo.py). -/
import Derived.Test.YtoieedlkffmcgaaMcO
import Derived.Test.YtoieedlkffmcgaaMcX
import Derived.Deep.RegionHeld3
namespace Go.Proofs.Ytoieedlkffmcgaa
open Go.ChangeShapes Go.WideShapes Go.ChangeAt Go.RowKit
set_option linter.unusedVariables false
set_option linter.unusedSimpArgs false

set_option maxRecDepth 100000 in
set_option maxHeartbeats 400000 in
theorem does_false {w : World} {b t L k : Nat} {ws' : List Int} {back e wait : Bool} {s o s' oq no : Int} {n g oo c p d cc q : Nat}
    (HN : Hid (∀ w', Frm [] w w' → Calls Try.prog 28 #[.agg #[.int .i64 b, .int .i64 t, .int .i64 L, .int .i64 k, .bool back, .int .i64 s, .int .u64 o, .bool e], .slice (some ⟨g, oo, none⟩) n c] w' (fun e0 w2 => ∃ g' o' c', Ret (.tuple #[.agg #[.int .i64 b, .int .i64 t, .int .i64 L, .int .i64 k, .bool back, .int .i64 s', .int .u64 oq, .bool false], .slice (some ⟨g', o', none⟩) n c', .bool wait, .int .i64 no]) (fun w2 => Frm [] w' w2 ∧ Rd w2 (.slice (some ⟨g', o', none⟩) n c') (u64s ws') ∧ (g' = g ∨ w'.heap.size ≤ g')) e0 w2)))
    (HS : Hid (∀ w', Frm [] w w' → Calls Try.prog (fStep back) #[.pointer (some ⟨q, 0, none⟩), .iface 29 (.pointer (some ⟨p, 0, none⟩))] w' (Ret (.tuple #[.bool wait, .int .i64 no]) (Aftr p d cc q back b t L k w' ws' s' oq false))))
    (hn : Hid (ws'.length = n)) (hgl : g < w.heap.size) (hgd : g ≠ d) (hgq : g ≠ q) (hpl : p < w.heap.size) (hd : d < w.heap.size) (hq : q < w.heap.size) (hp : q ≠ p) :
    Calls Try.prog 13 #[.iface (Ip back) (.pointer (some ⟨q, 0, none⟩)), .agg #[.int .i64 b, .int .i64 t, .int .i64 L, .int .i64 k, .bool back, .int .i64 s, .int .u64 o, .bool e], .pointer (some ⟨p, 0, none⟩), .slice (some ⟨g, oo, none⟩) n c] w
      (fun e0 w' => ∃ g' o' c', Ret (.tuple #[.agg #[.int .i64 b, .int .i64 t, .int .i64 L, .int .i64 k, .bool back, .int .i64 s', .int .u64 oq, .bool false], .slice (some ⟨g', o', none⟩) n c', .bool true]) (fun w' => Aftr p d cc q back b t L k w ws' s' oq false w' ∧ Rd w' (.slice (some ⟨g', o', none⟩) n c') (u64s ws') ∧ (g' = g ∨ w.heap.size ≤ g')) e0 w') := by
  have m1 := m_Step back q
  have h1 := c_Step back
  have m2 := m_Done back q
  have h2 := c_Done back
  have m3 := m_Result back q
  have h3 := c_Result back
  have t1 : (wait == wait) = true := by simp
  have t2 : (no == no) = true := by simp
  obtain ⟨X, hX⟩ : ∃ X, X = (w.alloc (.cells #[.int .i64 b, .int .i64 t, .int .i64 L, .int .i64 k, .bool back, .int .i64 s, .int .u64 o, .bool e] 42)).alloc (.cells #[.int .i64 0, .int .i64 0, .int .i64 0, .int .i64 0, .bool false, .int .i64 0, .int .u64 0, .bool false] 42) := ⟨_, rfl⟩
  have hFX : Frm [] w X := by rw [hX]; exact ((Frm.refl _ _).alloc _).alloc _
  have hb0 : X.heap[w.heap.size]? = some (.cells #[.int .i64 b, .int .i64 t, .int .i64 L, .int .i64 k, .bool back, .int .i64 s, .int .u64 o, .bool e] 42 (0, 0)) := by rw [hX]; exact heap_alloc_old _ (heap_alloc_new _ _)
  have hb1 : X.heap[w.heap.size + 1]? = some (.cells #[.int .i64 0, .int .i64 0, .int .i64 0, .int .i64 0, .bool false, .int .i64 0, .int .u64 0, .bool false] 42 (0, 0)) := by rw [hX]; exact heap_alloc_at _ (by simp)
  have hxs : X.heap.size = w.heap.size + 2 := by rw [hX]; simp
  obtain ⟨c0, c1, c2, c3, c4, c5, c6, c7⟩ := cells8 hb0
  have HFX := Lib.hid hFX
  have HB1 := Lib.hid hb1
  have HXS := Lib.hid hxs
  clear hFX hb0 hb1 hxs
  go_enter Try.func13, Try.ntmps13
  go_wp2_with fail
  rw [← hX]
  clear hX
  refine (HN.out _ HFX.out).mono ?_
  rintro e w1 ⟨g', o', c', rfl, g1, hrd, hgg⟩
  have hg2 : g' ≠ d ∧ g' ≠ q ∧ g' ≠ w.heap.size + 1 ∧ (g' = g ∨ w.heap.size ≤ g') := by
    have := HXS.out
    rcases hgg with h | h
    · subst h
      exact ⟨hgd, hgq, by omega, .inl rfl⟩
    · exact ⟨by omega, by omega, by omega, .inr (by omega)⟩
  have hw1 := g1.size
  have HG1 := Lib.hid g1
  have HRD := Lib.hid hrd
  have HG2 := Lib.hid hg2
  clear c0 c1 c2 c3 c4 c5 c6 c7 g1 hrd hgg hg2
  go_wp2_with fail
  obtain ⟨Y, hY⟩ : ∃ Y, Y = w1.alloc (.cells #[.int .i64 b, .int .i64 t, .int .i64 L, .int .i64 k, .bool back, .int .i64 s', .int .u64 oq, .bool false] 42) := ⟨_, rfl⟩
  have hFY : Frm [] w1 Y := by rw [hY]; exact (Frm.refl _ _).alloc _
  have hy0 : Y.heap[w1.heap.size]? = some (.cells #[.int .i64 b, .int .i64 t, .int .i64 L, .int .i64 k, .bool back, .int .i64 s', .int .u64 oq, .bool false] 42 (0, 0)) := by rw [hY]; exact heap_alloc_new _ _
  rw [← hY]
  clear hY
  have HFY := Lib.hid (HFX.out.trans (HG1.out.trans hFY))
  have HY0 := Lib.hid hy0
  have HY1 := Lib.hid (((HG1.out.trans hFY).heap HB1.out (by simp)))
  have hm1 : w.heap.size + 2 ≤ w1.heap.size := by have := HXS.out; omega
  replace HRD := Lib.hid (HRD.out.frm hFY (by simp))
  clear hFY hy0 hw1
  refine (HS.out _ HFY.out).mono ?_
  rintro e w2 ⟨rfl, hF2, hM2, hR2⟩
  replace HRD := Lib.hid (HRD.out.frm hF2 (by
    intro y hy; simp [Value.ownBlock] at hy; subst hy; have := HG2.out; simp; exact ⟨this.1, this.2.1⟩))
  have hy0 := hF2.heap HY0.out (by simp; omega)
  have hy1 := hF2.heap HY1.out (by simp; omega)
  have HF2 := Lib.hid (HFY.out.nil.trans hF2)
  have HM2 := Lib.hid hM2
  have HR2 := Lib.hid hR2
  obtain ⟨c0, c1, c2, c3, c4, c5, c6, c7⟩ := cells8 hy0
  replace HY0 := Lib.hid hy0
  replace HY1 := Lib.hid hy1
  clear hF2 hM2 hR2 hy0 hy1 m1 h1
  go_wp2_with fail
  have hKL : ∀ w', Frm [w.heap.size + 1] w2 w' → w'.heap[w1.heap.size]? = _ := fun w' hf => hf.heap HY0.out (by simp; omega)
  have HK := Lib.hid hKL
  clear hKL c0 c1 c2 c3 c4 c5 c6 c7
  refine wp_region_noPanic ?_
  refine wp_region_held_drew (S := fun w' => Frm [w.heap.size + 1] w2 w') (by kernel_rfl) ((Frm.refl _ _).drew) (fun hHeld => ?_)
  refine take_in (i := 0) (d := 35) (v := .agg #[.int .i64 b, .int .i64 t, .int .i64 L, .int .i64 k, .bool back, .int .i64 s', .int .u64 oq, .bool false]) rfl rfl (by kernel_rfl) (by kernel_rfl) (by kernel_rfl) (fun _ _ _ h => h) (by kernel_rfl) (fun w' hS => by have hS' : Frm [w.heap.size + 1] w2 w' := hS; obtain ⟨c0, c1, c2, c3, c4, c5, c6, c7⟩ := cells8 (HK.out w' hS'); go_simp) (by assumption) ?_
  try simp only [Act.put, List.setIfInBounds_toArray, List.set_cons_zero, List.set_cons_succ]
  refine take_in (i := 1) (d := 36) (v := .slice (some ⟨g', o', none⟩) n c') rfl rfl (by kernel_rfl) (by kernel_rfl) (by kernel_rfl) (fun _ _ _ h => h) (by kernel_rfl) (fun _ _ => rfl) (by assumption) ?_
  try simp only [Act.put, List.setIfInBounds_toArray, List.set_cons_zero, List.set_cons_succ]
  refine take_in (i := 2) (d := 37) (v := .bool wait) rfl rfl (by kernel_rfl) (by kernel_rfl) (by kernel_rfl) (fun _ _ _ h => h) (by kernel_rfl) (fun _ _ => rfl) (by assumption) ?_
  try simp only [Act.put, List.setIfInBounds_toArray, List.set_cons_zero, List.set_cons_succ]
  refine take_in (i := 3) (d := 38) (v := .bool wait) rfl rfl (by kernel_rfl) (by kernel_rfl) (by kernel_rfl) (fun _ _ _ h => h) (by kernel_rfl) (fun _ _ => rfl) (by assumption) ?_
  try simp only [Act.put, List.setIfInBounds_toArray, List.set_cons_zero, List.set_cons_succ]
  refine take_in (i := 4) (d := 39) (v := .bool (wait == wait)) rfl rfl (by kernel_rfl) (by kernel_rfl) (by kernel_rfl) (fun _ _ _ h => h) (by kernel_rfl) (fun _ _ => rfl) (by assumption) ?_
  try simp only [Act.put, List.setIfInBounds_toArray, List.set_cons_zero, List.set_cons_succ, t1]
  refine take_in (i := 5) (d := 40) (v := .bool true) rfl rfl (by kernel_rfl) (by kernel_rfl) (by kernel_rfl) (fun _ _ _ h => h) (by kernel_rfl) (fun _ _ => rfl) (by assumption) ?_
  try simp only [Act.put, List.setIfInBounds_toArray, List.set_cons_zero, List.set_cons_succ]
  refine take_in (i := 6) (d := 41) (v := .int .i64 no) rfl rfl (by kernel_rfl) (by kernel_rfl) (by kernel_rfl) (fun _ _ _ h => h) (by kernel_rfl) (fun _ _ => rfl) (by assumption) ?_
  try simp only [Act.put, List.setIfInBounds_toArray, List.set_cons_zero, List.set_cons_succ]
  refine take_in (i := 7) (d := 42) (v := .int .i64 no) rfl rfl (by kernel_rfl) (by kernel_rfl) (by kernel_rfl) (fun _ _ _ h => h) (by kernel_rfl) (fun _ _ => rfl) (by assumption) ?_
  try simp only [Act.put, List.setIfInBounds_toArray, List.set_cons_zero, List.set_cons_succ]
  refine take_in (i := 8) (d := 43) (v := .bool (no == no)) rfl rfl (by kernel_rfl) (by kernel_rfl) (by kernel_rfl) (fun _ _ _ h => h) (by kernel_rfl) (fun _ _ => rfl) (by assumption) ?_
  try simp only [Act.put, List.setIfInBounds_toArray, List.set_cons_zero, List.set_cons_succ, t2]
  refine take_in (i := 9) (d := 44) (v := .bool true) rfl rfl (by kernel_rfl) (by kernel_rfl) (by kernel_rfl) (fun _ _ _ h => h) (by kernel_rfl) (fun _ _ => rfl) (by assumption) ?_
  try simp only [Act.put, List.setIfInBounds_toArray, List.set_cons_zero, List.set_cons_succ]
  refine take_in (i := 10) (d := 45) (v := .bool true) rfl rfl (by kernel_rfl) (by kernel_rfl) (by kernel_rfl) (fun _ _ _ h => h) (by kernel_rfl) (fun _ _ => rfl) (by assumption) ?_
  try simp only [Act.put, List.setIfInBounds_toArray, List.set_cons_zero, List.set_cons_succ]
  refine take_in (i := 11) (d := 46) (v := .iface (Ip back) (.pointer (some ⟨q, 0, none⟩))) rfl rfl (by kernel_rfl) (by kernel_rfl) (by kernel_rfl) (fun _ _ _ h => h) (by kernel_rfl) (fun _ _ => rfl) (by assumption) ?_
  try simp only [Act.put, List.setIfInBounds_toArray, List.set_cons_zero, List.set_cons_succ]
  refine take_in (i := 13) (d := 48) (v := .pointer (some ⟨w1.heap.size, 7, none⟩)) rfl rfl (by kernel_rfl) (by kernel_rfl) (by kernel_rfl) (fun _ _ _ h => h) (by kernel_rfl) (fun _ _ => rfl) (by assumption) ?_
  try simp only [Act.put, List.setIfInBounds_toArray, List.set_cons_zero, List.set_cons_succ]
  refine take_in (i := 14) (d := 49) (v := .bool false) rfl rfl (by kernel_rfl) (by kernel_rfl) (by kernel_rfl) (fun _ _ _ h => h) (by kernel_rfl) (fun w' hS => by have hS' : Frm [w.heap.size + 1] w2 w' := hS; obtain ⟨c0, c1, c2, c3, c4, c5, c6, c7⟩ := cells8 (HK.out w' hS'); go_simp) (by assumption) ?_
  try simp only [Act.put, List.setIfInBounds_toArray, List.set_cons_zero, List.set_cons_succ]
  refine wpAnyH_ready (rs := [12]) (by kernel_rfl) (by simp) ?_
  refine AllReadyH.cons rfl (fun K hK => ?_) AllReadyH.nil
  go_simp
  refine (Done_any (HR2.out.frm (D := []) (by (repeat' (first | assumption | exact Frm.refl _ _ | apply Frm.drew | apply Frm.drewN))) (by simp))).mono ?_
  rintro e x1 ⟨rfl, rfl⟩
  refine hK.out _ _ (by assumption) (fun hHeld => ?_)
  clear hK K
  try change wpAnyH _ _ _ _ _ _ _ (Act.put _ (some 47) _) _
  try simp only [Act.put, List.setIfInBounds_toArray, List.set_cons_zero, List.set_cons_succ]
  refine take_in (i := 15) (d := 50) (v := .bool true) rfl rfl (by kernel_rfl) (by kernel_rfl) (by kernel_rfl) (fun _ _ _ h => h) (by kernel_rfl) (fun _ _ => rfl) (by assumption) ?_
  try simp only [Act.put, List.setIfInBounds_toArray, List.set_cons_zero, List.set_cons_succ]
  refine take_in (i := 16) (d := 51) (v := .bool true) rfl rfl (by kernel_rfl) (by kernel_rfl) (by kernel_rfl) (fun _ _ _ h => h) (by kernel_rfl) (fun _ _ => rfl) (by assumption) ?_
  try simp only [Act.put, List.setIfInBounds_toArray, List.set_cons_zero, List.set_cons_succ]
  refine take_in (i := 17) (d := 52) (v := .bool true) rfl rfl (by kernel_rfl) (by kernel_rfl) (by kernel_rfl) (fun _ _ _ h => h) (by kernel_rfl) (fun _ _ => rfl) (by assumption) ?_
  try simp only [Act.put, List.setIfInBounds_toArray, List.set_cons_zero, List.set_cons_succ]
  refine take_in (i := 18) (d := 53) (v := .iface (Ip back) (.pointer (some ⟨q, 0, none⟩))) rfl rfl (by kernel_rfl) (by kernel_rfl) (by kernel_rfl) (fun _ _ _ h => h) (by kernel_rfl) (fun _ _ => rfl) (by assumption) ?_
  try simp only [Act.put, List.setIfInBounds_toArray, List.set_cons_zero, List.set_cons_succ]
  refine take_in (i := 20) (d := 55) (v := .int .u64 0) rfl rfl (by kernel_rfl) (by kernel_rfl) (by kernel_rfl) (fun _ _ _ h => h) (by kernel_rfl) (fun _ _ => rfl) (by assumption) ?_
  try simp only [Act.put, List.setIfInBounds_toArray, List.set_cons_zero, List.set_cons_succ]
  refine wpAnyH_ready (rs := [19]) (by kernel_rfl) (by simp) ?_
  refine AllReadyH.cons rfl (fun K hK => ?_) AllReadyH.nil
  go_simp
  refine (Result_any (HR2.out.frm (D := []) (by (repeat' (first | assumption | exact Frm.refl _ _ | apply Frm.drew | apply Frm.drewN))) (by simp))).mono ?_
  rintro e x1 ⟨rfl, rfl⟩
  refine hK.out _ _ (by assumption) (fun hHeld => ?_)
  clear hK K
  try change wpAnyH _ _ _ _ _ _ _ (Act.put _ (some 54) _) _
  try simp only [Act.put, List.setIfInBounds_toArray, List.set_cons_zero, List.set_cons_succ]
  refine take_in (i := 21) (d := 56) (v := .bool true) rfl rfl (by kernel_rfl) (by kernel_rfl) (by kernel_rfl) (fun _ _ _ h => h) (by kernel_rfl) (fun _ _ => rfl) (by assumption) ?_
  try simp only [Act.put, List.setIfInBounds_toArray, List.set_cons_zero, List.set_cons_succ]
  refine take_in (i := 22) (d := 57) (v := .bool true) rfl rfl (by kernel_rfl) (by kernel_rfl) (by kernel_rfl) (fun _ _ _ h => h) (by kernel_rfl) (fun _ _ => rfl) (by assumption) ?_
  try simp only [Act.put, List.setIfInBounds_toArray, List.set_cons_zero, List.set_cons_succ]
  refine take_in (i := 23) (d := 58) (v := .bool true) rfl rfl (by kernel_rfl) (by kernel_rfl) (by kernel_rfl) (fun _ _ _ h => h) (by kernel_rfl) (fun _ _ => rfl) (by assumption) ?_
  try simp only [Act.put, List.setIfInBounds_toArray, List.set_cons_zero, List.set_cons_succ]
  refine take_in (i := 24) (d := 59) (v := .pointer (some ⟨p, 0, none⟩)) rfl rfl (by kernel_rfl) (by kernel_rfl) (by kernel_rfl) (fun _ _ _ h => h) (by kernel_rfl) (fun _ _ => rfl) (by assumption) ?_
  try simp only [Act.put, List.setIfInBounds_toArray, List.set_cons_zero, List.set_cons_succ]
  refine take_in (i := 25) (d := 60) (v := .slice (some ⟨g', o', none⟩) n c') rfl rfl (by kernel_rfl) (by kernel_rfl) (by kernel_rfl) (fun _ _ _ h => h) (by kernel_rfl) (fun _ _ => rfl) (by assumption) ?_
  try simp only [Act.put, List.setIfInBounds_toArray, List.set_cons_zero, List.set_cons_succ]
  refine wpAnyH_ready (rs := [26]) (by kernel_rfl) (by simp) ?_
  refine AllReadyH.cons rfl (fun K hK => ?_) AllReadyH.nil
  go_simp
  refine (same_ok (HM2.out.frm (D := []) (by (repeat' (first | assumption | exact Frm.refl _ _ | apply Frm.drew | apply Frm.drewN))) (by simp) (by simp)) (HRD.out.frm (D := []) (by (repeat' (first | assumption | exact Frm.refl _ _ | apply Frm.drew | apply Frm.drewN))) (by simp)) hn.out rfl).mono ?_
  rintro e x1 ⟨rfl, g1⟩
  have g0 : Frm [] w2 x1 := Frm.trans (by (repeat' (first | assumption | exact Frm.refl _ _ | apply Frm.drew | apply Frm.drewN))) g1
  have hb1 := g0.heap HY1.out (by simp)
  obtain ⟨r0, r1, r2, r3, r4, r5, r6, r7⟩ := cells8 hb1
  have f2 : ∀ i, x1.frozen? ⟨w.heap.size + 1, i, none⟩ = false := fun i => frozen_of_heap hb1
  have HD1 := Lib.hid hb1
  have HG0 := Lib.hid g0
  have g2 : Frm [w.heap.size + 1] w2 x1 := g0.nil
  clear hb1 g0 g1
  refine hK.out _ _ (g2) (fun hHeld => ?_)
  clear hK K
  try change wpAnyH _ _ _ _ _ _ _ (Act.put _ (some 61) _) _
  try simp only [Act.put, List.setIfInBounds_toArray, List.set_cons_zero, List.set_cons_succ]
  refine take_in (i := 27) (d := 62) (v := .bool true) rfl rfl (by kernel_rfl) (by kernel_rfl) (by kernel_rfl) (fun _ _ _ h => h) (by kernel_rfl) (fun _ _ => rfl) (by assumption) ?_
  try simp only [Act.put, List.setIfInBounds_toArray, List.set_cons_zero, List.set_cons_succ]
  refine wpAnyH_ready (rs := [28]) (by kernel_rfl) (by simp) ?_
  refine AllReadyH.cons rfl (fun K hK => ?_) AllReadyH.nil
  go_simp
  refine hK.out _ _ (Frm.set8 g2 _ _ _ _ _ _ _ _ _ (.inl (by simp))) (fun hHeld => ?_)
  clear hK K
  try simp only [Act.put, List.setIfInBounds_toArray, List.set_cons_zero, List.set_cons_succ]
  refine take_in (i := 29) (d := 9) (v := .slice (some ⟨g', o', none⟩) n c') rfl rfl (by kernel_rfl) (by kernel_rfl) (by kernel_rfl) (fun _ _ _ h => h) (by kernel_rfl) (fun _ _ => rfl) (by assumption) ?_
  try simp only [Act.put, List.setIfInBounds_toArray, List.set_cons_zero, List.set_cons_succ]
  refine take_in (i := 30) (d := 10) (v := .bool true) rfl rfl (by kernel_rfl) (by kernel_rfl) (by kernel_rfl) (fun _ _ _ h => h) (by kernel_rfl) (fun _ _ => rfl) (by assumption) ?_
  try simp only [Act.put, List.setIfInBounds_toArray, List.set_cons_zero, List.set_cons_succ]
  refine wpAnyH_done (by kernel_rfl) ?_ _
  refine NoPanic.normal ?_
  have hR := setCells8 (b := w.heap.size + 1) HD1.out (.int .i64 b) (.int .i64 t) (.int .i64 L) (.int .i64 k) (.bool back) (.int .i64 s') (.int .u64 oq) (.bool false)
  have hFr := Frm.set8 (Frm.refl [w.heap.size + 1] x1) (w.heap.size + 1) (.int .i64 b) (.int .i64 t) (.int .i64 L) (.int .i64 k) (.bool back) (.int .i64 s') (.int .u64 oq) (.bool false) (.inl (by simp))
  obtain ⟨k0, k1, k2, k3, k4, k5, k6, k7⟩ := cells8 hR
  clear hR r0 r1 r2 r3 r4 r5 r6 r7 f2 t1 t2 g2
  have hg3 := HG2.out
  have hF9 : Frm [d, q] w _ := ((HF2.out.trans HG0.out.nil).trans_new hFr (by simp))
  have hM9 := (HM2.out.frm HG0.out (by simp) (by simp)).frm hFr (by simp; omega) (by simp; omega)
  go_wp2
  exact bodyPost_ret (v := .tuple #[.agg #[.int .i64 b, .int .i64 t, .int .i64 L, .int .i64 k, .bool back, .int .i64 s', .int .u64 oq, .bool false], .slice (some ⟨g', o', none⟩) n c', .bool true]) (by simp [results, Try.results13, go_sem, k0, k1, k2, k3, k4, k5, k6, k7]) rfl ⟨g', o', c', rfl, ⟨hF9, hM9, (HR2.out.frm HG0.out (by simp)).frm hFr (by simp; omega)⟩, (HRD.out.frm HG0.out (by simp)).frm hFr (by intro y hy; simp [Value.ownBlock] at hy; subst hy; simp; exact hg3.2.2.1), hg3.2.2.2⟩


set_option maxRecDepth 100000 in
set_option maxHeartbeats 400000 in
theorem does_true {w : World} {b t L k : Nat} {ws' : List Int} {back e wait : Bool} {s o s' oq no : Int} {n g oo c p d cc q : Nat}
    (HN : Hid (∀ w', Frm [] w w' → Calls Try.prog 28 #[.agg #[.int .i64 b, .int .i64 t, .int .i64 L, .int .i64 k, .bool back, .int .i64 s, .int .u64 o, .bool e], .slice (some ⟨g, oo, none⟩) n c] w' (fun e0 w2 => ∃ g' o' c', Ret (.tuple #[.agg #[.int .i64 b, .int .i64 t, .int .i64 L, .int .i64 k, .bool back, .int .i64 s', .int .u64 oq, .bool true], .slice (some ⟨g', o', none⟩) n c', .bool wait, .int .i64 no]) (fun w2 => Frm [] w' w2 ∧ Rd w2 (.slice (some ⟨g', o', none⟩) n c') (u64s ws') ∧ (g' = g ∨ w'.heap.size ≤ g')) e0 w2)))
    (HS : Hid (∀ w', Frm [] w w' → Calls Try.prog (fStep back) #[.pointer (some ⟨q, 0, none⟩), .iface 29 (.pointer (some ⟨p, 0, none⟩))] w' (Ret (.tuple #[.bool wait, .int .i64 no]) (Aftr p d cc q back b t L k w' ws' s' oq true))))
    (hn : Hid (ws'.length = n)) (hgl : g < w.heap.size) (hgd : g ≠ d) (hgq : g ≠ q) (hpl : p < w.heap.size) (hd : d < w.heap.size) (hq : q < w.heap.size) (hp : q ≠ p) :
    Calls Try.prog 13 #[.iface (Ip back) (.pointer (some ⟨q, 0, none⟩)), .agg #[.int .i64 b, .int .i64 t, .int .i64 L, .int .i64 k, .bool back, .int .i64 s, .int .u64 o, .bool e], .pointer (some ⟨p, 0, none⟩), .slice (some ⟨g, oo, none⟩) n c] w
      (fun e0 w' => ∃ g' o' c', Ret (.tuple #[.agg #[.int .i64 b, .int .i64 t, .int .i64 L, .int .i64 k, .bool back, .int .i64 s', .int .u64 oq, .bool true], .slice (some ⟨g', o', none⟩) n c', .bool true]) (fun w' => Aftr p d cc q back b t L k w ws' s' oq true w' ∧ Rd w' (.slice (some ⟨g', o', none⟩) n c') (u64s ws') ∧ (g' = g ∨ w.heap.size ≤ g')) e0 w') := by
  have m1 := m_Step back q
  have h1 := c_Step back
  have m2 := m_Done back q
  have h2 := c_Done back
  have m3 := m_Result back q
  have h3 := c_Result back
  have t1 : (wait == wait) = true := by simp
  have t2 : (no == no) = true := by simp
  obtain ⟨X, hX⟩ : ∃ X, X = (w.alloc (.cells #[.int .i64 b, .int .i64 t, .int .i64 L, .int .i64 k, .bool back, .int .i64 s, .int .u64 o, .bool e] 42)).alloc (.cells #[.int .i64 0, .int .i64 0, .int .i64 0, .int .i64 0, .bool false, .int .i64 0, .int .u64 0, .bool false] 42) := ⟨_, rfl⟩
  have hFX : Frm [] w X := by rw [hX]; exact ((Frm.refl _ _).alloc _).alloc _
  have hb0 : X.heap[w.heap.size]? = some (.cells #[.int .i64 b, .int .i64 t, .int .i64 L, .int .i64 k, .bool back, .int .i64 s, .int .u64 o, .bool e] 42 (0, 0)) := by rw [hX]; exact heap_alloc_old _ (heap_alloc_new _ _)
  have hb1 : X.heap[w.heap.size + 1]? = some (.cells #[.int .i64 0, .int .i64 0, .int .i64 0, .int .i64 0, .bool false, .int .i64 0, .int .u64 0, .bool false] 42 (0, 0)) := by rw [hX]; exact heap_alloc_at _ (by simp)
  have hxs : X.heap.size = w.heap.size + 2 := by rw [hX]; simp
  obtain ⟨c0, c1, c2, c3, c4, c5, c6, c7⟩ := cells8 hb0
  have HFX := Lib.hid hFX
  have HB1 := Lib.hid hb1
  have HXS := Lib.hid hxs
  clear hFX hb0 hb1 hxs
  go_enter Try.func13, Try.ntmps13
  go_wp2_with fail
  rw [← hX]
  clear hX
  refine (HN.out _ HFX.out).mono ?_
  rintro e w1 ⟨g', o', c', rfl, g1, hrd, hgg⟩
  have hg2 : g' ≠ d ∧ g' ≠ q ∧ g' ≠ w.heap.size + 1 ∧ (g' = g ∨ w.heap.size ≤ g') := by
    have := HXS.out
    rcases hgg with h | h
    · subst h
      exact ⟨hgd, hgq, by omega, .inl rfl⟩
    · exact ⟨by omega, by omega, by omega, .inr (by omega)⟩
  have hw1 := g1.size
  have HG1 := Lib.hid g1
  have HRD := Lib.hid hrd
  have HG2 := Lib.hid hg2
  clear c0 c1 c2 c3 c4 c5 c6 c7 g1 hrd hgg hg2
  go_wp2_with fail
  obtain ⟨Y, hY⟩ : ∃ Y, Y = w1.alloc (.cells #[.int .i64 b, .int .i64 t, .int .i64 L, .int .i64 k, .bool back, .int .i64 s', .int .u64 oq, .bool true] 42) := ⟨_, rfl⟩
  have hFY : Frm [] w1 Y := by rw [hY]; exact (Frm.refl _ _).alloc _
  have hy0 : Y.heap[w1.heap.size]? = some (.cells #[.int .i64 b, .int .i64 t, .int .i64 L, .int .i64 k, .bool back, .int .i64 s', .int .u64 oq, .bool true] 42 (0, 0)) := by rw [hY]; exact heap_alloc_new _ _
  rw [← hY]
  clear hY
  have HFY := Lib.hid (HFX.out.trans (HG1.out.trans hFY))
  have HY0 := Lib.hid hy0
  have HY1 := Lib.hid (((HG1.out.trans hFY).heap HB1.out (by simp)))
  have hm1 : w.heap.size + 2 ≤ w1.heap.size := by have := HXS.out; omega
  replace HRD := Lib.hid (HRD.out.frm hFY (by simp))
  clear hFY hy0 hw1
  refine (HS.out _ HFY.out).mono ?_
  rintro e w2 ⟨rfl, hF2, hM2, hR2⟩
  replace HRD := Lib.hid (HRD.out.frm hF2 (by
    intro y hy; simp [Value.ownBlock] at hy; subst hy; have := HG2.out; simp; exact ⟨this.1, this.2.1⟩))
  have hy0 := hF2.heap HY0.out (by simp; omega)
  have hy1 := hF2.heap HY1.out (by simp; omega)
  have HF2 := Lib.hid (HFY.out.nil.trans hF2)
  have HM2 := Lib.hid hM2
  have HR2 := Lib.hid hR2
  obtain ⟨c0, c1, c2, c3, c4, c5, c6, c7⟩ := cells8 hy0
  replace HY0 := Lib.hid hy0
  replace HY1 := Lib.hid hy1
  clear hF2 hM2 hR2 hy0 hy1 m1 h1
  go_wp2_with fail
  have hKL : ∀ w', Frm [w.heap.size + 1] w2 w' → w'.heap[w1.heap.size]? = _ := fun w' hf => hf.heap HY0.out (by simp; omega)
  have HK := Lib.hid hKL
  clear hKL c0 c1 c2 c3 c4 c5 c6 c7
  refine wp_region_noPanic ?_
  refine wp_region_held_drew (S := fun w' => Frm [w.heap.size + 1] w2 w') (by kernel_rfl) ((Frm.refl _ _).drew) (fun hHeld => ?_)
  refine take_in (i := 0) (d := 35) (v := .agg #[.int .i64 b, .int .i64 t, .int .i64 L, .int .i64 k, .bool back, .int .i64 s', .int .u64 oq, .bool true]) rfl rfl (by kernel_rfl) (by kernel_rfl) (by kernel_rfl) (fun _ _ _ h => h) (by kernel_rfl) (fun w' hS => by have hS' : Frm [w.heap.size + 1] w2 w' := hS; obtain ⟨c0, c1, c2, c3, c4, c5, c6, c7⟩ := cells8 (HK.out w' hS'); go_simp) (by assumption) ?_
  try simp only [Act.put, List.setIfInBounds_toArray, List.set_cons_zero, List.set_cons_succ]
  refine take_in (i := 1) (d := 36) (v := .slice (some ⟨g', o', none⟩) n c') rfl rfl (by kernel_rfl) (by kernel_rfl) (by kernel_rfl) (fun _ _ _ h => h) (by kernel_rfl) (fun _ _ => rfl) (by assumption) ?_
  try simp only [Act.put, List.setIfInBounds_toArray, List.set_cons_zero, List.set_cons_succ]
  refine take_in (i := 2) (d := 37) (v := .bool wait) rfl rfl (by kernel_rfl) (by kernel_rfl) (by kernel_rfl) (fun _ _ _ h => h) (by kernel_rfl) (fun _ _ => rfl) (by assumption) ?_
  try simp only [Act.put, List.setIfInBounds_toArray, List.set_cons_zero, List.set_cons_succ]
  refine take_in (i := 3) (d := 38) (v := .bool wait) rfl rfl (by kernel_rfl) (by kernel_rfl) (by kernel_rfl) (fun _ _ _ h => h) (by kernel_rfl) (fun _ _ => rfl) (by assumption) ?_
  try simp only [Act.put, List.setIfInBounds_toArray, List.set_cons_zero, List.set_cons_succ]
  refine take_in (i := 4) (d := 39) (v := .bool (wait == wait)) rfl rfl (by kernel_rfl) (by kernel_rfl) (by kernel_rfl) (fun _ _ _ h => h) (by kernel_rfl) (fun _ _ => rfl) (by assumption) ?_
  try simp only [Act.put, List.setIfInBounds_toArray, List.set_cons_zero, List.set_cons_succ, t1]
  refine take_in (i := 5) (d := 40) (v := .bool true) rfl rfl (by kernel_rfl) (by kernel_rfl) (by kernel_rfl) (fun _ _ _ h => h) (by kernel_rfl) (fun _ _ => rfl) (by assumption) ?_
  try simp only [Act.put, List.setIfInBounds_toArray, List.set_cons_zero, List.set_cons_succ]
  refine take_in (i := 6) (d := 41) (v := .int .i64 no) rfl rfl (by kernel_rfl) (by kernel_rfl) (by kernel_rfl) (fun _ _ _ h => h) (by kernel_rfl) (fun _ _ => rfl) (by assumption) ?_
  try simp only [Act.put, List.setIfInBounds_toArray, List.set_cons_zero, List.set_cons_succ]
  refine take_in (i := 7) (d := 42) (v := .int .i64 no) rfl rfl (by kernel_rfl) (by kernel_rfl) (by kernel_rfl) (fun _ _ _ h => h) (by kernel_rfl) (fun _ _ => rfl) (by assumption) ?_
  try simp only [Act.put, List.setIfInBounds_toArray, List.set_cons_zero, List.set_cons_succ]
  refine take_in (i := 8) (d := 43) (v := .bool (no == no)) rfl rfl (by kernel_rfl) (by kernel_rfl) (by kernel_rfl) (fun _ _ _ h => h) (by kernel_rfl) (fun _ _ => rfl) (by assumption) ?_
  try simp only [Act.put, List.setIfInBounds_toArray, List.set_cons_zero, List.set_cons_succ, t2]
  refine take_in (i := 9) (d := 44) (v := .bool true) rfl rfl (by kernel_rfl) (by kernel_rfl) (by kernel_rfl) (fun _ _ _ h => h) (by kernel_rfl) (fun _ _ => rfl) (by assumption) ?_
  try simp only [Act.put, List.setIfInBounds_toArray, List.set_cons_zero, List.set_cons_succ]
  refine take_in (i := 10) (d := 45) (v := .bool true) rfl rfl (by kernel_rfl) (by kernel_rfl) (by kernel_rfl) (fun _ _ _ h => h) (by kernel_rfl) (fun _ _ => rfl) (by assumption) ?_
  try simp only [Act.put, List.setIfInBounds_toArray, List.set_cons_zero, List.set_cons_succ]
  refine take_in (i := 11) (d := 46) (v := .iface (Ip back) (.pointer (some ⟨q, 0, none⟩))) rfl rfl (by kernel_rfl) (by kernel_rfl) (by kernel_rfl) (fun _ _ _ h => h) (by kernel_rfl) (fun _ _ => rfl) (by assumption) ?_
  try simp only [Act.put, List.setIfInBounds_toArray, List.set_cons_zero, List.set_cons_succ]
  refine take_in (i := 13) (d := 48) (v := .pointer (some ⟨w1.heap.size, 7, none⟩)) rfl rfl (by kernel_rfl) (by kernel_rfl) (by kernel_rfl) (fun _ _ _ h => h) (by kernel_rfl) (fun _ _ => rfl) (by assumption) ?_
  try simp only [Act.put, List.setIfInBounds_toArray, List.set_cons_zero, List.set_cons_succ]
  refine take_in (i := 14) (d := 49) (v := .bool true) rfl rfl (by kernel_rfl) (by kernel_rfl) (by kernel_rfl) (fun _ _ _ h => h) (by kernel_rfl) (fun w' hS => by have hS' : Frm [w.heap.size + 1] w2 w' := hS; obtain ⟨c0, c1, c2, c3, c4, c5, c6, c7⟩ := cells8 (HK.out w' hS'); go_simp) (by assumption) ?_
  try simp only [Act.put, List.setIfInBounds_toArray, List.set_cons_zero, List.set_cons_succ]
  refine wpAnyH_ready (rs := [12]) (by kernel_rfl) (by simp) ?_
  refine AllReadyH.cons rfl (fun K hK => ?_) AllReadyH.nil
  go_simp
  refine (Done_any (HR2.out.frm (D := []) (by (repeat' (first | assumption | exact Frm.refl _ _ | apply Frm.drew | apply Frm.drewN))) (by simp))).mono ?_
  rintro e x1 ⟨rfl, rfl⟩
  refine hK.out _ _ (by assumption) (fun hHeld => ?_)
  clear hK K
  try change wpAnyH _ _ _ _ _ _ _ (Act.put _ (some 47) _) _
  try simp only [Act.put, List.setIfInBounds_toArray, List.set_cons_zero, List.set_cons_succ]
  refine take_in (i := 15) (d := 50) (v := .bool true) rfl rfl (by kernel_rfl) (by kernel_rfl) (by kernel_rfl) (fun _ _ _ h => h) (by kernel_rfl) (fun _ _ => rfl) (by assumption) ?_
  try simp only [Act.put, List.setIfInBounds_toArray, List.set_cons_zero, List.set_cons_succ]
  refine take_in (i := 16) (d := 51) (v := .bool true) rfl rfl (by kernel_rfl) (by kernel_rfl) (by kernel_rfl) (fun _ _ _ h => h) (by kernel_rfl) (fun _ _ => rfl) (by assumption) ?_
  try simp only [Act.put, List.setIfInBounds_toArray, List.set_cons_zero, List.set_cons_succ]
  refine take_in (i := 17) (d := 52) (v := .bool true) rfl rfl (by kernel_rfl) (by kernel_rfl) (by kernel_rfl) (fun _ _ _ h => h) (by kernel_rfl) (fun _ _ => rfl) (by assumption) ?_
  try simp only [Act.put, List.setIfInBounds_toArray, List.set_cons_zero, List.set_cons_succ]
  refine take_in (i := 18) (d := 53) (v := .iface (Ip back) (.pointer (some ⟨q, 0, none⟩))) rfl rfl (by kernel_rfl) (by kernel_rfl) (by kernel_rfl) (fun _ _ _ h => h) (by kernel_rfl) (fun _ _ => rfl) (by assumption) ?_
  try simp only [Act.put, List.setIfInBounds_toArray, List.set_cons_zero, List.set_cons_succ]
  refine take_in (i := 20) (d := 55) (v := .int .u64 1) rfl rfl (by kernel_rfl) (by kernel_rfl) (by kernel_rfl) (fun _ _ _ h => h) (by kernel_rfl) (fun _ _ => rfl) (by assumption) ?_
  try simp only [Act.put, List.setIfInBounds_toArray, List.set_cons_zero, List.set_cons_succ]
  refine wpAnyH_ready (rs := [19]) (by kernel_rfl) (by simp) ?_
  refine AllReadyH.cons rfl (fun K hK => ?_) AllReadyH.nil
  go_simp
  refine (Result_any (HR2.out.frm (D := []) (by (repeat' (first | assumption | exact Frm.refl _ _ | apply Frm.drew | apply Frm.drewN))) (by simp))).mono ?_
  rintro e x1 ⟨rfl, rfl⟩
  refine hK.out _ _ (by assumption) (fun hHeld => ?_)
  clear hK K
  try change wpAnyH _ _ _ _ _ _ _ (Act.put _ (some 54) _) _
  try simp only [Act.put, List.setIfInBounds_toArray, List.set_cons_zero, List.set_cons_succ]
  refine take_in (i := 21) (d := 56) (v := .bool true) rfl rfl (by kernel_rfl) (by kernel_rfl) (by kernel_rfl) (fun _ _ _ h => h) (by kernel_rfl) (fun _ _ => rfl) (by assumption) ?_
  try simp only [Act.put, List.setIfInBounds_toArray, List.set_cons_zero, List.set_cons_succ]
  refine take_in (i := 22) (d := 57) (v := .bool true) rfl rfl (by kernel_rfl) (by kernel_rfl) (by kernel_rfl) (fun _ _ _ h => h) (by kernel_rfl) (fun _ _ => rfl) (by assumption) ?_
  try simp only [Act.put, List.setIfInBounds_toArray, List.set_cons_zero, List.set_cons_succ]
  refine take_in (i := 23) (d := 58) (v := .bool true) rfl rfl (by kernel_rfl) (by kernel_rfl) (by kernel_rfl) (fun _ _ _ h => h) (by kernel_rfl) (fun _ _ => rfl) (by assumption) ?_
  try simp only [Act.put, List.setIfInBounds_toArray, List.set_cons_zero, List.set_cons_succ]
  refine take_in (i := 24) (d := 59) (v := .pointer (some ⟨p, 0, none⟩)) rfl rfl (by kernel_rfl) (by kernel_rfl) (by kernel_rfl) (fun _ _ _ h => h) (by kernel_rfl) (fun _ _ => rfl) (by assumption) ?_
  try simp only [Act.put, List.setIfInBounds_toArray, List.set_cons_zero, List.set_cons_succ]
  refine take_in (i := 25) (d := 60) (v := .slice (some ⟨g', o', none⟩) n c') rfl rfl (by kernel_rfl) (by kernel_rfl) (by kernel_rfl) (fun _ _ _ h => h) (by kernel_rfl) (fun _ _ => rfl) (by assumption) ?_
  try simp only [Act.put, List.setIfInBounds_toArray, List.set_cons_zero, List.set_cons_succ]
  refine wpAnyH_ready (rs := [26]) (by kernel_rfl) (by simp) ?_
  refine AllReadyH.cons rfl (fun K hK => ?_) AllReadyH.nil
  go_simp
  refine (same_ok (HM2.out.frm (D := []) (by (repeat' (first | assumption | exact Frm.refl _ _ | apply Frm.drew | apply Frm.drewN))) (by simp) (by simp)) (HRD.out.frm (D := []) (by (repeat' (first | assumption | exact Frm.refl _ _ | apply Frm.drew | apply Frm.drewN))) (by simp)) hn.out rfl).mono ?_
  rintro e x1 ⟨rfl, g1⟩
  have g0 : Frm [] w2 x1 := Frm.trans (by (repeat' (first | assumption | exact Frm.refl _ _ | apply Frm.drew | apply Frm.drewN))) g1
  have hb1 := g0.heap HY1.out (by simp)
  obtain ⟨r0, r1, r2, r3, r4, r5, r6, r7⟩ := cells8 hb1
  have f2 : ∀ i, x1.frozen? ⟨w.heap.size + 1, i, none⟩ = false := fun i => frozen_of_heap hb1
  have HD1 := Lib.hid hb1
  have HG0 := Lib.hid g0
  have g2 : Frm [w.heap.size + 1] w2 x1 := g0.nil
  clear hb1 g0 g1
  refine hK.out _ _ (g2) (fun hHeld => ?_)
  clear hK K
  try change wpAnyH _ _ _ _ _ _ _ (Act.put _ (some 61) _) _
  try simp only [Act.put, List.setIfInBounds_toArray, List.set_cons_zero, List.set_cons_succ]
  refine take_in (i := 27) (d := 62) (v := .bool true) rfl rfl (by kernel_rfl) (by kernel_rfl) (by kernel_rfl) (fun _ _ _ h => h) (by kernel_rfl) (fun _ _ => rfl) (by assumption) ?_
  try simp only [Act.put, List.setIfInBounds_toArray, List.set_cons_zero, List.set_cons_succ]
  refine wpAnyH_ready (rs := [28]) (by kernel_rfl) (by simp) ?_
  refine AllReadyH.cons rfl (fun K hK => ?_) AllReadyH.nil
  go_simp
  refine hK.out _ _ (Frm.set8 g2 _ _ _ _ _ _ _ _ _ (.inl (by simp))) (fun hHeld => ?_)
  clear hK K
  try simp only [Act.put, List.setIfInBounds_toArray, List.set_cons_zero, List.set_cons_succ]
  refine take_in (i := 29) (d := 9) (v := .slice (some ⟨g', o', none⟩) n c') rfl rfl (by kernel_rfl) (by kernel_rfl) (by kernel_rfl) (fun _ _ _ h => h) (by kernel_rfl) (fun _ _ => rfl) (by assumption) ?_
  try simp only [Act.put, List.setIfInBounds_toArray, List.set_cons_zero, List.set_cons_succ]
  refine take_in (i := 30) (d := 10) (v := .bool true) rfl rfl (by kernel_rfl) (by kernel_rfl) (by kernel_rfl) (fun _ _ _ h => h) (by kernel_rfl) (fun _ _ => rfl) (by assumption) ?_
  try simp only [Act.put, List.setIfInBounds_toArray, List.set_cons_zero, List.set_cons_succ]
  refine wpAnyH_done (by kernel_rfl) ?_ _
  refine NoPanic.normal ?_
  have hR := setCells8 (b := w.heap.size + 1) HD1.out (.int .i64 b) (.int .i64 t) (.int .i64 L) (.int .i64 k) (.bool back) (.int .i64 s') (.int .u64 oq) (.bool true)
  have hFr := Frm.set8 (Frm.refl [w.heap.size + 1] x1) (w.heap.size + 1) (.int .i64 b) (.int .i64 t) (.int .i64 L) (.int .i64 k) (.bool back) (.int .i64 s') (.int .u64 oq) (.bool true) (.inl (by simp))
  obtain ⟨k0, k1, k2, k3, k4, k5, k6, k7⟩ := cells8 hR
  clear hR r0 r1 r2 r3 r4 r5 r6 r7 f2 t1 t2 g2
  have hg3 := HG2.out
  have hF9 : Frm [d, q] w _ := ((HF2.out.trans HG0.out.nil).trans_new hFr (by simp))
  have hM9 := (HM2.out.frm HG0.out (by simp) (by simp)).frm hFr (by simp; omega) (by simp; omega)
  go_wp2
  exact bodyPost_ret (v := .tuple #[.agg #[.int .i64 b, .int .i64 t, .int .i64 L, .int .i64 k, .bool back, .int .i64 s', .int .u64 oq, .bool true], .slice (some ⟨g', o', none⟩) n c', .bool true]) (by simp [results, Try.results13, go_sem, k0, k1, k2, k3, k4, k5, k6, k7]) rfl ⟨g', o', c', rfl, ⟨hF9, hM9, (HR2.out.frm HG0.out (by simp)).frm hFr (by simp; omega)⟩, (HRD.out.frm HG0.out (by simp)).frm hFr (by intro y hy; simp [Value.ownBlock] at hy; subst hy; simp; exact hg3.2.2.1), hg3.2.2.2⟩



/-- does at a program that has not ended. -/
theorem does_any {w : World} {b t L k : Nat} {ws ws' : List Int} {back e' wait : Bool} {s o s' oq no : Int} {n g oo c p d cc q : Nat}
    (hM : MemAt w p d cc ws) (hR : PgR w q back b t L k s o false) (hn : ws.length = n) (h0 : 0 < n) (hrd : Rd w (.slice (some ⟨g, oo, none⟩) n c) (u64s ws)) (hgd : g ≠ d) (hgq : g ≠ q) (hd : q ≠ d) (hp : q ≠ p) (t64 : t ≤ 64) (fit : b + 6 * t ≤ 65536) (hk : k < 2 * t)
    (hS : Stp b t L k ws back s o e' s' oq ws' wait no) (hok : e' = false → Ok back s' oq) (hl : ws'.length = ws.length) :
    Calls Try.prog 13 #[.iface (Ip back) (.pointer (some ⟨q, 0, none⟩)), .agg #[.int .i64 b, .int .i64 t, .int .i64 L, .int .i64 k, .bool back, .int .i64 s, .int .u64 o, .bool false], .pointer (some ⟨p, 0, none⟩), .slice (some ⟨g, oo, none⟩) n c] w
      (fun e0 w' => ∃ g' o' c', Ret (.tuple #[.agg #[.int .i64 b, .int .i64 t, .int .i64 L, .int .i64 k, .bool back, .int .i64 s', .int .u64 oq, .bool e'], .slice (some ⟨g', o', none⟩) n c', .bool true]) (fun w' => Aftr p d cc q back b t L k w ws' s' oq e' w' ∧ Rd w' (.slice (some ⟨g', o', none⟩) n c') (u64s ws') ∧ (g' = g ∨ w.heap.size ≤ g')) e0 w') := by
  have hle : n ≤ 65536 := by have := hM.le; omega
  have HN := Lib.hid (fun w' (hf : Frm [] w w') => Next_any hn h0 (hrd.frm hf (by simp)) hle t64 fit hk hS)
  have HS := Lib.hid (fun w' (hf : Frm [] w w') => Step_any (hM.frm hf (by simp) (by simp)) (hR.frm hf (by simp)) hd hp hS hok)
  have hn' : Hid (ws'.length = n) := Lib.hid (hl.trans hn)
  cases e' with
  | false => exact does_false HN HS hn' hrd.cells.1 hgd hgq hM.plt hM.dlt hR.lt hp
  | true => exact does_true HN HS hn' hrd.cells.1 hgd hgq hM.plt hM.dlt hR.lt hp

#print axioms does_any
end Go.Proofs.Ytoieedlkffmcgaa
