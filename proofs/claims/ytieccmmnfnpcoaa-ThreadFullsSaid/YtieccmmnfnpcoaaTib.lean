/- Stage 12: slices.Clone of instructions and of runners. -/
import Derived.Test.YtieccmmnfnpcoaaTia
import Derived.Maps.AppendAt
namespace Go.Proofs.Ytieccmmnfnpcoaa
open Go.ChangeShapes Go.WideShapes Go.ChangeAt Go.RowKit
set_option linter.unusedVariables false

theorem clone_ins {w : World} {b o n : Nat} {xs : List Value} (hl : xs.length = n * 4) (hc : ∀ j u, xs[j]? = some u → w.cell? ⟨b, o + j, none⟩ = some u) (h1 : ∀ u ∈ xs, u.oneCell' = true) (hn : n ≤ 1000000) (hb : b < w.heap.size) (c : Nat) :
    Calls Try.prog 64 #[.slice (some ⟨b, o, none⟩) n c] w (fun e w' => ∃ v, Ret v (fun w' => Frm [] w w' ∧ w'.ownsRow w.heap.size 74 4 v n xs) e w') := by
  obtain ⟨i0, hi, hz0, hz1, hz2⟩ := info_parts i_ins
  have hown : (w.alloc (.cells #[] 74)).ownsRow w.heap.size 74 4 (.slice (some ⟨w.heap.size, 0, none⟩) 0 0) 0 [] :=
    ⟨by simp, .inr ⟨w.heap.size, 0, #[], rfl, Nat.le_refl _, heap_alloc_new _ _, by omega, by unfold maxLen; omega, by simp, by simp⟩⟩
  have hcell : ∀ j u, xs[j]? = some u → (w.alloc (.cells #[] 74)).cell? ((⟨b, o, none⟩ : Addr).add j) = some u := by
    intro j u hu
    rw [Addr.add_lit, World.cell?_alloc_past _ _ _ hb]
    exact hc j u hu
  have hnil := fun (w : World) => Lib.run_eql_slice_nil (P := Try.prog) w 71 74 (some ⟨b, o, none⟩) n c 0 0 u_ins
  have HC := Lib.hid hcell
  have H1 := Lib.hid h1
  have HL := Lib.hid hl
  clear hc hcell h1 hl
  go_enter Try.func64, Try.ntmps64
  go_wp2_with (at_builtin; go_loud (refine wpList_append_own _ rfl _ _ 71 rfl w.heap.size 74 i0 _ 4 32 u_ins hi hz0 hz1 hz2 (by rfl) (by decide) _ _ _ rfl hown ⟨b, o, none⟩ n c xs rfl HL.out HC.out H1.out (by unfold maxLen; omega) (by omega) (by simp) ?_); intro v' w1 hown' hgrow hnl)
  go_ret
  refine ⟨_, rfl, ?_, ?_⟩
  · exact ((Frm.refl _ _).alloc _).trans_new (Frm.grown hgrow (D := [w.heap.size]) (by intro k hk; cases hk; simp)) (by simp)
  · have : w1.ownsRow w.heap.size 74 4 v' (0 + n) ([] ++ xs) := hown'
    rw [Nat.zero_add, List.nil_append] at this
    exact this

theorem clone_run {w : World} {b o n : Nat} {xs : List Value} (hl : xs.length = n * 3) (hc : ∀ j u, xs[j]? = some u → w.cell? ⟨b, o + j, none⟩ = some u) (h1 : ∀ u ∈ xs, u.oneCell' = true) (hn : n ≤ 1000000) (hb : b < w.heap.size) (c : Nat) :
    Calls Try.prog 76 #[.slice (some ⟨b, o, none⟩) n c] w (fun e w' => ∃ v, Ret v (fun w' => Frm [] w w' ∧ w'.ownsRow w.heap.size 121 3 v n xs) e w') := by
  obtain ⟨i0, hi, hz0, hz1, hz2⟩ := info_parts i_run
  have hown : (w.alloc (.cells #[] 121)).ownsRow w.heap.size 121 3 (.slice (some ⟨w.heap.size, 0, none⟩) 0 0) 0 [] :=
    ⟨by simp, .inr ⟨w.heap.size, 0, #[], rfl, Nat.le_refl _, heap_alloc_new _ _, by omega, by unfold maxLen; omega, by simp, by simp⟩⟩
  have hcell : ∀ j u, xs[j]? = some u → (w.alloc (.cells #[] 121)).cell? ((⟨b, o, none⟩ : Addr).add j) = some u := by
    intro j u hu
    rw [Addr.add_lit, World.cell?_alloc_past _ _ _ hb]
    exact hc j u hu
  have hnil := fun (w : World) => Lib.run_eql_slice_nil (P := Try.prog) w 91 121 (some ⟨b, o, none⟩) n c 0 0 u_run
  have HC := Lib.hid hcell
  have H1 := Lib.hid h1
  have HL := Lib.hid hl
  clear hc hcell h1 hl
  go_enter Try.func76, Try.ntmps76
  go_wp2_with (at_builtin; go_loud (refine wpList_append_own _ rfl _ _ 91 rfl w.heap.size 121 i0 _ 3 32 u_run hi hz0 hz1 hz2 (by rfl) (by decide) _ _ _ rfl hown ⟨b, o, none⟩ n c xs rfl HL.out HC.out H1.out (by unfold maxLen; omega) (by omega) (by simp) ?_); intro v' w1 hown' hgrow hnl)
  go_ret
  refine ⟨_, rfl, ?_, ?_⟩
  · exact ((Frm.refl _ _).alloc _).trans_new (Frm.grown hgrow (D := [w.heap.size]) (by intro k hk; cases hk; simp)) (by simp)
  · have : w1.ownsRow w.heap.size 121 3 v' (0 + n) ([] ++ xs) := hown'
    rw [Nat.zero_add, List.nil_append] at this
    exact this

set_option maxRecDepth 100000 in
theorem clone_run_nil (w : World) : Calls Try.prog 76 #[.slice none 0 0] w (Ret (.slice none 0 0) (fun w' => w = w')) := by
  have hnil := fun (w : World) => Lib.run_eql_slice_nil (P := Try.prog) w 91 121 none 0 0 0 0 u_run
  go_enter Try.func76, Try.ntmps76
  go_wp2
  go_ret
  exact ⟨rfl, rfl⟩
theorem tvF_one (l : List Tv) (i : Nat) : ∀ u ∈ tvF l i, u.oneCell' = true := by
  intro u hu
  unfold tvF Tv.cells at hu
  simp only [List.mem_cons, List.not_mem_nil, or_false] at hu
  rcases hu with rfl | rfl | rfl <;> rfl
/-- The threads are cloned. -/
theorem clone_ths {w : World} {X : Mb} (h : MbAt w X) : Calls Try.prog 76 #[.slice X.ta X.tv.length X.tc] w
    (fun e w' => ∃ a c, Ret (.slice a X.tv.length c) (fun w' => Frm [] w w' ∧ Gr 121 3 0 w' a X.tv.length c (tvF X.tv) ∧ ∀ x ∈ bkG a, w.heap.size ≤ x) e w') := by
  obtain ⟨h1, h2, ⟨ha, hn, hc⟩ | ⟨g, cs, hg, hB, hh, hcs, hq⟩⟩ := h.row
  · rw [ha, hn, hc]
    refine (clone_run_nil w).mono ?_
    rintro e w' ⟨rfl, rfl⟩
    exact ⟨none, 0, rfl, Frm.refl _ _, Gr.nil _ _ _ _ _, by simp [bkG]⟩
  · rw [hg]
    have hle := h.le
    refine (clone_run (xs := flt X.tv.length (tvF X.tv)) (b := g) (o := 0) (flt_len h1) (fun j u hj => ?_) (fun u hu => ?_) (by omega) (lt_of_heap hh) X.tc).mono ?_
    · have hjl := (List.getElem?_eq_some_iff.1 hj).1
      rw [flt_len h1] at hjl
      have hjd : j / 3 < X.tv.length := Nat.div_lt_of_lt_mul (by omega)
      have hjm : j % 3 < 3 := Nat.mod_lt _ (by omega)
      have hjj : j / 3 * 3 + j % 3 = j := by omega
      rw [Nat.zero_add, cell_of_heap hh]
      rw [← hjj, flt_get h1 hjd hjm] at hj
      rw [← hjj]; exact hq _ hjd _ u hj
    · obtain ⟨i, _, hi⟩ := List.mem_flatMap.1 hu
      exact tvF_one _ _ u hi
    · rintro e w' ⟨v, rfl, hF, hO⟩
      obtain ⟨a, c, rfl, hG⟩ := gr_of_own (by omega) hO h1 (fun i hi j v hv => by
        have hj : j < 3 := by have := (List.getElem?_eq_some_iff.1 hv).1; have := h1 i hi; omega
        rw [flt_get h1 hi hj]; exact hv)
      refine ⟨a, c, rfl, hF, ?_, fun x hx => (hG.from_ x hx).1⟩
      obtain ⟨m1, m2, m3 | ⟨g', cs', hg', hB', r⟩⟩ := hG
      · exact ⟨m1, m2, .inl m3⟩
      · exact ⟨m1, m2, .inr ⟨g', cs', hg', Nat.zero_le _, r⟩⟩
end Go.Proofs.Ytieccmmnfnpcoaa
