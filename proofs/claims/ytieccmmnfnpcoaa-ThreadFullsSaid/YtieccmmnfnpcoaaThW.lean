/- Stage 12: Add and Put of a machine; Waits. -/
import Derived.Test.YtieccmmnfnpcoaaThV
namespace Go.Proofs.Ytieccmmnfnpcoaa
open Go.ChangeShapes Go.WideShapes Go.ChangeAt Go.RowKit
set_option linter.unusedVariables false
theorem blk_ne {w : World} {a b : Nat} {ca cb : Array Value} {ta tb : TypeId} {fa fb : Nat × Nat} (ha : w.heap[a]? = some (.cells ca ta fa)) (hb : w.heap[b]? = some (.cells cb tb fb)) (ht : ta ≠ tb) : a ≠ b := by
  intro e; subst e
  have := ha.symm.trans hb
  simp only [Option.some.injEq, Obj.cells.injEq] at this
  exact ht this.2.1
section
variable {w : World} {X : Mb}
set_option maxRecDepth 100000 in
set_option maxHeartbeats 2000000 in
theorem mAdd_ok (h : MbAt w X) (hn : X.tv.length < 64) {v : Value} {T2 : TypeId} {S S' : Nat → World → Prop}
    (hc : Calls Try.prog 57 #[v] w (fun e w' => ∃ q', Ret (.iface T2 (.pointer (some ⟨q', 0, none⟩))) (fun w' => Frm [] w w' ∧ S q' w') e w'))
    (Hst : ∀ q' D w1 w2, S q' w1 → Frm D w1 w2 → (∀ x ∈ D, (x = X.q ∨ x ∈ bkG X.ta) ∧ NI w1 x) → S' q' w2) :
    Calls Try.prog 18 #[.pointer (some ⟨X.q, 0, none⟩), v] w
      (fun e w' => ∃ q' ta' tc', Ret (.tuple #[.int .i64 X.tv.length, .int .i64 0]) (fun w' => Frm (X.q :: bkG X.ta) w w' ∧ MbAt w' { X with ta := ta', tc := tc', tv := X.tv ++ [⟨T2, q', 0, 0⟩] } ∧ S' q' w' ∧ ∀ x ∈ bkG ta', x ∈ bkG X.ta ∨ w.heap.size ≤ x) e w') := by
  have hb : ((X.tv.length : Int) == 64) = false := by simp; omega
  have hn2 : (X.tv.length : Int) < 64 := by omega
  have H := Lib.hid h
  have HC := Lib.hid hc
  have HST := Lib.hid Hst
  have HNN := Lib.hid hn
  clear h hc Hst hn
  go_enter Try.func18, Try.ntmps18
  go_wp2_with fail
  refine HC.out.mono ?_
  rintro e w1 ⟨q', rfl, hF1, hS1⟩
  have hA1 := H.out.frm0 hF1
  have HN := Lib.hid (mnone_at hA1)
  have HF1 := Lib.hid hF1
  have HS1 := Lib.hid hS1
  have HA1 := Lib.hid hA1
  have h1 := hA1.c1
  have hz1 := hA1.frz 1
  have hql := hA1.lt
  clear hF1 hS1 hA1
  go_wp2_with fail
  refine HN.out.mono ?_
  rintro e w' ⟨rfl, rfl⟩
  have hrow : Gr 121 3 0 (w1.alloc (.cells #[.iface T2 (.pointer (some ⟨q', 0, none⟩)), .int .i64 0, .int .i64 0] 121)) X.ta X.tv.length X.tc (tvF X.tv) := HA1.out.row.frm0 ((Frm.refl _ _).alloc _)
  have HROW := Lib.hid hrow
  have hg := heap_alloc_new w1 (.cells #[.iface T2 (.pointer (some ⟨q', 0, none⟩)), .int .i64 0, .int .i64 0] 121)
  have HGG := Lib.hid hg
  clear hrow hg
  go_wp2_with (at_builtin; go_loud (refine wpl_gr u_run i_run (by decide) (by decide) (by decide) rfl (.tmp 25) (.tmp 28) rfl (B := 0) (g2 := w1.heap.size) (l := [.iface T2 (.pointer (some ⟨q', 0, none⟩)), .int .i64 0, .int .i64 0]) (by simp [Act.eval]) (by simp [Act.eval]) HROW.out rfl (by simp [Value.oneCell']) HGG.out (by omega) (Nat.zero_le _) ?_; intro a2 c2 w2 hG2 hF2 hb2; have HG2 := Lib.hid hG2; have HF2 := Lib.hid hF2; have HB2 := Lib.hid hb2; have hobj2 := hF2.heap (heap_alloc_old _ HA1.out.obj) (HA1.out.tne HA1.out.obj (by decide)); have hq1 : w2.cell? ⟨X.q, 1, none⟩ = some (.slice X.ta X.tv.length X.tc) := (cell_of_heap hobj2).trans rfl; have hq2 : w2.frozen? ⟨X.q, 1, none⟩ = false := frozen_of_heap hobj2; have hql2 := lt_of_heap hobj2; clear hG2 hF2 hb2 hobj2))
  go_ret2
  have hobj2 := HF2.out.heap (heap_alloc_old _ HA1.out.obj) (HA1.out.tne HA1.out.obj (by decide))
  have hF12 : Frm (bkG X.ta) w1 w2 := ((Frm.refl (bkG X.ta) w1).alloc _).trans HF2.out
  have hF3 : Frm [X.q] w2 (w2.setCell ⟨X.q, 1, none⟩ (.slice a2 ((X.tv.length + 1 : Nat)) c2)) := (Frm.refl _ _).setCell _ _ (.inl (by simp))
  have hF13 : Frm (X.q :: bkG X.ta) w1 (w2.setCell ⟨X.q, 1, none⟩ (.slice a2 ((X.tv.length + 1 : Nat)) c2)) := (hF12.weak (by intro x hx; simp [hx])).trans (hF3.weak (by simp))
  have hrn : ∀ x ∈ bkG X.ta, NI w1 x := fun x hx => by
    obtain ⟨_, _, ⟨hh, _⟩ | ⟨g, cs, hg, _, hb, _⟩⟩ := HA1.out.row
    · rw [hh] at hx; simp [bkG] at hx
    · rw [hg] at hx; simp [bkG] at hx; subst hx; exact ni_of hb (by decide)
  obtain ⟨ds, hds, _⟩ := HA1.out.mem.arr
  have hqp : X.p ≠ X.q := blk_ne HA1.out.mem.obj HA1.out.obj (by decide)
  have hqd : X.d ≠ X.q := blk_ne hds HA1.out.obj (by decide)
  have hsz := HF1.out.size
  have hal : w1.heap.size ≤ (w1.alloc (.cells #[.iface T2 (.pointer (some ⟨q', 0, none⟩)), .int .i64 0, .int .i64 0] 121)).heap.size := by simp
  refine ⟨q', a2, c2, ?_, HF1.out.nil.trans hF13, ⟨?_, ?_, ?_, ?_⟩, HST.out q' _ _ _ HS1.out hF13 (fun x hx => ?_), fun x hx => ?_⟩
  · first | rfl | (congr 2; simp)
  · rw [heap_setCell_at _ hobj2]; simp
  · refine HA1.out.mem.frm hF13 ?_ ?_
    · simp only [List.mem_cons, not_or]; exact ⟨hqp, HA1.out.tne HA1.out.mem.obj (by decide)⟩
    · simp only [List.mem_cons, not_or]; exact ⟨hqd, HA1.out.tne hds (by decide)⟩
  · rw [List.length_append, List.length_singleton]
    refine (HG2.out.frm hF3 (fun x hx hx2 => ?_)).congr fun k hk => ?_
    · simp at hx2; subst hx2
      exact HG2.out.ne hobj2 (by decide) _ hx rfl
    · unfold tvF
      by_cases e : k = X.tv.length
      · subst e
        rw [upd_eq, List.getD_eq_getElem?_getD, List.getElem?_append_right (Nat.le_refl _), Nat.sub_self]; rfl
      · rw [upd_ne _ _ e, List.getD_eq_getElem?_getD, List.getElem?_append_left (by omega), List.getD_eq_getElem?_getD]
  · rw [List.length_append, List.length_singleton]; have := HNN.out; omega
  · simp only [List.mem_cons] at hx
    rcases hx with rfl | hx
    · exact ⟨.inl rfl, ni_of HA1.out.obj (by decide)⟩
    · exact ⟨.inr hx, hrn x hx⟩
  · rcases HB2.out x hx with h | h
    · exact .inl h
    · right; omega
theorem mAdd_full (h : MbAt w X) (hn : X.tv.length = 64) {v : Value} {T2 : TypeId} {S : Nat → World → Prop}
    (hc : Calls Try.prog 57 #[v] w (fun e w' => ∃ q', Ret (.iface T2 (.pointer (some ⟨q', 0, none⟩))) (fun w' => Frm [] w w' ∧ S q' w') e w')) :
    Calls Try.prog 18 #[.pointer (some ⟨X.q, 0, none⟩), v] w (Ret (.tuple #[.int .i64 0, .int .i64 7]) (fun w' => Frm [] w w')) := by
  have hb : ((X.tv.length : Int) == 64) = true := by simp; omega
  have H := Lib.hid h
  have HC := Lib.hid hc
  clear h hc hn
  go_enter Try.func18, Try.ntmps18
  go_wp2_with fail
  refine HC.out.mono ?_
  rintro e w1 ⟨q', rfl, hF1, hS1⟩
  have hA1 := H.out.frm0 hF1
  have HN := Lib.hid (mnone_at hA1)
  have HF1 := Lib.hid hF1
  have h1 := hA1.c1
  clear hF1 hS1 hA1
  go_wp2_with fail
  refine HN.out.mono ?_
  rintro e w' ⟨rfl, rfl⟩
  go_wp2
  go_ret2
  exact ⟨rfl, HF1.out⟩
theorem mAdd_nil (h : MbAt w X) : Calls Try.prog 18 #[.pointer (some ⟨X.q, 0, none⟩), .nilIface] w (Ret (.tuple #[.int .i64 0, .int .i64 1]) (fun w' => Frm [] w w')) := by
  have H := Lib.hid h
  clear h
  go_enter Try.func18, Try.ntmps18
  go_wp2_with fail
  refine (copyOf_nil _).mono ?_
  rintro e w1 ⟨rfl, hF1⟩
  have hA1 := H.out.frm0 hF1
  have HN := Lib.hid (mnone_at hA1)
  have HF1 := Lib.hid hF1
  clear hF1 hA1
  go_wp2_with fail
  refine HN.out.mono ?_
  rintro e w' ⟨rfl, rfl⟩
  go_wp2
  go_ret2
  exact ⟨rfl, HF1.out⟩
end
end Go.Proofs.Ytieccmmnfnpcoaa
