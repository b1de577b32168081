/- Package queue: a pick. -/
import Derived.Test.YtjgnmmlbnkmgfaaQueH
namespace Go.Proofs.Ytjgnmmlbnkmgfaa
open Go.ChangeShapes Go.WideShapes Go.ChangeAt Go.RowKit

theorem OwnAt.alloc {w : World} {d c : Nat} {l : List Al} (h : OwnAt w d c l) (o : Obj) : OwnAt (w.alloc o) d c l := h.frm0 ((Frm.refl [] w).alloc o)
theorem OwnAt.drew {w : World} {d c : Nat} {l : List Al} (h : OwnAt w d c l) : OwnAt w.drew d c l := h.frm0 ((Frm.refl [] w).drewN 1)
theorem heap_drew {w : World} {k : Nat} {o : Obj} (h : w.heap[k]? = some o) : w.drew.heap[k]? = some o := h

theorem pick_end {w w3 : World} {p d m c i : Nat} {sz pk x1 x2 : Int} {l : List Al} (H : PickAt w p d (m + 1) c sz pk l) (hx : l[i]? = some (x1, x2)) (hpk : pk < 1000000) (hF : Frm [d] w w3)
    (hO : OwnAt w3 d c (l.eraseIdx i ++ [(x1, pk)])) (hP : w3.heap[p]? = some (.cells #[.int .i64 sz, .int .i64 pk, .slice (some ⟨d, 0, none⟩) (m + 1 : Nat) c] 53 (0, 0))) :
    Frm [p, d] w ((w3.setCell ⟨p, 2, none⟩ (.slice (some ⟨d, 0, none⟩) (m + 1 : Nat) c)).setCell ⟨p, 1, none⟩ (.int .i64 (pk + 1))) ∧
    PickAt ((w3.setCell ⟨p, 2, none⟩ (.slice (some ⟨d, 0, none⟩) (m + 1 : Nat) c)).setCell ⟨p, 1, none⟩ (.int .i64 (pk + 1))) p d (m + 1) c sz (pk + 1) (pickL l i pk) := by
  have hi := (List.getElem?_eq_some_iff.1 hx).1
  have hln := H.len
  have hg : (l.getD i (0, 0)).1 = x1 := by rw [List.getD_eq_getElem?_getD, hx]; rfl
  have hF2 : Frm [p] w3 ((w3.setCell ⟨p, 2, none⟩ (.slice (some ⟨d, 0, none⟩) (m + 1 : Nat) c)).setCell ⟨p, 1, none⟩ (.int .i64 (pk + 1))) := ((Frm.refl _ _).setCell _ _ (.inl (by simp))).setCell _ _ (.inl (by simp))
  refine ⟨(hF.weak (by simp)).trans (hF2.weak (by simp)), ?_, ?_, H.ne, ?_, H.pos, H.le, by have := H.pk0; omega, by omega, ?_, H.sz0, H.sz1⟩
  · have := heap_setCell_at (i := 1) (.int .i64 (pk + 1)) (heap_setCell_at (i := 2) (.slice (some ⟨d, 0, none⟩) (m + 1 : Nat) c) hP)
    simpa using this
  · unfold pickL; rw [hg]; exact hO.frm hF2 (by have := H.ne; simp; exact fun e => this e.symm)
  · rw [pickL_length hi]; exact hln
  · intro a ha
    unfold pickL at ha
    have h0 := H.pk0
    rcases List.mem_append.1 ha with ha | ha
    · have := H.ats a (List.mem_of_mem_eraseIdx ha); omega
    · simp at ha; subst ha; simp; omega

theorem pk_cells {w' : World} {p d m c : Nat} {sz pk : Int} (hP : w'.heap[p]? = some (.cells #[.int .i64 sz, .int .i64 pk, .slice (some ⟨d, 0, none⟩) (m + 1 : Nat) c] 53 (0, 0))) :
    w'.cell? ⟨p, 1, none⟩ = some (.int .i64 pk) ∧ w'.cell? ⟨p, 2, none⟩ = some (.slice (some ⟨d, 0, none⟩) (m + 1 : Nat) c) ∧ w'.frozen? ⟨p, 2, none⟩ = false ∧ p < w'.heap.size ∧ w'.frozen? ⟨p, 1, none⟩ = false :=
  ⟨(cell_of_heap hP).trans rfl, (cell_of_heap hP).trans rfl, frozen_of_heap hP, lt_of_heap hP, frozen_of_heap hP⟩
theorem heap_same {w' : World} {p d m c : Nat} {sz pk : Int} (hP : w'.heap[p]? = some (.cells #[.int .i64 sz, .int .i64 pk, .slice (some ⟨d, 0, none⟩) (m + 1 : Nat) c] 53 (0, 0))) :
    (w'.setCell ⟨p, 2, none⟩ (.slice (some ⟨d, 0, none⟩) (m + 1 : Nat) c)).heap[p]? = some (.cells #[.int .i64 sz, .int .i64 pk, .slice (some ⟨d, 0, none⟩) (m + 1 : Nat) c] 53 (0, 0)) := by
  have := heap_setCell_at (i := 2) (.slice (some ⟨d, 0, none⟩) (m + 1 : Nat) c) hP
  simpa using this

attribute [local go_sem ↓] Go.wp_at_zero Go.wp_at_succ
set_option maxHeartbeats 4000000 in
theorem pick_pk {w : World} {p d m c i : Nat} {sz pk x1 x2 : Int} {l : List Al} (h : PickAt w p d (m + 1) c sz pk l) (hx : l[i]? = some (x1, x2)) (hpk : pk < 1000000) :
    Calls Try.prog 46 #[.pointer (some ⟨p, 0, none⟩), .int .i64 (i : Int)] w (Ret (.int .i64 x1) (fun w' => Frm [p, d] w w' ∧ PickAt w' p d (m + 1) c sz (pk + 1) (pickL l i pk))) := by
  have hi := (List.getElem?_eq_some_iff.1 hx).1
  have hln := h.len
  have hle := h.le
  have k1 := h.c1
  have k2 := h.c2
  obtain ⟨k4, k5⟩ := h.own.cells hx
  have hpl := h.plt
  have hdl := h.dlt
  have hb0 : (0 : Int) ≤ (i : Int) := by omega
  have hb1 : (i : Int) < ((m + 1 : Nat) : Int) := by omega
  have hb2 : (i : Int) < (m : Int) + 1 := by omega
  have hpk0 := h.pk0
  have hne := h.ne
  have hmc : m + 1 ≤ c := by have := h.own.len; omega
  have hel : (l.eraseIdx i).length = m := by rw [List.length_eraseIdx_of_lt hi]; omega
  have hwp : IntKind.i64.wrap ((i : Int) + 1) = (i : Int) + 1 := by rw [IntKind.wrap_i64]; omega
  have hfz := h.fz 2
  have HEL := Lib.hid hel
  have HLN := Lib.hid hln
  have HX := Lib.hid hx
  have H := Lib.hid h
  have HNE := Lib.hid hne
  clear hel hln hx h hi hne
  go_enter Try.func46, Try.ntmps46
  go_wp2_with fail
  clear k4 k5 k1 k2 hfz
  have r1 := fun (w' : World) (hP : w'.heap[p]? = some (.cells #[.int .i64 sz, .int .i64 pk, .slice (some ⟨d, 0, none⟩) (m + 1 : Nat) c] 53 (0, 0))) => pk_cells hP
  have hob : w.heap[p]? = some (.cells #[.int .i64 sz, .int .i64 pk, .slice (some ⟨d, 0, none⟩) (m + 1 : Nat) c] 53 (0, 0)) := H.out.obj
  go_region_held3 (fun w' => w'.heap[p]? = some (.cells #[.int .i64 sz, .int .i64 pk, .slice (some ⟨d, 0, none⟩) (m + 1 : Nat) c] 53 (0, 0)))
    ((repeat' (first | assumption | apply heap_drew | apply heap_alloc_old | apply heap_same)))
    (first
    | (go_at_call 52; refine (del_some (d := d) (c := c) (N := i) (m := m) (l := l) (by repeat' (first | exact H.out.own | apply OwnAt.drew | apply OwnAt.alloc)) HLN.out (by omega) (by omega)).mono ?_; rintro e w2 ⟨rfl, hF2, hO2⟩; have hP2 : w2.heap[p]? = some (.cells #[.int .i64 sz, .int .i64 pk, .slice (some ⟨d, 0, none⟩) (m + 1 : Nat) c] 53 (0, 0)) := hF2.heap (k := p) (by repeat' (first | exact H.out.obj | apply heap_drew | apply heap_alloc_old)) (by simp; exact HNE.out); (try (have hV2 := hF2.heap (k := w.heap.size) (o := .cells #[.int .i64 x1, .int .i64 pk] 63) (heap_alloc_new _ _) (by simp; omega))); have HO2 := Lib.hid hO2; clear hO2)
    | (refine step_appO rfl (.tmp 22) (.tmp 29) rfl (d := d) (c := c) (m := m) (l := l.eraseIdx i) (a := (x1, pk)) (by simp [Act.eval]) (by simp [Act.eval]) (HO2.out.alloc _) HEL.out hmc (heap_alloc_new _ _) (by have := HO2.out.lt; omega) ?_; intro w3 hO3 hF3; have hP3 : w3.heap[p]? = some (.cells #[.int .i64 sz, .int .i64 pk, .slice (some ⟨d, 0, none⟩) (m + 1 : Nat) c] 53 (0, 0)) := hF3.heap (k := p) (heap_alloc_old _ hP2) (by simp; exact HNE.out); have HO3 := Lib.hid hO3; clear hO3)
    | (refine step_appO rfl (.tmp 22) (.tmp 29) rfl (d := d) (c := c) (m := m) (vb := w.heap.size) (l := l.eraseIdx i) (a := (x1, pk)) (by simp [Act.eval]) (by simp [Act.eval]) HO2.out HEL.out hmc hV2 (by omega) ?_; intro w3 hO3 hF3; have hP3 : w3.heap[p]? = some (.cells #[.int .i64 sz, .int .i64 pk, .slice (some ⟨d, 0, none⟩) (m + 1 : Nat) c] 53 (0, 0)) := hF3.heap (k := p) hP2 (by simp; exact HNE.out); have HO3 := Lib.hid hO3; clear hO3))
  all_goals
    obtain ⟨c1, c2, c3, c4, c5⟩ := pk_cells hP3
    have HP3 := Lib.hid hP3
    clear hP3
    go_wp2
    go_ret
    have hFA : Frm [d] w w3 := by first | exact ((((Frm.refl [d] w).drew).trans hF2).alloc _).trans hF3 | exact ((((Frm.refl [d] w).drew).alloc _).trans hF2).trans hF3
    exact ⟨rfl, pick_end H.out HX.out hpk hFA HO3.out HP3.out⟩
end Go.Proofs.Ytjgnmmlbnkmgfaa
