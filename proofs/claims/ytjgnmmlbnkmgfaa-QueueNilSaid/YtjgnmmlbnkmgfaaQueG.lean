/- Package queue: a picker in memory; all but picking. -/
import Derived.Test.YtjgnmmlbnkmgfaaQueF
namespace Go.Proofs.Ytjgnmmlbnkmgfaa
open Go.ChangeShapes Go.WideShapes Go.ChangeAt Go.RowKit

/-- A picker at block p, its order of ages in block d. -/
structure PickAt (w : World) (p d n c : Nat) (sz pk : Int) (l : List Al) : Prop where
  obj : w.heap[p]? = some (.cells #[.int .i64 sz, .int .i64 pk, .slice (some ⟨d, 0, none⟩) n c] 53 (0, 0))
  own : OwnAt w d c l
  ne : p ≠ d
  len : l.length = n
  pos : 1 ≤ n
  le : n ≤ 64
  pk0 : 0 ≤ pk
  pk1 : pk ≤ 1000000
  ats : ∀ x ∈ l, -1 ≤ x.2 ∧ x.2 < pk
  sz0 : 1 ≤ sz
  sz1 : sz ≤ 100000

namespace PickAt
variable {w w' : World} {p d n c : Nat} {sz pk : Int} {l : List Al}
theorem plt (h : PickAt w p d n c sz pk l) : p < w.heap.size := lt_of_heap h.obj
theorem dlt (h : PickAt w p d n c sz pk l) : d < w.heap.size := h.own.lt
theorem c0 (h : PickAt w p d n c sz pk l) : w.cell? ⟨p, 0, none⟩ = some (.int .i64 sz) := by rw [cell_of_heap h.obj]; rfl
theorem c1 (h : PickAt w p d n c sz pk l) : w.cell? ⟨p, 1, none⟩ = some (.int .i64 pk) := by rw [cell_of_heap h.obj]; rfl
theorem c2 (h : PickAt w p d n c sz pk l) : w.cell? ⟨p, 2, none⟩ = some (.slice (some ⟨d, 0, none⟩) n c) := by rw [cell_of_heap h.obj]; rfl
theorem fz (h : PickAt w p d n c sz pk l) (i : Nat) : w.frozen? ⟨p, i, none⟩ = false := frozen_of_heap h.obj
theorem frm {D : List Nat} (h : PickAt w p d n c sz pk l) (hf : Frm D w w') (hp : p ∉ D) (hd : d ∉ D) : PickAt w' p d n c sz pk l :=
  ⟨hf.heap h.obj hp, h.own.frm hf hd, h.ne, h.len, h.pos, h.le, h.pk0, h.pk1, h.ats, h.sz0, h.sz1⟩
theorem frm0 (h : PickAt w p d n c sz pk l) (hf : Frm [] w w') : PickAt w' p d n c sz pk l := h.frm hf (by simp) (by simp)
theorem alloc (h : PickAt w p d n c sz pk l) (o : Obj) : PickAt (w.alloc o) p d n c sz pk l := h.frm0 ((Frm.refl [] w).alloc o)
theorem drewN (h : PickAt w p d n c sz pk l) (k : Nat) : PickAt (w.drewN k) p d n c sz pk l := h.frm0 ((Frm.refl [] w).drewN k)
theorem drew (h : PickAt w p d n c sz pk l) : PickAt w.drew p d n c sz pk l := h.drewN 1
end PickAt

theorem none_nil (w : World) : Calls Try.prog 41 #[.pointer none] w (Ret (.bool true) (fun w' => w = w')) := by
  go_enter Try.func41, Try.ntmps41
  go_wp2
  go_ret
  exact ⟨rfl, rfl⟩
theorem none_zero (w : World) (p : Nat) (h : w.cell? ⟨p, 2, none⟩ = some (.slice none 0 0)) : Calls Try.prog 41 #[.pointer (some ⟨p, 0, none⟩)] w (Ret (.bool true) (fun w' => w = w')) := by
  go_enter Try.func41, Try.ntmps41
  go_wp2
  go_ret
  exact ⟨rfl, rfl⟩
theorem none_pk {w : World} {p d n c : Nat} {sz pk : Int} {l : List Al} (h : PickAt w p d n c sz pk l) : Calls Try.prog 41 #[.pointer (some ⟨p, 0, none⟩)] w (Ret (.bool false) (fun w' => w = w')) := by
  have h2 := h.c2
  have h1 : ((n : Int) == 0) = false := by have := h.pos; simp; omega
  go_enter Try.func41, Try.ntmps41
  go_wp2
  go_ret
  exact ⟨rfl, rfl⟩
theorem picks_nil (w : World) : Calls Try.prog 25 #[.pointer none] w (Ret (.int .i64 0) (fun w' => w = w')) := by
  go_enter Try.func25, Try.ntmps25
  go_wp2_with (go_at_call 41; refine (none_nil _).mono ?_; rintro e w' ⟨rfl, rfl⟩)
  go_ret
  exact ⟨rfl, rfl⟩
theorem picks_zero (w : World) (p : Nat) (h : w.cell? ⟨p, 2, none⟩ = some (.slice none 0 0)) : Calls Try.prog 25 #[.pointer (some ⟨p, 0, none⟩)] w (Ret (.int .i64 0) (fun w' => w = w')) := by
  go_enter Try.func25, Try.ntmps25
  go_wp2_with (go_at_call 41; refine (none_zero _ _ h).mono ?_; rintro e w' ⟨rfl, rfl⟩)
  go_ret
  exact ⟨rfl, rfl⟩
theorem picks_pk {w : World} {p d n c : Nat} {sz pk : Int} {l : List Al} (h : PickAt w p d n c sz pk l) : Calls Try.prog 25 #[.pointer (some ⟨p, 0, none⟩)] w (Ret (.int .i64 pk) (fun w' => w = w')) := by
  have h1 := h.c1
  go_enter Try.func25, Try.ntmps25
  go_wp2_with (go_at_call 41; refine (none_pk h).mono ?_; rintro e w' ⟨rfl, rfl⟩)
  go_ret
  exact ⟨rfl, rfl⟩

theorem index_pk {w : World} {p d n c : Nat} {sz pk : Int} {l : List Al} (h : PickAt w p d n c sz pk l) (id : Int) :
    Calls Try.prog 42 #[.pointer (some ⟨p, 0, none⟩), .int .i64 id] w (Ret (.int .i64 (idx l id)) (fun w' => Frm [] w w')) := by
  have h' := h.alloc (.cells #[.int .i64 id] 3)
  have hbx : (w.alloc (.cells #[.int .i64 id] 3)).cell? ⟨w.heap.size, 0, none⟩ = some (.int .i64 id) := by rw [cell_of_heap (heap_alloc_new _ _)]; rfl
  have k2 := h'.c2
  have hln := h.len
  have hle := h.le
  have hix := ixf_some (l := l) (c := c) (by omega) h'.dlt h'.own.rd _ id hbx
  rw [hln] at hix
  have HIX := Lib.hid hix
  clear h hbx hln hix h'
  go_enter Try.func42, Try.ntmps42
  go_wp2_with fail
  refine HIX.out.mono ?_
  rintro e w1 ⟨rfl, hF1⟩
  go_wp2
  go_ret
  exact ⟨rfl, ((Frm.refl _ _).alloc _).trans hF1⟩

theorem age_pk {w : World} {p d n c : Nat} {sz pk : Int} {l : List Al} (h : PickAt w p d n c sz pk l) (x1 x2 : Int) (h1 : -1 ≤ x2) (h2 : x2 < pk) :
    Calls Try.prog 43 #[.pointer (some ⟨p, 0, none⟩), .agg #[.int .i64 x1, .int .i64 x2]] w (Ret (.int .i64 (pk - 1 - x2)) (fun w' => Frm [] w w')) := by
  have h' := h.alloc (.cells #[.int .i64 x1, .int .i64 x2] 63)
  have k1 := h'.c1
  have g0 := h.pk0
  have g1 := h.pk1
  have g2 := h.plt
  clear h h'
  go_enter Try.func43, Try.ntmps43
  go_wp2_with fail
  have hw1 : IntKind.i64.wrap (pk - 1) = pk - 1 := by rw [IntKind.wrap_i64]; omega
  have hw2 : IntKind.i64.wrap (pk - 1 - x2) = pk - 1 - x2 := by rw [IntKind.wrap_i64]; omega
  go_quiet (fail)
  go_wp2
  go_ret
  exact ⟨rfl, ((Frm.refl _ _).alloc _).drewN _⟩

/-- Whether a pick is urgent. -/
def urg (l : List Al) (sz pk : Int) : Bool := (List.range l.length).any (fun i => decide (sz - 1 ≤ pk - 1 - (l.getD i (0, 0)).2 + (i : Int)))
theorem urg_yes {l : List Al} {sz pk : Int} {i : Nat} {a : Al} (hi : l[i]? = some a) (h : sz - 1 ≤ pk - 1 - a.2 + (i : Int)) : urg l sz pk = true := by
  unfold urg
  rw [List.any_eq_true]
  have hl := (List.getElem?_eq_some_iff.1 hi).1
  refine ⟨i, List.mem_range.2 hl, ?_⟩
  rw [List.getD_eq_getElem?_getD, hi]; simpa using h
theorem urg_no {l : List Al} {sz pk : Int} (h : ∀ (i : Nat) (a : Al), l[i]? = some a → ¬ sz - 1 ≤ pk - 1 - a.2 + (i : Int)) : urg l sz pk = false := by
  unfold urg
  rw [List.any_eq_false]
  intro i hi
  have hl := List.mem_range.1 hi
  have := h i _ (List.getElem?_eq_getElem hl)
  rw [List.getD_eq_getElem?_getD, List.getElem?_eq_getElem hl]; simpa using this
theorem urg_false {l : List Al} {sz pk : Int} (h : urg l sz pk = false) {i : Nat} {a : Al} (hi : l[i]? = some a) : ¬ sz - 1 ≤ pk - 1 - a.2 + (i : Int) :=
  fun hh => by rw [urg_yes hi hh] at h; cases h

theorem setCells2 {w : World} {b : Nat} {x0 x1 : Value} {t : TypeId} {f : Nat × Nat} (h : w.heap[b]? = some (.cells #[x0, x1] t f)) (y0 y1 : Value) :
    ((w.setCell ⟨b, 0, none⟩ y0).setCell ⟨b, 1, none⟩ y1).heap[b]? = some (.cells #[y0, y1] t f) := by
  have := heap_setCell_at (i := 1) y1 (heap_setCell_at (i := 0) y0 h)
  simpa using this

set_option maxHeartbeats 2000000 in
theorem urgent_pk {w : World} {p d n c : Nat} {sz pk : Int} {l : List Al} (h : PickAt w p d n c sz pk l) :
    Calls Try.prog 45 #[.pointer (some ⟨p, 0, none⟩)] w (Ret (.bool (urg l sz pk)) (fun w' => Frm [] w w')) := by
  have hy := fun (i : Nat) (a : Al) hi hh => urg_yes (l := l) (sz := sz) (pk := pk) (i := i) (a := a) hi hh
  have hno := fun hh => urg_no (l := l) (sz := sz) (pk := pk) hh
  generalize urg l sz pk = R at *
  have HY := Lib.hid hy
  have HN := Lib.hid hno
  have hln := h.len
  have hle := h.le
  have g0 := h.pk0
  have g1 := h.pk1
  have g2 := h.sz0
  have g3 := h.sz1
  have k2 := h.c2
  have HLN := Lib.hid hln
  have H := Lib.hid h
  clear hy hno hln h
  go_enter Try.func45, Try.ntmps45
  go_wp2_with fail
  clear k2
  go_loopw [3, 4, 10] (fun _ _ i w' => ∃ k : Nat, k ≤ n ∧ i = .int .i64 k ∧ Frm [] w w' ∧ Hid (∀ (j : Nat) (a : Al), j < k → l[j]? = some a → ¬ sz - 1 ≤ pk - 1 - a.2 + (j : Int))) (fun _ _ i _ => n - (intOf i).toNat)
  case atStart => exact ⟨0, by omega, rfl, Frm.refl _ _, Lib.hid (fun j a hj => by omega)⟩
  case round =>
    obtain ⟨k, hk, rfl, hF, HI⟩ := hrel
    by_cases hlt : k < n
    · have hb0 : (0 : Int) ≤ (k : Int) := by omega
      have hb1 : (k : Int) < (n : Int) := by omega
      have hx : l[k]? = some (l[k]'(by have := HLN.out; omega)) := List.getElem?_eq_getElem _
      generalize (l[k]'(by have := HLN.out; omega)) = x at hx
      obtain ⟨x1, x2⟩ := x
      have hP := H.out.frm0 hF
      obtain ⟨k4, k5⟩ := hP.own.cells hx
      obtain ⟨hx1, hx2⟩ := H.out.ats _ (List.mem_of_getElem? hx)
      have hdl := hP.dlt
      have HX := Lib.hid hx
      have HP := Lib.hid hP
      clear hx hP
      go_wp2_with fail
      have hB := heap_alloc_new wr (.cells #[.int .i64 x1, .int .i64 x2] 63)
      have hFX : Frm [] wr (wr.alloc (.cells #[.int .i64 x1, .int .i64 x2] 63)) :=
        (Frm.refl _ _).alloc _
      generalize (wr.alloc (.cells #[.int .i64 x1, .int .i64 x2] 63)) = X at hB hFX ⊢
      have hPX := HP.out.frm0 hFX
      have m1 := fun w' (hF : Frm [] X w') => cells2 (hF.heap hB (by simp))
      have m2 := fun w' (hF : Frm [] X w') => (hPX.frm0 hF).c0
      have m3 := fun w' (hF : Frm [] X w') => (hPX.frm0 hF).plt
      have m4 := fun w' (hF : Frm [] X w') => lt_of_heap (hF.heap hB (by simp))
      have hFw := hF.trans hFX
      have HPX := Lib.hid hPX
      clear k4 k5 hB hPX hFX hdl
      have hw0 : IntKind.i64.wrap (sz - 1) = sz - 1 := by rw [IntKind.wrap_i64]; omega
      have hw1 : IntKind.i64.wrap (pk - 1 - x2 + (k : Int)) = pk - 1 - x2 + (k : Int) := by rw [IntKind.wrap_i64]; omega
      by_cases hu : sz - 1 ≤ pk - 1 - x2 + (k : Int)
      · have hb : decide (sz - 1 ≤ pk - 1 - x2 + (k : Int)) = true := by simpa using hu
        have hR := HY.out k _ HX.out hu
        have HR := Lib.hid hR
        clear hR
        go_region_held3 (fun w' => Frm [] X w')
          ((repeat' (first | assumption | exact Frm.refl _ _ | apply Frm.drew | apply Frm.alloc | (refine Frm.trans ?_ hF1))))
          ((go_at_call 43; refine (age_pk (p := p) (d := d) (n := n) (c := c) (sz := sz) (pk := pk) (l := l) (HPX.out.frm0 (by assumption)) x1 x2 hx1 hx2).mono ?_; rintro e w1 ⟨rfl, hF1⟩))
        go_wp2
        go_ret
        exact ⟨by rw [HR.out]; rfl, (hFw.trans (Frm.drew (Frm.refl _ _))).trans hF1⟩
      · have hb : decide (sz - 1 ≤ pk - 1 - x2 + (k : Int)) = false := by simpa using hu
        go_region_held3 (fun w' => Frm [] X w')
          ((repeat' (first | assumption | exact Frm.refl _ _ | apply Frm.drew | apply Frm.alloc | (refine Frm.trans ?_ hF1))))
          ((go_at_call 43; refine (age_pk (p := p) (d := d) (n := n) (c := c) (sz := sz) (pk := pk) (l := l) (HPX.out.frm0 (by assumption)) x1 x2 hx1 hx2).mono ?_; rintro e w1 ⟨rfl, hF1⟩))
        go_wp2
        go_roundw
        case rel =>
          refine ⟨k + 1, by omega, by go_num, (hFw.trans (Frm.drew (Frm.refl _ _))).trans hF1, Lib.hid (fun j a hj ha => ?_)⟩
          by_cases e : j = k
          · subst e; rw [HX.out] at ha; cases ha; show ¬ sz - 1 ≤ pk - 1 - x2 + (j : Int); omega
          · have h3 := HI.out j a (by omega) ha; omega
        case measure => simp [intOf]; omega
    · have hR := HN.out (fun i a hi => by have h1 := (List.getElem?_eq_some_iff.1 hi).1; have h2 := HLN.out; have h3 := HI.out i a (by omega) hi; omega)
      have HR := Lib.hid hR
      clear hR
      go_wp2
      go_ret
      exact ⟨by rw [HR.out]; rfl, hF⟩
end Go.Proofs.Ytjgnmmlbnkmgfaa
