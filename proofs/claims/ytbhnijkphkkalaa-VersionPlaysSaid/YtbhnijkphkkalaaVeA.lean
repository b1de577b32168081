/- Package version: where a program lies; none, done, word, goOn, end, Even. -/
import Derived.Test.YtbhnijkphkkalaaVeL
import Derived.IntWalk
import Derived.Deep.RegionHeld3
import Derived.Defers
import Derived.Recover
namespace Go.Proofs.Ytbhnijkphkkalaa
open Go.ChangeShapes Go.WideShapes Go.ChangeAt Go.RowKit
set_option linter.unusedVariables false

/-- A program lies in the block q, its words in the block b. -/
structure PgAt (w : World) (q b c : Nat) (T : TypeId) (tl : List Value) (L : Nat) (F : Int) (buf : List Int) (k : Nat) (st was res : Int) : Prop where
  obj : w.heap[q]? = some (.cells (List.toArray (.int .i64 L :: .int .i64 F :: .slice (some ⟨b, 0, none⟩) buf.length c :: .int .i64 k :: .int .i64 st :: .int .u64 was :: .int .u64 res :: tl)) T (0, 0))
  arr : ∃ cs : Array Value, w.heap[b]? = some (.cells cs 22 (0, 0)) ∧ buf.length ≤ cs.size ∧ ∀ (i : Nat) (x : Int), buf[i]? = some x → cs[i]? = some (Value.int .u64 x)
  ne : q ≠ b
  cap : buf.length ≤ c
  le : buf.length ≤ 256
  kle : k ≤ buf.length
  Llt : L < 65536
  fit : 0 < buf.length → 0 ≤ F ∧ F + buf.length ≤ 65536
namespace PgAt
variable {w w' : World} {q b c : Nat} {T : TypeId} {tl : List Value} {L : Nat} {F : Int} {buf : List Int} {k : Nat} {st was res : Int}
theorem qlt (h : PgAt w q b c T tl L F buf k st was res) : q < w.heap.size := lt_of_heap h.obj
theorem blt (h : PgAt w q b c T tl L F buf k st was res) : b < w.heap.size := lt_of_heap h.arr.choose_spec.1
theorem frm {D : List Nat} (h : PgAt w q b c T tl L F buf k st was res) (hf : Frm D w w') (hq : q ∉ D) (hb : b ∉ D) : PgAt w' q b c T tl L F buf k st was res :=
  ⟨hf.heap h.obj hq, let ⟨cs, hc, r⟩ := h.arr; ⟨cs, hf.heap hc hb, r⟩, h.ne, h.cap, h.le, h.kle, h.Llt, h.fit⟩
theorem frm0 (h : PgAt w q b c T tl L F buf k st was res) (hf : Frm [] w w') : PgAt w' q b c T tl L F buf k st was res := h.frm hf (by simp) (by simp)
theorem cells (h : PgAt w q b c T tl L F buf k st was res) : w.cell? ⟨q, 0, none⟩ = some (.int .i64 L) ∧ w.cell? ⟨q, 1, none⟩ = some (.int .i64 F) ∧ w.cell? ⟨q, 2, none⟩ = some (.slice (some ⟨b, 0, none⟩) buf.length c) ∧ w.cell? ⟨q, 3, none⟩ = some (.int .i64 k) ∧ w.cell? ⟨q, 4, none⟩ = some (.int .i64 st) ∧ w.cell? ⟨q, 5, none⟩ = some (.int .u64 was) ∧ w.cell? ⟨q, 6, none⟩ = some (.int .u64 res) := by
  refine ⟨?_, ?_, ?_, ?_, ?_, ?_, ?_⟩ <;> rw [cell_of_heap h.obj] <;> simp
theorem frz (h : PgAt w q b c T tl L F buf k st was res) (i : Nat) : w.frozen? ⟨q, i, none⟩ = false := frozen_of_heap h.obj
theorem frzb (h : PgAt w q b c T tl L F buf k st was res) (i : Nat) : w.frozen? ⟨b, i, none⟩ = false := by
  obtain ⟨cs, hc, _⟩ := h.arr; exact frozen_of_heap hc
theorem get (h : PgAt w q b c T tl L F buf k st was res) {i : Nat} {x : Int} (hx : buf[i]? = some x) : w.cell? ⟨b, i, none⟩ = some (.int .u64 x) := by
  obtain ⟨cs, hc, _, hr⟩ := h.arr
  rw [cell_of_heap hc]; exact hr i x hx
theorem setK (h : PgAt w q b c T tl L F buf k st was res) (v : Nat) (hv : v ≤ buf.length) : PgAt (w.setCell ⟨q, 3, none⟩ (.int .i64 v)) q b c T tl L F buf v st was res :=
  ⟨by have := heap_setCell_at (i := 3) (.int .i64 v) h.obj; simpa using this, let ⟨cs, hc, r⟩ := h.arr; ⟨cs, heap_setCell_far _ _ h.ne hc, r⟩, h.ne, h.cap, h.le, hv, h.Llt, h.fit⟩
theorem setSt (h : PgAt w q b c T tl L F buf k st was res) (v : Int) : PgAt (w.setCell ⟨q, 4, none⟩ (.int .i64 v)) q b c T tl L F buf k v was res :=
  ⟨by have := heap_setCell_at (i := 4) (.int .i64 v) h.obj; simpa using this, let ⟨cs, hc, r⟩ := h.arr; ⟨cs, heap_setCell_far _ _ h.ne hc, r⟩, h.ne, h.cap, h.le, h.kle, h.Llt, h.fit⟩
theorem setWas (h : PgAt w q b c T tl L F buf k st was res) (v : Int) : PgAt (w.setCell ⟨q, 5, none⟩ (.int .u64 v)) q b c T tl L F buf k st v res :=
  ⟨by have := heap_setCell_at (i := 5) (.int .u64 v) h.obj; simpa using this, let ⟨cs, hc, r⟩ := h.arr; ⟨cs, heap_setCell_far _ _ h.ne hc, r⟩, h.ne, h.cap, h.le, h.kle, h.Llt, h.fit⟩
theorem setRes (h : PgAt w q b c T tl L F buf k st was res) (v : Int) : PgAt (w.setCell ⟨q, 6, none⟩ (.int .u64 v)) q b c T tl L F buf k st was v :=
  ⟨by have := heap_setCell_at (i := 6) (.int .u64 v) h.obj; simpa using this, let ⟨cs, hc, r⟩ := h.arr; ⟨cs, heap_setCell_far _ _ h.ne hc, r⟩, h.ne, h.cap, h.le, h.kle, h.Llt, h.fit⟩
theorem setBuf (h : PgAt w q b c T tl L F buf k st was res) (i : Nat) (x : Int) : PgAt (w.setCell ⟨b, i, none⟩ (.int .u64 x)) q b c T tl L F (buf.set i x) k st was res := by
  obtain ⟨cs, hc, hl, hr⟩ := h.arr
  refine ⟨by rw [List.length_set]; exact heap_setCell_far _ _ (fun e => h.ne e.symm) h.obj, ⟨_, heap_setCell_at _ hc, by simp [hl], fun j y hj => ?_⟩, h.ne, by simp [h.cap], by simp [h.le], by simp [h.kle], h.Llt, by simpa using h.fit⟩
  rw [List.getElem?_set] at hj
  rw [Array.getElem?_setIfInBounds]
  split
  · rename_i e
    subst e
    rw [if_pos rfl] at hj
    split at hj
    · rw [if_pos (by omega)]; cases hj; rfl
    · cases hj
  · rename_i e
    rw [if_neg e] at hj
    exact hr j y hj
theorem setTl {tr : Int} (h : PgAt w q b c T [.int .i64 tr] L F buf k st was res) (v : Int) : PgAt (w.setCell ⟨q, 7, none⟩ (.int .i64 v)) q b c T [.int .i64 v] L F buf k st was res :=
  ⟨by have := heap_setCell_at (i := 7) (.int .i64 v) h.obj; simpa using this, let ⟨cs, hc, r⟩ := h.arr; ⟨cs, heap_setCell_far _ _ h.ne hc, r⟩, h.ne, h.cap, h.le, h.kle, h.Llt, h.fit⟩
theorem cell7 {tr : Int} (h : PgAt w q b c T [.int .i64 tr] L F buf k st was res) : w.cell? ⟨q, 7, none⟩ = some (.int .i64 tr) := by rw [cell_of_heap h.obj]; simp
end PgAt

def nxt (k n : Nat) : Int := if k < n then 3 else 4

section
variable {w : World} {q b c : Nat} {T : TypeId} {tl : List Value} {L : Nat} {F : Int} {buf : List Int} {k : Nat} {st was res : Int}

theorem cnone_1 (h : PgAt w q b c T tl L F buf k st was res) (hst : st ≠ 0) : Calls Try.prog 47 #[.pointer (some ⟨q, 0, none⟩)] w (Ret (.bool false) (fun w' => w = w')) := by
  obtain ⟨c0, c1, c2, c3, c4, c5, c6⟩ := h.cells
  have hb : (st == 0) = false := by simpa using hst
  clear h
  go_enter Try.func47, Try.ntmps47
  go_wp2
  go_ret
  exact ⟨rfl, rfl⟩
theorem cdone_5 (h : PgAt w q b c T tl L F buf k 5 was res) : Calls Try.prog 35 #[.pointer (some ⟨q, 0, none⟩)] w (Ret (.bool true) (fun w' => w = w')) := by
  obtain ⟨c0, c1, c2, c3, c4, c5, c6⟩ := h.cells
  have H := Lib.hid h
  clear h
  go_enter Try.func35, Try.ntmps35
  go_wp2_with fail
  refine (cnone_1 H.out (by decide)).mono ?_
  rintro e w' ⟨rfl, rfl⟩
  go_wp2
  go_ret
  exact ⟨rfl, rfl⟩
theorem cdone_n (h : PgAt w q b c T tl L F buf k st was res) (hst : st ≠ 0) (h5 : st ≠ 5) : Calls Try.prog 35 #[.pointer (some ⟨q, 0, none⟩)] w (Ret (.bool false) (fun w' => w = w')) := by
  obtain ⟨c0, c1, c2, c3, c4, c5, c6⟩ := h.cells
  have hb : (st == 5) = false := by simpa using h5
  have H := Lib.hid h
  have HS := Lib.hid hst
  clear h hst h5
  go_enter Try.func35, Try.ntmps35
  go_wp2_with fail
  refine (cnone_1 H.out HS.out).mono ?_
  rintro e w' ⟨rfl, rfl⟩
  go_wp2
  go_ret
  exact ⟨rfl, rfl⟩
theorem cdone_any (h : PgAt w q b c T tl L F buf k st was res) (hst : st ≠ 0) : Calls Try.prog 35 #[.pointer (some ⟨q, 0, none⟩)] w (Ret (.bool (decide (st = 5))) (fun w' => w = w')) := by
  by_cases h5 : st = 5
  · subst h5; exact cdone_5 h
  · rw [decide_eq_false h5]; exact cdone_n h hst h5
/-- The word of the next access. -/
def wrd (L : Nat) (F : Int) (k : Nat) (st : Int) : Nat := if st = 3 then (F + k).toNat else L
theorem cword_L (h : PgAt w q b c T tl L F buf k st was res) (h3 : st ≠ 3) : Calls Try.prog 50 #[.pointer (some ⟨q, 0, none⟩)] w (fun e w' => ∃ m, Ret (.int .i64 (wrd L F k st : Nat)) (fun w' => w' = w.drewN m) e w') := by
  obtain ⟨c0, c1, c2, c3, c4, c5, c6⟩ := h.cells
  have hb : (st == 3) = false := by simpa using h3
  rw [show wrd L F k st = L from if_neg h3]
  clear h h3
  go_enter Try.func50, Try.ntmps50
  go_wp2
  go_ret
  exact ⟨0, rfl, rfl⟩
theorem cword_3 (h : PgAt w q b c T tl L F buf k 3 was res) (hk : k < buf.length) : Calls Try.prog 50 #[.pointer (some ⟨q, 0, none⟩)] w (fun e w' => ∃ m, Ret (.int .i64 (wrd L F k 3 : Nat)) (fun w' => w' = w.drewN m) e w') := by
  obtain ⟨c0, c1, c2, c3, c4, c5, c6⟩ := h.cells
  have hF := h.fit (by omega)
  have hle := h.le
  have hF0 : 0 ≤ F := hF.1
  have hF1 : F ≤ 65536 := by omega
  have hk1 : k ≤ 256 := by omega
  have hs : IntKind.i64.wrap (F + (k : Int)) = F + k := by rw [IntWalk.i64_in _ (by omega)]
  have he : ((wrd L F k 3 : Nat) : Int) = F + k := by unfold wrd; rw [if_pos rfl]; omega
  rw [he]
  clear h hF hle he
  go_enter Try.func50, Try.ntmps50
  go_wp2
  go_quiet (fail)
  go_wp2
  go_ret
  exact ⟨_, rfl, rfl⟩
theorem cword_any (h : PgAt w q b c T tl L F buf k st was res) (hk : st = 3 → k < buf.length) : Calls Try.prog 50 #[.pointer (some ⟨q, 0, none⟩)] w (fun e w' => ∃ m, Ret (.int .i64 (wrd L F k st : Nat)) (fun w' => w' = w.drewN m) e w') := by
  by_cases h3 : st = 3
  · subst h3; exact cword_3 h (hk rfl)
  · exact cword_L h h3
theorem cgoOn (h : PgAt w q b c T tl L F buf k st was res) : Calls Try.prog 52 #[.pointer (some ⟨q, 0, none⟩)] w (Ret (.tuple #[]) (fun w' => Frm [q] w w' ∧ PgAt w' q b c T tl L F buf k (nxt k buf.length) was res)) := by
  obtain ⟨c0, c1, c2, c3, c4, c5, c6⟩ := h.cells
  have z4 := h.frz 4
  have H := Lib.hid h
  by_cases hlt : k < buf.length
  · have hb : decide (k < buf.length) = true := by simpa using hlt
    rw [show nxt k buf.length = 3 from if_pos hlt]
    clear h hlt
    go_enter Try.func52, Try.ntmps52
    go_wp2
    go_quiet (fail)
    go_wp2
    go_end0
    exact ⟨rfl, ((Frm.refl [q] w).drewN _).setCell _ _ (.inl (by simp)), (H.out.frm0 ((Frm.refl [] w).drewN _)).setSt 3⟩
  · have hb : decide (k < buf.length) = false := by simpa using hlt
    rw [show nxt k buf.length = 4 from if_neg hlt]
    clear h hlt
    go_enter Try.func52, Try.ntmps52
    go_wp2
    go_quiet (fail)
    go_wp2
    go_end0
    exact ⟨rfl, ((Frm.refl [q] w).drewN _).setCell _ _ (.inl (by simp)), (H.out.frm0 ((Frm.refl [] w).drewN _)).setSt 4⟩
theorem cend (h : PgAt w q b c T tl L F buf k st was res) (v : Int) : Calls Try.prog 56 #[.pointer (some ⟨q, 0, none⟩), .int .u64 v] w (Ret (.tuple #[]) (fun w' => Frm [q] w w' ∧ PgAt w' q b c T tl L F buf k 5 was v)) := by
  obtain ⟨c0, c1, c2, c3, c4, c5, c6⟩ := h.cells
  have z4 := h.frz 4
  have z6 := h.frz 6
  have H := Lib.hid h
  clear h
  go_enter Try.func56, Try.ntmps56
  go_wp2
  go_end0
  exact ⟨rfl, ((Frm.refl [q] w).setCell _ _ (.inl (by simp))).setCell _ _ (.inl (by simp)), (H.out.setSt 5).setRes v⟩
end
theorem even_yes (x : Int) (w : World) (h0 : 0 ≤ x) (hx : x % 2 = 0) : Calls Try.prog 9 #[.int .u64 x] w (Ret (.bool true) (fun w' => w = w')) := by
  have hb : (x % 2 == 0) = true := by simpa using hx
  clear hx
  go_enter Try.func9, Try.ntmps9
  go_wp2
  go_ret
  exact ⟨rfl, rfl⟩
theorem even_no (x : Int) (w : World) (h0 : 0 ≤ x) (hx : x % 2 ≠ 0) : Calls Try.prog 9 #[.int .u64 x] w (Ret (.bool false) (fun w' => w = w')) := by
  have hb : (x % 2 == 0) = false := by simpa using hx
  clear hx
  go_enter Try.func9, Try.ntmps9
  go_wp2
  go_ret
  exact ⟨rfl, rfl⟩
#print axioms cend
end Go.Proofs.Ytbhnijkphkkalaa
