/- Base, McA, McB, McC, LtQ in one text (by mkbundle.py). -/
import Derived.Test.YticbbfcachnkiaaGreatDoorRows
import Derived.WalkKit
import Derived.ProofKit
import Derived.OpenShut
import Derived.Deep.QuietTactic
import Derived.BigQuiet
import Derived.BigRegion
import Derived.WalkSpells
import Derived.Deep.RegionWith
import Derived.LoopTactic
import Derived.Lib.Hide
import Derived.IntWalk
/- Frames between worlds and small facts that every proof of this seat uses. No Go text, no dump. -/
namespace Go.Proofs.YticbbfcachnkiaaGreatDoor
open Go.ChangeShapes Go.WideShapes Go.ChangeAt Go.RowKit

@[go_sem] theorem alloc_drewN' (w : World) (n : Nat) (o : Obj) : (w.drewN n).alloc o = (w.alloc o).drewN n := rfl
@[go_sem] theorem setCell_drewN' (w : World) (n : Nat) (a : Addr) (v : Value) : (w.drewN n).setCell a v = (w.setCell a v).drewN n := rfl

/-- What a call has returned, and what is true of the world then. -/
def Ret (v : Value) (R : World → Prop) (e : Ending) (w' : World) : Prop := e = .returned v ∧ R w'

/-- The world w' is w but for the blocks D, and for new blocks. -/
structure Frm (D : List Nat) (w w' : World) : Prop where
  os : w'.os = w.os
  tape : w'.tape = w.tape
  output : w'.output = w.output
  size : w.heap.size ≤ w'.heap.size
  block : ∀ k, k < w.heap.size → k ∉ D → w'.heap[k]? = w.heap[k]?

namespace Frm
variable {D : List Nat} {a b c : World}
theorem refl (D : List Nat) (w : World) : Frm D w w := ⟨rfl, rfl, rfl, Nat.le_refl _, fun _ _ _ => rfl⟩
theorem trans (h : Frm D a b) (k : Frm D b c) : Frm D a c :=
  ⟨k.os.trans h.os, k.tape.trans h.tape, k.output.trans h.output, Nat.le_trans h.size k.size,
    fun i hi hd => (k.block i (Nat.lt_of_lt_of_le hi h.size) hd).trans (h.block i hi hd)⟩
theorem weak {D' : List Nat} (h : Frm D a b) (hs : ∀ x, x ∈ D → x ∈ D') : Frm D' a b :=
  ⟨h.os, h.tape, h.output, h.size, fun i hi hd => h.block i hi (fun hx => hd (hs i hx))⟩
theorem nil (h : Frm [] a b) : Frm D a b := h.weak (fun _ hx => by cases hx)
/-- Behind a step that writes blocks of its own alone, which are new to a. -/
theorem trans_new {D' : List Nat} (h : Frm D a b) (k : Frm D' b c) (hs : ∀ x, x ∈ D' → x ∈ D ∨ a.heap.size ≤ x) : Frm D a c :=
  ⟨k.os.trans h.os, k.tape.trans h.tape, k.output.trans h.output, Nat.le_trans h.size k.size,
    fun i hi hd => (k.block i (Nat.lt_of_lt_of_le hi h.size) (fun hx => by rcases hs i hx with h1 | h1; exact hd h1; omega)).trans (h.block i hi hd)⟩
theorem alloc (h : Frm D a b) (o : Obj) : Frm D a (b.alloc o) :=
  h.trans ⟨rfl, rfl, rfl, by simp, fun k hk _ => Below.heap_alloc _ _ _ hk⟩
theorem drewN (h : Frm D a b) (n : Nat) : Frm D a (b.drewN n) := h.trans ⟨rfl, rfl, rfl, Nat.le_refl _, fun _ _ _ => rfl⟩
theorem drew (h : Frm D a b) : Frm D a b.drew := h.drewN 1
theorem setCell (h : Frm D a b) (p : Addr) (u : Value) (hp : p.block ∈ D ∨ a.heap.size ≤ p.block) : Frm D a (b.setCell p u) :=
  h.trans_new (D' := [p.block]) ⟨rfl, rfl, rfl, by simp [World.setCell], fun k _ hd => Below.heap_setCell _ _ _ _ (by simpa using hd)⟩
    (fun x hx => by rw [List.mem_singleton.1 hx]; exact hp)
theorem below {B : Nat} (h : Frm D a b) (hB : B ≤ a.heap.size) (hD : ∀ x, x ∈ D → B ≤ x) : Below B a b :=
  ⟨h.os, h.tape, h.output, h.size, fun k hk => h.block k (by omega) (fun hx => by have := hD k hx; omega)⟩
theorem grown {row : Option Nat} {D : List Nat} (hg : b.grownBy c row) (hD : ∀ k, row = some k → k ∈ D) : Frm D b c :=
  ⟨hg.os, hg.tape, hg.output, hg.size, fun k hk hx => hg.block k hk (fun e => hx (hD k e.symm))⟩
theorem cell (h : Frm D a b) {k i : Nat} (hk : k < a.heap.size) (hd : k ∉ D) : b.cell? ⟨k, i, none⟩ = a.cell? ⟨k, i, none⟩ :=
  World.cell?_of_block (w := a) (h.block k hk hd)
theorem frozen (h : Frm D a b) {k i : Nat} (hk : k < a.heap.size) (hd : k ∉ D) : b.frozen? ⟨k, i, none⟩ = a.frozen? ⟨k, i, none⟩ :=
  World.frozen?_of_block (w := a) (h.block k hk hd)
theorem heap (h : Frm D a b) {k : Nat} {o : Obj} (hk : a.heap[k]? = some o) (hd : k ∉ D) : b.heap[k]? = some o := by
  rw [h.block k (Array.getElem?_eq_some_iff.1 hk).1 hd]; exact hk
end Frm

theorem lt_of_heap {w : World} {k : Nat} {o : Obj} (hk : w.heap[k]? = some o) : k < w.heap.size := (Array.getElem?_eq_some_iff.1 hk).1
theorem cell_of_heap {w : World} {k i : Nat} {cs : Array Value} {t : TypeId} {f : Nat × Nat} (h : w.heap[k]? = some (.cells cs t f)) :
    w.cell? ⟨k, i, none⟩ = cs[i]? := by simp [World.cell?, h]
theorem frozen_of_heap {w : World} {k i : Nat} {cs : Array Value} {t : TypeId} (h : w.heap[k]? = some (.cells cs t (0, 0))) :
    w.frozen? ⟨k, i, none⟩ = false := by simp [World.frozen?, h]
theorem heap_alloc_new (w : World) (o : Obj) : (w.alloc o).heap[w.heap.size]? = some o := by
  show (w.heap.push o)[w.heap.size]? = some o; simp
theorem heap_alloc_at {w : World} {k : Nat} (o : Obj) (h : k = w.heap.size) : (w.alloc o).heap[k]? = some o := by subst h; exact heap_alloc_new w o
theorem heap_alloc_old {w : World} {k : Nat} {o : Obj} (o' : Obj) (h : w.heap[k]? = some o) : (w.alloc o').heap[k]? = some o := by
  rw [Below.heap_alloc _ _ _ (lt_of_heap h)]; exact h
theorem heap_setCell_at {w : World} {k i : Nat} {cs : Array Value} {t : TypeId} {f : Nat × Nat} (v : Value) (h : w.heap[k]? = some (.cells cs t f)) :
    (w.setCell ⟨k, i, none⟩ v).heap[k]? = some (.cells (cs.setIfInBounds i v) t f) := by
  simp [World.setCell, Array.getElem?_modify, h]
theorem heap_setCell_far {w : World} {k : Nat} {o : Obj} (p : Addr) (v : Value) (hp : p.block ≠ k) (h : w.heap[k]? = some o) : (w.setCell p v).heap[k]? = some o := by
  rw [Below.heap_setCell _ _ _ _ (Ne.symm hp)]; exact h

theorem cells4 {w : World} {b : Nat} {x0 x1 x2 x3 : Value} {t : TypeId} (h : w.heap[b]? = some (.cells #[x0, x1, x2, x3] t (0, 0))) :
    w.cell? ⟨b, 0, none⟩ = some x0 ∧ w.cell? ⟨b, 1, none⟩ = some x1 ∧ w.cell? ⟨b, 2, none⟩ = some x2 ∧ w.cell? ⟨b, 3, none⟩ = some x3 := by
  refine ⟨?_, ?_, ?_, ?_⟩ <;> rw [cell_of_heap h] <;> rfl
theorem frozen4 {w : World} {b : Nat} {cs : Array Value} {t : TypeId} (h : w.heap[b]? = some (.cells cs t (0, 0))) :
    w.frozen? ⟨b, 0, none⟩ = false ∧ w.frozen? ⟨b, 1, none⟩ = false ∧ w.frozen? ⟨b, 2, none⟩ = false ∧ w.frozen? ⟨b, 3, none⟩ = false :=
  ⟨frozen_of_heap h, frozen_of_heap h, frozen_of_heap h, frozen_of_heap h⟩

theorem setCells4 {w : World} {b : Nat} {x0 x1 x2 x3 : Value} {t : TypeId} {f : Nat × Nat} (h : w.heap[b]? = some (.cells #[x0, x1, x2, x3] t f)) (y0 y1 y2 y3 : Value) :
    ((((w.setCell ⟨b, 0, none⟩ y0).setCell ⟨b, 1, none⟩ y1).setCell ⟨b, 2, none⟩ y2).setCell ⟨b, 3, none⟩ y3).heap[b]? = some (.cells #[y0, y1, y2, y3] t f) := by
  have := heap_setCell_at (i := 3) y3 (heap_setCell_at (i := 2) y2 (heap_setCell_at (i := 1) y1 (heap_setCell_at (i := 0) y0 h)))
  simpa using this

theorem Frm.set4 {D : List Nat} {a b : World} (h : Frm D a b) (p o1 o2 o3 o4 : Nat) (v1 v2 v3 v4 : Value) (hp : p ∈ D ∨ a.heap.size ≤ p) :
    Frm D a ((((b.setCell ⟨p, o1, none⟩ v1).setCell ⟨p, o2, none⟩ v2).setCell ⟨p, o3, none⟩ v3).setCell ⟨p, o4, none⟩ v4) :=
  (((h.setCell ⟨p, o1, none⟩ v1 hp).setCell ⟨p, o2, none⟩ v2 hp).setCell ⟨p, o3, none⟩ v3 hp).setCell ⟨p, o4, none⟩ v4 hp
theorem heap_set4_far {w : World} {k : Nat} {o : Obj} (p o1 o2 o3 o4 : Nat) (v1 v2 v3 v4 : Value) (hp : p ≠ k) (h : w.heap[k]? = some o) :
    ((((w.setCell ⟨p, o1, none⟩ v1).setCell ⟨p, o2, none⟩ v2).setCell ⟨p, o3, none⟩ v3).setCell ⟨p, o4, none⟩ v4).heap[k]? = some o :=
  heap_setCell_far _ _ hp (heap_setCell_far _ _ hp (heap_setCell_far _ _ hp (heap_setCell_far _ _ hp h)))

/-- A slice of elements of one cell each, which reads as a list. -/
def Rd (w : World) (v : Value) (vs : List Value) : Prop :=
  (v = .slice none 0 0 ∧ vs = []) ∨
  ∃ b o c, v = .slice (some ⟨b, o, none⟩) vs.length c ∧ vs.length ≤ c ∧ b < w.heap.size ∧ ∀ i u, vs[i]? = some u → w.cell? ⟨b, o + i, none⟩ = some u
theorem Rd.frm {D : List Nat} {w w' : World} {v : Value} {vs : List Value} (h : Rd w v vs) (hf : Frm D w w') (hd : ∀ b, v.ownBlock = some b → b ∉ D) : Rd w' v vs := by
  rcases h with h | ⟨b, o, c, hv, hl, hb, hr⟩
  · exact .inl h
  · exact .inr ⟨b, o, c, hv, hl, Nat.lt_of_lt_of_le hb hf.size, fun i u hu => by rw [hf.cell hb (hd b (by rw [hv]; rfl))]; exact hr i u hu⟩
/-- Its block is from B on. -/
def From (B : Nat) (v : Value) : Prop := ∀ b, v.ownBlock = some b → B ≤ b

#print axioms Frm.below
end Go.Proofs.YticbbfcachnkiaaGreatDoor

/- Package qnode: where nodes lie; nil and zero Nodes; none, Threads, many, has, Base, Len. -/
namespace Go.Proofs.YticbbfcachnkiaaGreatDoor
open Go.ChangeShapes Go.WideShapes Go.ChangeAt Go.RowKit

/-- A block holds the Nodes of t threads from the word b on. -/
structure Nd (w : World) (p b t : Nat) : Prop where
  at_ : w.cell? ⟨p, 0, none⟩ = some (.int .i64 b) ∧ w.cell? ⟨p, 1, none⟩ = some (.int .i64 t)
  t1 : 1 ≤ t
  t64 : t ≤ 64
/-- A nil or zero Nodes. -/
def Zv (w : World) (v : Value) : Prop := v = .pointer none ∨ ∃ p, v = .pointer (some ⟨p, 0, none⟩) ∧ w.heap[p]? = some (.cells #[.int .i64 0, .int .i64 0] 124 (0, 0))

theorem cells2 {w : World} {b : Nat} {x0 x1 : Value} {t : TypeId} (h : w.heap[b]? = some (.cells #[x0, x1] t (0, 0))) :
    w.cell? ⟨b, 0, none⟩ = some x0 ∧ w.cell? ⟨b, 1, none⟩ = some x1 := by
  refine ⟨?_, ?_⟩ <;> rw [cell_of_heap h] <;> rfl
theorem Nd.lt {w : World} {p b t : Nat} (h : Nd w p b t) : p < w.heap.size := World.block_lt_of_cell? w _ h.at_.1
theorem Nd.frmD {D : List Nat} {w w' : World} {p b t : Nat} (h : Nd w p b t) (hf : Frm D w w') (hd : p ∉ D) : Nd w' p b t :=
  ⟨⟨(hf.cell h.lt hd).trans h.at_.1, (hf.cell h.lt hd).trans h.at_.2⟩, h.t1, h.t64⟩
theorem Nd.frm {w w' : World} {p b t : Nat} (h : Nd w p b t) (hf : Frm [] w w') : Nd w' p b t := h.frmD hf (by simp)
theorem Nd.heap {w : World} {p b t : Nat} {cs : Array Value} {T : TypeId} (h : w.heap[p]? = some (.cells cs T (0, 0))) (h0 : cs[0]? = some (.int .i64 b)) (h1 : cs[1]? = some (.int .i64 t)) (t1 : 1 ≤ t) (t64 : t ≤ 64) : Nd w p b t :=
  ⟨⟨by rw [cell_of_heap h]; exact h0, by rw [cell_of_heap h]; exact h1⟩, t1, t64⟩
theorem Zv.frm {w w' : World} {v : Value} (h : Zv w v) (hf : Frm [] w w') : Zv w' v := by
  rcases h with h | ⟨p, h, hp⟩
  · exact .inl h
  · exact .inr ⟨p, h, hf.heap hp (by simp)⟩
theorem Zv.nil (w : World) : Zv w (.pointer none) := .inl rfl

theorem none_nd {w : World} {p b t : Nat} (h : Nd w p b t) : Calls Tryz.prog 88 #[.pointer (some ⟨p, 0, none⟩)] w (Ret (.bool false) (fun w' => w = w')) := by
  obtain ⟨c0, c1⟩ := h.at_
  have ht := h.t1
  have hb : ((t : Int) == 0) = false := by simp; omega
  clear h
  go_enter Tryz.func88, Tryz.ntmps88
  go_wp2
  go_ret
  exact ⟨rfl, rfl⟩
theorem none_z {w : World} {v : Value} (h : Zv w v) : Calls Tryz.prog 88 #[v] w (Ret (.bool true) (fun w' => w = w')) := by
  rcases h with rfl | ⟨p, rfl, h⟩
  · go_enter Tryz.func88, Tryz.ntmps88
    go_wp2
    go_ret
    exact ⟨rfl, rfl⟩
  · obtain ⟨c0, c1⟩ := cells2 h
    clear h
    go_enter Tryz.func88, Tryz.ntmps88
    go_wp2
    go_ret
    exact ⟨rfl, rfl⟩

theorem threads_nd {w : World} {p b t : Nat} (h : Nd w p b t) : Calls Tryz.prog 62 #[.pointer (some ⟨p, 0, none⟩)] w (Ret (.int .i64 t) (fun w' => w = w')) := by
  obtain ⟨c0, c1⟩ := h.at_
  have H := Lib.hid h
  clear h
  go_enter Tryz.func62, Tryz.ntmps62
  go_wp2_with fail
  refine (none_nd H.out).mono ?_
  rintro e w' ⟨rfl, rfl⟩
  go_wp2
  go_ret
  exact ⟨rfl, rfl⟩
theorem threads_z {w : World} {v : Value} (h : Zv w v) : Calls Tryz.prog 62 #[v] w (Ret (.int .i64 0) (fun w' => w = w')) := by
  have H := Lib.hid h
  clear h
  go_enter Tryz.func62, Tryz.ntmps62
  go_wp2_with fail
  refine (none_z H.out).mono ?_
  rintro e w' ⟨rfl, rfl⟩
  go_wp2
  go_ret
  exact ⟨rfl, rfl⟩

theorem base_nd {w : World} {p b t : Nat} (h : Nd w p b t) : Calls Tryz.prog 89 #[.pointer (some ⟨p, 0, none⟩)] w (Ret (.int .i64 b) (fun w' => w = w')) := by
  obtain ⟨c0, c1⟩ := h.at_
  have H := Lib.hid h
  clear h
  go_enter Tryz.func89, Tryz.ntmps89
  go_wp2_with fail
  refine (none_nd H.out).mono ?_
  rintro e w' ⟨rfl, rfl⟩
  go_wp2
  go_ret
  exact ⟨rfl, rfl⟩
theorem base_z {w : World} {v : Value} (h : Zv w v) : Calls Tryz.prog 89 #[v] w (Ret (.int .i64 0) (fun w' => w = w')) := by
  have H := Lib.hid h
  clear h
  go_enter Tryz.func89, Tryz.ntmps89
  go_wp2_with fail
  refine (none_z H.out).mono ?_
  rintro e w' ⟨rfl, rfl⟩
  go_wp2
  go_ret
  exact ⟨rfl, rfl⟩

theorem many_nd {w : World} {p b t : Nat} (h : Nd w p b t) : Calls Tryz.prog 67 #[.pointer (some ⟨p, 0, none⟩)] w (Ret (.int .i64 ((t : Int) * 2)) (fun w' => w = w')) := by
  have t64 := h.t64
  have H := Lib.hid h
  clear h
  go_enter Tryz.func67, Tryz.ntmps67
  go_wp2_with fail
  refine (threads_nd H.out).mono ?_
  rintro e w' ⟨rfl, rfl⟩
  go_wp2
  go_ret
  exact ⟨rfl, rfl⟩
theorem many_z {w : World} {v : Value} (h : Zv w v) : Calls Tryz.prog 67 #[v] w (Ret (.int .i64 0) (fun w' => w = w')) := by
  have H := Lib.hid h
  clear h
  go_enter Tryz.func67, Tryz.ntmps67
  go_wp2_with fail
  refine (threads_z H.out).mono ?_
  rintro e w' ⟨rfl, rfl⟩
  go_wp2
  go_ret
  exact ⟨rfl, rfl⟩
theorem len_nd {w : World} {p b t : Nat} (h : Nd w p b t) : Calls Tryz.prog 50 #[.pointer (some ⟨p, 0, none⟩)] w (Ret (.int .i64 ((t : Int) * 2 * 3)) (fun w' => w = w')) := by
  have t64 := h.t64
  have H := Lib.hid h
  clear h
  go_enter Tryz.func50, Tryz.ntmps50
  go_wp2_with fail
  refine (many_nd H.out).mono ?_
  rintro e w' ⟨rfl, rfl⟩
  go_wp2
  go_ret
  exact ⟨rfl, rfl⟩
theorem len_z {w : World} {v : Value} (h : Zv w v) : Calls Tryz.prog 50 #[v] w (Ret (.int .i64 0) (fun w' => w = w')) := by
  have H := Lib.hid h
  clear h
  go_enter Tryz.func50, Tryz.ntmps50
  go_wp2_with fail
  refine (many_z H.out).mono ?_
  rintro e w' ⟨rfl, rfl⟩
  go_wp2
  go_ret
  exact ⟨rfl, rfl⟩

theorem has_yes {w : World} {p b t : Nat} (h : Nd w p b t) (k : Nat) (hk : k < 2 * t) : Calls Tryz.prog 121 #[.pointer (some ⟨p, 0, none⟩), .int .i64 k] w (Ret (.bool true) (fun w' => w = w')) := by
  have t64 := h.t64
  have hb : decide ((k : Int) < (t : Int) * 2) = true := by simp; omega
  have H := Lib.hid h
  clear h
  go_enter Tryz.func121, Tryz.ntmps121
  go_wp2_with fail
  refine (many_nd H.out).mono ?_
  rintro e w' ⟨rfl, rfl⟩
  go_wp2
  go_ret
  exact ⟨rfl, rfl⟩
theorem has_no {w : World} {p b t : Nat} (h : Nd w p b t) (k : Int) (hk : k < 0 ∨ 2 * (t : Int) ≤ k) : Calls Tryz.prog 121 #[.pointer (some ⟨p, 0, none⟩), .int .i64 k] w (Ret (.bool false) (fun w' => w = w')) := by
  have t64 := h.t64
  have H := Lib.hid h
  clear h
  by_cases h0 : 0 ≤ k
  · have h0' : decide (0 ≤ k) = true := by simpa using h0
    have hb : decide (k < (t : Int) * 2) = false := by simp; omega
    go_enter Tryz.func121, Tryz.ntmps121
    go_wp2_with fail
    refine (many_nd H.out).mono ?_
    rintro e w' ⟨rfl, rfl⟩
    go_wp2
    go_ret
    exact ⟨rfl, rfl⟩
  · have h0' : decide (0 ≤ k) = false := by simpa using h0
    go_enter Tryz.func121, Tryz.ntmps121
    go_wp2
    go_ret
    exact ⟨rfl, rfl⟩
theorem has_z {w : World} {v : Value} (h : Zv w v) (k : Int) : Calls Tryz.prog 121 #[v, .int .i64 k] w (Ret (.bool false) (fun w' => w = w')) := by
  have H := Lib.hid h
  clear h
  by_cases h0 : 0 ≤ k
  · have h0' : decide (0 ≤ k) = true := by simpa using h0
    have hb : decide (k < 0) = false := by simpa using h0
    go_enter Tryz.func121, Tryz.ntmps121
    go_wp2_with fail
    refine (many_z H.out).mono ?_
    rintro e w' ⟨rfl, rfl⟩
    go_wp2
    go_ret
    exact ⟨rfl, rfl⟩
  · have h0' : decide (0 ≤ k) = false := by simpa using h0
    go_enter Tryz.func121, Tryz.ntmps121
    go_wp2
    go_ret
    exact ⟨rfl, rfl⟩

theorem word_yes {w : World} {p b t : Nat} (h : Nd w p b t) (fit : b + 6 * t ≤ 65536) (k : Nat) (hk : k < 2 * t) (i : Nat) (hi : i < 3) : Calls Tryz.prog 125 #[.pointer (some ⟨p, 0, none⟩), .int .i64 k, .int .i64 i] w (Ret (.int .i64 ((b : Int) + (k : Int) * 3 + (i : Int))) (fun w' => w = w')) := by
  have t64 := h.t64
  obtain ⟨c0, c1⟩ := h.at_
  have H := Lib.hid h
  clear h
  go_enter Tryz.func125, Tryz.ntmps125
  go_wp2_with fail
  refine (has_yes H.out k hk).mono ?_
  rintro e w' ⟨rfl, rfl⟩
  go_wp2
  go_ret
  exact ⟨rfl, rfl⟩
theorem word_no {w : World} {p b t : Nat} (h : Nd w p b t) (k : Int) (hk : k < 0 ∨ 2 * (t : Int) ≤ k) (i : Int) : Calls Tryz.prog 125 #[.pointer (some ⟨p, 0, none⟩), .int .i64 k, .int .i64 i] w (Ret (.int .i64 (-1)) (fun w' => w = w')) := by
  have H := Lib.hid h
  have HK := Lib.hid hk
  clear h hk
  go_enter Tryz.func125, Tryz.ntmps125
  go_wp2_with fail
  refine (has_no H.out k HK.out).mono ?_
  rintro e w' ⟨rfl, rfl⟩
  go_wp2
  go_ret
  exact ⟨rfl, rfl⟩
theorem word_z {w : World} {v : Value} (h : Zv w v) (k i : Int) : Calls Tryz.prog 125 #[v, .int .i64 k, .int .i64 i] w (Ret (.int .i64 (-1)) (fun w' => w = w')) := by
  have H := Lib.hid h
  clear h
  go_enter Tryz.func125, Tryz.ntmps125
  go_wp2_with fail
  refine (has_z H.out k).mono ?_
  rintro e w' ⟨rfl, rfl⟩
  go_wp2
  go_ret
  exact ⟨rfl, rfl⟩

theorem next_yes {w : World} {p b t : Nat} (h : Nd w p b t) (fit : b + 6 * t ≤ 65536) (k : Nat) (hk : k < 2 * t) : Calls Tryz.prog 120 #[.pointer (some ⟨p, 0, none⟩), .int .i64 k] w (Ret (.int .i64 ((b : Int) + (k : Int) * 3 + 0)) (fun w' => w = w')) := by
  have H := Lib.hid h
  clear h
  go_enter Tryz.func120, Tryz.ntmps120
  go_wp2_with fail
  refine (word_yes H.out fit k hk 0 (by decide)).mono ?_
  rintro e w' ⟨rfl, rfl⟩
  go_wp2
  go_ret
  exact ⟨rfl, rfl⟩
theorem next_no {w : World} {p b t : Nat} (h : Nd w p b t) (k : Int) (hk : k < 0 ∨ 2 * (t : Int) ≤ k) : Calls Tryz.prog 120 #[.pointer (some ⟨p, 0, none⟩), .int .i64 k] w (Ret (.int .i64 (-1)) (fun w' => w = w')) := by
  have H := Lib.hid h
  have HK := Lib.hid hk
  clear h hk
  go_enter Tryz.func120, Tryz.ntmps120
  go_wp2_with fail
  refine (word_no H.out k HK.out 0).mono ?_
  rintro e w' ⟨rfl, rfl⟩
  go_wp2
  go_ret
  exact ⟨rfl, rfl⟩
theorem next_z {w : World} {v : Value} (h : Zv w v) (k : Int) : Calls Tryz.prog 120 #[v, .int .i64 k] w (Ret (.int .i64 (-1)) (fun w' => w = w')) := by
  have H := Lib.hid h
  clear h
  go_enter Tryz.func120, Tryz.ntmps120
  go_wp2_with fail
  refine (word_z H.out k 0).mono ?_
  rintro e w' ⟨rfl, rfl⟩
  go_wp2
  go_ret
  exact ⟨rfl, rfl⟩

theorem wait_yes {w : World} {p b t : Nat} (h : Nd w p b t) (fit : b + 6 * t ≤ 65536) (k : Nat) (hk : k < 2 * t) : Calls Tryz.prog 163 #[.pointer (some ⟨p, 0, none⟩), .int .i64 k] w (Ret (.int .i64 ((b : Int) + (k : Int) * 3 + 1)) (fun w' => w = w')) := by
  have H := Lib.hid h
  clear h
  go_enter Tryz.func163, Tryz.ntmps163
  go_wp2_with fail
  refine (word_yes H.out fit k hk 1 (by decide)).mono ?_
  rintro e w' ⟨rfl, rfl⟩
  go_wp2
  go_ret
  exact ⟨rfl, rfl⟩
theorem wait_no {w : World} {p b t : Nat} (h : Nd w p b t) (k : Int) (hk : k < 0 ∨ 2 * (t : Int) ≤ k) : Calls Tryz.prog 163 #[.pointer (some ⟨p, 0, none⟩), .int .i64 k] w (Ret (.int .i64 (-1)) (fun w' => w = w')) := by
  have H := Lib.hid h
  have HK := Lib.hid hk
  clear h hk
  go_enter Tryz.func163, Tryz.ntmps163
  go_wp2_with fail
  refine (word_no H.out k HK.out 1).mono ?_
  rintro e w' ⟨rfl, rfl⟩
  go_wp2
  go_ret
  exact ⟨rfl, rfl⟩
theorem wait_z {w : World} {v : Value} (h : Zv w v) (k : Int) : Calls Tryz.prog 163 #[v, .int .i64 k] w (Ret (.int .i64 (-1)) (fun w' => w = w')) := by
  have H := Lib.hid h
  clear h
  go_enter Tryz.func163, Tryz.ntmps163
  go_wp2_with fail
  refine (word_z H.out k 1).mono ?_
  rintro e w' ⟨rfl, rfl⟩
  go_wp2
  go_ret
  exact ⟨rfl, rfl⟩

#print axioms wait_yes
end Go.Proofs.YticbbfcachnkiaaGreatDoor

/- Package qnode: Of, Owner, Ref, Node. -/
namespace Go.Proofs.YticbbfcachnkiaaGreatDoor
open Go.ChangeShapes Go.WideShapes Go.ChangeAt Go.RowKit

theorem owner_z {w : World} {v : Value} (h : Zv w v) (k : Int) : Calls Tryz.prog 112 #[v, .int .i64 k] w (Ret (.tuple #[.int .i64 0, .int .i64 1]) (fun w' => w = w')) := by
  have H := Lib.hid h
  clear h
  go_enter Tryz.func112, Tryz.ntmps112
  go_wp2_with fail
  refine (none_z H.out).mono ?_
  rintro e w' ⟨rfl, rfl⟩
  go_wp2
  go_ret2
  exact ⟨rfl, rfl⟩

theorem ref_z {w : World} {v : Value} (h : Zv w v) (k : Int) : Calls Tryz.prog 180 #[v, .int .i64 k] w (Ret (.tuple #[.int .u64 0, .int .i64 1]) (fun w' => w = w')) := by
  have H := Lib.hid h
  clear h
  go_enter Tryz.func180, Tryz.ntmps180
  go_wp2_with fail
  refine (none_z H.out).mono ?_
  rintro e w' ⟨rfl, rfl⟩
  go_wp2
  go_ret2
  exact ⟨rfl, rfl⟩

theorem node_z {w : World} {v : Value} (h : Zv w v) (x : Int) : Calls Tryz.prog 106 #[v, .int .u64 x] w (Ret (.tuple #[.int .i64 0, .int .i64 1]) (fun w' => w = w')) := by
  have H := Lib.hid h
  clear h
  go_enter Tryz.func106, Tryz.ntmps106
  go_wp2_with fail
  refine (none_z H.out).mono ?_
  rintro e w' ⟨rfl, rfl⟩
  go_wp2
  go_ret2
  exact ⟨rfl, rfl⟩

theorem owner_yes {w : World} {p b t : Nat} (h : Nd w p b t) (k : Nat) (hk : k < 2 * t) : Calls Tryz.prog 112 #[.pointer (some ⟨p, 0, none⟩), .int .i64 k] w (Ret (.tuple #[.int .i64 ((k : Int) / 2), .int .i64 0]) (fun w' => w = w')) := by
  have t64 := h.t64
  have H := Lib.hid h
  clear h
  go_enter Tryz.func112, Tryz.ntmps112
  go_wp2_with fail
  refine (none_nd H.out).mono ?_
  rintro e w' ⟨rfl, rfl⟩
  go_wp2_with fail
  refine (has_yes H.out k hk).mono ?_
  rintro e w' ⟨rfl, rfl⟩
  go_wp2
  go_ret2
  exact ⟨rfl, rfl⟩
theorem owner_no {w : World} {p b t : Nat} (h : Nd w p b t) (k : Int) (hk : k < 0 ∨ 2 * (t : Int) ≤ k) : Calls Tryz.prog 112 #[.pointer (some ⟨p, 0, none⟩), .int .i64 k] w (Ret (.tuple #[.int .i64 0, .int .i64 9]) (fun w' => w = w')) := by
  have H := Lib.hid h
  have HK := Lib.hid hk
  clear h hk
  go_enter Tryz.func112, Tryz.ntmps112
  go_wp2_with fail
  refine (none_nd H.out).mono ?_
  rintro e w' ⟨rfl, rfl⟩
  go_wp2_with fail
  refine (has_no H.out k HK.out).mono ?_
  rintro e w' ⟨rfl, rfl⟩
  go_wp2
  go_ret2
  exact ⟨rfl, rfl⟩

theorem u64_nat (k : Nat) (h : k < 100000) : IntKind.u64.wrap (k : Int) = k := by rw [IntKind.wrap_u64]; omega
theorem u64_nat1 (k : Nat) (h : k < 100000) : IntKind.u64.wrap ((k : Int) + 1) = (k : Int) + 1 := by rw [IntKind.wrap_u64]; omega
theorem ref_yes {w : World} {p b t : Nat} (h : Nd w p b t) (k : Nat) (hk : k < 2 * t) : Calls Tryz.prog 180 #[.pointer (some ⟨p, 0, none⟩), .int .i64 k] w (Ret (.tuple #[.int .u64 ((k : Int) + 1), .int .i64 0]) (fun w' => w = w')) := by
  have t64 := h.t64
  have H := Lib.hid h
  have hu := u64_nat k (by omega)
  have hu1 := u64_nat1 k (by omega)
  clear h
  go_enter Tryz.func180, Tryz.ntmps180
  go_wp2_with fail
  refine (none_nd H.out).mono ?_
  rintro e w' ⟨rfl, rfl⟩
  go_wp2_with fail
  refine (has_yes H.out k hk).mono ?_
  rintro e w' ⟨rfl, rfl⟩
  go_wp2
  go_ret2
  exact ⟨rfl, rfl⟩
theorem ref_no {w : World} {p b t : Nat} (h : Nd w p b t) (k : Int) (hk : k < 0 ∨ 2 * (t : Int) ≤ k) : Calls Tryz.prog 180 #[.pointer (some ⟨p, 0, none⟩), .int .i64 k] w (Ret (.tuple #[.int .u64 0, .int .i64 9]) (fun w' => w = w')) := by
  have H := Lib.hid h
  have HK := Lib.hid hk
  clear h hk
  go_enter Tryz.func180, Tryz.ntmps180
  go_wp2_with fail
  refine (none_nd H.out).mono ?_
  rintro e w' ⟨rfl, rfl⟩
  go_wp2_with fail
  refine (has_no H.out k HK.out).mono ?_
  rintro e w' ⟨rfl, rfl⟩
  go_wp2
  go_ret2
  exact ⟨rfl, rfl⟩

theorem node_yes {w : World} {p b t : Nat} (h : Nd w p b t) (x : Nat) (hx : x ≤ 2 * t) : Calls Tryz.prog 106 #[.pointer (some ⟨p, 0, none⟩), .int .u64 x] w (Ret (.tuple #[.int .i64 ((x : Int) - 1), .int .i64 0]) (fun w' => w = w')) := by
  have t64 := h.t64
  have H := Lib.hid h
  have hu : IntKind.u64.wrap ((t : Int) * 2) = (t : Int) * 2 := by rw [IntKind.wrap_u64]; omega
  have hi : IntKind.i64.wrap (x : Int) = (x : Int) := IntWalk.i64_in _ (by omega)
  have hb : decide ((t : Int) * 2 < (x : Int)) = false := by simp; omega
  clear h
  go_enter Tryz.func106, Tryz.ntmps106
  go_wp2_with fail
  refine (none_nd H.out).mono ?_
  rintro e w' ⟨rfl, rfl⟩
  go_wp2_with fail
  refine (many_nd H.out).mono ?_
  rintro e w' ⟨rfl, rfl⟩
  go_wp2
  go_ret2
  exact ⟨rfl, rfl⟩
theorem node_no {w : World} {p b t : Nat} (h : Nd w p b t) (x : Int) (hx : 2 * (t : Int) < x) : Calls Tryz.prog 106 #[.pointer (some ⟨p, 0, none⟩), .int .u64 x] w (Ret (.tuple #[.int .i64 0, .int .i64 12]) (fun w' => w = w')) := by
  have t64 := h.t64
  have H := Lib.hid h
  have hu : IntKind.u64.wrap ((t : Int) * 2) = (t : Int) * 2 := by rw [IntKind.wrap_u64]; omega
  have hb : decide ((t : Int) * 2 < x) = true := by simp; omega
  clear h
  go_enter Tryz.func106, Tryz.ntmps106
  go_wp2_with fail
  refine (none_nd H.out).mono ?_
  rintro e w' ⟨rfl, rfl⟩
  go_wp2_with fail
  refine (many_nd H.out).mono ?_
  rintro e w' ⟨rfl, rfl⟩
  go_wp2
  go_ret2
  exact ⟨rfl, rfl⟩

#print axioms node_no
end Go.Proofs.YticbbfcachnkiaaGreatDoor

/- Package qnode: New, Same; the reference's Right, Has, Word. -/
namespace Go.Proofs.YticbbfcachnkiaaGreatDoor
open Go.ChangeShapes Go.WideShapes Go.ChangeAt Go.RowKit

theorem nodes_new (w : World) (b t : Nat) (t1 : 1 ≤ t) (t64 : t ≤ 64) (fit : b + 6 * t ≤ 65536) : Calls Tryz.prog 28 #[.int .i64 b, .int .i64 t] w
    (Ret (.tuple #[.pointer (some ⟨w.heap.size, 0, none⟩), .int .i64 0]) (fun w' => Frm [] w w' ∧ Nd w' w.heap.size b t)) := by
  have hN : Nd (w.alloc (.cells #[.int .i64 b, .int .i64 t] 124)) w.heap.size b t := .heap (heap_alloc_new _ _) rfl rfl t1 t64
  have H := Lib.hid hN
  have hb1 : decide ((t : Int) < 1) = false := by simp; omega
  have hb1' : decide (t < 1) = false := by simp; omega
  have hb2 : decide (64 < (t : Int)) = false := by simp; omega
  have hb2' : decide (64 < t) = false := by simp; omega
  have hb3 : decide ((65536 : Int) - (t : Int) * 2 * 3 < (b : Int)) = false := by simp; omega
  clear hN
  go_enter Tryz.func28, Tryz.ntmps28
  go_wp2_with fail
  refine (len_nd H.out).mono ?_
  rintro e w' ⟨rfl, rfl⟩
  go_wp2
  go_ret2
  exact ⟨rfl, (Frm.refl _ _).alloc _, H.out⟩
theorem nodes_bad (w : World) (b t : Int) (h : ¬ (0 ≤ b ∧ 1 ≤ t ∧ t ≤ 64 ∧ b + 6 * t ≤ 65536)) (wb : (Lit.int .i64 b).wf = true) : Calls Tryz.prog 28 #[.int .i64 b, .int .i64 t] w
    (Ret (.tuple #[.pointer none, .int .i64 2]) (fun w' => Frm [] w w')) := by
  by_cases h0 : b < 0
  · have hb0 : decide (b < 0) = true := by simpa using h0
    go_enter Tryz.func28, Tryz.ntmps28
    go_wp2
    go_ret2
    exact ⟨rfl, Frm.refl _ _⟩
  · have hb0 : decide (b < 0) = false := by simpa using h0
    by_cases h1 : t < 1
    · have hb1 : decide (t < 1) = true := by simpa using h1
      go_enter Tryz.func28, Tryz.ntmps28
      go_wp2
      go_ret2
      exact ⟨rfl, Frm.refl _ _⟩
    · have hb1 : decide (t < 1) = false := by simpa using h1
      by_cases h2 : 64 < t
      · have hb2 : decide (64 < t) = true := by simpa using h2
        go_enter Tryz.func28, Tryz.ntmps28
        go_wp2
        go_ret2
        exact ⟨rfl, Frm.refl _ _⟩
      · have hb2 : decide (64 < t) = false := by simpa using h2
        have hb3 : decide ((65536 : Int) - t * 2 * 3 < b) = true := by simp; omega
        obtain ⟨k, rfl⟩ := Int.eq_ofNat_of_zero_le (show 0 ≤ t by omega)
        obtain ⟨c, rfl⟩ := Int.eq_ofNat_of_zero_le (show 0 ≤ b by omega)
        have hN : Nd (w.alloc (.cells #[.int .i64 c, .int .i64 k] 124)) w.heap.size c k := .heap (heap_alloc_new _ _) rfl rfl (by omega) (by omega)
        have H := Lib.hid hN
        have hk : k ≤ 64 := by omega
        clear hN h
        go_enter Tryz.func28, Tryz.ntmps28
        go_wp2_with fail
        refine (len_nd H.out).mono ?_
        rintro e w' ⟨rfl, rfl⟩
        go_wp2
        go_ret2
        exact ⟨rfl, (Frm.refl _ _).alloc _⟩

/-! The reference. -/

theorem rhas_yes (w : World) (b : Int) (t k : Nat) (t64 : t ≤ 64) (hk : k < 2 * t) : Calls Tryz.prog 52 #[.agg #[.int .i64 b, .int .i64 t], .int .i64 k] w (Ret (.bool true) (fun w' => Frm [] w w')) := by
  have hb : decide ((k : Int) < 2 * (t : Int)) = true := by simp; omega
  go_enter Tryz.func52, Tryz.ntmps52
  go_wp2
  go_ret
  exact ⟨rfl, (Frm.refl _ _).alloc _⟩
theorem rhas_no (w : World) (b : Int) (t : Nat) (k : Int) (t64 : t ≤ 64) (hk : k < 0 ∨ 2 * (t : Int) ≤ k) : Calls Tryz.prog 52 #[.agg #[.int .i64 b, .int .i64 t], .int .i64 k] w (Ret (.bool false) (fun w' => Frm [] w w')) := by
  by_cases h0 : 0 ≤ k
  · have h0' : decide (0 ≤ k) = true := by simpa using h0
    have hb : decide (k < 2 * (t : Int)) = false := by simp; omega
    go_enter Tryz.func52, Tryz.ntmps52
    go_wp2
    go_ret
    exact ⟨rfl, (Frm.refl _ _).alloc _⟩
  · have h0' : decide (0 ≤ k) = false := by simpa using h0
    go_enter Tryz.func52, Tryz.ntmps52
    go_wp2
    go_ret
    exact ⟨rfl, (Frm.refl _ _).alloc _⟩

theorem rword_yes (w : World) (b t k : Nat) (t64 : t ≤ 64) (fit : b + 6 * t ≤ 65536) (hk : k < 2 * t) (i : Nat) (hi : i < 3) : Calls Tryz.prog 95 #[.agg #[.int .i64 b, .int .i64 t], .int .i64 k, .int .i64 i] w (Ret (.int .i64 ((b : Int) + (k : Int) * 3 + (i : Int))) (fun w' => Frm [] w w')) := by
  obtain ⟨X, hX⟩ : ∃ X, X = w.alloc (.cells #[.int .i64 b, .int .i64 t] 33) := ⟨_, rfl⟩
  have hFX : Frm [] w X := by rw [hX]; exact (Frm.refl _ _).alloc _
  have hB : X.heap[w.heap.size]? = some (.cells #[.int .i64 b, .int .i64 t] 33 (0, 0)) := by rw [hX]; exact heap_alloc_new _ _
  have e3 : 3 * (k : Int) = (k : Int) * 3 := by omega
  have HX := Lib.hid hX
  have HB := Lib.hid hB
  have HF := Lib.hid hFX
  have E3 := Lib.hid e3
  clear hX hB hFX e3
  go_enter Tryz.func95, Tryz.ntmps95
  go_wp2_with fail
  refine (rhas_yes _ _ t k t64 hk).mono ?_
  rintro e w1 ⟨rfl, hF1⟩
  rw [← HX.out] at hF1
  obtain ⟨c0, c1⟩ := cells2 (hF1.heap HB.out (by simp))
  go_wp2
  go_ret
  exact ⟨by rw [← E3.out]; rfl, HF.out.trans hF1⟩
theorem rword_no (w : World) (b : Int) (t : Nat) (k : Int) (t64 : t ≤ 64) (hk : k < 0 ∨ 2 * (t : Int) ≤ k) (i : Int) : Calls Tryz.prog 95 #[.agg #[.int .i64 b, .int .i64 t], .int .i64 k, .int .i64 i] w (Ret (.int .i64 (-1)) (fun w' => Frm [] w w')) := by
  have HK := Lib.hid hk
  clear hk
  go_enter Tryz.func95, Tryz.ntmps95
  go_wp2_with fail
  refine (rhas_no _ _ t k t64 HK.out).mono ?_
  rintro e w1 ⟨rfl, hF1⟩
  go_wp2
  go_ret
  exact ⟨rfl, ((Frm.refl _ _).alloc _).trans hF1⟩

theorem rnext_yes (w : World) (b t k : Nat) (t64 : t ≤ 64) (fit : b + 6 * t ≤ 65536) (hk : k < 2 * t) : Calls Tryz.prog 76 #[.agg #[.int .i64 b, .int .i64 t], .int .i64 k] w (Ret (.int .i64 ((b : Int) + (k : Int) * 3 + 0)) (fun w' => Frm [] w w')) := by
  go_enter Tryz.func76, Tryz.ntmps76
  go_wp2_with fail
  refine (rword_yes _ b t k t64 fit hk 0 (by decide)).mono ?_
  rintro e w1 ⟨rfl, hF1⟩
  go_wp2
  go_ret
  exact ⟨rfl, ((Frm.refl _ _).alloc _).trans hF1⟩
theorem rnext_no (w : World) (b : Int) (t : Nat) (k : Int) (t64 : t ≤ 64) (hk : k < 0 ∨ 2 * (t : Int) ≤ k) : Calls Tryz.prog 76 #[.agg #[.int .i64 b, .int .i64 t], .int .i64 k] w (Ret (.int .i64 (-1)) (fun w' => Frm [] w w')) := by
  have HK := Lib.hid hk
  clear hk
  go_enter Tryz.func76, Tryz.ntmps76
  go_wp2_with fail
  refine (rword_no _ b t k t64 HK.out 0).mono ?_
  rintro e w1 ⟨rfl, hF1⟩
  go_wp2
  go_ret
  exact ⟨rfl, ((Frm.refl _ _).alloc _).trans hF1⟩

theorem rwait_yes (w : World) (b t k : Nat) (t64 : t ≤ 64) (fit : b + 6 * t ≤ 65536) (hk : k < 2 * t) : Calls Tryz.prog 77 #[.agg #[.int .i64 b, .int .i64 t], .int .i64 k] w (Ret (.int .i64 ((b : Int) + (k : Int) * 3 + 1)) (fun w' => Frm [] w w')) := by
  go_enter Tryz.func77, Tryz.ntmps77
  go_wp2_with fail
  refine (rword_yes _ b t k t64 fit hk 1 (by decide)).mono ?_
  rintro e w1 ⟨rfl, hF1⟩
  go_wp2
  go_ret
  exact ⟨rfl, ((Frm.refl _ _).alloc _).trans hF1⟩
theorem rwait_no (w : World) (b : Int) (t : Nat) (k : Int) (t64 : t ≤ 64) (hk : k < 0 ∨ 2 * (t : Int) ≤ k) : Calls Tryz.prog 77 #[.agg #[.int .i64 b, .int .i64 t], .int .i64 k] w (Ret (.int .i64 (-1)) (fun w' => Frm [] w w')) := by
  have HK := Lib.hid hk
  clear hk
  go_enter Tryz.func77, Tryz.ntmps77
  go_wp2_with fail
  refine (rword_no _ b t k t64 HK.out 1).mono ?_
  rintro e w1 ⟨rfl, hF1⟩
  go_wp2
  go_ret
  exact ⟨rfl, ((Frm.refl _ _).alloc _).trans hF1⟩

#print axioms rwait_no
end Go.Proofs.YticbbfcachnkiaaGreatDoor

/- Package qnode: Mode, Of. -/
namespace Go.Proofs.YticbbfcachnkiaaGreatDoor
open Go.ChangeShapes Go.WideShapes Go.ChangeAt Go.RowKit
theorem mode_yes {w : World} {p b t : Nat} (h : Nd w p b t) (fit : b + 6 * t ≤ 65536) (k : Nat) (hk : k < 2 * t) : Calls Tryz.prog 124 #[.pointer (some ⟨p, 0, none⟩), .int .i64 k] w (Ret (.int .i64 ((b : Int) + (k : Int) * 3 + 2)) (fun w' => w = w')) := by
  have H := Lib.hid h
  clear h
  go_enter Tryz.func124, Tryz.ntmps124
  go_wp2_with fail
  refine (word_yes H.out fit k hk 2 (by decide)).mono ?_
  rintro e w' ⟨rfl, rfl⟩
  go_wp2
  go_ret
  exact ⟨rfl, rfl⟩
theorem mode_no {w : World} {p b t : Nat} (h : Nd w p b t) (k : Int) (hk : k < 0 ∨ 2 * (t : Int) ≤ k) : Calls Tryz.prog 124 #[.pointer (some ⟨p, 0, none⟩), .int .i64 k] w (Ret (.int .i64 (-1)) (fun w' => w = w')) := by
  have H := Lib.hid h
  have HK := Lib.hid hk
  clear h hk
  go_enter Tryz.func124, Tryz.ntmps124
  go_wp2_with fail
  refine (word_no H.out k HK.out 2).mono ?_
  rintro e w' ⟨rfl, rfl⟩
  go_wp2
  go_ret
  exact ⟨rfl, rfl⟩
theorem mode_z {w : World} {v : Value} (h : Zv w v) (k : Int) : Calls Tryz.prog 124 #[v, .int .i64 k] w (Ret (.int .i64 (-1)) (fun w' => w = w')) := by
  have H := Lib.hid h
  clear h
  go_enter Tryz.func124, Tryz.ntmps124
  go_wp2_with fail
  refine (word_z H.out k 2).mono ?_
  rintro e w' ⟨rfl, rfl⟩
  go_wp2
  go_ret
  exact ⟨rfl, rfl⟩
theorem of_z {w : World} {v : Value} (h : Zv w v) (a k : Int) : Calls Tryz.prog 68 #[v, .int .i64 a, .int .i64 k] w (Ret (.tuple #[.int .i64 0, .int .i64 1]) (fun w' => w = w')) := by
  have H := Lib.hid h
  clear h
  go_enter Tryz.func68, Tryz.ntmps68
  go_wp2_with fail
  refine (none_z H.out).mono ?_
  rintro e w' ⟨rfl, rfl⟩
  go_wp2
  go_ret2
  exact ⟨rfl, rfl⟩

theorem of_yes {w : World} {p b t : Nat} (h : Nd w p b t) (a k : Nat) (ha : a < t) (hk : k < 2) : Calls Tryz.prog 68 #[.pointer (some ⟨p, 0, none⟩), .int .i64 a, .int .i64 k] w (Ret (.tuple #[.int .i64 ((a : Int) * 2 + (k : Int)), .int .i64 0]) (fun w' => w = w')) := by
  have t64 := h.t64
  obtain ⟨c0, c1⟩ := h.at_
  have H := Lib.hid h
  have hb1 : decide ((t : Int) ≤ (a : Int)) = false := by simp; omega
  have hb1' : decide (t ≤ a) = false := by simp; omega
  have hb2 : decide (1 < (k : Int)) = false := by simp; omega
  have hb2' : decide (1 < k) = false := by simp; omega
  clear h
  go_enter Tryz.func68, Tryz.ntmps68
  go_wp2_with fail
  refine (none_nd H.out).mono ?_
  rintro e w' ⟨rfl, rfl⟩
  go_wp2
  go_ret2
  exact ⟨rfl, rfl⟩
theorem of_no {w : World} {p b t : Nat} (h : Nd w p b t) (a k : Int) (hk : a < 0 ∨ (t : Int) ≤ a ∨ k < 0 ∨ 1 < k) : Calls Tryz.prog 68 #[.pointer (some ⟨p, 0, none⟩), .int .i64 a, .int .i64 k] w (Ret (.tuple #[.int .i64 0, .int .i64 2]) (fun w' => w = w')) := by
  have t64 := h.t64
  obtain ⟨c0, c1⟩ := h.at_
  have H := Lib.hid h
  clear h
  by_cases h1 : a < 0
  · have hb1 : decide (a < 0) = true := by simpa using h1
    go_enter Tryz.func68, Tryz.ntmps68
    go_wp2_with fail
    refine (none_nd H.out).mono ?_
    rintro e w' ⟨rfl, rfl⟩
    go_wp2
    go_ret2
    exact ⟨rfl, rfl⟩
  · have hb1 : decide (a < 0) = false := by simpa using h1
    by_cases h2 : (t : Int) ≤ a
    · have hb2 : decide ((t : Int) ≤ a) = true := by simpa using h2
      go_enter Tryz.func68, Tryz.ntmps68
      go_wp2_with fail
      refine (none_nd H.out).mono ?_
      rintro e w' ⟨rfl, rfl⟩
      go_wp2
      go_ret2
      exact ⟨rfl, rfl⟩
    · have hb2 : decide ((t : Int) ≤ a) = false := by simpa using h2
      by_cases h3 : k < 0
      · have hb3 : decide (k < 0) = true := by simpa using h3
        go_enter Tryz.func68, Tryz.ntmps68
        go_wp2_with fail
        refine (none_nd H.out).mono ?_
        rintro e w' ⟨rfl, rfl⟩
        go_wp2
        go_ret2
        exact ⟨rfl, rfl⟩
      · have hb3 : decide (k < 0) = false := by simpa using h3
        have hb4 : decide (1 < k) = true := by simp; omega
        go_enter Tryz.func68, Tryz.ntmps68
        go_wp2_with fail
        refine (none_nd H.out).mono ?_
        rintro e w' ⟨rfl, rfl⟩
        go_wp2
        go_ret2
        exact ⟨rfl, rfl⟩

end Go.Proofs.YticbbfcachnkiaaGreatDoor
