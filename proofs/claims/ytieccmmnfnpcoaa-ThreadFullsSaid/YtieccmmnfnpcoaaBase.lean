/- Frames between worlds and small facts that every proof of this seat uses. No Go text, no dump. -/
import Derived.Test.YtieccmmnfnpcoaaRows
import Derived.WalkKit
import Derived.ProofKit
import Derived.OpenShut
import Derived.Deep.QuietTactic
import Derived.BigQuiet
import Derived.BigRegion
import Derived.WalkSpells
import Derived.Deep.RegionWith
import Derived.LoopTactic
import Derived.Lib.Hide
namespace Go.Proofs.Ytieccmmnfnpcoaa
open Go.ChangeShapes Go.WideShapes Go.ChangeAt Go.RowKit

@[go_sem] theorem alloc_drewN' (w : World) (n : Nat) (o : Obj) : (w.drewN n).alloc o = (w.alloc o).drewN n := rfl
@[go_sem] theorem setCell_drewN' (w : World) (n : Nat) (a : Addr) (v : Value) : (w.drewN n).setCell a v = (w.setCell a v).drewN n := rfl

/-- What a call has returned, and what is true of the world then. -/
def Ret (v : Value) (R : World → Prop) (e : Ending) (w' : World) : Prop := e = .returned v ∧ R w'

/-- The world w' is w but for the blocks D, and for new blocks. -/
structure Frm (D : List Nat) (w w' : World) : Prop where
  os : w'.os = w.os
  tape : w'.tape = w.tape
  output : w'.output = w.output
  size : w.heap.size ≤ w'.heap.size
  block : ∀ k, k < w.heap.size → k ∉ D → w'.heap[k]? = w.heap[k]?

namespace Frm
variable {D : List Nat} {a b c : World}
theorem refl (D : List Nat) (w : World) : Frm D w w := ⟨rfl, rfl, rfl, Nat.le_refl _, fun _ _ _ => rfl⟩
theorem trans (h : Frm D a b) (k : Frm D b c) : Frm D a c :=
  ⟨k.os.trans h.os, k.tape.trans h.tape, k.output.trans h.output, Nat.le_trans h.size k.size,
    fun i hi hd => (k.block i (Nat.lt_of_lt_of_le hi h.size) hd).trans (h.block i hi hd)⟩
theorem weak {D' : List Nat} (h : Frm D a b) (hs : ∀ x, x ∈ D → x ∈ D') : Frm D' a b :=
  ⟨h.os, h.tape, h.output, h.size, fun i hi hd => h.block i hi (fun hx => hd (hs i hx))⟩
theorem nil (h : Frm [] a b) : Frm D a b := h.weak (fun _ hx => by cases hx)
/-- Behind a step that writes blocks of its own alone, which are new to a. -/
theorem trans_new {D' : List Nat} (h : Frm D a b) (k : Frm D' b c) (hs : ∀ x, x ∈ D' → x ∈ D ∨ a.heap.size ≤ x) : Frm D a c :=
  ⟨k.os.trans h.os, k.tape.trans h.tape, k.output.trans h.output, Nat.le_trans h.size k.size,
    fun i hi hd => (k.block i (Nat.lt_of_lt_of_le hi h.size) (fun hx => by rcases hs i hx with h1 | h1; exact hd h1; omega)).trans (h.block i hi hd)⟩
theorem alloc (h : Frm D a b) (o : Obj) : Frm D a (b.alloc o) :=
  h.trans ⟨rfl, rfl, rfl, by simp, fun k hk _ => Below.heap_alloc _ _ _ hk⟩
theorem drewN (h : Frm D a b) (n : Nat) : Frm D a (b.drewN n) := h.trans ⟨rfl, rfl, rfl, Nat.le_refl _, fun _ _ _ => rfl⟩
theorem drew (h : Frm D a b) : Frm D a b.drew := h.drewN 1
theorem setCell (h : Frm D a b) (p : Addr) (u : Value) (hp : p.block ∈ D ∨ a.heap.size ≤ p.block) : Frm D a (b.setCell p u) :=
  h.trans_new (D' := [p.block]) ⟨rfl, rfl, rfl, by simp [World.setCell], fun k _ hd => Below.heap_setCell _ _ _ _ (by simpa using hd)⟩
    (fun x hx => by rw [List.mem_singleton.1 hx]; exact hp)
theorem below {B : Nat} (h : Frm D a b) (hB : B ≤ a.heap.size) (hD : ∀ x, x ∈ D → B ≤ x) : Below B a b :=
  ⟨h.os, h.tape, h.output, h.size, fun k hk => h.block k (by omega) (fun hx => by have := hD k hx; omega)⟩
theorem grown {row : Option Nat} {D : List Nat} (hg : b.grownBy c row) (hD : ∀ k, row = some k → k ∈ D) : Frm D b c :=
  ⟨hg.os, hg.tape, hg.output, hg.size, fun k hk hx => hg.block k hk (fun e => hx (hD k e.symm))⟩
theorem cell (h : Frm D a b) {k i : Nat} (hk : k < a.heap.size) (hd : k ∉ D) : b.cell? ⟨k, i, none⟩ = a.cell? ⟨k, i, none⟩ :=
  World.cell?_of_block (w := a) (h.block k hk hd)
theorem frozen (h : Frm D a b) {k i : Nat} (hk : k < a.heap.size) (hd : k ∉ D) : b.frozen? ⟨k, i, none⟩ = a.frozen? ⟨k, i, none⟩ :=
  World.frozen?_of_block (w := a) (h.block k hk hd)
theorem heap (h : Frm D a b) {k : Nat} {o : Obj} (hk : a.heap[k]? = some o) (hd : k ∉ D) : b.heap[k]? = some o := by
  rw [h.block k (Array.getElem?_eq_some_iff.1 hk).1 hd]; exact hk
end Frm

theorem lt_of_heap {w : World} {k : Nat} {o : Obj} (hk : w.heap[k]? = some o) : k < w.heap.size := (Array.getElem?_eq_some_iff.1 hk).1
theorem cell_of_heap {w : World} {k i : Nat} {cs : Array Value} {t : TypeId} {f : Nat × Nat} (h : w.heap[k]? = some (.cells cs t f)) :
    w.cell? ⟨k, i, none⟩ = cs[i]? := by simp [World.cell?, h]
theorem frozen_of_heap {w : World} {k i : Nat} {cs : Array Value} {t : TypeId} (h : w.heap[k]? = some (.cells cs t (0, 0))) :
    w.frozen? ⟨k, i, none⟩ = false := by simp [World.frozen?, h]
theorem heap_alloc_new (w : World) (o : Obj) : (w.alloc o).heap[w.heap.size]? = some o := by
  show (w.heap.push o)[w.heap.size]? = some o; simp
theorem heap_alloc_at {w : World} {k : Nat} (o : Obj) (h : k = w.heap.size) : (w.alloc o).heap[k]? = some o := by subst h; exact heap_alloc_new w o
theorem heap_alloc_old {w : World} {k : Nat} {o : Obj} (o' : Obj) (h : w.heap[k]? = some o) : (w.alloc o').heap[k]? = some o := by
  rw [Below.heap_alloc _ _ _ (lt_of_heap h)]; exact h
theorem heap_setCell_at {w : World} {k i : Nat} {cs : Array Value} {t : TypeId} {f : Nat × Nat} (v : Value) (h : w.heap[k]? = some (.cells cs t f)) :
    (w.setCell ⟨k, i, none⟩ v).heap[k]? = some (.cells (cs.setIfInBounds i v) t f) := by
  simp [World.setCell, Array.getElem?_modify, h]
theorem heap_setCell_far {w : World} {k : Nat} {o : Obj} (p : Addr) (v : Value) (hp : p.block ≠ k) (h : w.heap[k]? = some o) : (w.setCell p v).heap[k]? = some o := by
  rw [Below.heap_setCell _ _ _ _ (Ne.symm hp)]; exact h

theorem cells4 {w : World} {b : Nat} {x0 x1 x2 x3 : Value} {t : TypeId} (h : w.heap[b]? = some (.cells #[x0, x1, x2, x3] t (0, 0))) :
    w.cell? ⟨b, 0, none⟩ = some x0 ∧ w.cell? ⟨b, 1, none⟩ = some x1 ∧ w.cell? ⟨b, 2, none⟩ = some x2 ∧ w.cell? ⟨b, 3, none⟩ = some x3 := by
  refine ⟨?_, ?_, ?_, ?_⟩ <;> rw [cell_of_heap h] <;> rfl
theorem frozen4 {w : World} {b : Nat} {cs : Array Value} {t : TypeId} (h : w.heap[b]? = some (.cells cs t (0, 0))) :
    w.frozen? ⟨b, 0, none⟩ = false ∧ w.frozen? ⟨b, 1, none⟩ = false ∧ w.frozen? ⟨b, 2, none⟩ = false ∧ w.frozen? ⟨b, 3, none⟩ = false :=
  ⟨frozen_of_heap h, frozen_of_heap h, frozen_of_heap h, frozen_of_heap h⟩

theorem setCells4 {w : World} {b : Nat} {x0 x1 x2 x3 : Value} {t : TypeId} {f : Nat × Nat} (h : w.heap[b]? = some (.cells #[x0, x1, x2, x3] t f)) (y0 y1 y2 y3 : Value) :
    ((((w.setCell ⟨b, 0, none⟩ y0).setCell ⟨b, 1, none⟩ y1).setCell ⟨b, 2, none⟩ y2).setCell ⟨b, 3, none⟩ y3).heap[b]? = some (.cells #[y0, y1, y2, y3] t f) := by
  have := heap_setCell_at (i := 3) y3 (heap_setCell_at (i := 2) y2 (heap_setCell_at (i := 1) y1 (heap_setCell_at (i := 0) y0 h)))
  simpa using this

theorem Frm.set4 {D : List Nat} {a b : World} (h : Frm D a b) (p o1 o2 o3 o4 : Nat) (v1 v2 v3 v4 : Value) (hp : p ∈ D ∨ a.heap.size ≤ p) :
    Frm D a ((((b.setCell ⟨p, o1, none⟩ v1).setCell ⟨p, o2, none⟩ v2).setCell ⟨p, o3, none⟩ v3).setCell ⟨p, o4, none⟩ v4) :=
  (((h.setCell ⟨p, o1, none⟩ v1 hp).setCell ⟨p, o2, none⟩ v2 hp).setCell ⟨p, o3, none⟩ v3 hp).setCell ⟨p, o4, none⟩ v4 hp
theorem heap_set4_far {w : World} {k : Nat} {o : Obj} (p o1 o2 o3 o4 : Nat) (v1 v2 v3 v4 : Value) (hp : p ≠ k) (h : w.heap[k]? = some o) :
    ((((w.setCell ⟨p, o1, none⟩ v1).setCell ⟨p, o2, none⟩ v2).setCell ⟨p, o3, none⟩ v3).setCell ⟨p, o4, none⟩ v4).heap[k]? = some o :=
  heap_setCell_far _ _ hp (heap_setCell_far _ _ hp (heap_setCell_far _ _ hp (heap_setCell_far _ _ hp h)))

/-- A slice of elements of one cell each, which reads as a list. -/
def Rd (w : World) (v : Value) (vs : List Value) : Prop :=
  (v = .slice none 0 0 ∧ vs = []) ∨
  ∃ b o c, v = .slice (some ⟨b, o, none⟩) vs.length c ∧ vs.length ≤ c ∧ b < w.heap.size ∧ ∀ i u, vs[i]? = some u → w.cell? ⟨b, o + i, none⟩ = some u
theorem Rd.frm {D : List Nat} {w w' : World} {v : Value} {vs : List Value} (h : Rd w v vs) (hf : Frm D w w') (hd : ∀ b, v.ownBlock = some b → b ∉ D) : Rd w' v vs := by
  rcases h with h | ⟨b, o, c, hv, hl, hb, hr⟩
  · exact .inl h
  · exact .inr ⟨b, o, c, hv, hl, Nat.lt_of_lt_of_le hb hf.size, fun i u hu => by rw [hf.cell hb (hd b (by rw [hv]; rfl))]; exact hr i u hu⟩
/-- Its block is from B on. -/
def From (B : Nat) (v : Value) : Prop := ∀ b, v.ownBlock = some b → B ≤ b

#print axioms Frm.below
end Go.Proofs.Ytieccmmnfnpcoaa
