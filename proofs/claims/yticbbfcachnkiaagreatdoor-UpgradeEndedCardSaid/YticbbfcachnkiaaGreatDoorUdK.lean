/- The law's known: what is known between its statements; its runs (by gen_udk.py). -/
import Derived.Test.YticbbfcachnkiaaGreatDoorUdJ
namespace Go.Proofs.YticbbfcachnkiaaGreatDoor
open Go.ChangeShapes Go.WideShapes Go.ChangeAt Go.RowKit
set_option linter.unusedVariables false
set_option linter.unusedSimpArgs false
noncomputable def knT (k : Nat) : Code := dropS k (Tryz.f7.body.getD .skip)
/-- The law's world lies at g; its arena and nodes are new. -/
structure Kn (w W : World) (B np p d g : Nat) (ws : List Int) : Prop where
  sc : Sc 2 W B np p d 19 ws
  at_ : W.heap[g]? = some (.cells #[.pointer (some ⟨p, 0, none⟩), .pointer (some ⟨np, 0, none⟩), .int .i64 16] 27 (0, 0))
  gB : B ≤ g
  frm : Frm [] w W
  new : w.heap.size ≤ d
theorem Kn.lt {w W : World} {B np p d g : Nat} {ws : List Int} (h : Kn w W B np p d g ws) : g < W.heap.size := lt_of_heap h.at_
theorem Kn.next {w W W' : World} {B np p d g : Nat} {ws ws' : List Int} (h : Kn w W B np p d g ws) (hf : Frm [d] W W') (hs : Sc 2 W' B np p d 19 ws') : Kn w W' B np p d g ws' :=
  ⟨hs, hf.heap h.at_ (by have := h.sc.hi; have := h.gB; simp; omega), h.gB, h.frm.trans_new hf (fun x hx => .inr (by simp at hx; rw [hx]; exact h.new)), h.new⟩
theorem Kn.frm0 {w W W' : World} {B np p d g : Nat} {ws : List Int} (h : Kn w W B np p d g ws) (hf : Frm [] W W') : Kn w W' B np p d g ws := h.next hf.nil (h.sc.frm0 hf)
/-- The decisions of the examples. -/
def kA : Ds := Ds.new 0 (Mv.new 4 16 0 0 1, Gs.new) (Mv.new 4 16 0 1 0, Gs.new)
def kB : Ds := Ds.new 0 (Mv.new 4 16 0 1 0, Gs.new) (Mv.new 4 16 0 0 3, Gs.new)
def z19 : List Int := List.replicate 19 0
def wA : List Int := [0, 0, 0, 0, 0, 1, 0, 0, 0, 0, 0, 0, 0, 0, 0, 0, 0, 0, 0]
def wC : List Int := [0, 1, 1099511627776, 0, 0, 1, 0, 0, 0, 0, 0, 0, 0, 0, 0, 0, 0, 0, 0]
theorem ex_of {r : Option (Nat × List Int × Ds)} {ws : List Int} {x : Int} (h : (r.map fun t => (t.2.1, t.2.2.res)) = some (ws, x)) : ∃ n s', r = some (n, ws, s') ∧ s'.res = x := by
  cases r with
  | none => cases h
  | some t => obtain ⟨n, w, s'⟩ := t; simp at h; obtain ⟨rfl, rfl⟩ := h; exact ⟨n, s', rfl, rfl⟩
theorem ex_ofM {r : Option (List Int × Mv × Gs)} {ws : List Int} {x : Int} (h : (r.map fun t => (t.1, t.2.1.res)) = some (ws, x)) : ∃ m' g', r = some (ws, m', g') ∧ m'.res = x := by
  cases r with
  | none => cases h
  | some t => obtain ⟨w, m, g⟩ := t; simp at h; obtain ⟨rfl, rfl⟩ := h; exact ⟨m, g, rfl, rfl⟩
theorem runA : ∃ n s', endsD 2 60 0 z19 kA = some (n, wA, s') ∧ s'.res = 1 := ex_of (by kernel_rfl)
theorem runB : ∃ n s', endsD 2 60 0 wA kB = some (n, wA, s') ∧ s'.res = 0 := ex_of (by kernel_rfl)
theorem runM : ∃ m' g', endsM 2 60 wA (Mv.new 4 0 0 0 1) Gs.new = some (wC, m', g') ∧ m'.res = 1 := ex_ofM (by kernel_rfl)
theorem runC : ∃ n s', endsD 2 60 0 wC kA = some (n, wC, s') ∧ s'.res = 0 := ex_of (by kernel_rfl)
def s0 : LS := ⟨0, -1, -1, -1, 0, -1, -1⟩
def s1S : LS := ⟨1, -1, -1, -1, 1, -1, -1⟩
theorem lkA : lkR 2 4 wA 0 0 = some (s0, []) := by kernel_rfl
theorem lkC : lkR 2 4 wC 1 1099511627776 = some (s1S, []) := by kernel_rfl
theorem lkD : lkR 2 4 wC 0 0 = some (s0, []) := by kernel_rfl
theorem bits0 : bitsL s0.sh = [] := by kernel_rfl
theorem bits1 : bitsL s1S.sh = [0] := by kernel_rfl
end Go.Proofs.YticbbfcachnkiaaGreatDoor
