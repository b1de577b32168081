/- Package latch: Step around step (by gen_luh.py). -/
import Derived.Test.YticbbfcachnkiaaGreatDoorUuG
import Derived.Defers
import Derived.Recover
namespace Go.Proofs.YticbbfcachnkiaaGreatDoor
open Go.ChangeShapes Go.WideShapes Go.ChangeAt Go.RowKit
set_option linter.unusedVariables false
set_option linter.unusedSimpArgs false
section
variable {w : World} {p d cc q T qe ql B : Nat} {a : Option Addr} {n c : Nat} {m : Mv} {ws : List Int}
theorem none_mv (h : MvAt w q T qe ql a n c m) : Calls Tryz.prog 152 #[.pointer (some ⟨q, 0, none⟩)] w (Ret (.bool false) (fun w' => w = w')) := by
  have H := Lib.hid (threads_nd h.nd)
  have hb : ((T : Int) == 0) = false := by have := h.t1; simp; omega
  clear h
  go_enter Tryz.func152, Tryz.ntmps152
  go_wp2_with fail
  refine H.out.mono ?_
  rintro e w1 ⟨rfl, rfl⟩
  go_wp2
  go_ret
  exact ⟨rfl, rfl⟩
theorem catch_idle2 (a1 a2 : Value) (w : World) :
    CallsD Tryz.prog 154 #[a1, a2] .returning w fun e u' w' => e = .returned (.tuple #[]) ∧ u' = .returning ∧ w' = w := by
  refine callsD_of_wpS Tryz.func154 rfl fun c₀ cs hu => ?_
  apply wpS_seq
  apply wpS_region
  simp [wpOpsS, go_sem, recoverD, hu, Tryz.ntmps154, Exit.thenS]
  refine wpS_cond (t := false) (by simp [Act.eval, Array.replicate]) ?_
  simp only [Bool.false_eq_true, if_false]
  refine wpS_of_wp (wp_skip ?_)
  cases c₀
  simp_all [bodyPostS, results, Tryz.results154]
set_option maxRecDepth 1000000 in
set_option maxHeartbeats 4000000 in
theorem Step_frame {x : Bool} {y : Int} {R R' : World → Prop} {D : List Nat} (h : MvAt w q T qe ql a n c m) (hnx : m.nx ≠ 0) (hD : ∀ z ∈ D, z < w.heap.size)
    (hS : ∀ X, Frm [] w X → w.heap.size + 2 ≤ X.heap.size → Calls Tryz.prog 155 #[.pointer (some ⟨q, 0, none⟩), .iface 24 (.pointer (some ⟨p, 0, none⟩))] X (fun e w' => e = .returned (.tuple #[.bool x, .int .i64 y]) ∧ Frm D X w' ∧ R w'))
    (hR : ∀ w3, Frm D w w3 → R w3 → w.heap.size + 1 < w3.heap.size → R' ((w3.setCell ⟨w.heap.size, 0, none⟩ (.bool x)).setCell ⟨w.heap.size + 1, 0, none⟩ (.int .i64 y))) :
    Calls Tryz.prog 150 #[.pointer (some ⟨q, 0, none⟩), .iface 24 (.pointer (some ⟨p, 0, none⟩))] w (fun e w' => e = .returned (.tuple #[.bool x, .int .i64 y]) ∧ R' w') := by
  have hmf : ∀ (fn : Fn) (first cap : Array Value) (w : World), (Instr.makeFunc fn first cap).run Tryz.prog w = .ok (.func fn first cap) w := fun _ _ _ _ => rfl
  have hql := h.lt
  obtain ⟨X, hX⟩ : ∃ X, X = (w.alloc (.cells #[.bool false] 4)).alloc (.cells #[.int .i64 0] 64) := ⟨_, rfl⟩
  have hFX : Frm [] w X := by rw [hX]; exact ((Frm.refl _ _).alloc _).alloc _
  have hb0 : X.heap[w.heap.size]? = some (.cells #[.bool false] 4 (0, 0)) := by rw [hX]; exact heap_alloc_old _ (heap_alloc_new _ _)
  have hb1 : X.heap[w.heap.size + 1]? = some (.cells #[.int .i64 0] 64 (0, 0)) := by rw [hX]; exact heap_alloc_at _ (by simp)
  have HN := Lib.hid (none_mv (h.frm hFX (by simp)))
  have c6 := (h.frm hFX (by simp)).cells.2.2.2.2.2.2.1
  have hqx := (h.frm hFX (by simp)).lt
  have e0 : (m.nx == 0) = false := by simpa using hnx
  have HS := Lib.hid hS
  have HR := Lib.hid hR
  have HD' := Lib.hid hD
  have HFX := Lib.hid hFX
  have HB0 := Lib.hid hb0
  have HB1 := Lib.hid hb1
  clear h hnx hS hR hFX hb0 hb1 hD
  go_enter_defers Tryz.func150, Tryz.ntmps150
  go_wp2_with fail
  rw [← hX]
  clear hX
  refine HN.out.mono ?_
  rintro e w' ⟨rfl, rfl⟩
  go_wp2_with fail
  refine (HS.out _ HFX.out (lt_of_heap HB1.out)).mono ?_
  rintro e w3 ⟨rfl, hF3, hR3⟩
  have g0 := hF3.heap HB0.out (by intro hx; have := HD'.out _ hx; omega)
  have g1 := hF3.heap HB1.out (by intro hx; have := HD'.out _ hx; omega)
  have k0 : w3.cell? ⟨w.heap.size, 0, none⟩ = some (.bool false) := by rw [cell_of_heap g0]; rfl
  have k1 : w3.cell? ⟨w.heap.size + 1, 0, none⟩ = some (.int .i64 0) := by rw [cell_of_heap g1]; rfl
  have z0 : w3.frozen? ⟨w.heap.size, 0, none⟩ = false := frozen_of_heap g0
  have z1 : w3.frozen? ⟨w.heap.size + 1, 0, none⟩ = false := frozen_of_heap g1
  have hl1 := lt_of_heap g1
  have HA := Lib.hid (HR.out w3 (HFX.out.nil.trans hF3) hR3 hl1)
  clear g0 g1 hF3 hR3 c6
  go_wp2
  refine leaves_cons (f := 154) (args := #[.pointer (some ⟨w.heap.size, 0, none⟩), .pointer (some ⟨w.heap.size + 1, 0, none⟩)]) (by simp) (by simp [go_sem]) ?_
  refine (catch_idle2 _ _ _).mono ?_
  rintro e u' w'' ⟨rfl, rfl, rfl⟩
  simp [Leaves, settle, results, Tryz.results150, go_sem, k0, k1]
  exact HA.out
end
/-- How far the programs for the guard are: the next step, what was met, whether it has ended. -/
structure Gs where
  se : Int
  oe : Int
  ee : Bool
  sl : Int
  ol : Int
  el : Bool
/-- What a step of a move comes to. -/
inductive MStp (T : Nat) (ws : List Int) (m : Mv) (g : Gs) : Mv → Gs → List Int → Bool → Int → Prop
  | en1 (h : m.nx = 1) {s' o' no : Int} {ws' : List Int} {wait : Bool} (he : g.ee = false) (hS : Stp m.nb T m.wd (2 * m.t) ws false g.se g.oe false s' o' ws' wait no) (hok : Ok false s' o') : MStp T ws m g m { g with se := s', oe := o' } ws' wait no
  | en2 (h : m.nx = 1) {s' o' : Int} {ws' : List Int} {wait : Bool} (he : g.ee = false) (hS : Stp m.nb T m.wd (2 * m.t) ws false g.se g.oe true s' o' ws' wait 0) : MStp T ws m g { m with nx := 2 } { g with se := s', oe := o', ee := true } ws' wait 0
  | le1 (h : m.nx = 13) {s' o' no : Int} {ws' : List Int} {wait : Bool} (he : g.el = false) (hS : Stp m.nb T m.wd (2 * m.t) ws true g.sl g.ol false s' o' ws' wait no) (hok : Ok true s' o') : MStp T ws m g m { g with sl := s', ol := o' } ws' wait no
  | le2 (h : m.nx = 13) {s' o' : Int} {ws' : List Int} {wait : Bool} (he : g.el = false) (hS : Stp m.nb T m.wd (2 * m.t) ws true g.sl g.ol true s' o' ws' wait 0) : MStp T ws m g { m with nx := if m.wt then 14 else 0 } { g with sl := s', ol := o', el := true } ws' wait 0
  | aw (h : m.nx = 14) (u : Int) (hu : u ≠ 0) (hx : ws[wtW m.nb (2 * m.t + 1)]? = some u) : MStp T ws m g m g ws true 0
  | ag (h : m.nx = 14) (hx : ws[wtW m.nb (2 * m.t + 1)]? = some 0) : MStp T ws m g { m with nx := 0 } g ws false 0
  | bi (h : m.nx = 2) (u : Nat) (hx : ws[m.wd + 1]? = some (u : Int)) : MStp T ws m g { m with s0 := u, nx := 3 } g ws false 0
  | so (h : m.nx = 3) (v : Nat) (hv : v < 18446744073709551616) (hx : ws[m.wd + 2]? = some (v : Int)) (hr : rdB T m.s0 v = true) : MStp T ws m g { m with s1 := v, s := rdLS m.s0 v }.decide g ws false 0
  | sb (h : m.nx = 3) (v : Nat) (hv : v < 18446744073709551616) (hx : ws[m.wd + 2]? = some (v : Int)) (hr : rdB T m.s0 v = false) : MStp T ws m g m g ws false 12
  | mo (h : m.nx = 8) (k : Nat) (hk : m.s.fi = k) (u : Int) (hu : u = 1 ∨ u = 2 ∨ u = 3) (hx : ws[mdW m.nb k]? = some u) : MStp T ws m g (m.readMode u) g ws false 0
  | mb (h : m.nx = 8) (k : Nat) (hk : m.s.fi = k) (u : Int) (h0 : 0 ≤ u) (h64 : u < 18446744073709551616) (hu : ¬ (u = 1 ∨ u = 2 ∨ u = 3)) (hx : ws[mdW m.nb k]? = some u) : MStp T ws m g m g ws false 12
  | no (h : m.nx = 9) (k : Nat) (hk : m.s.fi = k) (u : Int) (hu : isL T (u - 1) = true) (hx : ws[nxW m.nb k]? = some u) : MStp T ws m g (m.serve m.fr (u - 1)) g ws false 0
  | nb (h : m.nx = 9) (k : Nat) (hk : m.s.fi = k) (u : Int) (h0 : 0 ≤ u) (hu : isL T (u - 1) = false) (hx : ws[nxW m.nb k]? = some u) : MStp T ws m g m g ws false 12
  | st {x : Nat} {v : Int} (hs : StW m x v) (hx : x < ws.length) : MStp T ws m g m.stored g (ws.set x v) false 0
/-- What is true of every move. -/
structure MOk (T : Nat) (m : Mv) : Prop where
  gd : Gd T m.s
  md : m.k ≠ 1 → m.md = 1 ∨ m.md = 2 ∨ m.md = 3
  k : m.k = 0 ∨ m.k = 1 ∨ m.k = 2
  wk : ∀ y ∈ m.wk, 0 ≤ y ∧ y < 2 * (T : Int)
  fr : m.nx = 9 → m.fr = 1 ∨ m.fr = 2 ∨ m.fr = 3
  s0 : m.s0 < 18446744073709551616
  n4 : m.nx = 4 → m.k ≠ 1
/-- A move with all that belongs to it, and the arena. -/
structure AllAt (w : World) (p d cc B q T qe ql : Nat) (a : Option Addr) (n c : Nat) (ws : List Int) (m : Mv) (g : Gs) : Prop where
  mem : MemAt w p d cc ws
  mv : MvAt w q T qe ql a n c m
  wk : WkA B w a n c m
  en : PgR w qe false m.nb T m.wd (2 * m.t) g.se g.oe g.ee
  le : PgR w ql true m.nb T m.wd (2 * m.t) g.sl g.ol g.el
def AftF (w : World) (p d cc B q T qe ql : Nat) (a : Option Addr) (n c : Nat) (v : Value) (ws : List Int) (m : Mv) (g : Gs) (e : Ending) (w' : World) : Prop :=
  e = .returned v ∧ ∃ a' n' c', Frm (d :: q :: qe :: ql :: blk (.slice a n c)) w w' ∧ AllAt w' p d cc B q T qe ql a' n' c' ws m g ∧ ∀ x ∈ blk (.slice a' n' c'), x ∈ blk (.slice a n c) ∨ w.heap.size ≤ x
end Go.Proofs.YticbbfcachnkiaaGreatDoor
