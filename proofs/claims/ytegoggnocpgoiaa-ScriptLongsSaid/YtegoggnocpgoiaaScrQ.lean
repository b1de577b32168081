/- The reference: Next. -/
import Derived.Test.YtegoggnocpgoiaaScrP
import Derived.LoopN
namespace Go.Proofs.Ytegoggnocpgoiaa
open Go.ChangeShapes Go.WideShapes Go.ChangeAt Go.RowKit

/-- What the reference's Next knows: the result at b4, the operation at b7. -/
structure TAt (w : World) (b4 b7 : Nat) (o : Opr) : Prop where
  h4 : w.heap[b4]? = some (.cells #[.int .i64 0, .int .i64 0, .int .i64 0, .int .i64 0, .string ⟨#[]⟩, .string ⟨#[]⟩, .string ⟨#[]⟩, .int .i64 0] 30 (0, 0))
  h7 : w.heap[b7]? = some (.cells #[.int .i64 o.k, .int .i64 o.t, .int .i64 o.n, .int .i64 o.v, .string o.key, .string o.val, .string o.old, .int .i64 o.tk] 30 (0, 0))
  ne : b4 ≠ b7
namespace TAt
variable {w w' : World} {b4 b7 : Nat} {o o' : Opr}
theorem quiet (h : TAt w b4 b7 o) (hf : Frm [] w w') : TAt w' b4 b7 o := ⟨hf.heap h.h4 (by simp), hf.heap h.h7 (by simp), h.ne⟩
theorem set (h : TAt w b4 b7 o) (i : Nat) (v : Value) (ho : (#[.int .i64 o.k, .int .i64 o.t, .int .i64 o.n, .int .i64 o.v, .string o.key, .string o.val, .string o.old, .int .i64 o.tk] : Array Value).setIfInBounds i v = #[.int .i64 o'.k, .int .i64 o'.t, .int .i64 o'.n, .int .i64 o'.v, .string o'.key, .string o'.val, .string o'.old, .int .i64 o'.tk]) : TAt (w.setCell ⟨b7, i, none⟩ v) b4 b7 o' :=
  ⟨heap_setCell_far _ _ h.ne.symm h.h4, by rw [← ho]; exact heap_setCell_at v h.h7, h.ne⟩
end TAt
theorem hd_start {x p : Int} (h : 5 ≤ x % 8) : hd x p = ⟨3, 0, 0, p % 8 + 1, noB, noB, noB, p / 8⟩ := by unfold hd; rw [if_neg (by omega), if_neg (by omega), if_pos h]
theorem hd_round {x p : Int} (h : x % 8 = 4) : hd x p = ⟨4, 0, p % 8 + 1, 0, noB, noB, noB, 0⟩ := by unfold hd; rw [if_neg (by omega), if_pos h]
theorem hd_tick {x p : Int} (h : x % 8 = 3) : hd x p = ⟨2, 0, p, 0, noB, noB, noB, 0⟩ := by unfold hd; rw [if_pos h]
theorem hd_pick {x p : Int} (h : x % 8 < 3) : hd x p = ⟨1, 0, p % 16 + 1, 0, noB, noB, noB, 0⟩ := by unfold hd; rw [if_neg (by omega), if_neg (by omega), if_neg (by omega)]

set_option maxRecDepth 100000 in
set_option maxHeartbeats 4000000 in
theorem rnext_round {w : World} {a : Option Addr} {n c b o : Nat} {l : List Int} (hL : Li .u8 w a n c b o l) (hB : Byt l) (t : Int) (t0 : 1 ≤ t) (t1 : t ≤ 64) (hc : l.getD 0 0 % 8 = 4) :
    Calls Try.prog 12 #[.slice a n c, .int .i64 t] w (Ret (.tuple #[.agg #[.int .i64 (nx l t).k, .int .i64 (nx l t).t, .int .i64 (nx l t).n, .int .i64 (nx l t).v, .string (nx l t).key, .string (nx l t).val, .string (nx l t).old, .int .i64 (nx l t).tk], .int .i64 (nxN l : Nat)]) (fun w' => Frm [] w w')) := by
  obtain ⟨hn, hN⟩ := nx_round (t := t) hc
  rw [hn, hN]
  have hg0 := hB.getD 0
  have hg1 := hB.getD 1
  have hat : ∀ (i : Nat) (W : World), Frm [] w W → Calls Try.prog 26 #[.slice a n c, .int .i64 (i : Int)] W (Ret (.int .i64 (l.getD i 0)) (fun w' => W = w')) := fun i W hF => at_any (hL.frm0 hF) hB i
  have d0 : (t == 0) = false := by simp; omega
  have hF0 : Frm [] w (w.alloc (.cells #[.int .i64 0, .int .i64 0, .int .i64 0, .int .i64 0, .string ⟨#[]⟩, .string ⟨#[]⟩, .string ⟨#[]⟩, .int .i64 0] 30)) := (Frm.refl _ _).alloc _
  have e4 := heap_alloc_new w (.cells #[.int .i64 0, .int .i64 0, .int .i64 0, .int .i64 0, .string ⟨#[]⟩, .string ⟨#[]⟩, .string ⟨#[]⟩, .int .i64 0] 30)
  have HAT := Lib.hid hat
  have He4 := Lib.hid e4
  obtain ⟨x, hx⟩ : ∃ x, x = l.getD 0 0 := ⟨_, rfl⟩
  obtain ⟨p, hp⟩ : ∃ q, q = l.getD 1 0 := ⟨_, rfl⟩
  rw [← hx] at hg0 hc
  rw [← hp] at hg1
  try rw [← hx]
  try rw [← hp]
  have hdd := hd_round (x := x) (p := p) hc
  have d2 : 0 ≤ x / 8 := by omega
  have d3 : 0 ≤ x / 8 % t := Int.emod_nonneg _ (by omega)
  have Hx := Lib.hid hx
  have Hp := Lib.hid hp
  have Hd := Lib.hid hdd
  clear hx hp hdd hn hN hat hL hB e4 hc
  go_enter Try.func12, Try.ntmps12
  go_wp2_with fail
  refine (HAT.out 0 _ hF0).mono ?_
  rintro e w' ⟨rfl, rfl⟩
  rw [← Hx.out]
  go_wp2_with fail
  refine (HAT.out 1 _ hF0).mono ?_
  rintro e w' ⟨rfl, rfl⟩
  rw [← Hp.out]
  go_wp2_with fail
  refine (head_any _ x p hg0.1 hg1.1 hg1.2).mono ?_
  rintro e W1 ⟨rfl, hF1⟩
  rw [Hd.out]
  have hT : TAt (W1.alloc (.cells #[.int .i64 4, .int .i64 0, .int .i64 (p % 8 + 1), .int .i64 0, .string noB, .string noB, .string noB, .int .i64 0] 30)) w.heap.size W1.heap.size (⟨4, 0, p % 8 + 1, 0, noB, noB, noB, 0⟩ : Opr) := by
    have e5 := hF1.heap He4.out (by simp)
    have l5 := lt_of_heap e5
    exact ⟨heap_alloc_old _ e5, heap_alloc_new _ _, by omega⟩
  have hl4 : w.heap.size < W1.heap.size := by have := hF1.size; simp at this; omega
  have hFa : Frm [] w W1 := hF0.trans hF1
  have e5 := hF1.heap He4.out (by simp)
  obtain ⟨z0, z1, z2, z3, z4, z5, z6, z7⟩ := cells_z e5
  have f4 : ∀ i, W1.frozen? ⟨w.heap.size, i, none⟩ = false := fun i => frozen_of_heap e5
  clear e5 hF1 hF0
  clear hT
  go_wp2_with fail
  refine (threaded_any _ _).mono ?_
  rintro e w' ⟨rfl, rfl⟩
  rw [show thB 4 = false from rfl]
  go_wp2
  exact bodyPost_ret (v := .tuple #[.agg #[.int .i64 4, .int .i64 0, .int .i64 (p % 8 + 1), .int .i64 0, .string noB, .string noB, .string noB, .int .i64 0], .int .i64 2]) (by simp [results, Try.results12, go_sem, z0, z1, z2, z3, z4, z5, z6, z7, hl4]) rfl ⟨rfl, (frm_set8 hFa (Nat.le_refl _)).alloc _⟩

set_option maxRecDepth 100000 in
set_option maxHeartbeats 4000000 in
theorem rnext_tick {w : World} {a : Option Addr} {n c b o : Nat} {l : List Int} (hL : Li .u8 w a n c b o l) (hB : Byt l) (t : Int) (t0 : 1 ≤ t) (t1 : t ≤ 64) (hc : l.getD 0 0 % 8 = 3) :
    Calls Try.prog 12 #[.slice a n c, .int .i64 t] w (Ret (.tuple #[.agg #[.int .i64 (nx l t).k, .int .i64 (nx l t).t, .int .i64 (nx l t).n, .int .i64 (nx l t).v, .string (nx l t).key, .string (nx l t).val, .string (nx l t).old, .int .i64 (nx l t).tk], .int .i64 (nxN l : Nat)]) (fun w' => Frm [] w w')) := by
  obtain ⟨hn, hN⟩ := nx_tick (t := t) hc
  rw [hn, hN]
  have hg0 := hB.getD 0
  have hg1 := hB.getD 1
  have hat : ∀ (i : Nat) (W : World), Frm [] w W → Calls Try.prog 26 #[.slice a n c, .int .i64 (i : Int)] W (Ret (.int .i64 (l.getD i 0)) (fun w' => W = w')) := fun i W hF => at_any (hL.frm0 hF) hB i
  have d0 : (t == 0) = false := by simp; omega
  have hF0 : Frm [] w (w.alloc (.cells #[.int .i64 0, .int .i64 0, .int .i64 0, .int .i64 0, .string ⟨#[]⟩, .string ⟨#[]⟩, .string ⟨#[]⟩, .int .i64 0] 30)) := (Frm.refl _ _).alloc _
  have e4 := heap_alloc_new w (.cells #[.int .i64 0, .int .i64 0, .int .i64 0, .int .i64 0, .string ⟨#[]⟩, .string ⟨#[]⟩, .string ⟨#[]⟩, .int .i64 0] 30)
  have HAT := Lib.hid hat
  have He4 := Lib.hid e4
  obtain ⟨x, hx⟩ : ∃ x, x = l.getD 0 0 := ⟨_, rfl⟩
  obtain ⟨p, hp⟩ : ∃ q, q = l.getD 1 0 := ⟨_, rfl⟩
  rw [← hx] at hg0 hc
  rw [← hp] at hg1
  try rw [← hx]
  try rw [← hp]
  have hdd := hd_tick (x := x) (p := p) hc
  have d2 : 0 ≤ x / 8 := by omega
  have d3 : 0 ≤ x / 8 % t := Int.emod_nonneg _ (by omega)
  have Hx := Lib.hid hx
  have Hp := Lib.hid hp
  have Hd := Lib.hid hdd
  clear hx hp hdd hn hN hat hL hB e4 hc
  go_enter Try.func12, Try.ntmps12
  go_wp2_with fail
  refine (HAT.out 0 _ hF0).mono ?_
  rintro e w' ⟨rfl, rfl⟩
  rw [← Hx.out]
  go_wp2_with fail
  refine (HAT.out 1 _ hF0).mono ?_
  rintro e w' ⟨rfl, rfl⟩
  rw [← Hp.out]
  go_wp2_with fail
  refine (head_any _ x p hg0.1 hg1.1 hg1.2).mono ?_
  rintro e W1 ⟨rfl, hF1⟩
  rw [Hd.out]
  have hT : TAt (W1.alloc (.cells #[.int .i64 2, .int .i64 0, .int .i64 p, .int .i64 0, .string noB, .string noB, .string noB, .int .i64 0] 30)) w.heap.size W1.heap.size (⟨2, 0, p, 0, noB, noB, noB, 0⟩ : Opr) := by
    have e5 := hF1.heap He4.out (by simp)
    have l5 := lt_of_heap e5
    exact ⟨heap_alloc_old _ e5, heap_alloc_new _ _, by omega⟩
  have hl4 : w.heap.size < W1.heap.size := by have := hF1.size; simp at this; omega
  have hFa : Frm [] w W1 := hF0.trans hF1
  have e5 := hF1.heap He4.out (by simp)
  obtain ⟨z0, z1, z2, z3, z4, z5, z6, z7⟩ := cells_z e5
  have f4 : ∀ i, W1.frozen? ⟨w.heap.size, i, none⟩ = false := fun i => frozen_of_heap e5
  clear e5 hF1 hF0
  clear hT
  go_wp2_with fail
  refine (threaded_any _ _).mono ?_
  rintro e w' ⟨rfl, rfl⟩
  rw [show thB 2 = false from rfl]
  go_wp2
  exact bodyPost_ret (v := .tuple #[.agg #[.int .i64 2, .int .i64 0, .int .i64 p, .int .i64 0, .string noB, .string noB, .string noB, .int .i64 0], .int .i64 2]) (by simp [results, Try.results12, go_sem, z0, z1, z2, z3, z4, z5, z6, z7, hl4]) rfl ⟨rfl, (frm_set8 hFa (Nat.le_refl _)).alloc _⟩

set_option maxRecDepth 100000 in
set_option maxHeartbeats 4000000 in
theorem rnext_pick {w : World} {a : Option Addr} {n c b o : Nat} {l : List Int} (hL : Li .u8 w a n c b o l) (hB : Byt l) (t : Int) (t0 : 1 ≤ t) (t1 : t ≤ 64) (hc : l.getD 0 0 % 8 < 3) :
    Calls Try.prog 12 #[.slice a n c, .int .i64 t] w (Ret (.tuple #[.agg #[.int .i64 (nx l t).k, .int .i64 (nx l t).t, .int .i64 (nx l t).n, .int .i64 (nx l t).v, .string (nx l t).key, .string (nx l t).val, .string (nx l t).old, .int .i64 (nx l t).tk], .int .i64 (nxN l : Nat)]) (fun w' => Frm [] w w')) := by
  obtain ⟨hn, hN⟩ := nx_pick (t := t) (hB.getD 0).1 hc
  rw [hn, hN]
  have hg0 := hB.getD 0
  have hg1 := hB.getD 1
  have hat : ∀ (i : Nat) (W : World), Frm [] w W → Calls Try.prog 26 #[.slice a n c, .int .i64 (i : Int)] W (Ret (.int .i64 (l.getD i 0)) (fun w' => W = w')) := fun i W hF => at_any (hL.frm0 hF) hB i
  have d0 : (t == 0) = false := by simp; omega
  have hF0 : Frm [] w (w.alloc (.cells #[.int .i64 0, .int .i64 0, .int .i64 0, .int .i64 0, .string ⟨#[]⟩, .string ⟨#[]⟩, .string ⟨#[]⟩, .int .i64 0] 30)) := (Frm.refl _ _).alloc _
  have e4 := heap_alloc_new w (.cells #[.int .i64 0, .int .i64 0, .int .i64 0, .int .i64 0, .string ⟨#[]⟩, .string ⟨#[]⟩, .string ⟨#[]⟩, .int .i64 0] 30)
  have HAT := Lib.hid hat
  have He4 := Lib.hid e4
  obtain ⟨x, hx⟩ : ∃ x, x = l.getD 0 0 := ⟨_, rfl⟩
  obtain ⟨p, hp⟩ : ∃ q, q = l.getD 1 0 := ⟨_, rfl⟩
  rw [← hx] at hg0 hc
  rw [← hp] at hg1
  try rw [← hx]
  try rw [← hp]
  have hdd := hd_pick (x := x) (p := p) hc
  have d2 : 0 ≤ x / 8 := by omega
  have d3 : 0 ≤ x / 8 % t := Int.emod_nonneg _ (by omega)
  have Hx := Lib.hid hx
  have Hp := Lib.hid hp
  have Hd := Lib.hid hdd
  clear hx hp hdd hn hN hat hL hB e4 hc
  go_enter Try.func12, Try.ntmps12
  go_wp2_with fail
  refine (HAT.out 0 _ hF0).mono ?_
  rintro e w' ⟨rfl, rfl⟩
  rw [← Hx.out]
  go_wp2_with fail
  refine (HAT.out 1 _ hF0).mono ?_
  rintro e w' ⟨rfl, rfl⟩
  rw [← Hp.out]
  go_wp2_with fail
  refine (head_any _ x p hg0.1 hg1.1 hg1.2).mono ?_
  rintro e W1 ⟨rfl, hF1⟩
  rw [Hd.out]
  have hT : TAt (W1.alloc (.cells #[.int .i64 1, .int .i64 0, .int .i64 (p % 16 + 1), .int .i64 0, .string noB, .string noB, .string noB, .int .i64 0] 30)) w.heap.size W1.heap.size (⟨1, 0, p % 16 + 1, 0, noB, noB, noB, 0⟩ : Opr) := by
    have e5 := hF1.heap He4.out (by simp)
    have l5 := lt_of_heap e5
    exact ⟨heap_alloc_old _ e5, heap_alloc_new _ _, by omega⟩
  have hl4 : w.heap.size < W1.heap.size := by have := hF1.size; simp at this; omega
  have hFa : Frm [] w W1 := hF0.trans hF1
  have e5 := hF1.heap He4.out (by simp)
  obtain ⟨z0, z1, z2, z3, z4, z5, z6, z7⟩ := cells_z e5
  have f4 : ∀ i, W1.frozen? ⟨w.heap.size, i, none⟩ = false := fun i => frozen_of_heap e5
  clear e5 hF1 hF0
  clear hT
  go_wp2_with fail
  refine (threaded_any _ _).mono ?_
  rintro e w' ⟨rfl, rfl⟩
  rw [show thB 1 = true from rfl]
  go_wp2
  exact bodyPost_ret (v := .tuple #[.agg #[.int .i64 1, .int .i64 (x / 8 % t), .int .i64 (p % 16 + 1), .int .i64 0, .string noB, .string noB, .string noB, .int .i64 0], .int .i64 2]) (by simp [results, Try.results12, go_sem, z0, z1, z2, z3, z4, z5, z6, z7, hl4]) rfl ⟨rfl, (frm_set8 hFa (Nat.le_refl _)).alloc _⟩

set_option maxRecDepth 100000 in
set_option maxHeartbeats 4000000 in
theorem rnext_s0 {w : World} {a : Option Addr} {n c b o : Nat} {l : List Int} (hL : Li .u8 w a n c b o l) (hB : Byt l) (t : Int) (t0 : 1 ≤ t) (t1 : t ≤ 64) (hc : 5 ≤ l.getD 0 0 % 8) (hv : vc (l.getD 1 0 % 8 + 1) = 0) :
    Calls Try.prog 12 #[.slice a n c, .int .i64 t] w (Ret (.tuple #[.agg #[.int .i64 (nx l t).k, .int .i64 (nx l t).t, .int .i64 (nx l t).n, .int .i64 (nx l t).v, .string (nx l t).key, .string (nx l t).val, .string (nx l t).old, .int .i64 (nx l t).tk], .int .i64 (nxN l : Nat)]) (fun w' => Frm [] w w')) := by
  obtain ⟨hn, hN⟩ := nx_start (t := t) hc
  rw [hn, hN]
  have hg0 := hB.getD 0
  have hg1 := hB.getD 1
  have hat : ∀ (i : Nat) (W : World), Frm [] w W → Calls Try.prog 26 #[.slice a n c, .int .i64 (i : Int)] W (Ret (.int .i64 (l.getD i 0)) (fun w' => W = w')) := fun i W hF => at_any (hL.frm0 hF) hB i
  have d0 : (t == 0) = false := by simp; omega
  have hF0 : Frm [] w (w.alloc (.cells #[.int .i64 0, .int .i64 0, .int .i64 0, .int .i64 0, .string ⟨#[]⟩, .string ⟨#[]⟩, .string ⟨#[]⟩, .int .i64 0] 30)) := (Frm.refl _ _).alloc _
  have e4 := heap_alloc_new w (.cells #[.int .i64 0, .int .i64 0, .int .i64 0, .int .i64 0, .string ⟨#[]⟩, .string ⟨#[]⟩, .string ⟨#[]⟩, .int .i64 0] 30)
  have HAT := Lib.hid hat
  have He4 := Lib.hid e4
  have hq : rq (l.getD 0 0 / 8 % t) (l.getD 1 0) (l.drop 2) = ⟨3, l.getD 0 0 / 8 % t, 0, l.getD 1 0 % 8 + 1, noB, noB, noB, l.getD 1 0 / 8⟩ := by unfold rq; rw [hv]; simp only [getD_drop]; rfl
  rw [hq]
  have hvl : vlen (l.getD 1 0 % 8 + 1) = 0 := by unfold vlen; rw [hv]; rfl
  rw [hvl]
  have hnd : nds (l.getD 1 0 % 8 + 1) = noB := by unfold nds; rw [hv]; rfl
  obtain ⟨x, hx⟩ : ∃ x, x = l.getD 0 0 := ⟨_, rfl⟩
  obtain ⟨p, hp⟩ : ∃ q, q = l.getD 1 0 := ⟨_, rfl⟩
  rw [← hx] at hg0 hc
  rw [← hp] at hg1 hv hnd
  have Hnd := Lib.hid hnd
  try rw [← hx]
  try rw [← hp]
  have hdd := hd_start (x := x) (p := p) hc
  have d2 : 0 ≤ x / 8 := by omega
  have d3 : 0 ≤ x / 8 % t := Int.emod_nonneg _ (by omega)
  have Hx := Lib.hid hx
  have Hp := Lib.hid hp
  have Hd := Lib.hid hdd
  clear hx hp hdd hn hN hat hL hB e4 hc hq hvl hnd hv
  go_enter Try.func12, Try.ntmps12
  go_wp2_with fail
  refine (HAT.out 0 _ hF0).mono ?_
  rintro e w' ⟨rfl, rfl⟩
  rw [← Hx.out]
  go_wp2_with fail
  refine (HAT.out 1 _ hF0).mono ?_
  rintro e w' ⟨rfl, rfl⟩
  rw [← Hp.out]
  go_wp2_with fail
  refine (head_any _ x p hg0.1 hg1.1 hg1.2).mono ?_
  rintro e W1 ⟨rfl, hF1⟩
  rw [Hd.out]
  have hT : TAt (W1.alloc (.cells #[.int .i64 3, .int .i64 0, .int .i64 0, .int .i64 (p % 8 + 1), .string noB, .string noB, .string noB, .int .i64 (p / 8)] 30)) w.heap.size W1.heap.size (⟨3, 0, 0, p % 8 + 1, noB, noB, noB, p / 8⟩ : Opr) := by
    have e5 := hF1.heap He4.out (by simp)
    have l5 := lt_of_heap e5
    exact ⟨heap_alloc_old _ e5, heap_alloc_new _ _, by omega⟩
  have hl4 : w.heap.size < W1.heap.size := by have := hF1.size; simp at this; omega
  have hFa : Frm [] w W1 := hF0.trans hF1
  have e5 := hF1.heap He4.out (by simp)
  obtain ⟨z0, z1, z2, z3, z4, z5, z6, z7⟩ := cells_z e5
  have f4 : ∀ i, W1.frozen? ⟨w.heap.size, i, none⟩ = false := fun i => frozen_of_heap e5
  clear e5 hF1 hF0
  go_wp2_with fail
  refine (threaded_any _ _).mono ?_
  rintro e w' ⟨rfl, rfl⟩
  rw [show thB 3 = true from rfl]
  go_wp2_with fail
  refine (rneeds_any _ _).mono ?_
  rintro e w' ⟨rfl, rfl⟩
  rw [Hnd.out]
  go_wp2_with fail
  refine wp_loop_rounds 1 ?_
  rw [rounds_succ]
  clear hT
  go_wp2
  exact bodyPost_ret (v := .tuple #[.agg #[.int .i64 3, .int .i64 (x / 8 % t), .int .i64 0, .int .i64 (p % 8 + 1), .string noB, .string noB, .string noB, .int .i64 (p / 8)], .int .i64 2]) (by simp [results, Try.results12, go_sem, z0, z1, z2, z3, z4, z5, z6, z7, hl4]) rfl ⟨rfl, (frm_set8 hFa (Nat.le_refl _)).alloc _⟩

set_option maxRecDepth 100000 in
set_option maxHeartbeats 4000000 in
theorem rnext_s1 {w : World} {a : Option Addr} {n c b o : Nat} {l : List Int} (hL : Li .u8 w a n c b o l) (hB : Byt l) (t : Int) (t0 : 1 ≤ t) (t1 : t ≤ 64) (hc : 5 ≤ l.getD 0 0 % 8) (hv : vc (l.getD 1 0 % 8 + 1) = 1) :
    Calls Try.prog 12 #[.slice a n c, .int .i64 t] w (Ret (.tuple #[.agg #[.int .i64 (nx l t).k, .int .i64 (nx l t).t, .int .i64 (nx l t).n, .int .i64 (nx l t).v, .string (nx l t).key, .string (nx l t).val, .string (nx l t).old, .int .i64 (nx l t).tk], .int .i64 (nxN l : Nat)]) (fun w' => Frm [] w w')) := by
  obtain ⟨hn, hN⟩ := nx_start (t := t) hc
  rw [hn, hN]
  have hg0 := hB.getD 0
  have hg1 := hB.getD 1
  have hat : ∀ (i : Nat) (W : World), Frm [] w W → Calls Try.prog 26 #[.slice a n c, .int .i64 (i : Int)] W (Ret (.int .i64 (l.getD i 0)) (fun w' => W = w')) := fun i W hF => at_any (hL.frm0 hF) hB i
  have d0 : (t == 0) = false := by simp; omega
  have hF0 : Frm [] w (w.alloc (.cells #[.int .i64 0, .int .i64 0, .int .i64 0, .int .i64 0, .string ⟨#[]⟩, .string ⟨#[]⟩, .string ⟨#[]⟩, .int .i64 0] 30)) := (Frm.refl _ _).alloc _
  have e4 := heap_alloc_new w (.cells #[.int .i64 0, .int .i64 0, .int .i64 0, .int .i64 0, .string ⟨#[]⟩, .string ⟨#[]⟩, .string ⟨#[]⟩, .int .i64 0] 30)
  have HAT := Lib.hid hat
  have He4 := Lib.hid e4
  have hq : rq (l.getD 0 0 / 8 % t) (l.getD 1 0) (l.drop 2) = ⟨3, l.getD 0 0 / 8 % t, 0, l.getD 1 0 % 8 + 1, keyB (l.getD 2 0), noB, noB, l.getD 1 0 / 8⟩ := by unfold rq; rw [hv]; simp only [getD_drop]; rfl
  rw [hq]
  have hvl : vlen (l.getD 1 0 % 8 + 1) = 1 := by unfold vlen; rw [hv]; rfl
  rw [hvl]
  have hnd : nds (l.getD 1 0 % 8 + 1) = ⟨#[107]⟩ := by unfold nds; rw [hv]; rfl
  have hy0 := hB.getD 2
  obtain ⟨y0, hz0⟩ : ∃ y, l.getD 2 0 = y := ⟨_, rfl⟩
  rw [hz0] at hy0 ⊢
  have Hz0 := Lib.hid hz0
  clear hz0
  obtain ⟨x, hx⟩ : ∃ x, x = l.getD 0 0 := ⟨_, rfl⟩
  obtain ⟨p, hp⟩ : ∃ q, q = l.getD 1 0 := ⟨_, rfl⟩
  rw [← hx] at hg0 hc
  rw [← hp] at hg1 hv hnd
  have Hnd := Lib.hid hnd
  try rw [← hx]
  try rw [← hp]
  have hdd := hd_start (x := x) (p := p) hc
  have d2 : 0 ≤ x / 8 := by omega
  have d3 : 0 ≤ x / 8 % t := Int.emod_nonneg _ (by omega)
  have Hx := Lib.hid hx
  have Hp := Lib.hid hp
  have Hd := Lib.hid hdd
  clear hx hp hdd hn hN hat hL hB e4 hc hq hvl hnd hv
  go_enter Try.func12, Try.ntmps12
  go_wp2_with fail
  refine (HAT.out 0 _ hF0).mono ?_
  rintro e w' ⟨rfl, rfl⟩
  rw [← Hx.out]
  go_wp2_with fail
  refine (HAT.out 1 _ hF0).mono ?_
  rintro e w' ⟨rfl, rfl⟩
  rw [← Hp.out]
  go_wp2_with fail
  refine (head_any _ x p hg0.1 hg1.1 hg1.2).mono ?_
  rintro e W1 ⟨rfl, hF1⟩
  rw [Hd.out]
  have hT : TAt (W1.alloc (.cells #[.int .i64 3, .int .i64 0, .int .i64 0, .int .i64 (p % 8 + 1), .string noB, .string noB, .string noB, .int .i64 (p / 8)] 30)) w.heap.size W1.heap.size (⟨3, 0, 0, p % 8 + 1, noB, noB, noB, p / 8⟩ : Opr) := by
    have e5 := hF1.heap He4.out (by simp)
    have l5 := lt_of_heap e5
    exact ⟨heap_alloc_old _ e5, heap_alloc_new _ _, by omega⟩
  have hl4 : w.heap.size < W1.heap.size := by have := hF1.size; simp at this; omega
  have hFa : Frm [] w W1 := hF0.trans hF1
  have e5 := hF1.heap He4.out (by simp)
  obtain ⟨z0, z1, z2, z3, z4, z5, z6, z7⟩ := cells_z e5
  have f4 : ∀ i, W1.frozen? ⟨w.heap.size, i, none⟩ = false := fun i => frozen_of_heap e5
  have He4e := Lib.hid e5
  have hb7 : w.heap.size ≤ W1.heap.size := by omega
  clear e5 hF1 hF0
  go_wp2_with fail
  refine (threaded_any _ _).mono ?_
  rintro e w' ⟨rfl, rfl⟩
  rw [show thB 3 = true from rfl]
  go_wp2_with fail
  refine (rneeds_any _ _).mono ?_
  rintro e w' ⟨rfl, rfl⟩
  rw [Hnd.out]
  go_wp2_with fail
  refine wp_loop_rounds 2 ?_
  replace hT : TAt (W1.alloc (.cells #[.int .i64 3, .int .i64 (x / 8 % t), .int .i64 0, .int .i64 (p % 8 + 1), .string noB, .string noB, .string noB, .int .i64 (p / 8)] 30)) w.heap.size W1.heap.size ⟨3, x / 8 % t, 0, p % 8 + 1, noB, noB, noB, p / 8⟩ := ⟨heap_alloc_old _ He4e.out, heap_alloc_new _ _, hT.ne⟩
  replace hFa : Frm [] w (W1.alloc (.cells #[.int .i64 3, .int .i64 (x / 8 % t), .int .i64 0, .int .i64 (p % 8 + 1), .string noB, .string noB, .string noB, .int .i64 (p / 8)] 30)) := hFa.alloc _
  clear z0 z1 z2 z3 z4 z5 z6 z7 f4 hl4
  generalize W1.alloc (.cells #[.int .i64 3, .int .i64 (x / 8 % t), .int .i64 0, .int .i64 (p % 8 + 1), .string noB, .string noB, .string noB, .int .i64 (p / 8)] 30) = wX at hT hFa ⊢
  generalize W1.heap.size = b7 at hT hb7 ⊢
  have g4 : w.heap.size ≤ w.heap.size := Nat.le_refl _
  rw [rounds_succ]
  go_wp2_with fail
  refine (HAT.out 2 _ hFa).mono ?_
  rintro e w' ⟨rfl, rfl⟩
  rw [Hz0.out]
  go_wp2_with fail
  refine (rkey_any y0 hy0.1 hy0.2 _).mono ?_
  rintro e wY0 ⟨rfl, hF3⟩
  replace hT := hT.quiet hF3
  replace hFa := hFa.trans hF3
  clear hF3
  obtain ⟨c0, c1, c2, c3, c4, c5, c6, c7⟩ := OpAt.block hT.h7
  simp only [Nat.zero_add] at c0 c1 c2 c3 c4 c5 c6 c7
  have f7 : ∀ i, wY0.frozen? ⟨b7, i, none⟩ = false := fun i => frozen_of_heap hT.h7
  have HT := Lib.hid hT
  clear hT
  go_wp2_with fail
  have hT : TAt (wY0.setCell ⟨b7, 4, none⟩ (.string (keyB y0))) w.heap.size b7 ⟨3, x / 8 % t, 0, p % 8 + 1, keyB y0, noB, noB, p / 8⟩ := HT.out.set 4 (.string (keyB y0)) rfl
  replace hFa := frm_set7 (i := 4) (v := .string (keyB y0)) hFa hb7
  generalize wY0.setCell ⟨b7, 4, none⟩ (.string (keyB y0)) = wZ0 at hT hFa ⊢
  clear HT c0 c1 c2 c3 c4 c5 c6 c7 f7
  rw [rounds_succ]
  obtain ⟨c0, c1, c2, c3, c4, c5, c6, c7⟩ := OpAt.block hT.h7
  simp only [Nat.zero_add] at c0 c1 c2 c3 c4 c5 c6 c7
  obtain ⟨z0, z1, z2, z3, z4, z5, z6, z7⟩ := cells_z hT.h4
  have f4 : ∀ i, wZ0.frozen? ⟨w.heap.size, i, none⟩ = false := fun i => frozen_of_heap hT.h4
  clear hT
  go_wp2
  exact bodyPost_ret (v := .tuple #[.agg #[.int .i64 3, .int .i64 (x / 8 % t), .int .i64 0, .int .i64 (p % 8 + 1), .string (keyB y0), .string noB, .string noB, .int .i64 (p / 8)], .int .i64 3]) (by simp [results, Try.results12, go_sem, z0, z1, z2, z3, z4, z5, z6, z7]) rfl ⟨rfl, frm_set8 hFa (Nat.le_refl _)⟩

set_option maxRecDepth 100000 in
set_option maxHeartbeats 4000000 in
theorem rnext_s2 {w : World} {a : Option Addr} {n c b o : Nat} {l : List Int} (hL : Li .u8 w a n c b o l) (hB : Byt l) (t : Int) (t0 : 1 ≤ t) (t1 : t ≤ 64) (hc : 5 ≤ l.getD 0 0 % 8) (hv : vc (l.getD 1 0 % 8 + 1) = 2) :
    Calls Try.prog 12 #[.slice a n c, .int .i64 t] w (Ret (.tuple #[.agg #[.int .i64 (nx l t).k, .int .i64 (nx l t).t, .int .i64 (nx l t).n, .int .i64 (nx l t).v, .string (nx l t).key, .string (nx l t).val, .string (nx l t).old, .int .i64 (nx l t).tk], .int .i64 (nxN l : Nat)]) (fun w' => Frm [] w w')) := by
  obtain ⟨hn, hN⟩ := nx_start (t := t) hc
  rw [hn, hN]
  have hg0 := hB.getD 0
  have hg1 := hB.getD 1
  have hat : ∀ (i : Nat) (W : World), Frm [] w W → Calls Try.prog 26 #[.slice a n c, .int .i64 (i : Int)] W (Ret (.int .i64 (l.getD i 0)) (fun w' => W = w')) := fun i W hF => at_any (hL.frm0 hF) hB i
  have d0 : (t == 0) = false := by simp; omega
  have hF0 : Frm [] w (w.alloc (.cells #[.int .i64 0, .int .i64 0, .int .i64 0, .int .i64 0, .string ⟨#[]⟩, .string ⟨#[]⟩, .string ⟨#[]⟩, .int .i64 0] 30)) := (Frm.refl _ _).alloc _
  have e4 := heap_alloc_new w (.cells #[.int .i64 0, .int .i64 0, .int .i64 0, .int .i64 0, .string ⟨#[]⟩, .string ⟨#[]⟩, .string ⟨#[]⟩, .int .i64 0] 30)
  have HAT := Lib.hid hat
  have He4 := Lib.hid e4
  have hq : rq (l.getD 0 0 / 8 % t) (l.getD 1 0) (l.drop 2) = ⟨3, l.getD 0 0 / 8 % t, 0, l.getD 1 0 % 8 + 1, keyB (l.getD 2 0), valB (l.getD 3 0), noB, l.getD 1 0 / 8⟩ := by unfold rq; rw [hv]; simp only [getD_drop]; rfl
  rw [hq]
  have hvl : vlen (l.getD 1 0 % 8 + 1) = 2 := by unfold vlen; rw [hv]; rfl
  rw [hvl]
  have hnd : nds (l.getD 1 0 % 8 + 1) = ⟨#[107, 118]⟩ := by unfold nds; rw [hv]; rfl
  have hy0 := hB.getD 2
  obtain ⟨y0, hz0⟩ : ∃ y, l.getD 2 0 = y := ⟨_, rfl⟩
  rw [hz0] at hy0 ⊢
  have Hz0 := Lib.hid hz0
  have hy1 := hB.getD 3
  obtain ⟨y1, hz1⟩ : ∃ y, l.getD 3 0 = y := ⟨_, rfl⟩
  rw [hz1] at hy1 ⊢
  have Hz1 := Lib.hid hz1
  clear hz0 hz1
  obtain ⟨x, hx⟩ : ∃ x, x = l.getD 0 0 := ⟨_, rfl⟩
  obtain ⟨p, hp⟩ : ∃ q, q = l.getD 1 0 := ⟨_, rfl⟩
  rw [← hx] at hg0 hc
  rw [← hp] at hg1 hv hnd
  have Hnd := Lib.hid hnd
  try rw [← hx]
  try rw [← hp]
  have hdd := hd_start (x := x) (p := p) hc
  have d2 : 0 ≤ x / 8 := by omega
  have d3 : 0 ≤ x / 8 % t := Int.emod_nonneg _ (by omega)
  have Hx := Lib.hid hx
  have Hp := Lib.hid hp
  have Hd := Lib.hid hdd
  clear hx hp hdd hn hN hat hL hB e4 hc hq hvl hnd hv
  go_enter Try.func12, Try.ntmps12
  go_wp2_with fail
  refine (HAT.out 0 _ hF0).mono ?_
  rintro e w' ⟨rfl, rfl⟩
  rw [← Hx.out]
  go_wp2_with fail
  refine (HAT.out 1 _ hF0).mono ?_
  rintro e w' ⟨rfl, rfl⟩
  rw [← Hp.out]
  go_wp2_with fail
  refine (head_any _ x p hg0.1 hg1.1 hg1.2).mono ?_
  rintro e W1 ⟨rfl, hF1⟩
  rw [Hd.out]
  have hT : TAt (W1.alloc (.cells #[.int .i64 3, .int .i64 0, .int .i64 0, .int .i64 (p % 8 + 1), .string noB, .string noB, .string noB, .int .i64 (p / 8)] 30)) w.heap.size W1.heap.size (⟨3, 0, 0, p % 8 + 1, noB, noB, noB, p / 8⟩ : Opr) := by
    have e5 := hF1.heap He4.out (by simp)
    have l5 := lt_of_heap e5
    exact ⟨heap_alloc_old _ e5, heap_alloc_new _ _, by omega⟩
  have hl4 : w.heap.size < W1.heap.size := by have := hF1.size; simp at this; omega
  have hFa : Frm [] w W1 := hF0.trans hF1
  have e5 := hF1.heap He4.out (by simp)
  obtain ⟨z0, z1, z2, z3, z4, z5, z6, z7⟩ := cells_z e5
  have f4 : ∀ i, W1.frozen? ⟨w.heap.size, i, none⟩ = false := fun i => frozen_of_heap e5
  have He4e := Lib.hid e5
  have hb7 : w.heap.size ≤ W1.heap.size := by omega
  clear e5 hF1 hF0
  go_wp2_with fail
  refine (threaded_any _ _).mono ?_
  rintro e w' ⟨rfl, rfl⟩
  rw [show thB 3 = true from rfl]
  go_wp2_with fail
  refine (rneeds_any _ _).mono ?_
  rintro e w' ⟨rfl, rfl⟩
  rw [Hnd.out]
  go_wp2_with fail
  refine wp_loop_rounds 3 ?_
  replace hT : TAt (W1.alloc (.cells #[.int .i64 3, .int .i64 (x / 8 % t), .int .i64 0, .int .i64 (p % 8 + 1), .string noB, .string noB, .string noB, .int .i64 (p / 8)] 30)) w.heap.size W1.heap.size ⟨3, x / 8 % t, 0, p % 8 + 1, noB, noB, noB, p / 8⟩ := ⟨heap_alloc_old _ He4e.out, heap_alloc_new _ _, hT.ne⟩
  replace hFa : Frm [] w (W1.alloc (.cells #[.int .i64 3, .int .i64 (x / 8 % t), .int .i64 0, .int .i64 (p % 8 + 1), .string noB, .string noB, .string noB, .int .i64 (p / 8)] 30)) := hFa.alloc _
  clear z0 z1 z2 z3 z4 z5 z6 z7 f4 hl4
  generalize W1.alloc (.cells #[.int .i64 3, .int .i64 (x / 8 % t), .int .i64 0, .int .i64 (p % 8 + 1), .string noB, .string noB, .string noB, .int .i64 (p / 8)] 30) = wX at hT hFa ⊢
  generalize W1.heap.size = b7 at hT hb7 ⊢
  have g4 : w.heap.size ≤ w.heap.size := Nat.le_refl _
  rw [rounds_succ]
  go_wp2_with fail
  refine (HAT.out 2 _ hFa).mono ?_
  rintro e w' ⟨rfl, rfl⟩
  rw [Hz0.out]
  go_wp2_with fail
  refine (rkey_any y0 hy0.1 hy0.2 _).mono ?_
  rintro e wY0 ⟨rfl, hF3⟩
  replace hT := hT.quiet hF3
  replace hFa := hFa.trans hF3
  clear hF3
  obtain ⟨c0, c1, c2, c3, c4, c5, c6, c7⟩ := OpAt.block hT.h7
  simp only [Nat.zero_add] at c0 c1 c2 c3 c4 c5 c6 c7
  have f7 : ∀ i, wY0.frozen? ⟨b7, i, none⟩ = false := fun i => frozen_of_heap hT.h7
  have HT := Lib.hid hT
  clear hT
  go_wp2_with fail
  have hT : TAt (wY0.setCell ⟨b7, 4, none⟩ (.string (keyB y0))) w.heap.size b7 ⟨3, x / 8 % t, 0, p % 8 + 1, keyB y0, noB, noB, p / 8⟩ := HT.out.set 4 (.string (keyB y0)) rfl
  replace hFa := frm_set7 (i := 4) (v := .string (keyB y0)) hFa hb7
  generalize wY0.setCell ⟨b7, 4, none⟩ (.string (keyB y0)) = wZ0 at hT hFa ⊢
  clear HT c0 c1 c2 c3 c4 c5 c6 c7 f7
  rw [rounds_succ]
  go_wp2_with fail
  refine (HAT.out 3 _ hFa).mono ?_
  rintro e w' ⟨rfl, rfl⟩
  rw [Hz1.out]
  go_wp2_with fail
  refine (rval_any y1 hy1.1 hy1.2 _).mono ?_
  rintro e wY1 ⟨rfl, hF3⟩
  replace hT := hT.quiet hF3
  replace hFa := hFa.trans hF3
  clear hF3
  obtain ⟨c0, c1, c2, c3, c4, c5, c6, c7⟩ := OpAt.block hT.h7
  simp only [Nat.zero_add] at c0 c1 c2 c3 c4 c5 c6 c7
  have f7 : ∀ i, wY1.frozen? ⟨b7, i, none⟩ = false := fun i => frozen_of_heap hT.h7
  have HT := Lib.hid hT
  clear hT
  go_wp2_with fail
  have hT : TAt (wY1.setCell ⟨b7, 5, none⟩ (.string (valB y1))) w.heap.size b7 ⟨3, x / 8 % t, 0, p % 8 + 1, keyB y0, valB y1, noB, p / 8⟩ := HT.out.set 5 (.string (valB y1)) rfl
  replace hFa := frm_set7 (i := 5) (v := .string (valB y1)) hFa hb7
  generalize wY1.setCell ⟨b7, 5, none⟩ (.string (valB y1)) = wZ1 at hT hFa ⊢
  clear HT c0 c1 c2 c3 c4 c5 c6 c7 f7
  rw [rounds_succ]
  obtain ⟨c0, c1, c2, c3, c4, c5, c6, c7⟩ := OpAt.block hT.h7
  simp only [Nat.zero_add] at c0 c1 c2 c3 c4 c5 c6 c7
  obtain ⟨z0, z1, z2, z3, z4, z5, z6, z7⟩ := cells_z hT.h4
  have f4 : ∀ i, wZ1.frozen? ⟨w.heap.size, i, none⟩ = false := fun i => frozen_of_heap hT.h4
  clear hT
  go_wp2
  exact bodyPost_ret (v := .tuple #[.agg #[.int .i64 3, .int .i64 (x / 8 % t), .int .i64 0, .int .i64 (p % 8 + 1), .string (keyB y0), .string (valB y1), .string noB, .int .i64 (p / 8)], .int .i64 4]) (by simp [results, Try.results12, go_sem, z0, z1, z2, z3, z4, z5, z6, z7]) rfl ⟨rfl, frm_set8 hFa (Nat.le_refl _)⟩

set_option maxRecDepth 100000 in
set_option maxHeartbeats 4000000 in
theorem rnext_s3 {w : World} {a : Option Addr} {n c b o : Nat} {l : List Int} (hL : Li .u8 w a n c b o l) (hB : Byt l) (t : Int) (t0 : 1 ≤ t) (t1 : t ≤ 64) (hc : 5 ≤ l.getD 0 0 % 8) (hv : vc (l.getD 1 0 % 8 + 1) = 3) :
    Calls Try.prog 12 #[.slice a n c, .int .i64 t] w (Ret (.tuple #[.agg #[.int .i64 (nx l t).k, .int .i64 (nx l t).t, .int .i64 (nx l t).n, .int .i64 (nx l t).v, .string (nx l t).key, .string (nx l t).val, .string (nx l t).old, .int .i64 (nx l t).tk], .int .i64 (nxN l : Nat)]) (fun w' => Frm [] w w')) := by
  obtain ⟨hn, hN⟩ := nx_start (t := t) hc
  rw [hn, hN]
  have hg0 := hB.getD 0
  have hg1 := hB.getD 1
  have hat : ∀ (i : Nat) (W : World), Frm [] w W → Calls Try.prog 26 #[.slice a n c, .int .i64 (i : Int)] W (Ret (.int .i64 (l.getD i 0)) (fun w' => W = w')) := fun i W hF => at_any (hL.frm0 hF) hB i
  have d0 : (t == 0) = false := by simp; omega
  have hF0 : Frm [] w (w.alloc (.cells #[.int .i64 0, .int .i64 0, .int .i64 0, .int .i64 0, .string ⟨#[]⟩, .string ⟨#[]⟩, .string ⟨#[]⟩, .int .i64 0] 30)) := (Frm.refl _ _).alloc _
  have e4 := heap_alloc_new w (.cells #[.int .i64 0, .int .i64 0, .int .i64 0, .int .i64 0, .string ⟨#[]⟩, .string ⟨#[]⟩, .string ⟨#[]⟩, .int .i64 0] 30)
  have HAT := Lib.hid hat
  have He4 := Lib.hid e4
  have hq : rq (l.getD 0 0 / 8 % t) (l.getD 1 0) (l.drop 2) = ⟨3, l.getD 0 0 / 8 % t, 0, l.getD 1 0 % 8 + 1, keyB (l.getD 2 0), valB (l.getD 4 0), valB (l.getD 3 0), l.getD 1 0 / 8⟩ := by unfold rq; rw [hv]; simp only [getD_drop]; rfl
  rw [hq]
  have hvl : vlen (l.getD 1 0 % 8 + 1) = 3 := by unfold vlen; rw [hv]; rfl
  rw [hvl]
  have hnd : nds (l.getD 1 0 % 8 + 1) = ⟨#[107, 111, 118]⟩ := by unfold nds; rw [hv]; rfl
  have hy0 := hB.getD 2
  obtain ⟨y0, hz0⟩ : ∃ y, l.getD 2 0 = y := ⟨_, rfl⟩
  rw [hz0] at hy0 ⊢
  have Hz0 := Lib.hid hz0
  have hy1 := hB.getD 3
  obtain ⟨y1, hz1⟩ : ∃ y, l.getD 3 0 = y := ⟨_, rfl⟩
  rw [hz1] at hy1 ⊢
  have Hz1 := Lib.hid hz1
  have hy2 := hB.getD 4
  obtain ⟨y2, hz2⟩ : ∃ y, l.getD 4 0 = y := ⟨_, rfl⟩
  rw [hz2] at hy2 ⊢
  have Hz2 := Lib.hid hz2
  clear hz0 hz1 hz2
  obtain ⟨x, hx⟩ : ∃ x, x = l.getD 0 0 := ⟨_, rfl⟩
  obtain ⟨p, hp⟩ : ∃ q, q = l.getD 1 0 := ⟨_, rfl⟩
  rw [← hx] at hg0 hc
  rw [← hp] at hg1 hv hnd
  have Hnd := Lib.hid hnd
  try rw [← hx]
  try rw [← hp]
  have hdd := hd_start (x := x) (p := p) hc
  have d2 : 0 ≤ x / 8 := by omega
  have d3 : 0 ≤ x / 8 % t := Int.emod_nonneg _ (by omega)
  have Hx := Lib.hid hx
  have Hp := Lib.hid hp
  have Hd := Lib.hid hdd
  clear hx hp hdd hn hN hat hL hB e4 hc hq hvl hnd hv
  go_enter Try.func12, Try.ntmps12
  go_wp2_with fail
  refine (HAT.out 0 _ hF0).mono ?_
  rintro e w' ⟨rfl, rfl⟩
  rw [← Hx.out]
  go_wp2_with fail
  refine (HAT.out 1 _ hF0).mono ?_
  rintro e w' ⟨rfl, rfl⟩
  rw [← Hp.out]
  go_wp2_with fail
  refine (head_any _ x p hg0.1 hg1.1 hg1.2).mono ?_
  rintro e W1 ⟨rfl, hF1⟩
  rw [Hd.out]
  have hT : TAt (W1.alloc (.cells #[.int .i64 3, .int .i64 0, .int .i64 0, .int .i64 (p % 8 + 1), .string noB, .string noB, .string noB, .int .i64 (p / 8)] 30)) w.heap.size W1.heap.size (⟨3, 0, 0, p % 8 + 1, noB, noB, noB, p / 8⟩ : Opr) := by
    have e5 := hF1.heap He4.out (by simp)
    have l5 := lt_of_heap e5
    exact ⟨heap_alloc_old _ e5, heap_alloc_new _ _, by omega⟩
  have hl4 : w.heap.size < W1.heap.size := by have := hF1.size; simp at this; omega
  have hFa : Frm [] w W1 := hF0.trans hF1
  have e5 := hF1.heap He4.out (by simp)
  obtain ⟨z0, z1, z2, z3, z4, z5, z6, z7⟩ := cells_z e5
  have f4 : ∀ i, W1.frozen? ⟨w.heap.size, i, none⟩ = false := fun i => frozen_of_heap e5
  have He4e := Lib.hid e5
  have hb7 : w.heap.size ≤ W1.heap.size := by omega
  clear e5 hF1 hF0
  go_wp2_with fail
  refine (threaded_any _ _).mono ?_
  rintro e w' ⟨rfl, rfl⟩
  rw [show thB 3 = true from rfl]
  go_wp2_with fail
  refine (rneeds_any _ _).mono ?_
  rintro e w' ⟨rfl, rfl⟩
  rw [Hnd.out]
  go_wp2_with fail
  refine wp_loop_rounds 4 ?_
  replace hT : TAt (W1.alloc (.cells #[.int .i64 3, .int .i64 (x / 8 % t), .int .i64 0, .int .i64 (p % 8 + 1), .string noB, .string noB, .string noB, .int .i64 (p / 8)] 30)) w.heap.size W1.heap.size ⟨3, x / 8 % t, 0, p % 8 + 1, noB, noB, noB, p / 8⟩ := ⟨heap_alloc_old _ He4e.out, heap_alloc_new _ _, hT.ne⟩
  replace hFa : Frm [] w (W1.alloc (.cells #[.int .i64 3, .int .i64 (x / 8 % t), .int .i64 0, .int .i64 (p % 8 + 1), .string noB, .string noB, .string noB, .int .i64 (p / 8)] 30)) := hFa.alloc _
  clear z0 z1 z2 z3 z4 z5 z6 z7 f4 hl4
  generalize W1.alloc (.cells #[.int .i64 3, .int .i64 (x / 8 % t), .int .i64 0, .int .i64 (p % 8 + 1), .string noB, .string noB, .string noB, .int .i64 (p / 8)] 30) = wX at hT hFa ⊢
  generalize W1.heap.size = b7 at hT hb7 ⊢
  have g4 : w.heap.size ≤ w.heap.size := Nat.le_refl _
  rw [rounds_succ]
  go_wp2_with fail
  refine (HAT.out 2 _ hFa).mono ?_
  rintro e w' ⟨rfl, rfl⟩
  rw [Hz0.out]
  go_wp2_with fail
  refine (rkey_any y0 hy0.1 hy0.2 _).mono ?_
  rintro e wY0 ⟨rfl, hF3⟩
  replace hT := hT.quiet hF3
  replace hFa := hFa.trans hF3
  clear hF3
  obtain ⟨c0, c1, c2, c3, c4, c5, c6, c7⟩ := OpAt.block hT.h7
  simp only [Nat.zero_add] at c0 c1 c2 c3 c4 c5 c6 c7
  have f7 : ∀ i, wY0.frozen? ⟨b7, i, none⟩ = false := fun i => frozen_of_heap hT.h7
  have HT := Lib.hid hT
  clear hT
  go_wp2_with fail
  have hT : TAt (wY0.setCell ⟨b7, 4, none⟩ (.string (keyB y0))) w.heap.size b7 ⟨3, x / 8 % t, 0, p % 8 + 1, keyB y0, noB, noB, p / 8⟩ := HT.out.set 4 (.string (keyB y0)) rfl
  replace hFa := frm_set7 (i := 4) (v := .string (keyB y0)) hFa hb7
  generalize wY0.setCell ⟨b7, 4, none⟩ (.string (keyB y0)) = wZ0 at hT hFa ⊢
  clear HT c0 c1 c2 c3 c4 c5 c6 c7 f7
  rw [rounds_succ]
  go_wp2_with fail
  refine (HAT.out 3 _ hFa).mono ?_
  rintro e w' ⟨rfl, rfl⟩
  rw [Hz1.out]
  go_wp2_with fail
  refine (rval_any y1 hy1.1 hy1.2 _).mono ?_
  rintro e wY1 ⟨rfl, hF3⟩
  replace hT := hT.quiet hF3
  replace hFa := hFa.trans hF3
  clear hF3
  obtain ⟨c0, c1, c2, c3, c4, c5, c6, c7⟩ := OpAt.block hT.h7
  simp only [Nat.zero_add] at c0 c1 c2 c3 c4 c5 c6 c7
  have f7 : ∀ i, wY1.frozen? ⟨b7, i, none⟩ = false := fun i => frozen_of_heap hT.h7
  have HT := Lib.hid hT
  clear hT
  go_wp2_with fail
  have hT : TAt (wY1.setCell ⟨b7, 6, none⟩ (.string (valB y1))) w.heap.size b7 ⟨3, x / 8 % t, 0, p % 8 + 1, keyB y0, noB, valB y1, p / 8⟩ := HT.out.set 6 (.string (valB y1)) rfl
  replace hFa := frm_set7 (i := 6) (v := .string (valB y1)) hFa hb7
  generalize wY1.setCell ⟨b7, 6, none⟩ (.string (valB y1)) = wZ1 at hT hFa ⊢
  clear HT c0 c1 c2 c3 c4 c5 c6 c7 f7
  rw [rounds_succ]
  go_wp2_with fail
  refine (HAT.out 4 _ hFa).mono ?_
  rintro e w' ⟨rfl, rfl⟩
  rw [Hz2.out]
  go_wp2_with fail
  refine (rval_any y2 hy2.1 hy2.2 _).mono ?_
  rintro e wY2 ⟨rfl, hF3⟩
  replace hT := hT.quiet hF3
  replace hFa := hFa.trans hF3
  clear hF3
  obtain ⟨c0, c1, c2, c3, c4, c5, c6, c7⟩ := OpAt.block hT.h7
  simp only [Nat.zero_add] at c0 c1 c2 c3 c4 c5 c6 c7
  have f7 : ∀ i, wY2.frozen? ⟨b7, i, none⟩ = false := fun i => frozen_of_heap hT.h7
  have HT := Lib.hid hT
  clear hT
  go_wp2_with fail
  have hT : TAt (wY2.setCell ⟨b7, 5, none⟩ (.string (valB y2))) w.heap.size b7 ⟨3, x / 8 % t, 0, p % 8 + 1, keyB y0, valB y2, valB y1, p / 8⟩ := HT.out.set 5 (.string (valB y2)) rfl
  replace hFa := frm_set7 (i := 5) (v := .string (valB y2)) hFa hb7
  generalize wY2.setCell ⟨b7, 5, none⟩ (.string (valB y2)) = wZ2 at hT hFa ⊢
  clear HT c0 c1 c2 c3 c4 c5 c6 c7 f7
  rw [rounds_succ]
  obtain ⟨c0, c1, c2, c3, c4, c5, c6, c7⟩ := OpAt.block hT.h7
  simp only [Nat.zero_add] at c0 c1 c2 c3 c4 c5 c6 c7
  obtain ⟨z0, z1, z2, z3, z4, z5, z6, z7⟩ := cells_z hT.h4
  have f4 : ∀ i, wZ2.frozen? ⟨w.heap.size, i, none⟩ = false := fun i => frozen_of_heap hT.h4
  clear hT
  go_wp2
  exact bodyPost_ret (v := .tuple #[.agg #[.int .i64 3, .int .i64 (x / 8 % t), .int .i64 0, .int .i64 (p % 8 + 1), .string (keyB y0), .string (valB y2), .string (valB y1), .int .i64 (p / 8)], .int .i64 5]) (by simp [results, Try.results12, go_sem, z0, z1, z2, z3, z4, z5, z6, z7]) rfl ⟨rfl, frm_set8 hFa (Nat.le_refl _)⟩

set_option maxRecDepth 100000 in
set_option maxHeartbeats 4000000 in
theorem rnext_s4 {w : World} {a : Option Addr} {n c b o : Nat} {l : List Int} (hL : Li .u8 w a n c b o l) (hB : Byt l) (t : Int) (t0 : 1 ≤ t) (t1 : t ≤ 64) (hc : 5 ≤ l.getD 0 0 % 8) (hv : vc (l.getD 1 0 % 8 + 1) = 4) :
    Calls Try.prog 12 #[.slice a n c, .int .i64 t] w (Ret (.tuple #[.agg #[.int .i64 (nx l t).k, .int .i64 (nx l t).t, .int .i64 (nx l t).n, .int .i64 (nx l t).v, .string (nx l t).key, .string (nx l t).val, .string (nx l t).old, .int .i64 (nx l t).tk], .int .i64 (nxN l : Nat)]) (fun w' => Frm [] w w')) := by
  obtain ⟨hn, hN⟩ := nx_start (t := t) hc
  rw [hn, hN]
  have hg0 := hB.getD 0
  have hg1 := hB.getD 1
  have hat : ∀ (i : Nat) (W : World), Frm [] w W → Calls Try.prog 26 #[.slice a n c, .int .i64 (i : Int)] W (Ret (.int .i64 (l.getD i 0)) (fun w' => W = w')) := fun i W hF => at_any (hL.frm0 hF) hB i
  have d0 : (t == 0) = false := by simp; omega
  have hF0 : Frm [] w (w.alloc (.cells #[.int .i64 0, .int .i64 0, .int .i64 0, .int .i64 0, .string ⟨#[]⟩, .string ⟨#[]⟩, .string ⟨#[]⟩, .int .i64 0] 30)) := (Frm.refl _ _).alloc _
  have e4 := heap_alloc_new w (.cells #[.int .i64 0, .int .i64 0, .int .i64 0, .int .i64 0, .string ⟨#[]⟩, .string ⟨#[]⟩, .string ⟨#[]⟩, .int .i64 0] 30)
  have HAT := Lib.hid hat
  have He4 := Lib.hid e4
  have hq : rq (l.getD 0 0 / 8 % t) (l.getD 1 0) (l.drop 2) = ⟨3, l.getD 0 0 / 8 % t, l.getD 3 0 % 32 + 1, l.getD 1 0 % 8 + 1, keyB (l.getD 2 0), noB, noB, l.getD 1 0 / 8⟩ := by unfold rq; rw [hv]; simp only [getD_drop]; rfl
  rw [hq]
  have hvl : vlen (l.getD 1 0 % 8 + 1) = 2 := by unfold vlen; rw [hv]; rfl
  rw [hvl]
  have hnd : nds (l.getD 1 0 % 8 + 1) = ⟨#[107, 110]⟩ := by unfold nds; rw [hv]; rfl
  have hy0 := hB.getD 2
  obtain ⟨y0, hz0⟩ : ∃ y, l.getD 2 0 = y := ⟨_, rfl⟩
  rw [hz0] at hy0 ⊢
  have Hz0 := Lib.hid hz0
  have hy1 := hB.getD 3
  obtain ⟨y1, hz1⟩ : ∃ y, l.getD 3 0 = y := ⟨_, rfl⟩
  rw [hz1] at hy1 ⊢
  have Hz1 := Lib.hid hz1
  clear hz0 hz1
  obtain ⟨x, hx⟩ : ∃ x, x = l.getD 0 0 := ⟨_, rfl⟩
  obtain ⟨p, hp⟩ : ∃ q, q = l.getD 1 0 := ⟨_, rfl⟩
  rw [← hx] at hg0 hc
  rw [← hp] at hg1 hv hnd
  have Hnd := Lib.hid hnd
  try rw [← hx]
  try rw [← hp]
  have hdd := hd_start (x := x) (p := p) hc
  have d2 : 0 ≤ x / 8 := by omega
  have d3 : 0 ≤ x / 8 % t := Int.emod_nonneg _ (by omega)
  have Hx := Lib.hid hx
  have Hp := Lib.hid hp
  have Hd := Lib.hid hdd
  clear hx hp hdd hn hN hat hL hB e4 hc hq hvl hnd hv
  go_enter Try.func12, Try.ntmps12
  go_wp2_with fail
  refine (HAT.out 0 _ hF0).mono ?_
  rintro e w' ⟨rfl, rfl⟩
  rw [← Hx.out]
  go_wp2_with fail
  refine (HAT.out 1 _ hF0).mono ?_
  rintro e w' ⟨rfl, rfl⟩
  rw [← Hp.out]
  go_wp2_with fail
  refine (head_any _ x p hg0.1 hg1.1 hg1.2).mono ?_
  rintro e W1 ⟨rfl, hF1⟩
  rw [Hd.out]
  have hT : TAt (W1.alloc (.cells #[.int .i64 3, .int .i64 0, .int .i64 0, .int .i64 (p % 8 + 1), .string noB, .string noB, .string noB, .int .i64 (p / 8)] 30)) w.heap.size W1.heap.size (⟨3, 0, 0, p % 8 + 1, noB, noB, noB, p / 8⟩ : Opr) := by
    have e5 := hF1.heap He4.out (by simp)
    have l5 := lt_of_heap e5
    exact ⟨heap_alloc_old _ e5, heap_alloc_new _ _, by omega⟩
  have hl4 : w.heap.size < W1.heap.size := by have := hF1.size; simp at this; omega
  have hFa : Frm [] w W1 := hF0.trans hF1
  have e5 := hF1.heap He4.out (by simp)
  obtain ⟨z0, z1, z2, z3, z4, z5, z6, z7⟩ := cells_z e5
  have f4 : ∀ i, W1.frozen? ⟨w.heap.size, i, none⟩ = false := fun i => frozen_of_heap e5
  have He4e := Lib.hid e5
  have hb7 : w.heap.size ≤ W1.heap.size := by omega
  clear e5 hF1 hF0
  go_wp2_with fail
  refine (threaded_any _ _).mono ?_
  rintro e w' ⟨rfl, rfl⟩
  rw [show thB 3 = true from rfl]
  go_wp2_with fail
  refine (rneeds_any _ _).mono ?_
  rintro e w' ⟨rfl, rfl⟩
  rw [Hnd.out]
  go_wp2_with fail
  refine wp_loop_rounds 3 ?_
  replace hT : TAt (W1.alloc (.cells #[.int .i64 3, .int .i64 (x / 8 % t), .int .i64 0, .int .i64 (p % 8 + 1), .string noB, .string noB, .string noB, .int .i64 (p / 8)] 30)) w.heap.size W1.heap.size ⟨3, x / 8 % t, 0, p % 8 + 1, noB, noB, noB, p / 8⟩ := ⟨heap_alloc_old _ He4e.out, heap_alloc_new _ _, hT.ne⟩
  replace hFa : Frm [] w (W1.alloc (.cells #[.int .i64 3, .int .i64 (x / 8 % t), .int .i64 0, .int .i64 (p % 8 + 1), .string noB, .string noB, .string noB, .int .i64 (p / 8)] 30)) := hFa.alloc _
  clear z0 z1 z2 z3 z4 z5 z6 z7 f4 hl4
  generalize W1.alloc (.cells #[.int .i64 3, .int .i64 (x / 8 % t), .int .i64 0, .int .i64 (p % 8 + 1), .string noB, .string noB, .string noB, .int .i64 (p / 8)] 30) = wX at hT hFa ⊢
  generalize W1.heap.size = b7 at hT hb7 ⊢
  have g4 : w.heap.size ≤ w.heap.size := Nat.le_refl _
  rw [rounds_succ]
  go_wp2_with fail
  refine (HAT.out 2 _ hFa).mono ?_
  rintro e w' ⟨rfl, rfl⟩
  rw [Hz0.out]
  go_wp2_with fail
  refine (rkey_any y0 hy0.1 hy0.2 _).mono ?_
  rintro e wY0 ⟨rfl, hF3⟩
  replace hT := hT.quiet hF3
  replace hFa := hFa.trans hF3
  clear hF3
  obtain ⟨c0, c1, c2, c3, c4, c5, c6, c7⟩ := OpAt.block hT.h7
  simp only [Nat.zero_add] at c0 c1 c2 c3 c4 c5 c6 c7
  have f7 : ∀ i, wY0.frozen? ⟨b7, i, none⟩ = false := fun i => frozen_of_heap hT.h7
  have HT := Lib.hid hT
  clear hT
  go_wp2_with fail
  have hT : TAt (wY0.setCell ⟨b7, 4, none⟩ (.string (keyB y0))) w.heap.size b7 ⟨3, x / 8 % t, 0, p % 8 + 1, keyB y0, noB, noB, p / 8⟩ := HT.out.set 4 (.string (keyB y0)) rfl
  replace hFa := frm_set7 (i := 4) (v := .string (keyB y0)) hFa hb7
  generalize wY0.setCell ⟨b7, 4, none⟩ (.string (keyB y0)) = wZ0 at hT hFa ⊢
  clear HT c0 c1 c2 c3 c4 c5 c6 c7 f7
  rw [rounds_succ]
  go_wp2_with fail
  refine (HAT.out 3 _ hFa).mono ?_
  rintro e w' ⟨rfl, rfl⟩
  rw [Hz1.out]
  obtain ⟨c0, c1, c2, c3, c4, c5, c6, c7⟩ := OpAt.block hT.h7
  simp only [Nat.zero_add] at c0 c1 c2 c3 c4 c5 c6 c7
  have f7 : ∀ i, wZ0.frozen? ⟨b7, i, none⟩ = false := fun i => frozen_of_heap hT.h7
  have HT := Lib.hid hT
  clear hT
  go_wp2_with fail
  have hT : TAt (wZ0.setCell ⟨b7, 2, none⟩ (.int .i64 (y1 % 32 + 1))) w.heap.size b7 ⟨3, x / 8 % t, y1 % 32 + 1, p % 8 + 1, keyB y0, noB, noB, p / 8⟩ := HT.out.set 2 (.int .i64 (y1 % 32 + 1)) rfl
  replace hFa := frm_set7 (i := 2) (v := .int .i64 (y1 % 32 + 1)) hFa hb7
  generalize wZ0.setCell ⟨b7, 2, none⟩ (.int .i64 (y1 % 32 + 1)) = wZ1 at hT hFa ⊢
  clear HT c0 c1 c2 c3 c4 c5 c6 c7 f7
  rw [rounds_succ]
  obtain ⟨c0, c1, c2, c3, c4, c5, c6, c7⟩ := OpAt.block hT.h7
  simp only [Nat.zero_add] at c0 c1 c2 c3 c4 c5 c6 c7
  obtain ⟨z0, z1, z2, z3, z4, z5, z6, z7⟩ := cells_z hT.h4
  have f4 : ∀ i, wZ1.frozen? ⟨w.heap.size, i, none⟩ = false := fun i => frozen_of_heap hT.h4
  clear hT
  go_wp2
  exact bodyPost_ret (v := .tuple #[.agg #[.int .i64 3, .int .i64 (x / 8 % t), .int .i64 (y1 % 32 + 1), .int .i64 (p % 8 + 1), .string (keyB y0), .string noB, .string noB, .int .i64 (p / 8)], .int .i64 4]) (by simp [results, Try.results12, go_sem, z0, z1, z2, z3, z4, z5, z6, z7]) rfl ⟨rfl, frm_set8 hFa (Nat.le_refl _)⟩

theorem rnext2_any {w : World} {a : Option Addr} {n c b o : Nat} {l : List Int} (hL : Li .u8 w a n c b o l) (hB : Byt l) (t : Int) (t0 : 1 ≤ t) (t1 : t ≤ 64) :
    Calls Try.prog 12 #[.slice a n c, .int .i64 t] w (Ret (.tuple #[.agg #[.int .i64 (nx l t).k, .int .i64 (nx l t).t, .int .i64 (nx l t).n, .int .i64 (nx l t).v, .string (nx l t).key, .string (nx l t).val, .string (nx l t).old, .int .i64 (nx l t).tk], .int .i64 (nxN l : Nat)]) (fun w' => Frm [] w w')) := by
  have := hB.getD 0
  by_cases h5 : 5 ≤ l.getD 0 0 % 8
  · rcases vc_cases (l.getD 1 0 % 8 + 1) with hv | hv | hv | hv | hv
    · exact rnext_s0 hL hB t t0 t1 h5 hv
    · exact rnext_s1 hL hB t t0 t1 h5 hv
    · exact rnext_s2 hL hB t t0 t1 h5 hv
    · exact rnext_s3 hL hB t t0 t1 h5 hv
    · exact rnext_s4 hL hB t t0 t1 h5 hv
  · by_cases h4 : l.getD 0 0 % 8 = 4
    · exact rnext_round hL hB t t0 t1 h4
    · by_cases h3 : l.getD 0 0 % 8 = 3
      · exact rnext_tick hL hB t t0 t1 h3
      · exact rnext_pick hL hB t t0 t1 (by omega)
end Go.Proofs.Ytegoggnocpgoiaa
