/- Package script: Next, Parse. -/
import Derived.Test.YtegoggnocpgoiaaScrD
namespace Go.Proofs.Ytegoggnocpgoiaa
open Go.ChangeShapes Go.WideShapes Go.ChangeAt Go.RowKit

abbrev zOp : Opr := ⟨0, 0, 0, 0, noB, noB, noB, 0⟩
theorem next_arg (w : World) (v : Value) (t : Int) (hm : mb t = false) : Calls Try.prog 22 #[v, .int .i64 t] w (Ret (.tuple #[.agg #[.int .i64 zOp.k, .int .i64 zOp.t, .int .i64 zOp.n, .int .i64 zOp.v, .string zOp.key, .string zOp.val, .string zOp.old, .int .i64 zOp.tk], .int .i64 0, .int .i64 2]) (fun w' => Frm [] w w')) := by
  have HM := Lib.hid hm
  clear hm
  go_enter Try.func22, Try.ntmps22
  go_wp2_with (go_at_call 32; refine (maybe_any _ _).mono ?_; rintro e w' ⟨rfl, rfl⟩; rw [HM.out])
  exact bodyPost_ret (v := .tuple #[.agg #[.int .i64 zOp.k, .int .i64 zOp.t, .int .i64 zOp.n, .int .i64 zOp.v, .string zOp.key, .string zOp.val, .string zOp.old, .int .i64 zOp.tk], .int .i64 0, .int .i64 2]) (by simp [results, Try.results22, go_sem]) rfl ⟨rfl, (Frm.refl _ _).alloc _⟩
theorem next_short (w : World) (a : Option Addr) (c : Nat) (t : Int) (hm : mb t = true) : Calls Try.prog 22 #[.slice a 0 c, .int .i64 t] w (Ret (.tuple #[.agg #[.int .i64 zOp.k, .int .i64 zOp.t, .int .i64 zOp.n, .int .i64 zOp.v, .string zOp.key, .string zOp.val, .string zOp.old, .int .i64 zOp.tk], .int .i64 0, .int .i64 4]) (fun w' => Frm [] w w')) := by
  have HM := Lib.hid hm
  clear hm
  go_enter Try.func22, Try.ntmps22
  go_wp2_with (go_at_call 32; refine (maybe_any _ _).mono ?_; rintro e w' ⟨rfl, rfl⟩; rw [HM.out])
  exact bodyPost_ret (v := .tuple #[.agg #[.int .i64 zOp.k, .int .i64 zOp.t, .int .i64 zOp.n, .int .i64 zOp.v, .string zOp.key, .string zOp.val, .string zOp.old, .int .i64 zOp.tk], .int .i64 0, .int .i64 4]) (by simp [results, Try.results22, go_sem]) rfl ⟨rfl, (Frm.refl _ _).alloc _⟩

set_option maxHeartbeats 4000000 in
theorem next_ok {w : World} {a : Option Addr} {n c b o : Nat} {l : List Int} (hL : Li .u8 w a n c b o l) (hB : Byt l) (hn : 0 < n) (hn2 : n ≤ 2147483647) (t : Int) (hm : mb t = true) :
    Calls Try.prog 22 #[.slice a n c, .int .i64 t] w (Ret (.tuple #[.agg #[.int .i64 (nx l t).k, .int .i64 (nx l t).t, .int .i64 (nx l t).n, .int .i64 (nx l t).v, .string (nx l t).key, .string (nx l t).val, .string (nx l t).old, .int .i64 (nx l t).tk], .int .i64 ((min (nxN l) n : Nat) : Int), .int .i64 0]) (fun w' => Frm [] w w')) := by
  obtain ⟨t0, t1⟩ := mb_iff.1 hm
  have hb : ((n : Int) == 0) = false := by simp; omega
  have hcall := fun (B : Nat) (w : World) (p : Nat) (h : RdAt B w p l) => op_any h hB t t0 t1
  obtain ⟨x, hx⟩ : ∃ x, nx l t = x := ⟨_, rfl⟩
  obtain ⟨m, hmm⟩ : ∃ m, min (nxN l) n = m := ⟨_, rfl⟩
  rw [hx, hmm]
  have HM := Lib.hid hm
  have HL := Lib.hid hL
  have HC := Lib.hid hcall
  have Hx := Lib.hid hx
  have Hm := Lib.hid hmm
  clear hm hL hcall hx hmm t0 t1
  go_enter Try.func22, Try.ntmps22
  go_wp2_with fail
  refine (maybe_any _ _).mono ?_
  rintro e w' ⟨rfl, rfl⟩
  rw [HM.out]
  go_wp2_with fail
  have e4 := heap_alloc_old (.cells #[.slice a n c] 63) (heap_alloc_new w (.cells #[.int .i64 zOp.k, .int .i64 zOp.t, .int .i64 zOp.n, .int .i64 zOp.v, .string zOp.key, .string zOp.val, .string zOp.old, .int .i64 zOp.tk] 30))
  have e7 := heap_alloc_at (w := w.alloc (.cells #[.int .i64 zOp.k, .int .i64 zOp.t, .int .i64 zOp.n, .int .i64 zOp.v, .string zOp.key, .string zOp.val, .string zOp.old, .int .i64 zOp.tk] 30)) (k := w.heap.size + 1) (.cells #[.slice a n c] 63) (by simp)
  have hF : Frm [] w ((w.alloc (.cells #[.int .i64 zOp.k, .int .i64 zOp.t, .int .i64 zOp.n, .int .i64 zOp.v, .string zOp.key, .string zOp.val, .string zOp.old, .int .i64 zOp.tk] 30)).alloc (.cells #[.slice a n c] 63)) := ((Frm.refl _ _).alloc _).alloc _
  have hR : RdAt w.heap.size ((w.alloc (.cells #[.int .i64 zOp.k, .int .i64 zOp.t, .int .i64 zOp.n, .int .i64 zOp.v, .string zOp.key, .string zOp.val, .string zOp.old, .int .i64 zOp.tk] 30)).alloc (.cells #[.slice a n c] 63)) (w.heap.size + 1) l := ⟨a, n, c, b, o, e7, HL.out.frm0 hF, fun h0 => HL.out.lt h0⟩
  refine (HC.out _ _ _ hR).mono ?_
  rintro e w2 ⟨rfl, hF2, hR2⟩
  rw [Hx.out]
  have e42 := hF2.heap e4 (by simp)
  have hFF : Frm [] w w2 := hF.trans_new hF2 (by intro x hx; simp at hx; subst hx; exact .inr (by omega))
  obtain ⟨a', n', c', b', o', hp, hL', _⟩ := hR2
  have hn' : n' = n - m := by have := hL'.len; rw [List.length_drop, HL.out.len] at this; rw [← Hm.out]; omega
  have hmn : m ≤ n := by rw [← Hm.out]; omega
  have hl2 := lt_of_heap hp
  have hl3 : w.heap.size < w2.heap.size := by omega
  have c7 : w2.cell? ⟨w.heap.size + 1, 0, none⟩ = some (.slice a' n' c') := by rw [cell_of_heap hp]; rfl
  obtain ⟨z0, z1, z2, z3, z4, z5, z6, z7⟩ := cells_z e42
  have f4 : ∀ i, w2.frozen? ⟨w.heap.size, i, none⟩ = false := fun i => frozen_of_heap e42
  have hsub : IntKind.i64.wrap ((n : Int) - (n' : Int)) = (m : Int) := by rw [IntWalk.i64_in _ (by omega)]; omega
  have HF := Lib.hid hFF
  clear hF hF2 e4 e7 e42 hp hL' hn' hFF
  go_wp2_with fail
  go_region
  go_wp2
  exact bodyPost_ret (v := .tuple #[.agg #[.int .i64 x.k, .int .i64 x.t, .int .i64 x.n, .int .i64 x.v, .string x.key, .string x.val, .string x.old, .int .i64 x.tk], .int .i64 (m : Int), .int .i64 0]) (by simp [results, Try.results22, go_sem, z0, z1, z2, z3, z4, z5, z6, z7, hl3, Nat.ne_of_lt hl3]) rfl ⟨rfl, ((frm_set8 HF.out (Nat.le_refl _)).alloc _).drew⟩
end Go.Proofs.Ytegoggnocpgoiaa
