/- Package queue: slices.Repeat, slices.Min; Window, Fair. -/
import Derived.Test.YtjgnmmlbnkmgfaaQueB
import Derived.Shelf.Bits.Mul64
import Derived.Deep.RegionLaw
namespace Go.Proofs.Ytjgnmmlbnkmgfaa
open Go.ChangeShapes Go.WideShapes Go.ChangeAt Go.RowKit

/-- The operation copy where its run is known. -/
theorem wpl_copy {P : Program} (w : World) {ops : Array Oper} {rest : List Oper} {o : Oper} {a : Act} {Q : Exit → Act → World → Prop} (hgd : o.guard = none) (d s : Operand) (t : TypeId)
    (ho : o.op = .call { callee := .builtin .copy, args := #[d, s], argTypes := #[t, t] }) {vd vs v' : Value} (hd : a.eval d = vd) (hs : a.eval s = vs) {w' : World} (hr : (Builtin.copy_ #[t, t] o.type #[vd, vs]).run P w = .ok v' w')
    (hh : wpList P ops Q rest (a.put o.dst v') w') : wpList P ops Q (o :: rest) a w := by
  refine wpList_plain hgd fun K hK => ?_
  unfold Oper.wp
  simp [execOp, ho, resolve, invoke, builtin, hd, hs, hr, Result.andThen]
  exact hK _ _ hh
theorem step_copy {P : Program} {ops : Array Oper} {o : Oper} {a : Act} {w : World} {K : Act → World → Prop} {Q : Exit → Act → World → Prop} {E : Prop} (hgd : o.guard = none) (d s : Operand) (t : TypeId)
    (ho : o.op = .call { callee := .builtin .copy, args := #[d, s], argTypes := #[t, t] }) {vd vs v' : Value} (hd : a.eval d = vd) (hs : a.eval s = vs) {w' : World} (hr : (Builtin.copy_ #[t, t] o.type #[vd, vs]).run P w = .ok v' w')
    (hK : K (a.put o.dst v') w') : if Region.wanted o (yielded ops a.tmps) = true then Oper.wp P o a w K Q else E := by
  have hw : Region.wanted o (yielded ops a.tmps) = true := by simp [Region.wanted, hgd]
  rw [if_pos hw]
  unfold Oper.wp
  simp [execOp, ho, resolve, invoke, builtin, hd, hs, hr, Result.andThen]
  exact hK

theorem and_small (k : Nat) (hk : k ≤ 64) : bits .and .u64 (k : Int) 4294967295 = (k : Int) := by
  rw [Mul64.maskN k (by omega), Nat.mod_eq_of_lt (by omega)]
/-- The product of one and a small number, by halves. -/
theorem half_one (t : Nat) (ht : t ≤ 64) (w : World) : Calls Try.prog 55 #[.int .u64 1, .int .u64 t] w (Ret (.tuple #[.int .u64 0, .int .u64 t]) (fun w' => w = w')) := by
  have a1 := and_small 1 (by omega)
  have at1 := and_small t ht
  have a1' : bits .and .u64 1 4294967295 = 1 := a1
  have a0 : bits .and .u64 0 4294967295 = 0 := and_small 0 (by omega)
  have q1 : (t : Int) / 4294967296 = 0 := by omega
  have q2 : IntKind.u64.wrap (t : Int) = t := by rw [IntKind.wrap_u64]; omega
  have q3 : IntKind.u64.wrap 0 = 0 := by rw [IntKind.wrap_u64]; rfl
  clear a1
  go_enter Try.func55, Try.ntmps55
  go_wp2
  go_ret2
  exact ⟨rfl, rfl⟩
theorem mul_one (t : Nat) (ht : t ≤ 64) (w : World) :
    Calls Try.prog 53 #[.int .u64 1, .int .u64 t] w (Ret (.tuple #[.int .u64 0, .int .u64 t]) (fun w' => w = w')) := by
  have hm := half_one t ht w
  go_enter Try.func53, Try.ntmps53
  go_wp2_with (go_at_call 55; refine hm.mono ?_; rintro e w' ⟨rfl, rfl⟩)
  go_ret2
  exact ⟨rfl, rfl⟩

theorem ints_one (l : List Int) : ∀ v ∈ ints l, v.oneCell' = true := by
  intro v hv
  unfold ints at hv
  obtain ⟨x, _, rfl⟩ := List.mem_map.1 hv
  rfl
/-- A row that begins with so many -1. -/
def neg (t k : Nat) : Array Value := (ints (List.replicate k (-1) ++ List.replicate (t - k) 0)).toArray
theorem neg_size {t k : Nat} (h : k ≤ t) : (neg t k).size = t := by unfold neg; simp [ints]; omega
theorem neg_get {t k j : Nat} (h : k ≤ t) (hj : j < t) : (neg t k)[j]? = some (.int .i64 (if j < k then -1 else 0)) := by
  unfold neg ints
  rw [List.getElem?_toArray, List.getElem?_map]
  by_cases hk : j < k
  · rw [List.getElem?_append_left (by simpa using hk), List.getElem?_replicate, if_pos hk]; simp [hk]
  · rw [List.getElem?_append_right (by simpa using hk), List.getElem?_replicate, List.length_replicate, if_pos (by omega)]; simp [hk]
theorem neg_wr {t k m : Nat} (h : k + m ≤ t) : wr (neg t k) k (ints (List.replicate m (-1))) = neg t (k + m) := by
  apply Array.ext_getElem?
  intro j
  rw [wr_get _ _ _ _ (by simp [ints, neg_size (show k ≤ t by omega)]; omega)]
  by_cases hj : j < t
  · rw [neg_get h hj]
    by_cases h1 : k ≤ j ∧ j < k + m
    · rw [if_pos (by simpa [ints] using h1)]
      unfold ints
      rw [List.getElem?_map, List.getElem?_replicate, if_pos (by omega), if_pos (by omega)]; rfl
    · rw [if_neg (by simpa [ints] using h1), neg_get (by omega) hj]
      by_cases h2 : j < k
      · rw [if_pos h2, if_pos (by omega)]
      · rw [if_neg h2, if_neg (by omega)]
  · rw [if_neg (by simp [ints]; omega), Array.getElem?_eq_none (by rw [neg_size (by omega)]; omega), Array.getElem?_eq_none (by rw [neg_size h]; omega)]

set_option maxHeartbeats 2000000 in
theorem repeat_any {w : World} {q : Nat} (hq : w.heap[q]? = some (.cells #[.int .i64 (-1)] 3 (0, 0))) (t : Nat) (h1 : 1 ≤ t) (h2 : t ≤ 64) :
    Calls Try.prog 48 #[.slice (some ⟨q, 0, none⟩) 1 1, .int .i64 (t : Int)] w (Ret (.slice (some ⟨w.heap.size, 0, none⟩) t t) (fun w' => Frm [] w w' ∧ w'.heap[w.heap.size]? = some (.cells (neg t t) 3 (0, 0)))) := by
  have hmk := make_int t (by omega)
  have hinfo : (Try.prog.info? 3).map (·.size) = some 1 := by kernel_rfl
  obtain ⟨X, hX⟩ : ∃ X, X = w.alloc (.cells (ints (List.replicate t 0)).toArray 3) := ⟨_, rfl⟩
  have hFX : Frm [] w X := by rw [hX]; exact (Frm.refl _ _).alloc _
  have hbx : X.heap[w.heap.size]? = some (.cells (neg t 0) 3 (0, 0)) := by rw [hX]; exact heap_alloc_new _ _
  have hqX : X.heap[q]? = some (.cells #[.int .i64 (-1)] 3 (0, 0)) := hFX.heap hq (by simp)
  have hcp : ∀ ty, (Builtin.copy_ #[28, 28] ty #[.slice (some ⟨w.heap.size, 0, none⟩) t t, .slice (some ⟨q, 0, none⟩) 1 1]).run Try.prog X = .ok (goInt (1 : Nat)) (X.setCells w.heap.size 0 (ints (List.replicate 1 (-1)))) := fun ty =>
    run_copy_cells X _ _ ty 3 w.heap.size 0 t t ⟨q, 0, none⟩ 1 1 (ints (List.replicate 1 (-1))) Try.underlying28 hinfo (by simp only [ints_length, List.length_replicate, Nat.min_def]; split <;> omega)
      (fun j v hj => by
        rw [Addr.add_lit, Nat.zero_add, cell_of_heap hqX]
        have : j = 0 := by have := (List.getElem?_eq_some_iff.1 hj).1; simp [ints] at this; omega
        subst this; simpa [ints] using hj)
      (fun j hj => by
        simp [ints] at hj
        exact (congrArg Option.isSome (cell_of_heap hbx)).trans (by rw [neg_get (by omega) (by omega)]; rfl)) (fun j _ => frozen_of_heap hbx) (ints_one _)
  have hW := heap_setCells_at w.heap.size (ints (List.replicate 1 (-1))) 0 X (neg t 0) hbx
  have hnw : wr (neg t 0) 0 (ints (List.replicate 1 (-1))) = neg t (0 + 1) := neg_wr (by omega)
  rw [hnw] at hW
  have hF : Frm [] w (X.setCells w.heap.size 0 (ints (List.replicate 1 (-1)))) := Frm.setCells _ (.inr (Nat.le_refl _)) _ _ _ hFX
  generalize X.setCells w.heap.size 0 (ints (List.replicate 1 (-1))) = W1 at hcp hW hF
  have hmul := mul_one t h2
  have HX := Lib.hid hX
  have HW := Lib.hid hW
  have HC := Lib.hid hcp
  have HM := Lib.hid hmul
  clear hX hbx hcp hW hnw hq hqX hmul
  have hb0 : decide ((t : Int) < 0) = false := by simp
  go_enter Try.func48, Try.ntmps48
  go_wp2_with fail
  refine (HM.out _).mono ?_
  rintro e w' ⟨rfl, rfl⟩
  go_wp2_with fail
  rw [← HX.out]
  clear hmk
  rw [HC.out]
  go_wp2_with fail
  go_loopw [8] (fun i w' => ∃ k : Nat, 1 ≤ k ∧ k ≤ t ∧ i = .int .i64 k ∧ Frm [] w w' ∧ Hid (w'.heap[w.heap.size]? = some (.cells (neg t k) 3 (0, 0)))) (fun i _ => t - (intOf i).toNat)
  case atStart => exact ⟨1, by omega, by omega, rfl, hF, HW⟩
  case round =>
    obtain ⟨k, hk1, hk, rfl, hF, HG⟩ := hrel
    by_cases hlt : k < t
    · obtain ⟨m, hm⟩ : ∃ m, m = Nat.min k (t - k) := ⟨_, rfl⟩
      have hm1 : 1 ≤ m ∧ k + m ≤ t := by rw [hm]; simp only [Nat.min_def]; split <;> omega
      have hrun : ∀ ty, (Builtin.copy_ #[28, 28] ty #[.slice (some ⟨w.heap.size, k, none⟩) (t - k) (t - k), .slice (some ⟨w.heap.size, 0, none⟩) k t]).run Try.prog wr.drew = .ok (goInt (m : Nat)) (wr.drew.setCells w.heap.size k (ints (List.replicate m (-1)))) := fun ty => by
        have := run_copy_cells (P := Try.prog) wr.drew 28 28 ty 3 w.heap.size k (t - k) (t - k) ⟨w.heap.size, 0, none⟩ k t (ints (List.replicate m (-1))) Try.underlying28 hinfo (by simp only [ints_length, List.length_replicate]; exact hm)
          (fun j v hj => by
            rw [Addr.add_lit, Nat.zero_add]
            have hjm : j < m := by have := (List.getElem?_eq_some_iff.1 hj).1; simpa [ints] using this
            refine (cell_of_heap HG.out).trans ?_
            have hjk : j < k := by rw [hm] at hjm; simp only [Nat.min_def] at hjm; split at hjm <;> omega
            rw [neg_get (by omega) (by omega), if_pos hjk, ← hj]
            unfold ints; rw [List.getElem?_map, List.getElem?_replicate, if_pos hjm]; rfl)
          (fun j hj => by
            simp only [ints_length, List.length_replicate] at hj
            exact (congrArg Option.isSome (cell_of_heap HG.out)).trans (by rw [neg_get (by omega) (by omega)]; rfl)) (fun j _ => frozen_of_heap HG.out) (ints_one _)
        simpa [ints_length] using this
      have hW := heap_setCells_at w.heap.size (ints (List.replicate m (-1))) k wr.drew (neg t k) HG.out
      rw [neg_wr hm1.2] at hW
      have hF2 : Frm [] w (wr.drew.setCells w.heap.size k (ints (List.replicate m (-1)))) := Frm.setCells _ (.inr (Nat.le_refl _)) _ _ _ hF.drew
      generalize wr.drew.setCells w.heap.size k (ints (List.replicate m (-1))) = W2 at hrun hW hF2
      have HR := Lib.hid hrun
      have HW2 := Lib.hid hW
      have hb2 : (k : Int) < (t : Int) := by omega
      have hb3 : (k : Int) ≤ (t : Int) := by omega
      have hb4 : ¬ t = k := by omega
      have hwp : IntKind.i64.wrap ((k : Int) + (m : Int)) = ((k + m : Nat) : Int) := by rw [IntKind.wrap_i64]; omega
      clear hrun hW hm
      go_wp2_with fail
      go_region_law (refine step_copy rfl _ _ 28 rfl (vd := .slice (some ⟨w.heap.size, k, none⟩) (t - k) (t - k)) (vs := .slice (some ⟨w.heap.size, 0, none⟩) k t) (by simp [Act.eval, Act.put]) (by simp [Act.eval, Act.put]) (HR.out _) ?_)
      simp [go_sem, Act.put]
      go_wp2
      go_roundw
      case rel => exact ⟨k + m, by omega, by omega, by go_num, hF2, HW2⟩
      case measure => simp [intOf]; omega
    · obtain rfl : k = t := by omega
      go_wp2
      go_ret
      exact ⟨rfl, hF, HG.out⟩
end Go.Proofs.Ytjgnmmlbnkmgfaa
