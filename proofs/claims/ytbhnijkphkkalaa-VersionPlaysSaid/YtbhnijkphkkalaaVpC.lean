/- The ways of the reference's access. (By gen_vpa.py.) -/
import Derived.Test.YtbhnijkphkkalaaVpA
import Derived.StillTailTactics
namespace Go.Proofs.Ytbhnijkphkkalaa
open Go.ChangeShapes Go.WideShapes Go.ChangeAt Go.RowKit
set_option linter.unusedVariables false

section
variable {w : World} {V F : Int} {la : Option Addr} {ln lc : Nat} {many tries steps first : Int} {ra : Option Addr} {rn rcap : Nat} {res : Int} {ended : Bool}

set_option maxRecDepth 100000 in
set_option maxHeartbeats 1000000 in
theorem acc_1  : Calls Try.prog 40 #[.agg #[.bool true, .int .i64 V, .int .i64 F, .slice la ln lc, .int .i64 many, .int .i64 tries, .int .i64 1, .int .u64 first, .slice ra rn rcap, .int .u64 res, .bool ended]] w
    (Ret (.agg #[.int .i64 2, .int .i64 V, .int .u64 0, .int .u64 (IntKind.u64.wrap (first + 1))]) (fun w' => Frm [] w w')) := by
  go_enter Try.func40, Try.ntmps40
  go_wp2
  refine bodyPost_ret (v := .agg #[.int .i64 2, .int .i64 V, .int .u64 0, .int .u64 (IntKind.u64.wrap (first + 1))]) ?_ rfl ?_
  · simp [results, Try.results40, go_sem]
  exact ⟨rfl, by (repeat' (first | exact Frm.refl _ _ | apply Frm.alloc | apply Frm.drew | apply Frm.drewN | apply Frm.set4 | assumption))⟩

set_option maxRecDepth 100000 in
set_option maxHeartbeats 1000000 in
theorem acc_e (hl : ln ≤ 256) : Calls Try.prog 40 #[.agg #[.bool true, .int .i64 V, .int .i64 F, .slice la ln lc, .int .i64 many, .int .i64 tries, .int .i64 (2 + (ln : Int)), .int .u64 first, .slice ra rn rcap, .int .u64 res, .bool ended]] w
    (Ret (.agg #[.int .i64 2, .int .i64 V, .int .u64 0, .int .u64 (IntKind.u64.wrap (first + 2))]) (fun w' => Frm [] w w')) := by
  have s0 : ((2 + (ln : Int)) == 0) = false := by simp; omega
  have s1 : ((2 + (ln : Int)) == 1) = false := by simp; omega
  have s2 : IntKind.i64.wrap (2 + (ln : Int) - 2) = (ln : Int) := by rw [IntWalk.i64_in _ (by omega)]; omega
  have s4 : 2 + (ln : Int) - 2 = (ln : Int) := by omega
  have s3 : decide ((ln : Int) < ln) = false := by simp
  go_enter Try.func40, Try.ntmps40
  go_wp2
  refine bodyPost_ret (v := .agg #[.int .i64 2, .int .i64 V, .int .u64 0, .int .u64 (IntKind.u64.wrap (first + 2))]) ?_ rfl ?_
  · simp [results, Try.results40, go_sem]
  exact ⟨rfl, by (repeat' (first | exact Frm.refl _ _ | apply Frm.alloc | apply Frm.drew | apply Frm.drewN | apply Frm.set4 | assumption))⟩

set_option maxRecDepth 100000 in
set_option maxHeartbeats 1000000 in
theorem acc_r (k : Nat) (hk : (k : Int) < many) (hm : many ≤ 256) (hF0 : 0 ≤ F) (hF1 : F ≤ 65536) : Calls Try.prog 40 #[.agg #[.bool false, .int .i64 V, .int .i64 F, .slice la ln lc, .int .i64 many, .int .i64 tries, .int .i64 (1 + (k : Int)), .int .u64 first, .slice ra rn rcap, .int .u64 res, .bool ended]] w
    (Ret (.agg #[.int .i64 1, .int .i64 (F + k), .int .u64 0, .int .u64 0]) (fun w' => Frm [] w w')) := by
  have s0 : ((1 + (k : Int)) == 0) = false := by simp; omega
  have s4 : 1 + (k : Int) - 1 = (k : Int) := by omega
  have s3 : decide ((k : Int) < many) = true := by simp; omega
  have s5 : (k : Int) ≤ 256 := by omega
  go_enter Try.func40, Try.ntmps40
  go_wp2
  refine bodyPost_ret (v := .agg #[.int .i64 1, .int .i64 (F + k), .int .u64 0, .int .u64 0]) ?_ rfl ?_
  · simp [results, Try.results40, go_sem]
  exact ⟨rfl, by (repeat' (first | exact Frm.refl _ _ | apply Frm.alloc | apply Frm.drew | apply Frm.drewN | apply Frm.set4 | assumption))⟩

set_option maxRecDepth 100000 in
set_option maxHeartbeats 1000000 in
theorem acc_v (k : Nat) (hk : many ≤ (k : Int)) (hm : (k : Int) ≤ 256) : Calls Try.prog 40 #[.agg #[.bool false, .int .i64 V, .int .i64 F, .slice la ln lc, .int .i64 many, .int .i64 tries, .int .i64 (1 + (k : Int)), .int .u64 first, .slice ra rn rcap, .int .u64 res, .bool ended]] w
    (Ret (.agg #[.int .i64 1, .int .i64 V, .int .u64 0, .int .u64 0]) (fun w' => Frm [] w w')) := by
  have s0 : ((1 + (k : Int)) == 0) = false := by simp; omega
  have s4 : 1 + (k : Int) - 1 = (k : Int) := by omega
  have s3 : decide ((k : Int) < many) = false := by simp; omega
  go_enter Try.func40, Try.ntmps40
  go_wp2
  refine bodyPost_ret (v := .agg #[.int .i64 1, .int .i64 V, .int .u64 0, .int .u64 0]) ?_ rfl ?_
  · simp [results, Try.results40, go_sem]
  exact ⟨rfl, by (repeat' (first | exact Frm.refl _ _ | apply Frm.alloc | apply Frm.drew | apply Frm.drewN | apply Frm.set4 | assumption))⟩

set_option maxRecDepth 100000 in
set_option maxHeartbeats 1000000 in
theorem acc_w {b o : Nat} {l : List Int} (hL : Li .u64 w la ln lc b o l) (k : Nat) (x : Int) (hx : l[k]? = some x) (hl : ln ≤ 256) (hF0 : 0 ≤ F) (hF1 : F ≤ 65536) : Calls Try.prog 40 #[.agg #[.bool true, .int .i64 V, .int .i64 F, .slice la ln lc, .int .i64 many, .int .i64 tries, .int .i64 (2 + (k : Int)), .int .u64 first, .slice ra rn rcap, .int .u64 res, .bool ended]] w
    (Ret (.agg #[.int .i64 2, .int .i64 (F + k), .int .u64 0, .int .u64 x]) (fun w' => Frm [] w w')) := by
  have hk : k < ln := by have := (List.getElem?_eq_some_iff.1 hx).1; have := hL.len; omega
  have s0 : ((2 + (k : Int)) == 0) = false := by simp; omega
  have s1 : ((2 + (k : Int)) == 1) = false := by simp; omega
  have s4 : 2 + (k : Int) - 2 = (k : Int) := by omega
  have s3 : decide ((k : Int) < ln) = true := by simp; omega
  have s6 : decide (k < ln) = true := by simp; omega
  have s5 : (k : Int) ≤ 256 := by omega
  obtain rfl := hL.ad (by omega)
  have hc : ∀ o1 o2, ((w.alloc o1).alloc o2).cell? ⟨b, o + k, none⟩ = some (.int .u64 x) := fun o1 o2 => (hL.frm0 (((Frm.refl [] w).alloc o1).alloc o2)).cell k x hx
  have s7 : IntKind.i64.wrap (F + (k : Int)) = F + k := by rw [IntWalk.i64_in _ (by omega)]
  have hz : w.heap.size < w.heap.size + 1 := by omega
  clear hL hx
  go_enter Try.func40, Try.ntmps40
  go_wp2
  go_region
  go_wp2
  refine bodyPost_ret (v := .agg #[.int .i64 2, .int .i64 (F + k), .int .u64 0, .int .u64 x]) ?_ rfl ?_
  · simp [results, Try.results40, go_sem]
  exact ⟨rfl, by (repeat' (first | exact Frm.refl _ _ | apply Frm.alloc | apply Frm.drew | apply Frm.drewN | apply Frm.set4 | assumption))⟩
end
#print axioms acc_w
end Go.Proofs.Ytbhnijkphkkalaa
