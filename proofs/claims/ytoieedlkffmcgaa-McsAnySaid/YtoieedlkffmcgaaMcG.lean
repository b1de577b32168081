/- The reference: after (by gen_mcg.py). -/
import Derived.Test.YtoieedlkffmcgaaMcE
import Derived.Deep.RegionWith
import Derived.Deep.DrawnRows
namespace Go.Proofs.Ytoieedlkffmcgaa
open Go.ChangeShapes Go.WideShapes Go.ChangeAt Go.RowKit
set_option linter.unusedVariables false
set_option linter.unusedSimpArgs false

set_option maxRecDepth 100000 in
set_option maxHeartbeats 1000000 in
theorem aft_a1 (w : World) {b t L k : Nat} {o x : Int} (ak aw aa : Int) :
    Calls Try.prog 39 #[.agg #[.int .i64 b, .int .i64 t, .int .i64 L, .int .i64 k, .bool false, .int .i64 1, .int .u64 o, .bool false], .agg #[.int .i64 ak, .int .i64 aw, .int .u64 x, .int .u64 aa]] w (Ret (.tuple #[.agg #[.int .i64 b, .int .i64 t, .int .i64 L, .int .i64 k, .bool false, .int .i64 2, .int .u64 o, .bool false], .bool false]) (fun w' => Frm [] w w')) := by
  go_enter Try.func39, Try.ntmps39
  go_wp2
  refine bodyPost_ret (v := .tuple #[.agg #[.int .i64 b, .int .i64 t, .int .i64 L, .int .i64 k, .bool false, .int .i64 2, .int .u64 o, .bool false], .bool false]) (by simp [results, Try.results39, go_sem]) rfl ⟨rfl, ?_⟩
  repeat' (first | exact Frm.refl _ _ | apply Frm.alloc | apply Frm.drew | apply Frm.drewN)

set_option maxRecDepth 100000 in
set_option maxHeartbeats 1000000 in
theorem aft_a2 (w : World) {b t L k : Nat} {o x : Int} (ak aw aa : Int) :
    Calls Try.prog 39 #[.agg #[.int .i64 b, .int .i64 t, .int .i64 L, .int .i64 k, .bool false, .int .i64 2, .int .u64 o, .bool false], .agg #[.int .i64 ak, .int .i64 aw, .int .u64 x, .int .u64 aa]] w (Ret (.tuple #[.agg #[.int .i64 b, .int .i64 t, .int .i64 L, .int .i64 k, .bool false, .int .i64 3, .int .u64 o, .bool false], .bool false]) (fun w' => Frm [] w w')) := by
  go_enter Try.func39, Try.ntmps39
  go_wp2
  refine bodyPost_ret (v := .tuple #[.agg #[.int .i64 b, .int .i64 t, .int .i64 L, .int .i64 k, .bool false, .int .i64 3, .int .u64 o, .bool false], .bool false]) (by simp [results, Try.results39, go_sem]) rfl ⟨rfl, ?_⟩
  repeat' (first | exact Frm.refl _ _ | apply Frm.alloc | apply Frm.drew | apply Frm.drewN)

set_option maxRecDepth 100000 in
set_option maxHeartbeats 1000000 in
theorem aft_a4 (w : World) {b t L k : Nat} {o x : Int} (ak aw aa : Int) :
    Calls Try.prog 39 #[.agg #[.int .i64 b, .int .i64 t, .int .i64 L, .int .i64 k, .bool false, .int .i64 4, .int .u64 o, .bool false], .agg #[.int .i64 ak, .int .i64 aw, .int .u64 x, .int .u64 aa]] w (Ret (.tuple #[.agg #[.int .i64 b, .int .i64 t, .int .i64 L, .int .i64 k, .bool false, .int .i64 5, .int .u64 o, .bool false], .bool false]) (fun w' => Frm [] w w')) := by
  go_enter Try.func39, Try.ntmps39
  go_wp2
  refine bodyPost_ret (v := .tuple #[.agg #[.int .i64 b, .int .i64 t, .int .i64 L, .int .i64 k, .bool false, .int .i64 5, .int .u64 o, .bool false], .bool false]) (by simp [results, Try.results39, go_sem]) rfl ⟨rfl, ?_⟩
  repeat' (first | exact Frm.refl _ _ | apply Frm.alloc | apply Frm.drew | apply Frm.drewN)

set_option maxRecDepth 100000 in
set_option maxHeartbeats 1000000 in
theorem aft_a3f (w : World) {b t L k : Nat} {o : Int} (ak aw aa : Int) :
    Calls Try.prog 39 #[.agg #[.int .i64 b, .int .i64 t, .int .i64 L, .int .i64 k, .bool false, .int .i64 3, .int .u64 o, .bool false], .agg #[.int .i64 ak, .int .i64 aw, .int .u64 0, .int .u64 aa]] w (Ret (.tuple #[.agg #[.int .i64 b, .int .i64 t, .int .i64 L, .int .i64 k, .bool false, .int .i64 4, .int .u64 0, .bool true], .bool false]) (fun w' => Frm [] w w')) := by
  go_enter Try.func39, Try.ntmps39
  go_wp2
  refine bodyPost_ret (v := .tuple #[.agg #[.int .i64 b, .int .i64 t, .int .i64 L, .int .i64 k, .bool false, .int .i64 4, .int .u64 0, .bool true], .bool false]) (by simp [results, Try.results39, go_sem]) rfl ⟨rfl, ?_⟩
  repeat' (first | exact Frm.refl _ _ | apply Frm.alloc | apply Frm.drew | apply Frm.drewN)

set_option maxRecDepth 100000 in
set_option maxHeartbeats 1000000 in
theorem aft_a3l (w : World) {b t L k : Nat} {o x : Int} (hx : x ≠ 0) (ak aw aa : Int) :
    Calls Try.prog 39 #[.agg #[.int .i64 b, .int .i64 t, .int .i64 L, .int .i64 k, .bool false, .int .i64 3, .int .u64 o, .bool false], .agg #[.int .i64 ak, .int .i64 aw, .int .u64 x, .int .u64 aa]] w (Ret (.tuple #[.agg #[.int .i64 b, .int .i64 t, .int .i64 L, .int .i64 k, .bool false, .int .i64 4, .int .u64 x, .bool false], .bool false]) (fun w' => Frm [] w w')) := by
  have hx0 : (x == 0) = false := by simpa using hx
  have hx1 : (x != 0) = true := by simpa using hx
  clear hx
  go_enter Try.func39, Try.ntmps39
  go_wp2
  refine bodyPost_ret (v := .tuple #[.agg #[.int .i64 b, .int .i64 t, .int .i64 L, .int .i64 k, .bool false, .int .i64 4, .int .u64 x, .bool false], .bool false]) (by simp [results, Try.results39, go_sem]) rfl ⟨rfl, ?_⟩
  repeat' (first | exact Frm.refl _ _ | apply Frm.alloc | apply Frm.drew | apply Frm.drewN)

set_option maxRecDepth 100000 in
set_option maxHeartbeats 1000000 in
theorem aft_r1n (w : World) {b t L k : Nat} {o : Int} (ak aw aa : Int) :
    Calls Try.prog 39 #[.agg #[.int .i64 b, .int .i64 t, .int .i64 L, .int .i64 k, .bool true, .int .i64 1, .int .u64 o, .bool false], .agg #[.int .i64 ak, .int .i64 aw, .int .u64 0, .int .u64 aa]] w (Ret (.tuple #[.agg #[.int .i64 b, .int .i64 t, .int .i64 L, .int .i64 k, .bool true, .int .i64 2, .int .u64 o, .bool false], .bool false]) (fun w' => Frm [] w w')) := by
  go_enter Try.func39, Try.ntmps39
  go_wp2
  refine bodyPost_ret (v := .tuple #[.agg #[.int .i64 b, .int .i64 t, .int .i64 L, .int .i64 k, .bool true, .int .i64 2, .int .u64 o, .bool false], .bool false]) (by simp [results, Try.results39, go_sem]) rfl ⟨rfl, ?_⟩
  repeat' (first | exact Frm.refl _ _ | apply Frm.alloc | apply Frm.drew | apply Frm.drewN)

set_option maxRecDepth 100000 in
set_option maxHeartbeats 1000000 in
theorem aft_r1s (w : World) {b t L k : Nat} {o x : Int} (hx : x ≠ 0) (ak aw aa : Int) :
    Calls Try.prog 39 #[.agg #[.int .i64 b, .int .i64 t, .int .i64 L, .int .i64 k, .bool true, .int .i64 1, .int .u64 o, .bool false], .agg #[.int .i64 ak, .int .i64 aw, .int .u64 x, .int .u64 aa]] w (Ret (.tuple #[.agg #[.int .i64 b, .int .i64 t, .int .i64 L, .int .i64 k, .bool true, .int .i64 4, .int .u64 x, .bool false], .bool false]) (fun w' => Frm [] w w')) := by
  have hx0 : (x == 0) = false := by simpa using hx
  have hx1 : (x != 0) = true := by simpa using hx
  clear hx
  go_enter Try.func39, Try.ntmps39
  go_wp2
  refine bodyPost_ret (v := .tuple #[.agg #[.int .i64 b, .int .i64 t, .int .i64 L, .int .i64 k, .bool true, .int .i64 4, .int .u64 x, .bool false], .bool false]) (by simp [results, Try.results39, go_sem]) rfl ⟨rfl, ?_⟩
  repeat' (first | exact Frm.refl _ _ | apply Frm.alloc | apply Frm.drew | apply Frm.drewN)

set_option maxRecDepth 100000 in
set_option maxHeartbeats 1000000 in
theorem aft_r3w (w : World) {b t L k : Nat} {o : Int} (ak aw aa : Int) :
    Calls Try.prog 39 #[.agg #[.int .i64 b, .int .i64 t, .int .i64 L, .int .i64 k, .bool true, .int .i64 3, .int .u64 o, .bool false], .agg #[.int .i64 ak, .int .i64 aw, .int .u64 0, .int .u64 aa]] w (Ret (.tuple #[.agg #[.int .i64 b, .int .i64 t, .int .i64 L, .int .i64 k, .bool true, .int .i64 3, .int .u64 o, .bool false], .bool true]) (fun w' => Frm [] w w')) := by
  go_enter Try.func39, Try.ntmps39
  go_wp2
  refine bodyPost_ret (v := .tuple #[.agg #[.int .i64 b, .int .i64 t, .int .i64 L, .int .i64 k, .bool true, .int .i64 3, .int .u64 o, .bool false], .bool true]) (by simp [results, Try.results39, go_sem]) rfl ⟨rfl, ?_⟩
  repeat' (first | exact Frm.refl _ _ | apply Frm.alloc | apply Frm.drew | apply Frm.drewN)

set_option maxRecDepth 100000 in
set_option maxHeartbeats 1000000 in
theorem aft_r3s (w : World) {b t L k : Nat} {o x : Int} (hx : x ≠ 0) (ak aw aa : Int) :
    Calls Try.prog 39 #[.agg #[.int .i64 b, .int .i64 t, .int .i64 L, .int .i64 k, .bool true, .int .i64 3, .int .u64 o, .bool false], .agg #[.int .i64 ak, .int .i64 aw, .int .u64 x, .int .u64 aa]] w (Ret (.tuple #[.agg #[.int .i64 b, .int .i64 t, .int .i64 L, .int .i64 k, .bool true, .int .i64 4, .int .u64 x, .bool false], .bool false]) (fun w' => Frm [] w w')) := by
  have hx0 : (x == 0) = false := by simpa using hx
  have hx1 : (x != 0) = true := by simpa using hx
  clear hx
  go_enter Try.func39, Try.ntmps39
  go_wp2
  refine bodyPost_ret (v := .tuple #[.agg #[.int .i64 b, .int .i64 t, .int .i64 L, .int .i64 k, .bool true, .int .i64 4, .int .u64 x, .bool false], .bool false]) (by simp [results, Try.results39, go_sem]) rfl ⟨rfl, ?_⟩
  repeat' (first | exact Frm.refl _ _ | apply Frm.alloc | apply Frm.drew | apply Frm.drewN)

set_option maxRecDepth 100000 in
set_option maxHeartbeats 1000000 in
theorem aft_r4 (w : World) {b t L k : Nat} {o x : Int} (ak aw aa : Int) :
    Calls Try.prog 39 #[.agg #[.int .i64 b, .int .i64 t, .int .i64 L, .int .i64 k, .bool true, .int .i64 4, .int .u64 o, .bool false], .agg #[.int .i64 ak, .int .i64 aw, .int .u64 x, .int .u64 aa]] w (Ret (.tuple #[.agg #[.int .i64 b, .int .i64 t, .int .i64 L, .int .i64 k, .bool true, .int .i64 4, .int .u64 o, .bool true], .bool false]) (fun w' => Frm [] w w')) := by
  go_enter Try.func39, Try.ntmps39
  go_wp2
  refine bodyPost_ret (v := .tuple #[.agg #[.int .i64 b, .int .i64 t, .int .i64 L, .int .i64 k, .bool true, .int .i64 4, .int .u64 o, .bool true], .bool false]) (by simp [results, Try.results39, go_sem]) rfl ⟨rfl, ?_⟩
  repeat' (first | exact Frm.refl _ _ | apply Frm.alloc | apply Frm.drew | apply Frm.drewN)

set_option maxRecDepth 100000 in
set_option maxHeartbeats 1000000 in
theorem aft_a5g (w : World) {b t L k : Nat} {o : Int} (ak aw aa : Int) :
    Calls Try.prog 39 #[.agg #[.int .i64 b, .int .i64 t, .int .i64 L, .int .i64 k, .bool false, .int .i64 5, .int .u64 o, .bool false], .agg #[.int .i64 ak, .int .i64 aw, .int .u64 0, .int .u64 aa]] w (Ret (.tuple #[.agg #[.int .i64 b, .int .i64 t, .int .i64 L, .int .i64 k, .bool false, .int .i64 5, .int .u64 o, .bool true], .bool false]) (fun w' => Frm [] w w')) := by
  go_enter Try.func39, Try.ntmps39
  go_wp2_with fail
  go_region
  go_wp2
  refine bodyPost_ret (v := .tuple #[.agg #[.int .i64 b, .int .i64 t, .int .i64 L, .int .i64 k, .bool false, .int .i64 5, .int .u64 o, .bool true], .bool false]) (by simp [results, Try.results39, go_sem]) rfl ⟨rfl, ?_⟩
  repeat' (first | exact Frm.refl _ _ | apply Frm.alloc | apply Frm.drew | apply Frm.drewN)

set_option maxRecDepth 100000 in
set_option maxHeartbeats 1000000 in
theorem aft_a5w (w : World) {b t L k : Nat} {o x : Int} (hx : x ≠ 0) (ak aw aa : Int) :
    Calls Try.prog 39 #[.agg #[.int .i64 b, .int .i64 t, .int .i64 L, .int .i64 k, .bool false, .int .i64 5, .int .u64 o, .bool false], .agg #[.int .i64 ak, .int .i64 aw, .int .u64 x, .int .u64 aa]] w (Ret (.tuple #[.agg #[.int .i64 b, .int .i64 t, .int .i64 L, .int .i64 k, .bool false, .int .i64 5, .int .u64 o, .bool false], .bool true]) (fun w' => Frm [] w w')) := by
  have hx0 : (x == 0) = false := by simpa using hx
  have hx1 : (x != 0) = true := by simpa using hx
  clear hx
  go_enter Try.func39, Try.ntmps39
  go_wp2_with fail
  go_region
  go_wp2
  refine bodyPost_ret (v := .tuple #[.agg #[.int .i64 b, .int .i64 t, .int .i64 L, .int .i64 k, .bool false, .int .i64 5, .int .u64 o, .bool false], .bool true]) (by simp [results, Try.results39, go_sem]) rfl ⟨rfl, ?_⟩
  repeat' (first | exact Frm.refl _ _ | apply Frm.alloc | apply Frm.drew | apply Frm.drewN)

end Go.Proofs.Ytoieedlkffmcgaa
