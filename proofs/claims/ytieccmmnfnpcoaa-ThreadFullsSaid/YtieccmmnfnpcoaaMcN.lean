/- Package mem: the methods over Do. -/
import Derived.Test.YtieccmmnfnpcoaaMcM
namespace Go.Proofs.Ytieccmmnfnpcoaa
open Go.ChangeShapes Go.WideShapes Go.ChangeAt Go.RowKit

theorem Ret.frm {v : Value} {R R' : World → Prop} {e : Ending} {w : World} (h : Ret v R e w) (hr : R w → R' w) : Ret v R' e w := ⟨h.1, hr h.2⟩

theorem mk_load (w : World) (x : Int) : Calls Try.prog 79 #[.int .i64 x] w (Ret (.agg #[.int .i64 1, .int .i64 x, .int .u64 0, .int .u64 0]) (fun w' => Frm [] w w')) := by
  go_enter Try.func79, Try.ntmps79
  go_wp2
  refine bodyPost_ret (v := .agg #[.int .i64 1, .int .i64 x, .int .u64 0, .int .u64 0]) (by simp [results, Try.results79, go_sem]) rfl ⟨rfl, ?_⟩
  repeat' (first | exact Frm.refl _ _ | apply Frm.alloc)

theorem mk_store (w : World) (x v : Int) : Calls Try.prog 80 #[.int .i64 x, .int .u64 v] w (Ret (.agg #[.int .i64 2, .int .i64 x, .int .u64 0, .int .u64 v]) (fun w' => Frm [] w w')) := by
  go_enter Try.func80, Try.ntmps80
  go_wp2
  refine bodyPost_ret (v := .agg #[.int .i64 2, .int .i64 x, .int .u64 0, .int .u64 v]) (by simp [results, Try.results80, go_sem]) rfl ⟨rfl, ?_⟩
  repeat' (first | exact Frm.refl _ _ | apply Frm.alloc)

theorem mk_compareAndSwap (w : World) (x o v : Int) : Calls Try.prog 109 #[.int .i64 x, .int .u64 o, .int .u64 v] w (Ret (.agg #[.int .i64 3, .int .i64 x, .int .u64 o, .int .u64 v]) (fun w' => Frm [] w w')) := by
  go_enter Try.func109, Try.ntmps109
  go_wp2
  refine bodyPost_ret (v := .agg #[.int .i64 3, .int .i64 x, .int .u64 o, .int .u64 v]) (by simp [results, Try.results109, go_sem]) rfl ⟨rfl, ?_⟩
  repeat' (first | exact Frm.refl _ _ | apply Frm.alloc)

theorem mk_swap (w : World) (x v : Int) : Calls Try.prog 110 #[.int .i64 x, .int .u64 v] w (Ret (.agg #[.int .i64 4, .int .i64 x, .int .u64 0, .int .u64 v]) (fun w' => Frm [] w w')) := by
  go_enter Try.func110, Try.ntmps110
  go_wp2
  refine bodyPost_ret (v := .agg #[.int .i64 4, .int .i64 x, .int .u64 0, .int .u64 v]) (by simp [results, Try.results110, go_sem]) rfl ⟨rfl, ?_⟩
  repeat' (first | exact Frm.refl _ _ | apply Frm.alloc)

theorem Load_mem {w : World} {p d c : Nat} {ws : List Int} (h : MemAt w p d c ws) (x : Int) :
    Calls Try.prog 44 #[.pointer (some ⟨p, 0, none⟩), .int .i64 x] w (Ret (.tuple #[.int .u64 (mRes ws ⟨1, x, 0, 0⟩).b, .int .i64 (mErr ws.length 1 x)]) (fun w' => Frm [d] w w' ∧ MemAt w' p d c (mWs ws ⟨1, x, 0, 0⟩))) := by
  go_enter Try.func44, Try.ntmps44
  go_wp2_with fail
  refine (mk_load _ _).mono ?_
  rintro e w1 ⟨rfl, hF1⟩
  have hM1 : MemAt w1 p d c ws := h.frm hF1 (by simp) (by simp)
  go_wp2_with fail
  refine (do_mem hM1 _ _ _ _).mono ?_
  rintro e w2 ⟨rfl, hF2, hM2⟩
  have hF : Frm [d] w w2 := hF1.nil.trans hF2
  clear hF1 hF2 hM1
  go_wp2
  go_ret2
  exact ⟨rfl, by repeat' (first | exact hF | apply Frm.alloc), by repeat' (first | exact hM2 | apply MemAt.alloc)⟩

theorem Store_mem {w : World} {p d c : Nat} {ws : List Int} (h : MemAt w p d c ws) (x v : Int) :
    Calls Try.prog 52 #[.pointer (some ⟨p, 0, none⟩), .int .i64 x, .int .u64 v] w (Ret (.int .i64 (mErr ws.length 2 x)) (fun w' => Frm [d] w w' ∧ MemAt w' p d c (mWs ws ⟨2, x, 0, v⟩))) := by
  go_enter Try.func52, Try.ntmps52
  go_wp2_with fail
  refine (mk_store _ _ _).mono ?_
  rintro e w1 ⟨rfl, hF1⟩
  have hM1 : MemAt w1 p d c ws := h.frm hF1 (by simp) (by simp)
  go_wp2_with fail
  refine (do_mem hM1 _ _ _ _).mono ?_
  rintro e w2 ⟨rfl, hF2, hM2⟩
  have hF : Frm [d] w w2 := hF1.nil.trans hF2
  clear hF1 hF2 hM1
  go_wp2
  go_ret
  exact ⟨rfl, by repeat' (first | exact hF | apply Frm.alloc), by repeat' (first | exact hM2 | apply MemAt.alloc)⟩

theorem CAS_mem {w : World} {p d c : Nat} {ws : List Int} (h : MemAt w p d c ws) (x o v : Int) :
    Calls Try.prog 106 #[.pointer (some ⟨p, 0, none⟩), .int .i64 x, .int .u64 o, .int .u64 v] w (Ret (.tuple #[.bool (mErr ws.length 3 x == 0 && (mRes ws ⟨3, x, o, v⟩).b == o), .int .i64 (mErr ws.length 3 x)]) (fun w' => Frm [d] w w' ∧ MemAt w' p d c (mWs ws ⟨3, x, o, v⟩))) := by
  go_enter Try.func106, Try.ntmps106
  go_wp2_with fail
  refine (mk_compareAndSwap _ _ _ _).mono ?_
  rintro e w1 ⟨rfl, hF1⟩
  have hM1 : MemAt w1 p d c ws := h.frm hF1 (by simp) (by simp)
  go_wp2_with fail
  refine (do_mem hM1 _ _ _ _).mono ?_
  rintro e w2 ⟨rfl, hF2, hM2⟩
  have hF : Frm [d] w w2 := hF1.nil.trans hF2
  clear hF1 hF2 hM1
  by_cases he : mErr ws.length 3 x = 0
  · have he1 : (mErr ws.length 3 x == 0) = true := by simp [he]
    have HE := Lib.hid he
    clear he
    go_wp2
    go_ret2
    exact ⟨by simp [HE.out], by repeat' (first | exact hF | apply Frm.alloc), by repeat' (first | exact hM2 | apply MemAt.alloc)⟩
  · have he1 : (mErr ws.length 3 x == 0) = false := by simp [he]
    go_wp2
    go_ret2
    exact ⟨by simp [he], by repeat' (first | exact hF | apply Frm.alloc), by repeat' (first | exact hM2 | apply MemAt.alloc)⟩

theorem Swap_mem {w : World} {p d c : Nat} {ws : List Int} (h : MemAt w p d c ws) (x v : Int) :
    Calls Try.prog 108 #[.pointer (some ⟨p, 0, none⟩), .int .i64 x, .int .u64 v] w (Ret (.tuple #[.int .u64 (mRes ws ⟨4, x, 0, v⟩).b, .int .i64 (mErr ws.length 4 x)]) (fun w' => Frm [d] w w' ∧ MemAt w' p d c (mWs ws ⟨4, x, 0, v⟩))) := by
  go_enter Try.func108, Try.ntmps108
  go_wp2_with fail
  refine (mk_swap _ _ _).mono ?_
  rintro e w1 ⟨rfl, hF1⟩
  have hM1 : MemAt w1 p d c ws := h.frm hF1 (by simp) (by simp)
  go_wp2_with fail
  refine (do_mem hM1 _ _ _ _).mono ?_
  rintro e w2 ⟨rfl, hF2, hM2⟩
  have hF : Frm [d] w w2 := hF1.nil.trans hF2
  clear hF1 hF2 hM1
  go_wp2
  go_ret2
  exact ⟨rfl, by repeat' (first | exact hF | apply Frm.alloc), by repeat' (first | exact hM2 | apply MemAt.alloc)⟩

end Go.Proofs.Ytieccmmnfnpcoaa
