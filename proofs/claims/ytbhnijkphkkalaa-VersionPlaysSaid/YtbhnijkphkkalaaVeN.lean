/- Package mem: the methods over Do. -/
import Derived.Test.YtbhnijkphkkalaaMcM
namespace Go.Proofs.Ytbhnijkphkkalaa
open Go.ChangeShapes Go.WideShapes Go.ChangeAt Go.RowKit

theorem Ret.frm {v : Value} {R R' : World → Prop} {e : Ending} {w : World} (h : Ret v R e w) (hr : R w → R' w) : Ret v R' e w := ⟨h.1, hr h.2⟩

theorem mk_load (w : World) (x : Int) : Calls Try.prog 78 #[.int .i64 x] w (Ret (.agg #[.int .i64 1, .int .i64 x, .int .u64 0, .int .u64 0]) (fun w' => Frm [] w w')) := by
  go_enter Try.func78, Try.ntmps78
  go_wp2
  refine bodyPost_ret (v := .agg #[.int .i64 1, .int .i64 x, .int .u64 0, .int .u64 0]) (by simp [results, Try.results78, go_sem]) rfl ⟨rfl, ?_⟩
  repeat' (first | exact Frm.refl _ _ | apply Frm.alloc)

theorem mk_store (w : World) (x v : Int) : Calls Try.prog 45 #[.int .i64 x, .int .u64 v] w (Ret (.agg #[.int .i64 2, .int .i64 x, .int .u64 0, .int .u64 v]) (fun w' => Frm [] w w')) := by
  go_enter Try.func45, Try.ntmps45
  go_wp2
  refine bodyPost_ret (v := .agg #[.int .i64 2, .int .i64 x, .int .u64 0, .int .u64 v]) (by simp [results, Try.results45, go_sem]) rfl ⟨rfl, ?_⟩
  repeat' (first | exact Frm.refl _ _ | apply Frm.alloc)

theorem Load_mem {w : World} {p d c : Nat} {ws : List Int} (h : MemAt w p d c ws) (x : Int) :
    Calls Try.prog 77 #[.pointer (some ⟨p, 0, none⟩), .int .i64 x] w (Ret (.tuple #[.int .u64 (mRes ws ⟨1, x, 0, 0⟩).b, .int .i64 (mErr ws.length 1 x)]) (fun w' => Frm [d] w w' ∧ MemAt w' p d c (mWs ws ⟨1, x, 0, 0⟩))) := by
  go_enter Try.func77, Try.ntmps77
  go_wp2_with fail
  refine (mk_load _ _).mono ?_
  rintro e w1 ⟨rfl, hF1⟩
  have hM1 : MemAt w1 p d c ws := h.frm hF1 (by simp) (by simp)
  go_wp2_with fail
  refine (do_mem hM1 _ _ _ _).mono ?_
  rintro e w2 ⟨rfl, hF2, hM2⟩
  have hF : Frm [d] w w2 := hF1.nil.trans hF2
  clear hF1 hF2 hM1
  go_wp2
  go_ret2
  exact ⟨rfl, by repeat' (first | exact hF | apply Frm.alloc), by repeat' (first | exact hM2 | apply MemAt.alloc)⟩

theorem Store_mem {w : World} {p d c : Nat} {ws : List Int} (h : MemAt w p d c ws) (x v : Int) :
    Calls Try.prog 33 #[.pointer (some ⟨p, 0, none⟩), .int .i64 x, .int .u64 v] w (Ret (.int .i64 (mErr ws.length 2 x)) (fun w' => Frm [d] w w' ∧ MemAt w' p d c (mWs ws ⟨2, x, 0, v⟩))) := by
  go_enter Try.func33, Try.ntmps33
  go_wp2_with fail
  refine (mk_store _ _ _).mono ?_
  rintro e w1 ⟨rfl, hF1⟩
  have hM1 : MemAt w1 p d c ws := h.frm hF1 (by simp) (by simp)
  go_wp2_with fail
  refine (do_mem hM1 _ _ _ _).mono ?_
  rintro e w2 ⟨rfl, hF2, hM2⟩
  have hF : Frm [d] w w2 := hF1.nil.trans hF2
  clear hF1 hF2 hM1
  go_wp2
  go_ret
  exact ⟨rfl, by repeat' (first | exact hF | apply Frm.alloc), by repeat' (first | exact hM2 | apply MemAt.alloc)⟩

end Go.Proofs.Ytbhnijkphkkalaa
