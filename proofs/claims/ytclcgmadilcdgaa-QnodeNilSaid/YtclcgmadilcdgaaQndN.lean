/- Layer 7: the walk of QnodeNil (by gen_qndn.py). -/
import Derived.Test.YtclcgmadilcdgaaQndK
namespace Go.Proofs.Ytclcgmadilcdgaa
open Go.ChangeShapes Go.WideShapes Go.ChangeAt Go.RowKit

set_option maxRecDepth 100000 in
set_option maxHeartbeats 4000000 in
theorem walk_QnodeNil (a : Int) (_wa : (Lit.int .i64 a).wf = true) (b : Int) (_wb : (Lit.int .i64 b).wf = true) (x : Int) (_wx : (Lit.int .u64 x).wf = true) (w : World) :
    Calls Try.prog 6 #[.int .i64 a, .int .i64 b, .int .u64 x] w (Ret (.bool true) (fun w' => Below w.heap.size w w')) := by
  go_enter Try.func6, Try.ntmps6
  go_wp2_with fail
  refine (new_ok _ 0 1 (by decide) (by decide) (by decide)).mono ?_
  rintro e w1 ⟨rfl, hF1, hN⟩
  have HN := Lib.hid hN
  clear hN
  go_wp2_with fail
  obtain ⟨X, hX⟩ : ∃ X, X = (w1.alloc (.cells #[.int .i64 0, .int .i64 0] 43)).alloc (.cells #[.pointer none, .pointer (some ⟨w1.heap.size, 0, none⟩)] 26) := ⟨_, rfl⟩
  have hFX : Frm [] w1 X := by rw [hX]; exact ((Frm.refl _ _).alloc _).alloc _
  have hz : X.heap[w1.heap.size]? = some (.cells #[.int .i64 0, .int .i64 0] 43 (0, 0)) := by rw [hX]; exact heap_alloc_old _ (heap_alloc_new _ _)
  have hs : X.heap[w1.heap.size + 1]? = some (.cells #[.pointer none, .pointer (some ⟨w1.heap.size, 0, none⟩)] 26 (0, 0)) := by rw [hX]; exact heap_alloc_at _ (by simp)
  rw [← hX]
  have hFw : Frm [] w X := hF1.trans hFX
  have HS := Lib.hid hs
  have HZ := Lib.hid hz
  have HNX := Lib.hid (HN.out.frm hFX)
  clear hX hz hs hFX hF1
  go_loopw [27] (fun i wr => ∃ k : Nat, k ≤ 2 ∧ i = .int .i64 k ∧ Frm [] X wr) (fun i _ => 2 - (intOf i).toNat)
  case atStart => exact ⟨0, by omega, rfl, Frm.refl _ _⟩
  case round =>
    obtain ⟨k, hk, rfl, hF⟩ := hrel
    obtain ⟨s0, s1⟩ := cells2 (hF.heap HS.out (by simp))
    have HR := Lib.hid (HNX.out.frm hF)
    have hkk : k = 0 ∨ k = 1 ∨ k = 2 := by omega
    rcases hkk with rfl | rfl | rfl
    · have HZ2 : Hid (Zv wr (.pointer none)) := Lib.hid (Zv.nil wr)
      go_wp2_with fail
      refine (base_z HZ2.out).mono ?_
      rintro e w' ⟨rfl, rfl⟩
      go_wp2_with fail
      refine (threads_z HZ2.out).mono ?_
      rintro e w' ⟨rfl, rfl⟩
      go_wp2_with fail
      refine (len_z HZ2.out).mono ?_
      rintro e w' ⟨rfl, rfl⟩
      go_wp2_with fail
      refine (qof (of_z HZ2.out a b)).mono ?_
      rintro e w' ⟨rfl, rfl⟩
      go_wp2_with fail
      refine (qowner (owner_z HZ2.out a)).mono ?_
      rintro e w' ⟨rfl, rfl⟩
      go_wp2_with fail
      refine (qrefers (ref_z HZ2.out a)).mono ?_
      rintro e w' ⟨rfl, rfl⟩
      go_wp2_with fail
      refine (qnode (node_z HZ2.out x)).mono ?_
      rintro e w' ⟨rfl, rfl⟩
      go_wp2_with fail
      refine (next_z HZ2.out a).mono ?_
      rintro e w' ⟨rfl, rfl⟩
      go_wp2_with fail
      refine (wait_z HZ2.out a).mono ?_
      rintro e w' ⟨rfl, rfl⟩
      go_wp2_with fail
      refine (mode_z HZ2.out a).mono ?_
      rintro e w' ⟨rfl, rfl⟩
      go_wp2_with fail
      refine (same_z1 HZ2.out _).mono ?_
      rintro e y1 ⟨rfl, g1⟩
      go_wp2_with fail
      refine (same_z1 (HZ2.out.frm g1) _).mono ?_
      rintro e y2 ⟨rfl, g2⟩
      go_wp2_with fail
      refine (same_z2 (HR.out.frm (g1.trans g2)) (HZ2.out.frm (g1.trans g2))).mono ?_
      rintro e y3 ⟨rfl, g3⟩
      go_wp2
      go_roundw
      case rel => exact ⟨1, by omega, by go_num, hF.trans ((g1.trans g2).trans g3)⟩
      case measure => simp [intOf]
    · have HZ2 : Hid (Zv wr (.pointer (some ⟨w1.heap.size, 0, none⟩))) := Lib.hid (.inr ⟨_, rfl, hF.heap HZ.out (by simp)⟩)
      go_wp2_with fail
      refine (base_z HZ2.out).mono ?_
      rintro e w' ⟨rfl, rfl⟩
      go_wp2_with fail
      refine (threads_z HZ2.out).mono ?_
      rintro e w' ⟨rfl, rfl⟩
      go_wp2_with fail
      refine (len_z HZ2.out).mono ?_
      rintro e w' ⟨rfl, rfl⟩
      go_wp2_with fail
      refine (qof (of_z HZ2.out a b)).mono ?_
      rintro e w' ⟨rfl, rfl⟩
      go_wp2_with fail
      refine (qowner (owner_z HZ2.out a)).mono ?_
      rintro e w' ⟨rfl, rfl⟩
      go_wp2_with fail
      refine (qrefers (ref_z HZ2.out a)).mono ?_
      rintro e w' ⟨rfl, rfl⟩
      go_wp2_with fail
      refine (qnode (node_z HZ2.out x)).mono ?_
      rintro e w' ⟨rfl, rfl⟩
      go_wp2_with fail
      refine (next_z HZ2.out a).mono ?_
      rintro e w' ⟨rfl, rfl⟩
      go_wp2_with fail
      refine (wait_z HZ2.out a).mono ?_
      rintro e w' ⟨rfl, rfl⟩
      go_wp2_with fail
      refine (mode_z HZ2.out a).mono ?_
      rintro e w' ⟨rfl, rfl⟩
      go_wp2_with fail
      refine (same_z1 HZ2.out _).mono ?_
      rintro e y1 ⟨rfl, g1⟩
      go_wp2_with fail
      refine (same_z1 (HZ2.out.frm g1) _).mono ?_
      rintro e y2 ⟨rfl, g2⟩
      go_wp2_with fail
      refine (same_z2 (HR.out.frm (g1.trans g2)) (HZ2.out.frm (g1.trans g2))).mono ?_
      rintro e y3 ⟨rfl, g3⟩
      go_wp2
      go_roundw
      case rel => exact ⟨2, by omega, by go_num, hF.trans ((g1.trans g2).trans g3)⟩
      case measure => simp [intOf]
    · go_wp2_with fail
      refine known_true.mono ?_
      rintro e y1 ⟨rfl, g1⟩
      go_wp2
      go_ret
      exact ⟨rfl, (hFw.trans (hF.trans g1)).below (Nat.le_refl _) (by simp)⟩
#print axioms walk_QnodeNil
end Go.Proofs.Ytclcgmadilcdgaa
