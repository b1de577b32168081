/- known: the examples of the chapter (by gen_qndk.py). -/
import Derived.Test.YtclcgmadilcdgaaQndC
namespace Go.Proofs.Ytclcgmadilcdgaa
open Go.ChangeShapes Go.WideShapes Go.ChangeAt Go.RowKit

section
variable {w : World} {p : Nat} (h : Nd w p 100 3)
include h

theorem kn_len : Calls Try.prog 14 #[.pointer (some ⟨p, 0, none⟩)] w (Ret (.int .i64 18) (fun w' => w = w')) := len_nd h
theorem kn_of0 : Calls Try.prog 16 #[.pointer (some ⟨p, 0, none⟩), .int .i64 0, .int .i64 0, .int .i64 0, .int .i64 0] w (Ret (.bool true) (fun w' => w = w')) := qof (of_yes h 0 0 (by decide) (by decide))
theorem kn_of1 : Calls Try.prog 16 #[.pointer (some ⟨p, 0, none⟩), .int .i64 2, .int .i64 1, .int .i64 5, .int .i64 0] w (Ret (.bool true) (fun w' => w = w')) := qof (of_yes h 2 1 (by decide) (by decide))
theorem kn_owner0 : Calls Try.prog 18 #[.pointer (some ⟨p, 0, none⟩), .int .i64 4, .int .i64 2, .int .i64 0] w (Ret (.bool true) (fun w' => w = w')) := qowner (owner_yes h 4 (by decide))
theorem kn_owner1 : Calls Try.prog 18 #[.pointer (some ⟨p, 0, none⟩), .int .i64 6, .int .i64 0, .int .i64 9] w (Ret (.bool true) (fun w' => w = w')) := qowner (owner_no h 6 (by decide))
theorem kn_of2 : Calls Try.prog 16 #[.pointer (some ⟨p, 0, none⟩), .int .i64 3, .int .i64 0, .int .i64 0, .int .i64 2] w (Ret (.bool true) (fun w' => w = w')) := qof (of_no h 3 0 (by decide))
theorem kn_of3 : Calls Try.prog 16 #[.pointer (some ⟨p, 0, none⟩), .int .i64 0, .int .i64 2, .int .i64 0, .int .i64 2] w (Ret (.bool true) (fun w' => w = w')) := qof (of_no h 0 2 (by decide))
theorem kn_w0 : Calls Try.prog 19 #[.pointer (some ⟨p, 0, none⟩), .int .i64 0] w (Ret (.int .i64 100) (fun w' => w = w')) := next_yes h (by decide) 0 (by decide)
theorem kn_w1 : Calls Try.prog 21 #[.pointer (some ⟨p, 0, none⟩), .int .i64 0] w (Ret (.int .i64 101) (fun w' => w = w')) := wait_yes h (by decide) 0 (by decide)
theorem kn_w2 : Calls Try.prog 23 #[.pointer (some ⟨p, 0, none⟩), .int .i64 0] w (Ret (.int .i64 102) (fun w' => w = w')) := mode_yes h (by decide) 0 (by decide)
theorem kn_w3 : Calls Try.prog 19 #[.pointer (some ⟨p, 0, none⟩), .int .i64 5] w (Ret (.int .i64 115) (fun w' => w = w')) := next_yes h (by decide) 5 (by decide)
theorem kn_w4 : Calls Try.prog 23 #[.pointer (some ⟨p, 0, none⟩), .int .i64 5] w (Ret (.int .i64 117) (fun w' => w = w')) := mode_yes h (by decide) 5 (by decide)
theorem kn_w5 : Calls Try.prog 19 #[.pointer (some ⟨p, 0, none⟩), .int .i64 6] w (Ret (.int .i64 (-1)) (fun w' => w = w')) := next_no h (6) (by decide)
theorem kn_w6 : Calls Try.prog 19 #[.pointer (some ⟨p, 0, none⟩), .int .i64 (-1)] w (Ret (.int .i64 (-1)) (fun w' => w = w')) := next_no h (-1) (by decide)
theorem kn_refers0 : Calls Try.prog 25 #[.pointer (some ⟨p, 0, none⟩), .int .i64 0, .int .u64 1, .int .i64 0] w (Ret (.bool true) (fun w' => w = w')) := qrefers (ref_yes h 0 (by decide))
theorem kn_refers1 : Calls Try.prog 25 #[.pointer (some ⟨p, 0, none⟩), .int .i64 5, .int .u64 6, .int .i64 0] w (Ret (.bool true) (fun w' => w = w')) := qrefers (ref_yes h 5 (by decide))
theorem kn_refers2 : Calls Try.prog 25 #[.pointer (some ⟨p, 0, none⟩), .int .i64 6, .int .u64 0, .int .i64 9] w (Ret (.bool true) (fun w' => w = w')) := qrefers (ref_no h 6 (by decide))
theorem kn_node0 : Calls Try.prog 26 #[.pointer (some ⟨p, 0, none⟩), .int .u64 0, .int .i64 (-1), .int .i64 0] w (Ret (.bool true) (fun w' => w = w')) := qnode (node_yes h 0 (by decide))
theorem kn_node1 : Calls Try.prog 26 #[.pointer (some ⟨p, 0, none⟩), .int .u64 6, .int .i64 5, .int .i64 0] w (Ret (.bool true) (fun w' => w = w')) := qnode (node_yes h 6 (by decide))
theorem kn_node2 : Calls Try.prog 26 #[.pointer (some ⟨p, 0, none⟩), .int .u64 7, .int .i64 0, .int .i64 12] w (Ret (.bool true) (fun w' => w = w')) := qnode (node_no h 7 (by decide))
end
theorem kn_new (w : World) : Calls Try.prog 11 #[.int .i64 100, .int .i64 3] w (Ret (.tuple #[.pointer (some ⟨w.heap.size, 0, none⟩), .int .i64 0]) (fun w' => Frm [] w w' ∧ Nd w' w.heap.size 100 3)) := new_ok w 100 3 (by decide) (by decide) (by decide)
theorem kn_last (w : World) : Calls Try.prog 11 #[.int .i64 65530, .int .i64 1] w (Ret (.tuple #[.pointer (some ⟨w.heap.size, 0, none⟩), .int .i64 0]) (fun w' => Frm [] w w' ∧ Nd w' w.heap.size 65530 1)) := new_ok w 65530 1 (by decide) (by decide) (by decide)
theorem kn_base {w : World} {p : Nat} (h : Nd w p 65530 1) : Calls Try.prog 12 #[.pointer (some ⟨p, 0, none⟩)] w (Ret (.int .i64 65530) (fun w' => w = w')) := base_nd h
theorem kn_none0 {w : World} : Calls Try.prog 9 #[.int .i64 65531, .int .i64 1] w (Ret (.bool true) (fun w' => Frm [] w w')) := qnone (65531) 1 (by decide) (by decide)
theorem kn_none1 {w : World} : Calls Try.prog 9 #[.int .i64 (-1), .int .i64 1] w (Ret (.bool true) (fun w' => Frm [] w w')) := qnone (-1) 1 (by decide) (by decide)
theorem kn_none2 {w : World} : Calls Try.prog 9 #[.int .i64 0, .int .i64 65] w (Ret (.bool true) (fun w' => Frm [] w w')) := qnone (0) 65 (by decide) (by decide)
theorem kn_none3 {w : World} : Calls Try.prog 9 #[.int .i64 0, .int .i64 0] w (Ret (.bool true) (fun w' => Frm [] w w')) := qnone (0) 0 (by decide) (by decide)

set_option maxRecDepth 100000 in
set_option maxHeartbeats 8000000 in
theorem known_true {w : World} : Calls Try.prog 10 #[] w (Ret (.bool true) (fun w' => Frm [] w w')) := by
  go_enter Try.func10, Try.ntmps10
  go_wp2_with fail
  refine (kn_new _).mono ?_
  rintro e w1 ⟨rfl, hF1, hN1⟩
  have HN := Lib.hid hN1
  clear hN1
  go_wp2_with fail
  refine (kn_len HN.out).mono ?_
  rintro e w' ⟨rfl, rfl⟩
  go_wp2_with fail
  refine (kn_of0 HN.out).mono ?_
  rintro e w' ⟨rfl, rfl⟩
  go_wp2_with fail
  refine (kn_of1 HN.out).mono ?_
  rintro e w' ⟨rfl, rfl⟩
  go_wp2_with fail
  refine (kn_owner0 HN.out).mono ?_
  rintro e w' ⟨rfl, rfl⟩
  go_wp2_with fail
  refine (kn_owner1 HN.out).mono ?_
  rintro e w' ⟨rfl, rfl⟩
  go_wp2_with fail
  refine (kn_of2 HN.out).mono ?_
  rintro e w' ⟨rfl, rfl⟩
  go_wp2_with fail
  refine (kn_of3 HN.out).mono ?_
  rintro e w' ⟨rfl, rfl⟩
  go_wp2_with fail
  refine (kn_w0 HN.out).mono ?_
  rintro e w' ⟨rfl, rfl⟩
  go_wp2_with fail
  refine (kn_w1 HN.out).mono ?_
  rintro e w' ⟨rfl, rfl⟩
  go_wp2_with fail
  refine (kn_w2 HN.out).mono ?_
  rintro e w' ⟨rfl, rfl⟩
  go_wp2_with fail
  refine (kn_w3 HN.out).mono ?_
  rintro e w' ⟨rfl, rfl⟩
  go_wp2_with fail
  refine (kn_w4 HN.out).mono ?_
  rintro e w' ⟨rfl, rfl⟩
  go_wp2_with fail
  refine (kn_w5 HN.out).mono ?_
  rintro e w' ⟨rfl, rfl⟩
  go_wp2_with fail
  refine (kn_w6 HN.out).mono ?_
  rintro e w' ⟨rfl, rfl⟩
  go_wp2_with fail
  refine (kn_refers0 HN.out).mono ?_
  rintro e w' ⟨rfl, rfl⟩
  go_wp2_with fail
  refine (kn_refers1 HN.out).mono ?_
  rintro e w' ⟨rfl, rfl⟩
  go_wp2_with fail
  refine (kn_refers2 HN.out).mono ?_
  rintro e w' ⟨rfl, rfl⟩
  go_wp2_with fail
  refine (kn_node0 HN.out).mono ?_
  rintro e w' ⟨rfl, rfl⟩
  go_wp2_with fail
  refine (kn_node1 HN.out).mono ?_
  rintro e w' ⟨rfl, rfl⟩
  go_wp2_with fail
  refine (kn_node2 HN.out).mono ?_
  rintro e w' ⟨rfl, rfl⟩
  go_wp2_with fail
  refine (kn_last _).mono ?_
  rintro e w2 ⟨rfl, hF2, hN2⟩
  have HM := Lib.hid hN2
  clear hN2
  go_wp2_with fail
  refine (kn_base HM.out).mono ?_
  rintro e w' ⟨rfl, rfl⟩
  go_wp2_with fail
  refine kn_none0.mono ?_
  rintro e w3 ⟨rfl, hF3⟩
  go_wp2_with fail
  refine kn_none1.mono ?_
  rintro e w4 ⟨rfl, hF4⟩
  go_wp2_with fail
  refine kn_none2.mono ?_
  rintro e w5 ⟨rfl, hF5⟩
  go_wp2_with fail
  refine kn_none3.mono ?_
  rintro e w6 ⟨rfl, hF6⟩
  go_wp2
  go_ret
  exact ⟨rfl, ((((hF1.trans hF2).trans hF3).trans hF4).trans hF5).trans hF6⟩
#print axioms known_true
end Go.Proofs.Ytclcgmadilcdgaa
