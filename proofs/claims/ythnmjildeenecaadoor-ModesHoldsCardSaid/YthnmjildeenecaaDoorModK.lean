/- known: the examples of the chapter (by gen_modk.py). -/
import Derived.Test.YthnmjildeenecaaDoorModW
namespace Go.Proofs.YthnmjildeenecaaDoor
open Go.ChangeShapes Go.WideShapes Go.ChangeAt Go.RowKit

theorem kn_fits {w : World} (hW : Laid w) (a b : Int) (v : Bool) (h : ft a b = v) : Calls Tryd.prog 11 #[.int .i64 a, .int .i64 b] w (Ret (.bool v) (fun w' => w = w')) := by rw [← h]; exact fits_any hW a b
/-- A list that was just made. -/
def At (w : World) (g : Nat) (l : List Int) : Prop := w.heap[g]? = some (.cells (ns .i64 l).toArray 22 (0, 0))
theorem kn_all {w : World} (hW : Laid w) {g : Nat} (l : List Int) (n : Nat) (v : Bool) (hl : l.length = n) (hn : n ≤ 6) (h : allM l = v) (hg : At w g l) : Calls Tryd.prog 17 #[.slice (some ⟨g, 0, none⟩) n n] w (Ret (.bool v) (fun w' => Frm [] w w')) := by
  rw [← h]; exact All_any hW (li_new hl hg) (by omega)
theorem kn_goes {w : World} (hW : Laid w) {g : Nat} (l : List Int) (n : Nat) (m gr : Int) (b v : Bool) (hl : l.length = n) (hn : n ≤ 6) (h : goB m l gr b = v) (hg : At w g l) : Calls Tryd.prog 19 #[.int .i64 m, .slice (some ⟨g, 0, none⟩) n n, .int .i64 gr, .bool b] w (Ret (.bool v) (fun w' => Frm [] w w')) := by
  rw [← h]; exact Goes_any hW (li_new hl hg) (by omega) _ _ _
theorem kn_grants {w : World} (hW : Laid w) {g : Nat} (l : List Int) (n : Nat) (v : Int) (hl : l.length = n) (hn : n ≤ 6) (h : (grant [] l 0 : Int) = v) (hg : At w g l) : Calls Tryd.prog 21 #[.slice none 0 0, .slice (some ⟨g, 0, none⟩) n n, .int .i64 0] w (Ret (.int .i64 v) (fun w' => Frm [] w w')) := by
  rw [← h]; exact Grants_any hW (Li.nil _ 0 0) (li_new hl hg) (by omega) (by omega) 0 (by decide)
theorem kn_grants2 {w : World} (hW : Laid w) {g1 g2 : Nat} (l1 l2 : List Int) (n1 n2 : Nat) (gr v : Int) (hl1 : l1.length = n1) (hl2 : l2.length = n2) (hn1 : n1 ≤ 6) (hn2 : n2 ≤ 6) (hgr : lo64 ≤ gr) (h : (grant l1 l2 gr : Int) = v) (hg1 : At w g1 l1) (hg2 : At w g2 l2) :
    Calls Tryd.prog 21 #[.slice (some ⟨g1, 0, none⟩) n1 n1, .slice (some ⟨g2, 0, none⟩) n2 n2, .int .i64 gr] w (Ret (.int .i64 v) (fun w' => Frm [] w w')) := by
  rw [← h]; exact Grants_any hW (li_new hl1 hg1) (li_new hl2 hg2) (by omega) (by omega) gr hgr
section
variable {w : World} (hW : Laid w)
include hW

theorem kn_f0 : Calls Tryd.prog 11 #[.int .i64 1, .int .i64 1] w (Ret (.bool true) (fun w' => w = w')) := kn_fits hW _ _ _ rfl
theorem kn_f1 : Calls Tryd.prog 11 #[.int .i64 1, .int .i64 2] w (Ret (.bool true) (fun w' => w = w')) := kn_fits hW _ _ _ rfl
theorem kn_f2 : Calls Tryd.prog 11 #[.int .i64 2, .int .i64 2] w (Ret (.bool false) (fun w' => w = w')) := kn_fits hW _ _ _ rfl
theorem kn_f3 : Calls Tryd.prog 11 #[.int .i64 1, .int .i64 3] w (Ret (.bool false) (fun w' => w = w')) := kn_fits hW _ _ _ rfl
theorem kn_f4 : Calls Tryd.prog 11 #[.int .i64 3, .int .i64 3] w (Ret (.bool false) (fun w' => w = w')) := kn_fits hW _ _ _ rfl
theorem kn_a0 {g : Nat} (hg : At w g [1, 2, 1]) : Calls Tryd.prog 17 #[.slice (some ⟨g, 0, none⟩) 3 3] w (Ret (.bool true) (fun w' => Frm [] w w')) := kn_all hW [1, 2, 1] 3 _ rfl (by decide) rfl hg
theorem kn_a1 {g : Nat} (hg : At w g [1, 2, 2]) : Calls Tryd.prog 17 #[.slice (some ⟨g, 0, none⟩) 3 3] w (Ret (.bool false) (fun w' => Frm [] w w')) := kn_all hW [1, 2, 2] 3 _ rfl (by decide) rfl hg
theorem kn_a2 : Calls Tryd.prog 17 #[.slice none 0 0] w (Ret (.bool true) (fun w' => Frm [] w w')) := All_any hW (Li.nil w 0 0) (by decide)
theorem kn_g0 {g : Nat} (hg : At w g [1, 2]) : Calls Tryd.prog 19 #[.int .i64 1, .slice (some ⟨g, 0, none⟩) 2 2, .int .i64 2, .bool true] w (Ret (.bool true) (fun w' => Frm [] w w')) := kn_goes hW [1, 2] 2 1 2 true _ rfl (by decide) rfl hg
theorem kn_g1 {g : Nat} (hg : At w g [1]) : Calls Tryd.prog 19 #[.int .i64 1, .slice (some ⟨g, 0, none⟩) 1 1, .int .i64 4, .bool true] w (Ret (.bool false) (fun w' => Frm [] w w')) := kn_goes hW [1] 1 1 4 true _ rfl (by decide) rfl hg
theorem kn_g2 {g : Nat} (hg : At w g [1]) : Calls Tryd.prog 19 #[.int .i64 1, .slice (some ⟨g, 0, none⟩) 1 1, .int .i64 4, .bool false] w (Ret (.bool true) (fun w' => Frm [] w w')) := kn_goes hW [1] 1 1 4 false _ rfl (by decide) rfl hg
theorem kn_g3 {g : Nat} (hg : At w g [1]) : Calls Tryd.prog 19 #[.int .i64 2, .slice (some ⟨g, 0, none⟩) 1 1, .int .i64 4, .bool true] w (Ret (.bool true) (fun w' => Frm [] w w')) := kn_goes hW [1] 1 2 4 true _ rfl (by decide) rfl hg
theorem kn_g4 : Calls Tryd.prog 19 #[.int .i64 3, .slice none 0 0, .int .i64 0, .bool true] w (Ret (.bool true) (fun w' => Frm [] w w')) := Goes_any hW (Li.nil w 0 0) (by decide) 3 0 true
theorem kn_g5 {g : Nat} (hg : At w g [1]) : Calls Tryd.prog 19 #[.int .i64 3, .slice (some ⟨g, 0, none⟩) 1 1, .int .i64 1, .bool false] w (Ret (.bool false) (fun w' => Frm [] w w')) := kn_goes hW [1] 1 3 1 false _ rfl (by decide) rfl hg
theorem kn_r0 {g : Nat} (hg : At w g [1, 1, 1, 1, 1, 1]) : Calls Tryd.prog 21 #[.slice none 0 0, .slice (some ⟨g, 0, none⟩) 6 6, .int .i64 0] w (Ret (.int .i64 4) (fun w' => Frm [] w w')) := kn_grants hW [1, 1, 1, 1, 1, 1] 6 4 rfl (by decide) rfl hg
theorem kn_r1 {g : Nat} (hg : At w g [1, 1, 1, 1]) : Calls Tryd.prog 21 #[.slice none 0 0, .slice (some ⟨g, 0, none⟩) 4 4, .int .i64 0] w (Ret (.int .i64 4) (fun w' => Frm [] w w')) := kn_grants hW [1, 1, 1, 1] 4 4 rfl (by decide) rfl hg
theorem kn_r2 {g : Nat} (hg : At w g [1, 2, 1, 3]) : Calls Tryd.prog 21 #[.slice none 0 0, .slice (some ⟨g, 0, none⟩) 4 4, .int .i64 0] w (Ret (.int .i64 3) (fun w' => Frm [] w w')) := kn_grants hW [1, 2, 1, 3] 4 3 rfl (by decide) rfl hg
theorem kn_r3 {g : Nat} (hg : At w g [3, 1]) : Calls Tryd.prog 21 #[.slice none 0 0, .slice (some ⟨g, 0, none⟩) 2 2, .int .i64 0] w (Ret (.int .i64 1) (fun w' => Frm [] w w')) := kn_grants hW [3, 1] 2 1 rfl (by decide) rfl hg
theorem kn_s0 {g1 g2 : Nat} (hg1 : At w g1 [1]) (hg2 : At w g2 [1, 1, 2]) : Calls Tryd.prog 21 #[.slice (some ⟨g1, 0, none⟩) 1 1, .slice (some ⟨g2, 0, none⟩) 3 3, .int .i64 3] w (Ret (.int .i64 1) (fun w' => Frm [] w w')) := kn_grants2 hW [1] [1, 1, 2] 1 3 3 1 rfl rfl (by decide) (by decide) (by decide) rfl hg1 hg2
theorem kn_s1 {g1 g2 : Nat} (hg1 : At w g1 [2]) (hg2 : At w g2 [2, 1]) : Calls Tryd.prog 21 #[.slice (some ⟨g1, 0, none⟩) 1 1, .slice (some ⟨g2, 0, none⟩) 2 2, .int .i64 0] w (Ret (.int .i64 0) (fun w' => Frm [] w w')) := kn_grants2 hW [2] [2, 1] 1 2 0 0 rfl rfl (by decide) (by decide) (by decide) rfl hg1 hg2
theorem kn_w0 : Calls Tryd.prog 13 #[.int .i64 2, .string w2, .int .i64 0] w (Ret (.bool true) (fun w' => w = w')) := word_ok hW rfl rfl
theorem kn_w1 : Calls Tryd.prog 13 #[.int .i64 0, .string noW, .int .i64 2] w (Ret (.bool true) (fun w' => w = w')) := word_ok hW rfl rfl
theorem kn_b0 : Calls Tryd.prog 16 #[.string w3, .int .i64 3, .int .i64 0] w (Ret (.bool true) (fun w' => w = w')) := byword_ok hW (by decide +kernel) (by decide +kernel)
theorem kn_b1 : Calls Tryd.prog 16 #[.string ⟨#[88]⟩, .int .i64 0, .int .i64 6] w (Ret (.bool true) (fun w' => w = w')) := byword_ok hW (by decide +kernel) (by decide +kernel)
end

set_option maxRecDepth 100000 in
set_option maxHeartbeats 8000000 in
theorem known_true {w : World} (hW : Laid w) : Calls Tryd.prog 14 #[] w (Ret (.bool true) (fun w' => Frm [] w w')) := by
  have hF : Frm [] w w := Frm.refl _ _
  have HW := Lib.hid hW
  clear hW
  go_enter Tryd.func14, Tryd.ntmps14
  go_wp2_with fail
  refine (kn_f0 (HW.out.frm0 hF)).mono ?_
  rintro e w' ⟨rfl, rfl⟩
  go_wp2_with fail
  refine (kn_f1 (HW.out.frm0 hF)).mono ?_
  rintro e w' ⟨rfl, rfl⟩
  go_wp2_with fail
  refine (kn_f2 (HW.out.frm0 hF)).mono ?_
  rintro e w' ⟨rfl, rfl⟩
  go_wp2_with fail
  refine (kn_f3 (HW.out.frm0 hF)).mono ?_
  rintro e w' ⟨rfl, rfl⟩
  go_wp2_with fail
  refine (kn_f4 (HW.out.frm0 hF)).mono ?_
  rintro e w' ⟨rfl, rfl⟩
  go_wp2_with fail
  refine (list_any _ _ _ _).mono ?_
  rintro e w' ⟨rfl, rfl⟩
  go_wp2_with fail
  refine ((kn_a0) (HW.out.frm0 (hF.alloc _)) (heap_alloc_new _ _)).mono ?_
  rintro e x1 ⟨rfl, g1⟩
  replace hF := (hF.alloc _).trans g1
  clear g1
  go_wp2_with fail
  refine (list_any _ _ _ _).mono ?_
  rintro e w' ⟨rfl, rfl⟩
  go_wp2_with fail
  refine ((kn_a1) (HW.out.frm0 (hF.alloc _)) (heap_alloc_new _ _)).mono ?_
  rintro e x2 ⟨rfl, g2⟩
  replace hF := (hF.alloc _).trans g2
  clear g2
  go_wp2_with fail
  refine (kn_a2 (HW.out.frm0 hF)).mono ?_
  rintro e x3 ⟨rfl, g3⟩
  replace hF := hF.trans g3
  clear g3
  go_wp2_with fail
  refine (list_any _ _ _ _).mono ?_
  rintro e w' ⟨rfl, rfl⟩
  go_wp2_with fail
  refine ((kn_g0) (HW.out.frm0 (hF.alloc _)) (heap_alloc_new _ _)).mono ?_
  rintro e x4 ⟨rfl, g4⟩
  replace hF := (hF.alloc _).trans g4
  clear g4
  go_wp2_with fail
  refine (list_any _ _ _ _).mono ?_
  rintro e w' ⟨rfl, rfl⟩
  go_wp2_with fail
  refine ((kn_g1) (HW.out.frm0 (hF.alloc _)) (heap_alloc_new _ _)).mono ?_
  rintro e x5 ⟨rfl, g5⟩
  replace hF := (hF.alloc _).trans g5
  clear g5
  go_wp2_with fail
  refine (list_any _ _ _ _).mono ?_
  rintro e w' ⟨rfl, rfl⟩
  go_wp2_with fail
  refine ((kn_g2) (HW.out.frm0 (hF.alloc _)) (heap_alloc_new _ _)).mono ?_
  rintro e x6 ⟨rfl, g6⟩
  replace hF := (hF.alloc _).trans g6
  clear g6
  go_wp2_with fail
  refine (list_any _ _ _ _).mono ?_
  rintro e w' ⟨rfl, rfl⟩
  go_wp2_with fail
  refine ((kn_g3) (HW.out.frm0 (hF.alloc _)) (heap_alloc_new _ _)).mono ?_
  rintro e x7 ⟨rfl, g7⟩
  replace hF := (hF.alloc _).trans g7
  clear g7
  go_wp2_with fail
  refine (kn_g4 (HW.out.frm0 hF)).mono ?_
  rintro e x8 ⟨rfl, g8⟩
  replace hF := hF.trans g8
  clear g8
  go_wp2_with fail
  refine (list_any _ _ _ _).mono ?_
  rintro e w' ⟨rfl, rfl⟩
  go_wp2_with fail
  refine ((kn_g5) (HW.out.frm0 (hF.alloc _)) (heap_alloc_new _ _)).mono ?_
  rintro e x9 ⟨rfl, g9⟩
  replace hF := (hF.alloc _).trans g9
  clear g9
  go_wp2_with fail
  refine (list_any _ _ _ _).mono ?_
  rintro e w' ⟨rfl, rfl⟩
  go_wp2_with fail
  refine ((kn_r0) (HW.out.frm0 (hF.alloc _)) (heap_alloc_new _ _)).mono ?_
  rintro e x10 ⟨rfl, g10⟩
  replace hF := (hF.alloc _).trans g10
  clear g10
  go_wp2_with fail
  refine (list_any _ _ _ _).mono ?_
  rintro e w' ⟨rfl, rfl⟩
  go_wp2_with fail
  refine ((kn_r1) (HW.out.frm0 (hF.alloc _)) (heap_alloc_new _ _)).mono ?_
  rintro e x11 ⟨rfl, g11⟩
  replace hF := (hF.alloc _).trans g11
  clear g11
  go_wp2_with fail
  refine (list_any _ _ _ _).mono ?_
  rintro e w' ⟨rfl, rfl⟩
  go_wp2_with fail
  refine ((kn_r2) (HW.out.frm0 (hF.alloc _)) (heap_alloc_new _ _)).mono ?_
  rintro e x12 ⟨rfl, g12⟩
  replace hF := (hF.alloc _).trans g12
  clear g12
  go_wp2_with fail
  refine (list_any _ _ _ _).mono ?_
  rintro e w' ⟨rfl, rfl⟩
  go_wp2_with fail
  refine ((kn_r3) (HW.out.frm0 (hF.alloc _)) (heap_alloc_new _ _)).mono ?_
  rintro e x13 ⟨rfl, g13⟩
  replace hF := (hF.alloc _).trans g13
  clear g13
  go_wp2_with fail
  refine (list_any _ _ _ _).mono ?_
  rintro e w' ⟨rfl, rfl⟩
  go_wp2_with fail
  refine (list_any _ _ _ _).mono ?_
  rintro e w' ⟨rfl, rfl⟩
  go_wp2_with fail
  refine ((kn_s0) (HW.out.frm0 ((hF.alloc _).alloc _)) (heap_alloc_old _ (heap_alloc_new _ _)) (heap_alloc_at _ (by simp))).mono ?_
  rintro e x14 ⟨rfl, g14⟩
  replace hF := ((hF.alloc _).alloc _).trans g14
  clear g14
  go_wp2_with fail
  refine (list_any _ _ _ _).mono ?_
  rintro e w' ⟨rfl, rfl⟩
  go_wp2_with fail
  refine (list_any _ _ _ _).mono ?_
  rintro e w' ⟨rfl, rfl⟩
  go_wp2_with fail
  refine ((kn_s1) (HW.out.frm0 ((hF.alloc _).alloc _)) (heap_alloc_old _ (heap_alloc_new _ _)) (heap_alloc_at _ (by simp))).mono ?_
  rintro e x15 ⟨rfl, g15⟩
  replace hF := ((hF.alloc _).alloc _).trans g15
  clear g15
  go_wp2_with fail
  refine (kn_w0 (HW.out.frm0 hF)).mono ?_
  rintro e w' ⟨rfl, rfl⟩
  go_wp2_with fail
  refine (kn_w1 (HW.out.frm0 hF)).mono ?_
  rintro e w' ⟨rfl, rfl⟩
  go_wp2_with fail
  refine (kn_b0 (HW.out.frm0 hF)).mono ?_
  rintro e w' ⟨rfl, rfl⟩
  go_wp2_with fail
  refine (kn_b1 (HW.out.frm0 hF)).mono ?_
  rintro e w' ⟨rfl, rfl⟩
  go_wp2
  go_ret
  exact ⟨rfl, hF⟩
#print axioms known_true
end Go.Proofs.YthnmjildeenecaaDoor
