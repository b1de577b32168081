/- Layer 3: the examples of the chapter. -/
import Derived.Test.YtjgnmmlbnkmgfaaQueJ
namespace Go.Proofs.Ytjgnmmlbnkmgfaa
open Go.ChangeShapes Go.WideShapes Go.ChangeAt Go.RowKit

theorem ret_true {v : Bool} {R : World → Prop} {P : Program} {f : FuncId} {args : Array Value} {w : World} (h : Calls P f args w (Ret (.bool v) R)) (hv : v = true) : Calls P f args w (Ret (.bool true) R) := by
  subst hv; exact h
theorem valid_is {w : World} {a : Option Addr} {n c b o : Nat} {l : List Int} (hL : Li .i64 w a n c b o l) (t : Int) (r : Bool) (h : vld l t = r) :
    Calls Try.prog 14 #[.slice a n c, .int .i64 t] w (Ret (.bool r) (fun w' => w = w')) := by
  subst h; exact valid_any hL t
theorem li_u8 {w : World} {g n : Nat} {l : List Int} (hl : l.length = n) (h : w.heap[g]? = some (.cells (l.map (Value.int .u8)).toArray 5 (0, 0))) : Li .u8 w (some ⟨g, 0, none⟩) n n g 0 l :=
  ⟨hl, fun _ => rfl, fun i x hx => by rw [cell_of_heap h, Nat.zero_add, List.getElem?_toArray, List.getElem?_map, hx]; rfl, Nat.le_refl _⟩
theorem li_after {k : IntKind} {w w' : World} {a : Option Addr} {n c b o : Nat} {l : List Int} (hF : Frm [] w w') (h : Li k w a n c b o l) : Li k w' a n c b o l := h.frm0 hF
theorem qnext_is {w : World} {p d n c : Nat} {sz pk : Int} {l : List Al} (h : PickAt w p d n c sz pk l) (t x pk' : Int) (l' : List Al) (hi : 0 ≤ idx l t) (hpk : pk < 1000000) (hx : nxT l sz pk t = x) (hl : nxL l sz pk t = l') (hk : pk + 1 = pk') :
    Calls Try.prog 29 #[.pointer (some ⟨p, 0, none⟩), .int .i64 t, .int .i64 x, .int .i64 0] w (Ret (.bool true) (fun w' => Frm [p, d] w w' ∧ PickAt w' p d n c sz pk' l')) := by
  subst hx hl hk
  exact qnext_of (next_ok h t hi hpk)
theorem age_is {w : World} {p d n c : Nat} {sz pk : Int} {l : List Al} (h : PickAt w p d n c sz pk l) (t x : Int) (hx : ageOf l pk t = x) :
    Calls Try.prog 26 #[.pointer (some ⟨p, 0, none⟩), .int .i64 t] w (Ret (.int .i64 x) (fun w' => Frm [] w w')) := by
  subst hx; exact Age_pk h t
theorem new_pair {w w1 w2 : World} {p d : Nat} (h : Frm [] w w1) (k : Frm [p, d] w1 w2) (hp : w.heap.size ≤ p) (hd : w.heap.size ≤ d) : Frm [] w w2 :=
  h.trans_new k (by intro x hx; simp at hx; rcases hx with rfl | rfl; exact .inr hp; exact .inr hd)

set_option maxRecDepth 100000 in
set_option maxHeartbeats 6400000 in
theorem known_true (w0 : World) : Calls Try.prog 10 #[] w0 (Ret (.bool true) (fun w' => Frm [] w0 w')) := by
  have g0 : Frm [] w0 w0 := Frm.refl _ _
  go_enter Try.func10, Try.ntmps10
  go_wp2_with fail
  refine (valid_is (li_block (l := [0, 2, 1]) (n := 3) rfl (heap_alloc_new _ _)) 3 true (by decide +kernel)).mono ?_
  rintro e w1 ⟨rfl, hE1⟩
  have g1 : Frm [] w0 w1 := by rw [← hE1]; exact ((g0).alloc _)
  clear hE1
  go_wp2_with fail
  refine (valid_is (li_block (l := [0, 3]) (n := 2) rfl (heap_alloc_new _ _)) 3 false (by decide +kernel)).mono ?_
  rintro e w2 ⟨rfl, hE2⟩
  have g2 : Frm [] w0 w2 := by rw [← hE2]; exact ((g1).alloc _)
  clear hE2
  have e35 : rnd 3 5 = [0, 1, 2, 0, 1] := by decide +kernel
  go_wp2_with fail
  refine (qround_ok _ 3 5 (by decide +kernel) (by omega) (by rw [e35]; exact (li_block (l := [0, 1, 2, 0, 1]) (n := 5) rfl (heap_alloc_new _ _)))).mono ?_
  rintro e w3 ⟨rfl, hF3⟩
  have g3 : Frm [] w0 w3 := ((g2).alloc _).trans hF3
  clear e35 hF3
  have e44 : sayB [0, 4, 5, 255] 4 = [0, 0, 1, 3] := by decide +kernel
  go_wp2_with fail
  refine (qfrom_ok (li_u8 (l := [0, 4, 5, 255]) (n := 4) rfl (heap_alloc_old _ (heap_alloc_new _ _))) (by decide +kernel) 4 (by decide +kernel) (by omega) (by rw [e44]; exact (li_block (l := [0, 0, 1, 3]) (n := 4) rfl (heap_alloc_at _ (by simp))))).mono ?_
  rintro e w4 ⟨rfl, hF4⟩
  have g4 : Frm [] w0 w4 := (((g3).alloc _).alloc _).trans hF4
  clear e44 hF4
  have e23 : cnts [0, 2, 0] 3 = [2, 0, 1] := by decide +kernel
  go_wp2_with fail
  refine (qcounts_ok (li_block (l := [0, 2, 0]) (n := 3) rfl (heap_alloc_old _ (heap_alloc_new _ _))) 3 (by decide +kernel) (by rw [e23]; exact (li_block (l := [2, 0, 1]) (n := 3) rfl (heap_alloc_at _ (by simp))))).mono ?_
  rintro e w5 ⟨rfl, hF5⟩
  have g5 : Frm [] w0 w5 := (((g4).alloc _).alloc _).trans hF5
  clear e23 hF5
  go_wp2_with fail
  refine (qwindow_ok (li_block (l := [0, 1, 0, 1]) (n := 4) rfl (heap_alloc_at _ (by simp))) 2 (by decide +kernel) 2 (by decide +kernel)).mono ?_
  rintro e w6 ⟨rfl, hF6⟩
  have g6 : Frm [] w0 w6 := ((((g5).alloc _).alloc _).alloc _).trans hF6
  have hA6 := li_after hF6 (li_block (l := [0, 0, 1, 1, 0]) (n := 5) rfl (heap_alloc_old _ (heap_alloc_old _ (heap_alloc_new _ _))))
  have hT6 := li_after hF6 (li_block (l := [0, 0]) (n := 2) rfl (heap_alloc_old _ (heap_alloc_at (k := w5.heap.size + 1) _ (by simp))))
  clear hF6
  go_wp2_with fail
  refine (qwindow_ok hA6 2 (by decide +kernel) 3 (by decide +kernel)).mono ?_
  rintro e w7 ⟨rfl, hF7⟩
  have g7 : Frm [] w0 w7 := (g6).trans hF7
  have hA7 := hA6.frm0 hF7
  have hT7 := hT6.frm0 hF7
  clear hA6 hT6 hF7
  go_wp2_with fail
  refine (qwindow_ok hT7 2 (by decide +kernel) 3 (by decide +kernel)).mono ?_
  rintro e w8 ⟨rfl, hF8⟩
  have g8 : Frm [] w0 w8 := (g7).trans hF8
  have hA8 := hA7.frm0 hF8
  have hT8 := hT7.frm0 hF8
  clear hA7 hT7 hF8
  go_wp2_with fail
  refine (qwindow_ok (Li.nil _ 0 0) 1 (by decide +kernel) 1 (by decide +kernel)).mono ?_
  rintro e w9 ⟨rfl, hF9⟩
  have g9 : Frm [] w0 w9 := (g8).trans hF9
  have hA9 := hA8.frm0 hF9
  have hT9 := hT8.frm0 hF9
  clear hA8 hT8 hF9
  go_wp2_with fail
  refine (qwindow_ok hT9 1 (by decide +kernel) 1 (by decide +kernel)).mono ?_
  rintro e w10 ⟨rfl, hF10⟩
  have g10 : Frm [] w0 w10 := (g9).trans hF10
  have hA10 := hA9.frm0 hF10
  have hT10 := hT9.frm0 hF10
  clear hA9 hT9 hF10
  go_wp2_with fail
  refine (qfair_ok hA10 2 3 (by omega) (by decide +kernel) true (by decide +kernel)).mono ?_
  rintro e w11 ⟨rfl, hF11⟩
  have g11 : Frm [] w0 w11 := (g10).trans hF11
  have hA11 := hA10.frm0 hF11
  have hT11 := hT10.frm0 hF11
  clear hA10 hT10 hF11
  go_wp2_with fail
  refine (qfair_ok hA11 2 2 (by omega) (by decide +kernel) false (by decide +kernel)).mono ?_
  rintro e w12 ⟨rfl, hF12⟩
  have g12 : Frm [] w0 w12 := (g11).trans hF12
  have hA12 := hA11.frm0 hF12
  have hT12 := hT11.frm0 hF12
  clear hA11 hT11 hF12
  go_wp2_with fail
  refine (qfair_ok hT12 2 9 (by omega) (by decide +kernel) true (by decide +kernel)).mono ?_
  rintro e w13 ⟨rfl, hF13⟩
  have g13 : Frm [] w0 w13 := (g12).trans hF13
  have hA13 := hA12.frm0 hF13
  have hT13 := hT12.frm0 hF13
  clear hA12 hT12 hF13
  go_wp2_with fail
  refine (qfair_arg _ _ 2 0 (by omega)).mono ?_
  rintro e w14 ⟨rfl, hF14⟩
  have g14 : Frm [] w0 w14 := (g13).trans hF14
  clear hA13 hT13 hF14
  go_wp2_with fail
  refine (new_ok _ 2 3 (by decide +kernel) (by omega) (by omega)).mono ?_
  rintro e w15 ⟨p15, d15, rfl, hF15, hP15, hp15, hd15⟩
  have g15 : Frm [] w0 w15 := g14.trans hF15
  have hp : w0.heap.size ≤ p15 := Nat.le_trans g14.size hp15
  have hd : w0.heap.size ≤ d15 := Nat.le_trans g14.size hd15
  clear hF15 hp15 hd15
  go_wp2_with fail
  refine (qnext_is hP15 0 0 1 [(1, -1), (0, 0)] (by decide +kernel) (by omega) (by decide +kernel) (by decide +kernel) (by omega)).mono ?_
  rintro e w16 ⟨rfl, hF16, hP16⟩
  have g16 : Frm [] w0 w16 := new_pair g15 hF16 hp hd
  clear hF16 hP15
  go_wp2_with fail
  refine (qnext_is hP16 0 0 2 [(1, -1), (0, 1)] (by decide +kernel) (by omega) (by decide +kernel) (by decide +kernel) (by omega)).mono ?_
  rintro e w17 ⟨rfl, hF17, hP17⟩
  have g17 : Frm [] w0 w17 := new_pair g16 hF17 hp hd
  clear hF17 hP16
  go_wp2_with fail
  refine (qnext_is hP17 0 1 3 [(0, 1), (1, 2)] (by decide +kernel) (by omega) (by decide +kernel) (by decide +kernel) (by omega)).mono ?_
  rintro e w18 ⟨rfl, hF18, hP18⟩
  have g18 : Frm [] w0 w18 := new_pair g17 hF18 hp hd
  clear hF18 hP17
  go_wp2_with fail
  refine (age_is hP18 0 1 (by decide +kernel)).mono ?_
  rintro e w19 ⟨rfl, hF19⟩
  have g19 : Frm [] w0 w19 := g18.trans hF19
  have hP19 := hP18.frm0 hF19
  clear hF19 hP18
  go_wp2_with fail
  refine (age_is hP19 1 0 (by decide +kernel)).mono ?_
  rintro e w20 ⟨rfl, hF20⟩
  have g20 : Frm [] w0 w20 := g19.trans hF20
  have hP20 := hP19.frm0 hF20
  clear hF20 hP19
  go_wp2_with fail
  refine (qnext_is hP20 1 1 4 [(0, 1), (1, 3)] (by decide +kernel) (by omega) (by decide +kernel) (by decide +kernel) (by omega)).mono ?_
  rintro e w21 ⟨rfl, hF21, hP21⟩
  have g21 : Frm [] w0 w21 := new_pair g20 hF21 hp hd
  clear hF21 hP20
  go_wp2_with fail
  refine (picks_pk hP21).mono ?_
  rintro e w22 ⟨rfl, hE22⟩
  have g22 : Frm [] w0 w22 := by rw [← hE22]; exact g21
  clear hE22 hP21 hp hd
  go_wp2_with fail
  refine (new_ok _ 3 3 (by decide +kernel) (by omega) (by omega)).mono ?_
  rintro e w23 ⟨p23, d23, rfl, hF23, hP23, hp23, hd23⟩
  have g23 : Frm [] w0 w23 := g22.trans hF23
  have hp : w0.heap.size ≤ p23 := Nat.le_trans g22.size hp23
  have hd : w0.heap.size ≤ d23 := Nat.le_trans g22.size hd23
  clear hF23 hp23 hd23
  go_wp2_with fail
  refine (qnext_is hP23 2 0 1 [(1, -1), (2, -1), (0, 0)] (by decide +kernel) (by omega) (by decide +kernel) (by decide +kernel) (by omega)).mono ?_
  rintro e w24 ⟨rfl, hF24, hP24⟩
  have g24 : Frm [] w0 w24 := new_pair g23 hF24 hp hd
  clear hF24 hP23
  go_wp2_with fail
  refine (qnext_is hP24 2 1 2 [(2, -1), (0, 0), (1, 1)] (by decide +kernel) (by omega) (by decide +kernel) (by decide +kernel) (by omega)).mono ?_
  rintro e w25 ⟨rfl, hF25, hP25⟩
  have g25 : Frm [] w0 w25 := new_pair g24 hF25 hp hd
  clear hF25 hP24
  go_wp2_with fail
  refine (qnext_is hP25 2 2 3 [(0, 0), (1, 1), (2, 2)] (by decide +kernel) (by omega) (by decide +kernel) (by decide +kernel) (by omega)).mono ?_
  rintro e w26 ⟨rfl, hF26, hP26⟩
  have g26 : Frm [] w0 w26 := new_pair g25 hF26 hp hd
  clear hF26 hP25
  go_wp2_with fail
  refine (qnext_is hP26 2 0 4 [(1, 1), (2, 2), (0, 3)] (by decide +kernel) (by omega) (by decide +kernel) (by decide +kernel) (by omega)).mono ?_
  rintro e w27 ⟨rfl, hF27, hP27⟩
  have g27 : Frm [] w0 w27 := new_pair g26 hF27 hp hd
  clear hF27 hP26
  clear hP27 hp hd
  go_wp2_with fail
  refine (new_bad _ 2 1 (by omega)).mono ?_
  rintro e w28 ⟨rfl, hE28⟩
  have g28 : Frm [] w0 w28 := by rw [← hE28]; exact g27
  clear hE28
  go_wp2
  go_ret
  exact ⟨rfl, g28⟩
end Go.Proofs.Ytjgnmmlbnkmgfaa
