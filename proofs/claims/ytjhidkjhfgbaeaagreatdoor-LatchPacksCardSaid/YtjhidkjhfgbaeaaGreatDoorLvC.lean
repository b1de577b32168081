/- The law's helpers: made, news, state, packs, unpacks. -/
import Derived.Test.YtjhidkjhfgbaeaaGreatDoorLvB
namespace Go.Proofs.YtjhidkjhfgbaeaaGreatDoor
open Go.ChangeShapes Go.WideShapes Go.ChangeAt Go.RowKit
set_option linter.unusedVariables false
set_option linter.unusedSimpArgs false

/-- What 'made' has after k words. -/
def part (xs : List Int) (k : Nat) : List Int := xs.take k ++ List.replicate (xs.length - k) 0
theorem part_zero (xs : List Int) : part xs 0 = List.replicate xs.length 0 := by simp [part]
theorem part_all (xs : List Int) : part xs xs.length = xs := by simp [part]
theorem part_len (xs : List Int) (k : Nat) (h : k ≤ xs.length) : (part xs k).length = xs.length := by simp [part]; omega
theorem part_succ (xs : List Int) (k : Nat) (x : Int) (h : xs[k]? = some x) : part xs (k + 1) = (part xs k).set k x := by
  have hk : k < xs.length := (List.getElem?_eq_some_iff.1 h).1
  apply List.ext_getElem?
  intro j
  rw [List.getElem?_set]
  unfold part
  by_cases hj : k = j
  · subst hj
    rw [if_pos rfl, if_pos (by simp; omega), List.getElem?_append_left (by simp; omega), List.getElem?_take, if_pos (by omega), h]
  · rw [if_neg hj]
    by_cases hlt : j < k
    · rw [List.getElem?_append_left (by simp; omega), List.getElem?_append_left (by simp; omega), List.getElem?_take, List.getElem?_take, if_pos (by omega), if_pos hlt]
    · rw [List.getElem?_append_right (by simp; omega), List.getElem?_append_right (by simp; omega), List.getElem?_replicate, List.getElem?_replicate]
      simp only [List.length_take]
      have e1 : min (k + 1) xs.length = k + 1 := by omega
      have e2 : min k xs.length = k := by omega
      rw [e1, e2]
      by_cases hl : j < xs.length
      · rw [if_pos (by omega), if_pos (by omega)]
      · rw [if_neg (by omega), if_neg (by omega)]
theorem part_succ_zero (xs : List Int) (k : Nat) (h : xs[k]? = some 0) : part xs (k + 1) = part xs k := by
  rw [part_succ xs k 0 h]
  have hk : k < xs.length := (List.getElem?_eq_some_iff.1 h).1
  apply List.ext_getElem?
  intro j
  rw [List.getElem?_set]
  split
  · rename_i e
    subst e
    rw [if_pos (by rw [part_len _ _ (by omega)]; exact hk)]
    unfold part
    rw [List.getElem?_append_right (by simp; omega), List.getElem?_replicate, if_pos (by simp; omega)]
  · rfl
theorem made_any {w : World} {xs : List Int} {v : Value} (hv : Rd w v (u64s xs)) (h1 : 1 ≤ xs.length) (h2 : xs.length ≤ 65536) :
    Calls Tryz.prog 16 #[v] w (fun e w' => ∃ p d c, Ret (.pointer (some ⟨p, 0, none⟩)) (fun w' => Frm [] w w' ∧ MemAt w' p d c xs ∧ w.heap.size ≤ p ∧ w.heap.size ≤ d) e w') := by
  rcases hv with ⟨_, hl⟩ | ⟨b, o, cc, rfl, hl, hb, hr⟩
  · have : xs = [] := by simpa [u64s] using hl
    subst this; simp at h1
  have hlen : (u64s xs).length = xs.length := by simp [u64s]
  rw [hlen]
  have R1 := Lib.hid hr
  clear hr hl hlen
  go_enter Tryz.func16, Tryz.ntmps16
  go_wp2_with fail
  refine (new_ok w xs.length h1 h2).mono ?_
  rintro e w1 ⟨p, d, rfl, hF1, hM1, hp, hd⟩
  rw [← part_zero] at hM1
  go_wp2_with fail
  go_loopw [2, 5, 6, 21, 22, 23, 24, 25, 26, 27, 28, 29, 30, 31, 32, 33, 34, 35] (fun r _ _ i _ _ _ _ _ _ _ _ _ _ _ _ _ _ wr => ∃ k : Nat, r = .pointer none ∧ k ≤ xs.length ∧ i = .int .i64 k ∧ Frm [] w wr ∧ MemAt wr p d xs.length (part xs k)) (fun _ _ _ i _ _ _ _ _ _ _ _ _ _ _ _ _ _ _ => xs.length - (intOf i).toNat)
  case atStart => exact ⟨0, rfl, Nat.zero_le _, rfl, hF1, hM1⟩
  case round =>
    obtain ⟨k, rfl, hk, rfl, hF, hM⟩ := hrel
    by_cases hlt : k < xs.length
    · obtain ⟨x, hx⟩ : ∃ x, xs[k]? = some x := ⟨_, List.getElem?_eq_getElem hlt⟩
      have hcx : _ = some (Value.int .u64 x) := (hF.cell (i := o + k) hb (by simp)).trans (R1.out k _ (by rw [u64s, List.getElem?_map, hx]; rfl))
      have HX := Lib.hid hx
      clear hx
      have hbw := Nat.lt_of_lt_of_le hb hF.size
      by_cases hz : x = 0
      · have hz1 : (x != 0) = false := by simp [hz]
        have HZ := Lib.hid hz
        clear hz
        go_wp2
        go_roundw
        case rel => exact ⟨k + 1, rfl, by omega, by go_num, hF, by rw [part_succ_zero xs k (by rw [HX.out, HZ.out])]; exact hM⟩
        case measure => simp [intOf]; omega
      · have hz1 : (x != 0) = true := by simp [hz]
        clear hz
        go_wp2_with fail
        refine (Store_ok hM k x (by rw [part_len _ _ hk]; exact hlt)).mono ?_
        rintro e w2 ⟨rfl, hF2, hM2⟩
        have hFF : Frm [] w w2 := hF.trans_new hF2 (by simp; omega)
        rw [← part_succ xs k x HX.out] at hM2
        clear hF2
        go_wp2
        go_roundw
        case rel => exact ⟨k + 1, rfl, by omega, by go_num, hFF, hM2⟩
        case measure => simp [intOf]; omega
    · obtain rfl : k = xs.length := by omega
      go_wp2
      go_ret
      rw [part_all] at hM
      exact ⟨p, d, _, rfl, hF, hM, hp, hd⟩

/-- Words that a call has just made. -/
theorem rd_new (w : World) (n : Nat) : Rd (w.alloc (.cells (u64s (List.replicate n 0)).toArray 26)) (.slice (some ⟨w.heap.size, 0, none⟩) n n) (u64s (List.replicate n 0)) :=
  .inr ⟨w.heap.size, 0, n, by simp [u64s], by simp [u64s], by simp, fun i u hu => by
    rw [cell_of_heap (heap_alloc_new _ _), Nat.zero_add, List.getElem?_toArray]; exact hu⟩
theorem rd_21 (w : World) : Rd (w.alloc (.cells (u64s (List.replicate 21 0)).toArray 26)) (.slice (some ⟨w.heap.size, 0, none⟩) 21 21) (u64s (List.replicate 21 0)) := rd_new w 21
theorem mk_21 (w : World) : (Instr.makeSlice 45 (.int .i64 21) (.int .i64 21)).run Tryz.prog w = .ok (.slice (some ⟨w.heap.size, 0, none⟩) 21 21) (w.alloc (.cells (u64s (List.replicate 21 0)).toArray 26)) := make_u64 21 (by decide) w
theorem kn_new (w : World) : Calls Tryz.prog 15 #[.int .i64 3, .int .i64 3] w (Ret (.tuple #[.pointer (some ⟨w.heap.size, 0, none⟩), .int .i64 0]) (fun w' => Frm [] w w' ∧ Nd w' w.heap.size 3 3)) := nodes_new w 3 3 (by decide) (by decide) (by decide)
/-- Twenty-one words that are 0. -/
def zs : List Int := List.replicate 21 0
section
variable {w : World} {a e2 : Option Addr} {n c b o m f2 p2 q2 B : Nat} {xs : List Int}
set_option maxRecDepth 100000 in
set_option maxHeartbeats 1000000 in
theorem news_any (hL : Laid w) (hB2 : 2 ≤ B) (hB : B ≤ w.heap.size) :
    Calls Tryz.prog 23 #[] w (fun e w' => ∃ np p d cc, Ret (.tuple #[.agg #[.pointer (some ⟨p, 0, none⟩), .pointer (some ⟨np, 0, none⟩)], .bool true]) (fun w' => Frm [] w w' ∧ Scn 3 w' B np p d cc zs) e w') := by
  obtain ⟨X, hX⟩ : ∃ X, X = w.alloc (.cells #[.pointer none, .pointer none] 73) := ⟨_, rfl⟩
  have hFX : Frm [] w X := by rw [hX]; exact (Frm.refl _ _).alloc _
  have g0 : X.heap[w.heap.size]? = some (.cells #[.pointer none, .pointer none] 73 (0, 0)) := by rw [hX]; exact heap_alloc_new _ _
  have HL := Lib.hid hL
  have HFX := Lib.hid hFX
  have G0 := Lib.hid g0
  clear hL hFX g0
  go_enter Tryz.func23, Tryz.ntmps23
  go_wp2_with fail
  rw [← hX]
  clear hX
  refine (kn_new _).mono ?_
  rintro e w1 ⟨rfl, hF1, hN1⟩
  have HF1 := Lib.hid hF1
  have HN1 := Lib.hid hN1
  have hm21 := mk_21
  clear hF1 hN1
  go_wp2_with fail
  have hrw := rd_21 w1
  refine (made_any hrw (by decide) (by decide)).mono ?_
  rintro e w2 ⟨p, d, c, rfl, hF2, hM, hp, hd⟩
  have hF : Frm [] w1 w2 := ((Frm.refl _ _).alloc _).trans hF2
  have hg := (HF1.out.trans hF).heap G0.out (by simp)
  obtain ⟨q0, q1⟩ := cells2L hg
  have z0 : w2.frozen? ⟨w.heap.size, 0, none⟩ = false := frozen_of_heap hg
  have z1 : w2.frozen? ⟨w.heap.size, 1, none⟩ = false := frozen_of_heap hg
  have hl := lt_of_heap hg
  have HM := Lib.hid hM
  have HF := Lib.hid hF
  have HG := Lib.hid hg
  have hs1 := HFX.out.size
  have hs2 := HF1.out.size
  have hs0 := lt_of_heap G0.out
  simp at hp hd
  clear hM hF2 hF hg hrw
  go_wp2_with fail
  have hW0 := setCells2 HG.out (.pointer (some ⟨p, 0, none⟩)) (.pointer (some ⟨X.heap.size, 0, none⟩))
  have hWF := ((Frm.refl [w.heap.size] w2).setCell ⟨w.heap.size, 0, none⟩ (.pointer (some ⟨p, 0, none⟩)) (.inl (by simp))).setCell ⟨w.heap.size, 1, none⟩ (.pointer (some ⟨X.heap.size, 0, none⟩)) (.inl (by simp))
  generalize ((w2.setCell ⟨w.heap.size, 0, none⟩ (.pointer (some ⟨p, 0, none⟩))).setCell ⟨w.heap.size, 1, none⟩ (.pointer (some ⟨X.heap.size, 0, none⟩))) = Y at hW0 hWF ⊢
  obtain ⟨y0, y1⟩ := cells2L hW0
  have hFW := HFX.out.trans (HF1.out.trans HF.out)
  have hFY : Frm [] w Y := hFW.trans_new hWF (fun x hx => .inr (by simp at hx; omega))
  have hNl := HN1.out.lt
  refine bodyPost_ret (v := .tuple #[.agg #[.pointer (some ⟨p, 0, none⟩), .pointer (some ⟨X.heap.size, 0, none⟩)], .bool true]) (by simp [results, Tryz.results23, go_sem, y0, y1]) rfl ⟨X.heap.size, p, d, c, rfl, hFY, HM.out.frm hWF (by simp; omega) (by simp; omega), (HN1.out.frm HF.out).frmD hWF (by simp; omega), HL.out.frm0 hFY, ?_, ?_, rfl⟩
  · intro x hx
    obtain rfl := List.eq_of_mem_replicate hx
    decide
  · have := hFY.size
    omega
theorem state_any (up ex wa gr : Int) :
    Calls Tryz.prog 40 #[.int .i64 up, .int .i64 ex, .int .i64 wa, .int .i64 gr, .slice a n c] w (Ret (.agg #[.slice a n c, .int .i64 up, .int .i64 ex, .int .i64 wa, .int .i64 gr, .slice none 0 0]) (fun w' => Frm [] w w')) := by
  go_enter Tryz.func40, Tryz.ntmps40
  go_wp2_with fail
  have hW0 : (w.alloc (.cells #[.slice a n c, .int .i64 up, .int .i64 ex, .int .i64 wa, .int .i64 gr, .slice none 0 0] 25)).heap[w.heap.size]? = some (.cells #[.slice a n c, .int .i64 up, .int .i64 ex, .int .i64 wa, .int .i64 gr, .slice none 0 0] 25 (0, 0)) := heap_alloc_new _ _
  obtain ⟨y0, y1, y2, y3, y4, y5⟩ := cells6L hW0
  exact bodyPost_ret (v := .agg #[.slice a n c, .int .i64 up, .int .i64 ex, .int .i64 wa, .int .i64 gr, .slice none 0 0]) (by simp [results, Tryz.results40, go_sem]) rfl ⟨rfl, (Frm.refl _ _).alloc _⟩
theorem equal_w2 (a b : Int) (w : World) : (Op.equalIn 10000 27 (.agg #[.int .u64 a, .int .u64 b]) (.agg #[.int .u64 a, .int .u64 b])).run Tryz.prog w = .ok true w := by
  have h : List.range' 0 2 = [0, 1] := rfl
  unfold Op.equalIn
  simp [go_sem]
  simp only [h]
  simp [go_sem]
set_option maxRecDepth 100000 in
set_option maxHeartbeats 1000000 in
theorem packs_true (h : Li .i64 w a n c b o xs) (hn : n ≤ 1000000) (hL : Laid w) (up ex wa gr fi la v0 v1 no : Int) (hv : pkV (pkO xs up ex wa gr fi la) = .tuple #[.agg #[.int .u64 v0, .int .u64 v1], .int .i64 no]) :
    Calls Tryz.prog 10 #[.agg #[.slice a n c, .int .i64 up, .int .i64 ex, .int .i64 wa, .int .i64 gr, .slice e2 m f2], .int .i64 fi, .int .i64 la, .agg #[.int .u64 v0, .int .u64 v1], .int .i64 no] w (Ret (.bool true) (fun w' => Frm [] w w')) := by
  obtain ⟨X, hX⟩ : ∃ X, X = (w.alloc (.cells #[.slice a n c, .int .i64 up, .int .i64 ex, .int .i64 wa, .int .i64 gr, .slice e2 m f2] 25)).alloc (.cells #[.int .u64 v0, .int .u64 v1] 27) := ⟨_, rfl⟩
  have hFX : Frm [] w X := by rw [hX]; exact ((Frm.refl _ _).alloc _).alloc _
  have g0 : X.heap[w.heap.size]? = some (.cells #[.slice a n c, .int .i64 up, .int .i64 ex, .int .i64 wa, .int .i64 gr, .slice e2 m f2] 25 (0, 0)) := by rw [hX]; exact heap_alloc_old _ (heap_alloc_new _ _)
  have g1 : X.heap[w.heap.size + 1]? = some (.cells #[.int .u64 v0, .int .u64 v1] 27 (0, 0)) := by rw [hX]; exact heap_alloc_at _ (by simp)
  obtain ⟨s0, s1, s2, s3, s4, s5⟩ := cells6L g0
  have hl0 := lt_of_heap g0
  have hp := Pack_any (e2 := e2) (m := m) (f2 := f2) (h.frm0 hFX) hn (hL.frm0 hFX) up ex wa gr fi la
  rw [hv] at hp
  have HP := Lib.hid hp
  have HFX := Lib.hid hFX
  have G1 := Lib.hid g1
  clear h hL hFX g0 g1 hp hv
  go_enter Tryz.func10, Tryz.ntmps10
  go_wp2_with fail
  rw [← hX]
  clear hX
  go_wp2_with fail
  refine HP.out.mono ?_
  rintro e w1 ⟨rfl, hF1⟩
  have hb := hF1.heap G1.out (by simp)
  obtain ⟨t0, t1⟩ := cells2L hb
  have hl1 := lt_of_heap hb
  have HF1 := Lib.hid hF1
  clear hF1 hb
  have heq := equal_w2 v0 v1
  go_wp2
  go_ret
  exact ⟨rfl, (HFX.out.trans HF1.out).alloc _⟩
set_option maxRecDepth 100000 in
set_option maxHeartbeats 1000000 in
theorem unpacks_ok {w0 w1 : Nat} (hL : Laid w) (h0 : w0 < 18446744073709551616) (h1 : w1 < 18446744073709551616) (hr : rdB 64 w0 w1 = true)
    (k1 : Li .i64 w a n c b o (bitsL (rdLS w0 w1).sh)) (hn : n ≤ 1000000) {s : LS} (hs : rdLS w0 w1 = s) :
    Calls Tryz.prog 13 #[.agg #[.int .u64 w0, .int .u64 w1], .agg #[.slice a n c, .int .i64 s.up, .int .i64 s.ex, .int .i64 s.wa, .int .i64 s.gr, .slice none 0 0], .int .i64 s.fi, .int .i64 s.la, .int .i64 0] w (Ret (.bool true) (fun w' => Frm [] w w')) := by
  obtain ⟨X, hX⟩ : ∃ X, X = (w.alloc (.cells #[.int .u64 w0, .int .u64 w1] 27)).alloc (.cells #[.slice a n c, .int .i64 s.up, .int .i64 s.ex, .int .i64 s.wa, .int .i64 s.gr, .slice none 0 0] 25) := ⟨_, rfl⟩
  have hFX : Frm [] w X := by rw [hX]; exact ((Frm.refl _ _).alloc _).alloc _
  have g0 : X.heap[w.heap.size]? = some (.cells #[.int .u64 w0, .int .u64 w1] 27 (0, 0)) := by rw [hX]; exact heap_alloc_old _ (heap_alloc_new _ _)
  have g1 : X.heap[w.heap.size + 1]? = some (.cells #[.slice a n c, .int .i64 s.up, .int .i64 s.ex, .int .i64 s.wa, .int .i64 s.gr, .slice none 0 0] 25 (0, 0)) := by rw [hX]; exact heap_alloc_at _ (by simp)
  obtain ⟨s0, s1⟩ := cells2L g0
  have hl0 := lt_of_heap g0
  have hp := unpack_ok (hL.frm0 hFX) h0 h1 hr
  rw [hs] at hp k1
  have HP := Lib.hid hp
  have K1 := Lib.hid k1
  have HFX := Lib.hid hFX
  have G1 := Lib.hid g1
  clear k1 hL hFX g0 g1 hp hr hs
  go_enter Tryz.func13, Tryz.ntmps13
  go_wp2_with fail
  rw [← hX]
  clear hX
  go_wp2_with fail
  refine HP.out.mono ?_
  rintro e w2 ⟨a2, n2, c2, rfl, hF1, hR⟩
  have hb := hF1.heap G1.out (by simp)
  obtain ⟨t0, t1, t2, t3, t4, t5⟩ := cells6L hb
  have hl1 := lt_of_heap hb
  obtain ⟨gb, hLi⟩ := hR.li
  obtain rfl : n2 = n := hLi.len.symm.trans K1.out.len
  have HLi := Lib.hid hLi
  have HF1 := Lib.hid hF1
  obtain ⟨Y, hY⟩ : ∃ Y, Y = w2.alloc (.cells #[.slice a2 n2 c2, .int .i64 s.up, .int .i64 s.ex, .int .i64 s.wa, .int .i64 s.gr, .slice none 0 0] 25) := ⟨_, rfl⟩
  have hFY : Frm [] w2 Y := by rw [hY]; exact (Frm.refl _ _).alloc _
  clear hF1 hb hLi hR
  go_wp2_with fail
  rw [← hY]
  clear hY
  refine (lsame_any (HLi.out.frm0 hFY) (K1.out.frm0 (HFX.out.trans (HF1.out.trans hFY))) (Li2.nil _ 0 0) (Li2.nil _ 0 0) hn (by decide) s.up s.ex s.wa s.gr).mono ?_
  rintro e w3 ⟨rfl, hF3⟩
  have HF3 := Lib.hid (HFX.out.trans (HF1.out.trans (hFY.trans hF3)))
  clear hF3 hFY
  go_wp2
  go_ret
  exact ⟨by simp, HF3.out⟩
set_option maxRecDepth 100000 in
set_option maxHeartbeats 1000000 in
theorem unpacks_no {w0 w1 : Nat} (hL : Laid w) (h0 : w0 < 18446744073709551616) (h1 : w1 < 18446744073709551616) (hr : rdB 64 w0 w1 = false) :
    Calls Tryz.prog 13 #[.agg #[.int .u64 w0, .int .u64 w1], .agg #[.slice none 0 0, .int .i64 0, .int .i64 0, .int .i64 0, .int .i64 0, .slice none 0 0], .int .i64 0, .int .i64 0, .int .i64 12] w (Ret (.bool true) (fun w' => Frm [] w w')) := by
  obtain ⟨X, hX⟩ : ∃ X, X = (w.alloc (.cells #[.int .u64 w0, .int .u64 w1] 27)).alloc (.cells #[.slice none 0 0, .int .i64 0, .int .i64 0, .int .i64 0, .int .i64 0, .slice none 0 0] 25) := ⟨_, rfl⟩
  have hFX : Frm [] w X := by rw [hX]; exact ((Frm.refl _ _).alloc _).alloc _
  have g0 : X.heap[w.heap.size]? = some (.cells #[.int .u64 w0, .int .u64 w1] 27 (0, 0)) := by rw [hX]; exact heap_alloc_old _ (heap_alloc_new _ _)
  have g1 : X.heap[w.heap.size + 1]? = some (.cells #[.slice none 0 0, .int .i64 0, .int .i64 0, .int .i64 0, .int .i64 0, .slice none 0 0] 25 (0, 0)) := by rw [hX]; exact heap_alloc_at _ (by simp)
  obtain ⟨s0, s1⟩ := cells2L g0
  have hl0 := lt_of_heap g0
  have hp := unpack_bad (hL.frm0 hFX) h0 h1 hr
  have HP := Lib.hid hp
  have HFX := Lib.hid hFX
  have G1 := Lib.hid g1
  clear hL hFX g0 g1 hp hr
  go_enter Tryz.func13, Tryz.ntmps13
  go_wp2_with fail
  rw [← hX]
  clear hX
  go_wp2_with fail
  refine HP.out.mono ?_
  rintro e w2 ⟨rfl, hF1⟩
  have hb := hF1.heap G1.out (by simp)
  obtain ⟨t0, t1, t2, t3, t4, t5⟩ := cells6L hb
  have hl1 := lt_of_heap hb
  have HF1 := Lib.hid hF1
  obtain ⟨Y, hY⟩ : ∃ Y, Y = w2.alloc (.cells #[.slice none 0 0, .int .i64 0, .int .i64 0, .int .i64 0, .int .i64 0, .slice none 0 0] 25) := ⟨_, rfl⟩
  have hFY : Frm [] w2 Y := by rw [hY]; exact (Frm.refl _ _).alloc _
  clear hF1 hb
  go_wp2_with fail
  rw [← hY]
  clear hY
  refine (lsame_any (Li.nil _ 0 0) (Li.nil _ 0 0) (Li2.nil _ 0 0) (Li2.nil _ 0 0) (by decide) (by decide) 0 0 0 0).mono ?_
  rintro e w3 ⟨rfl, hF3⟩
  have HF3 := Lib.hid (HFX.out.trans (HF1.out.trans (hFY.trans hF3)))
  clear hF3 hFY
  go_wp2
  go_ret
  exact ⟨rfl, HF3.out⟩
end
end Go.Proofs.YtjhidkjhfgbaeaaGreatDoor
