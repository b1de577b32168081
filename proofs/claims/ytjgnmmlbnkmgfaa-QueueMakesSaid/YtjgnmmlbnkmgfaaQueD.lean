/- Package queue: slices.Min; Window, Fair. -/
import Derived.Test.YtjgnmmlbnkmgfaaQueC
namespace Go.Proofs.Ytjgnmmlbnkmgfaa
open Go.ChangeShapes Go.WideShapes Go.ChangeAt Go.RowKit

theorem foldl_take_succ {r : List Int} {k : Nat} {y x : Int} (h : r[k]? = some y) : (r.take (k + 1)).foldl min x = min ((r.take k).foldl min x) y := by
  obtain ⟨hk, rfl⟩ := List.getElem?_eq_some_iff.1 h
  rw [List.take_succ_eq_append_getElem hk, List.foldl_append]; rfl

set_option maxHeartbeats 1000000 in
theorem min_any {w : World} {a : Option Addr} {n c b o : Nat} {l : List Int} (hL : Li .i64 w a n c b o l) (hn : 0 < n) (hn2 : n ≤ 100000) :
    Calls Try.prog 49 #[.slice a n c] w (Ret (.int .i64 (minL l)) (fun w' => w = w')) := by
  have hln := hL.len
  obtain ⟨x0, hx0, _, hc0⟩ := hL.get hn
  obtain ⟨r, rfl⟩ : ∃ r, l = x0 :: r := by
    cases l with
    | nil => simp at hx0
    | cons y r => simp at hx0; subst hx0; exact ⟨r, rfl⟩
  have hix0 := ix_int (c := c) hL.ad hn
  have hix0' : ∀ w, (Instr.indexAt 28 (.slice a n c) (.int .i64 0)).run Try.prog w = .ok (.pointer (some ⟨b, o, none⟩)) w := hix0
  have hc0' : w.cell? ⟨b, o, none⟩ = some (.int .i64 x0) := hc0
  have hlr : r.length + 1 = n := by simpa using hln
  show Calls _ _ _ _ (Ret (.int .i64 (r.foldl min x0)) _)
  have hfin : (r.take (n - 1)).foldl min x0 = r.foldl min x0 := by rw [List.take_of_length_le (by omega)]
  rw [← hfin]
  have hb1 : (1 : Int) ≤ (n : Int) := by omega
  have hb2 : decide ((n : Int) < 1) = false := by simp; omega
  have HL := Lib.hid hL
  have HLR := Lib.hid hlr
  clear hL hln hlr hx0 hfin hix0 hc0
  go_enter Try.func49, Try.ntmps49
  go_wp2_with fail
  clear hix0' hc0'
  go_loop [3, 4] (fun m i => ∃ k : Nat, 1 ≤ k ∧ k ≤ n ∧ i = .int .i64 k ∧ m = .int .i64 ((r.take (k - 1)).foldl min x0)) (fun _ i => n - (intOf i).toNat)
  case atStart => exact ⟨1, by omega, by omega, rfl, rfl⟩
  case round =>
    obtain ⟨k, hk1, hk, rfl, rfl⟩ := hrel
    by_cases hlt : k < n
    · obtain ⟨x, hx, hg, hc⟩ := HL.out.get hlt
      have hix := ix_int (c := c) HL.out.ad hlt
      have hx' : r[k - 1]? = some x := by
        obtain ⟨k', rfl⟩ : ∃ k', k = k' + 1 := ⟨k - 1, by omega⟩
        simpa using hx
      have hs := foldl_take_succ (x := x0) hx'
      rw [show k - 1 + 1 = k + 1 - 1 by omega] at hs
      obtain ⟨M, hM⟩ : ∃ M, M = (r.take (k - 1)).foldl min x0 := ⟨_, rfl⟩
      rw [← hM] at hs ⊢
      have HS := Lib.hid hs
      clear hx hg hx' hs hM
      have hb0 : (k : Int) < (n : Int) := by omega
      by_cases hmm : x < M
      · have e : min M x = x := by omega
        have HE := Lib.hid e
        clear e
        go_wp2
        go_round
        case rel => exact ⟨k + 1, by omega, by omega, by go_num, by rw [HS.out, HE.out]; try rfl⟩
        case measure => simp [intOf]; omega
      · have e : min M x = M := by omega
        have HE := Lib.hid e
        clear e
        go_wp2
        go_round
        case rel => exact ⟨k + 1, by omega, by omega, by go_num, by rw [HS.out, HE.out]; try rfl⟩
        case measure => simp [intOf]; omega
    · obtain rfl : k = n := by omega
      go_wp2
      go_ret
      exact ⟨rfl, rfl⟩

theorem leastAt_succ (l : List Int) (k : Nat) : leastAt l (k + 1) = max (leastAt l k) ((k : Int) - lastAt l (l.getD k 0) k) := rfl

theorem window_bad {w : World} {a : Option Addr} {n c b o : Nat} {l : List Int} (hL : Li .i64 w a n c b o l) (t : Int) (h : ck l t ≠ 0) :
    Calls Try.prog 32 #[.slice a n c, .int .i64 t] w (Ret (.tuple #[.int .i64 0, .int .i64 (ck l t)]) (fun w' => w = w')) := by
  have hc := check_any hL t
  generalize ck l t = e at hc h ⊢
  have hb : (e != 0) = true := by simpa using h
  have HC := Lib.hid hc
  clear hc h hL
  go_enter Try.func32, Try.ntmps32
  go_wp2_with (go_at_call 36; refine HC.out.mono ?_; rintro e w' ⟨rfl, rfl⟩)
  go_ret2
  exact ⟨rfl, rfl⟩
set_option maxHeartbeats 2000000 in
theorem window_ok {w : World} {a : Option Addr} {n c b o : Nat} {l : List Int} (hL : Li .i64 w a n c b o l) (t : Nat) (h : ck l (t : Int) = 0) :
    Calls Try.prog 32 #[.slice a n c, .int .i64 (t : Int)] w (Ret (.tuple #[.int .i64 (win l t), .int .i64 0]) (fun w' => Frm [] w w')) := by
  obtain ⟨hm, hn, hr⟩ := ck_zero h
  obtain ⟨t0, t1⟩ := mb_iff.1 hm
  have hc := check_any hL t
  rw [h] at hc
  have hln := hL.len
  have hn' : n ≤ 100000 := by omega
  have hwin : win l t = max (leastAt l n) ((n : Int) - minL (lasts l t n)) := by unfold win; rw [hln]
  generalize win l t = R at hwin ⊢
  have HWIN := Lib.hid hwin
  have HC := Lib.hid hc
  have HL := Lib.hid hL
  have HR := Lib.hid hr
  have HN := Lib.hid hln
  clear hm hL hr h hc hn hln hwin
  obtain ⟨X, hX⟩ : ∃ X, X = w.alloc (.cells #[.int .i64 (-1)] 3) := ⟨_, rfl⟩
  have hFX : Frm [] w X := by rw [hX]; exact (Frm.refl _ _).alloc _
  have hXq : X.heap[w.heap.size]? = some (.cells #[.int .i64 (-1)] 3 (0, 0)) := by rw [hX]; exact heap_alloc_new _ _
  have hrep := repeat_any hXq t (by omega) (by omega)
  have HX := Lib.hid hX
  have HREP := Lib.hid hrep
  clear hX hXq hrep
  go_enter Try.func32, Try.ntmps32
  go_wp2_with (go_at_call 36; refine HC.out.mono ?_; rintro e w' ⟨rfl, rfl⟩)
  rw [← HX.out]
  refine HREP.out.mono ?_
  rintro e W1 ⟨rfl, hF1, hB1⟩
  obtain ⟨g, hg⟩ : ∃ g, g = X.heap.size := ⟨_, rfl⟩
  rw [← hg] at hB1 ⊢
  have hgw : w.heap.size ≤ g := by rw [hg]; exact hFX.size
  have hF : Frm [] w W1 := hFX.trans hF1
  have hB0 : W1.heap[g]? = some (.cells (ints (lasts l t 0)).toArray 3 (0, 0)) := by
    rw [hB1]; unfold neg; rw [lasts_zero, Nat.sub_self, List.replicate_zero, List.append_nil]
  have HB := Lib.hid hB0
  clear hB1 hB0 hg hF1
  go_wp2_with fail
  go_loopw [7, 9, 10, 22] (fun m _ _ i w' => ∃ k : Nat, k ≤ n ∧ i = .int .i64 k ∧ m = .int .i64 (leastAt l k) ∧ Frm [] w w' ∧ Hid (w'.heap[g]? = some (.cells (ints (lasts l t k)).toArray 3 (0, 0)))) (fun _ _ _ i _ => n - (intOf i).toNat)
  case atStart => exact ⟨0, by omega, rfl, rfl, hF, HB⟩
  case round =>
    obtain ⟨k, hk, rfl, rfl, hF, HG⟩ := hrel
    have hle := leastAt_bd l k
    by_cases hlt : k < n
    · have hb0 : (0 : Int) ≤ (k : Int) := by omega
      have hb2 : (k : Int) < (n : Int) := by omega
      obtain ⟨x, hx, hgd, hc⟩ := (HL.out.frm0 hF).get hlt
      have hix := ix_int (c := c) HL.out.ad hlt
      obtain ⟨x0, x1⟩ := HR.out x (List.mem_of_getElem? hx)
      obtain ⟨j, rfl⟩ := Int.eq_ofNat_of_zero_le x0
      have hj : j < t := by omega
      have hP := lasts_succ hx hj
      have hP2 := set_ints (lasts l t k) j (k : Int)
      rw [hP] at hP2
      have hs := leastAt_succ l k
      rw [hgd] at hs
      have hlb := lastAt_bd l (j : Int) k
      have k4 : wr.cell? ⟨g, j, none⟩ = some (.int .i64 (lastAt l (j : Int) k)) := by rw [cell_of_heap HG.out, List.getElem?_toArray]; exact ints_get (lasts_get hj)
      have k6 : wr.frozen? ⟨g, j, none⟩ = false := frozen_of_heap HG.out
      have hgl := lt_of_heap HG.out
      have HP := Lib.hid hP2
      have HS := Lib.hid hs
      clear hP hx hgd hP2 hs
      generalize lastAt l (j : Int) k = z at *
      generalize leastAt l k = M at *
      obtain ⟨hz0, hz1⟩ := hlb
      obtain ⟨hM0, hM1⟩ := hle
      by_cases hmm : M < (k : Int) - z
      · have e : max M ((k : Int) - z) = (k : Int) - z := by omega
        have HE := Lib.hid e
        clear e
        go_wp2
        go_roundw
        case rel =>
          refine ⟨k + 1, by omega, by go_num, (by rw [HS.out, HE.out]; try rfl), hF.setCell _ _ (.inr hgw), Lib.hid ?_⟩
          rw [← HP.out]
          exact heap_setCell_at _ HG.out
        case measure => simp [intOf]; omega
      · have e : max M ((k : Int) - z) = M := by omega
        have HE := Lib.hid e
        clear e
        go_wp2
        go_roundw
        case rel =>
          refine ⟨k + 1, by omega, by go_num, (by rw [HS.out, HE.out]; try rfl), hF.setCell _ _ (.inr hgw), Lib.hid ?_⟩
          rw [← HP.out]
          exact heap_setCell_at _ HG.out
        case measure => simp [intOf]; omega
    · obtain rfl : k = n := by omega
      have hLl := li_block (lasts_length l t k) HG.out
      have hmn := min_any hLl (by omega) (by omega)
      have hmb : -1 ≤ minL (lasts l t k) ∧ minL (lasts l t k) < k := by
        have hne : lasts l t k ≠ [] := by intro h; have := lasts_length l t k; rw [h] at this; simp at this; omega
        obtain ⟨j, _, e⟩ := lasts_mem.1 (minL_mem hne)
        rw [← e]; exact lastAt_bd l j k
      have hwin := HWIN.out
      clear HWIN
      generalize minL (lasts l t k) = z at *
      generalize leastAt l k = M at *
      obtain ⟨hz0, hz1⟩ := hmb
      obtain ⟨hM0, hM1⟩ := hle
      have HMN := Lib.hid hmn
      clear hLl hmn
      by_cases hmm : M < (k : Int) - z
      · have e : R = (k : Int) - z := by omega
        have HE := Lib.hid e
        clear e hwin
        go_wp2_with (go_at_call 49; refine HMN.out.mono ?_; rintro e w' ⟨rfl, rfl⟩)
        go_ret2
        exact ⟨(by rw [HE.out]; try rfl), hF⟩
      · have e : R = M := by omega
        have HE := Lib.hid e
        clear e hwin
        go_wp2_with (go_at_call 49; refine HMN.out.mono ?_; rintro e w' ⟨rfl, rfl⟩)
        go_ret2
        exact ⟨(by rw [HE.out]; try rfl), hF⟩

theorem fair_arg (w : World) (v : Value) (t s : Int) (h : s < 1) : Calls Try.prog 37 #[v, .int .i64 t, .int .i64 s] w (Ret (.tuple #[.bool false, .int .i64 2]) (fun w' => w = w')) := by
  have hb : decide (s < 1) = true := by simpa using h
  go_enter Try.func37, Try.ntmps37
  go_wp2
  go_ret2
  exact ⟨rfl, rfl⟩
theorem fair_bad {w : World} {a : Option Addr} {n c b o : Nat} {l : List Int} (hL : Li .i64 w a n c b o l) (t s : Int) (hs : 1 ≤ s) (h : ck l t ≠ 0) :
    Calls Try.prog 37 #[.slice a n c, .int .i64 t, .int .i64 s] w (Ret (.tuple #[.bool false, .int .i64 (ck l t)]) (fun w' => w = w')) := by
  have hc := window_bad hL t h
  generalize ck l t = e at hc h ⊢
  have hb : decide (s < 1) = false := by simp; omega
  have hb1 : (e == 0) = false := by simpa using h
  have HC := Lib.hid hc
  clear hc h hL
  go_enter Try.func37, Try.ntmps37
  go_wp2_with (go_at_call 32; refine HC.out.mono ?_; rintro e w' ⟨rfl, rfl⟩)
  go_ret2
  exact ⟨rfl, rfl⟩
theorem fair_ok {w : World} {a : Option Addr} {n c b o : Nat} {l : List Int} (hL : Li .i64 w a n c b o l) (t : Nat) (s : Int) (hs : 1 ≤ s) (h : ck l (t : Int) = 0) :
    Calls Try.prog 37 #[.slice a n c, .int .i64 (t : Int), .int .i64 s] w (Ret (.tuple #[.bool (decide (win l t ≤ s)), .int .i64 0]) (fun w' => Frm [] w w')) := by
  have hc := window_ok hL t h
  generalize win l t = e at hc ⊢
  have hb : decide (s < 1) = false := by simp; omega
  have HC := Lib.hid hc
  clear hc h hL
  go_enter Try.func37, Try.ntmps37
  go_wp2_with (go_at_call 32; refine HC.out.mono ?_; rintro e w' ⟨rfl, hF⟩)
  go_ret2
  exact ⟨rfl, hF⟩
end Go.Proofs.Ytjgnmmlbnkmgfaa
