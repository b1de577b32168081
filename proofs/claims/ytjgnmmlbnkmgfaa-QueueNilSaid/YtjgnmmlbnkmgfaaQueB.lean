/- Package queue: Round, From, Counts. -/
import Derived.Test.YtjgnmmlbnkmgfaaQueA
namespace Go.Proofs.Ytjgnmmlbnkmgfaa
open Go.ChangeShapes Go.WideShapes Go.ChangeAt Go.RowKit

def ints (l : List Int) : List Value := l.map (Value.int .i64)
theorem ints_length (l : List Int) : (ints l).length = l.length := by simp [ints]
theorem ints_get {l : List Int} {i : Nat} {x : Int} (h : l[i]? = some x) : (ints l)[i]? = some (.int .i64 x) := by simp [ints, h]
theorem fill_step {A : List Int} {k m : Nat} (v : Int) (hA : A.length = k) (hk : k < m) :
    (ints (A ++ List.replicate (m - k) 0)).toArray.setIfInBounds k (.int .i64 v) = (ints ((A ++ [v]) ++ List.replicate (m - (k + 1)) 0)).toArray := by
  have e : List.replicate (m - k) (0 : Int) = 0 :: List.replicate (m - (k + 1)) 0 := by rw [show m - k = (m - (k + 1)) + 1 by omega]; rfl
  rw [e, List.setIfInBounds_toArray]
  congr 1
  unfold ints
  rw [List.map_append, List.set_append_right _ _ (by simp [hA])]
  simp [hA]
theorem set_ints (l : List Int) (i : Nat) (v : Int) : (ints l).toArray.setIfInBounds i (.int .i64 v) = (ints (l.set i v)).toArray := by
  rw [List.setIfInBounds_toArray]; unfold ints; rw [List.map_set]

/-- A new row of integers. -/
theorem li_block {w : World} {g n : Nat} {l : List Int} (hl : l.length = n) (h : w.heap[g]? = some (.cells (ints l).toArray 3 (0, 0))) : Li .i64 w (some ⟨g, 0, none⟩) n n g 0 l :=
  ⟨hl, fun _ => rfl, fun i x hx => by rw [cell_of_heap h, Nat.zero_add, List.getElem?_toArray]; exact ints_get hx, Nat.le_refl _⟩

theorem info_int : (Try.prog.info? 3).map (fun i => (i.zero, i.size, i.bytes)) = some (some (.int .i64 0), 1, 8) := by kernel_rfl
theorem make_int (n : Nat) (h : n ≤ 2147483647) (w : World) : (Instr.makeSlice 28 (.int .i64 n) (.int .i64 n)).run Try.prog w =
    .ok (.slice (some ⟨w.heap.size, 0, none⟩) n n) (w.alloc (.cells (ints (List.replicate n 0)).toArray 3)) := by
  obtain ⟨i0, hi, hz0, hz1, hz2⟩ := info_parts info_int
  have := run_make (P := Try.prog) w 28 3 i0 (.int .i64 0) Try.underlying28 hi hz0 .i64 .i64 (n : Int) (n : Int) (by omega) (by omega) (by rw [hz2]; omega) (by omega)
  rw [this, hz1]
  have e : madeCells (Value.int .i64 0).cells (Int.toNat (n : Int) * 1) = (ints (List.replicate n 0)).toArray := by
    apply Array.ext
    · simp [madeCells, ints]
    · intro j h1 h2
      simp [madeCells, ints, Value.cells, Nat.mod_one]
  rw [e]; simp

theorem round_bad (w : World) (t m : Int) (h : mb t = false ∨ m < 0) : Calls Try.prog 23 #[.int .i64 t, .int .i64 m] w (Ret (.tuple #[.slice none 0 0, .int .i64 2]) (fun w' => w = w')) := by
  by_cases hm : mb t = true
  · have h0 : m < 0 := by rcases h with h | h; rw [hm] at h; cases h; exact h
    have hb : decide (m < 0) = true := by simpa using h0
    have HM := Lib.hid hm
    clear h hm
    go_enter Try.func23, Try.ntmps23
    go_wp2_with (go_at_call 40; refine (maybe_any _ _).mono ?_; rintro e w' ⟨rfl, rfl⟩; rw [HM.out])
    go_ret2
    exact ⟨rfl, rfl⟩
  · have hm : mb t = false := by simpa using hm
    have HM := Lib.hid hm
    clear h hm
    go_enter Try.func23, Try.ntmps23
    go_wp2_with (go_at_call 40; refine (maybe_any _ _).mono ?_; rintro e w' ⟨rfl, rfl⟩; rw [HM.out])
    go_ret2
    exact ⟨rfl, rfl⟩
theorem round_long (w : World) (t m : Int) (hm : mb t = true) (h : 100000 < m) : Calls Try.prog 23 #[.int .i64 t, .int .i64 m] w (Ret (.tuple #[.slice none 0 0, .int .i64 5]) (fun w' => w = w')) := by
  have hb : decide (m < 0) = false := by simp; omega
  have hb1 : decide (100000 < m) = true := by simpa using h
  have HM := Lib.hid hm
  clear hm
  go_enter Try.func23, Try.ntmps23
  go_wp2_with (go_at_call 40; refine (maybe_any _ _).mono ?_; rintro e w' ⟨rfl, rfl⟩; rw [HM.out])
  go_ret2
  exact ⟨rfl, rfl⟩
set_option maxHeartbeats 1000000 in
theorem round_ok (w : World) (t : Int) (m : Nat) (hm : mb t = true) (h : m ≤ 100000) : Calls Try.prog 23 #[.int .i64 t, .int .i64 (m : Int)] w
    (Ret (.tuple #[.slice (some ⟨w.heap.size, 0, none⟩) m m, .int .i64 0]) (fun w' => Frm [] w w' ∧ w'.heap[w.heap.size]? = some (.cells (ints (rnd t m)).toArray 3 (0, 0)))) := by
  obtain ⟨t0, t1⟩ := mb_iff.1 hm
  have hb : decide ((m : Int) < 0) = false := by simp
  have hb1 : decide ((100000 : Int) < (m : Int)) = false := by simp; omega
  have hmk := make_int m (by omega)
  obtain ⟨X, hX⟩ : ∃ X, X = w.alloc (.cells (ints (List.replicate m 0)).toArray 3) := ⟨_, rfl⟩
  have hFX : Frm [] w X := by rw [hX]; exact (Frm.refl _ _).alloc _
  have hbx : X.heap[w.heap.size]? = some (.cells (ints (rnd t 0 ++ List.replicate (m - 0) 0)).toArray 3 (0, 0)) := by rw [hX]; exact heap_alloc_new _ _
  have HM := Lib.hid hm
  have HX := Lib.hid hX
  have HB := Lib.hid hbx
  clear hm hX hbx
  go_enter Try.func23, Try.ntmps23
  go_wp2_with (go_at_call 40; refine (maybe_any _ _).mono ?_; rintro e w' ⟨rfl, rfl⟩; rw [HM.out])
  rw [← HX.out]
  clear hmk
  go_loopw [7, 21] (fun _ i w' => ∃ k : Nat, k ≤ m ∧ i = .int .i64 k ∧ Frm [] w w' ∧ Hid (w'.heap[w.heap.size]? = some (.cells (ints (rnd t k ++ List.replicate (m - k) 0)).toArray 3 (0, 0)))) (fun _ i _ => m - (intOf i).toNat)
  case atStart => exact ⟨0, by omega, rfl, hFX, HB⟩
  case round =>
    obtain ⟨k, hk, rfl, hF, HG⟩ := hrel
    by_cases hlt : k < m
    · have hb0 : (0 : Int) ≤ (k : Int) := by omega
      have hb2 : (k : Int) < (m : Int) := by omega
      have hP := fill_step (A := rnd t k) (m := m) ((k : Int) % t) (rnd_length t k) hlt
      rw [← rnd_succ] at hP
      have hlen : (ints (rnd t k ++ List.replicate (m - k) 0)).length = m := by rw [ints_length, List.length_append, rnd_length, List.length_replicate]; omega
      have k4 : wr.cell? ⟨w.heap.size, k, none⟩ = some ((ints (rnd t k ++ List.replicate (m - k) 0))[k]'(by omega)) := by rw [cell_of_heap HG.out, List.getElem?_toArray]; exact List.getElem?_eq_getElem _
      generalize (ints (rnd t k ++ List.replicate (m - k) 0))[k]'(by omega) = u1 at k4
      have k6 : wr.frozen? ⟨w.heap.size, k, none⟩ = false := frozen_of_heap HG.out
      have hgl := lt_of_heap HG.out
      have HP := Lib.hid hP
      clear hP hlen
      go_wp2
      go_roundw
      case rel =>
        refine ⟨k + 1, by omega, by go_num, hF.setCell _ _ (.inr (Nat.le_refl _)), Lib.hid ?_⟩
        rw [← HP.out]
        exact heap_setCell_at _ HG.out
      case measure => simp [intOf]; omega
    · obtain rfl : k = m := by omega
      go_wp2
      go_ret2
      refine ⟨rfl, hF, ?_⟩
      have := HG.out
      rw [Nat.sub_self, List.replicate_zero, List.append_nil] at this
      exact this

theorem from_bad {w : World} (v : Value) (t : Int) (h : mb t = false) : Calls Try.prog 35 #[v, .int .i64 t] w (Ret (.tuple #[.slice none 0 0, .int .i64 2]) (fun w' => w = w')) := by
  have HM := Lib.hid h
  clear h
  go_enter Try.func35, Try.ntmps35
  go_wp2_with (go_at_call 40; refine (maybe_any _ _).mono ?_; rintro e w' ⟨rfl, rfl⟩; rw [HM.out])
  go_ret2
  exact ⟨rfl, rfl⟩
theorem from_long {w : World} (a : Option Addr) (n c : Nat) (t : Int) (hm : mb t = true) (h : 100000 < n) : Calls Try.prog 35 #[.slice a n c, .int .i64 t] w (Ret (.tuple #[.slice none 0 0, .int .i64 5]) (fun w' => w = w')) := by
  have hb1 : decide ((100000 : Int) < (n : Int)) = true := by simp; omega
  have HM := Lib.hid hm
  clear hm
  go_enter Try.func35, Try.ntmps35
  go_wp2_with (go_at_call 40; refine (maybe_any _ _).mono ?_; rintro e w' ⟨rfl, rfl⟩; rw [HM.out])
  go_ret2
  exact ⟨rfl, rfl⟩
theorem sayB_succ {l : List Int} {k : Nat} {x t : Int} (h : l[k]? = some x) : sayB (l.take (k + 1)) t = sayB (l.take k) t ++ [x % t] := by
  obtain ⟨hk, rfl⟩ := List.getElem?_eq_some_iff.1 h
  unfold sayB
  rw [List.take_succ_eq_append_getElem hk, List.map_append]; rfl
theorem sayB_length (l : List Int) (t : Int) : (sayB l t).length = l.length := by simp [sayB]
set_option maxHeartbeats 1000000 in
theorem from_ok {w : World} {a : Option Addr} {n c b o : Nat} {l : List Int} (hL : Li .u8 w a n c b o l) (hw : ∀ x ∈ l, 0 ≤ x ∧ x ≤ 255) (t : Int) (hm : mb t = true) (h : n ≤ 100000) : Calls Try.prog 35 #[.slice a n c, .int .i64 t] w
    (Ret (.tuple #[.slice (some ⟨w.heap.size, 0, none⟩) n n, .int .i64 0]) (fun w' => Frm [] w w' ∧ w'.heap[w.heap.size]? = some (.cells (ints (sayB l t)).toArray 3 (0, 0)))) := by
  obtain ⟨t0, t1⟩ := mb_iff.1 hm
  have hb1 : decide ((100000 : Int) < (n : Int)) = false := by simp; omega
  have hmk := make_int n (by omega)
  obtain ⟨X, hX⟩ : ∃ X, X = w.alloc (.cells (ints (List.replicate n 0)).toArray 3) := ⟨_, rfl⟩
  have hFX : Frm [] w X := by rw [hX]; exact (Frm.refl _ _).alloc _
  have hbx : X.heap[w.heap.size]? = some (.cells (ints (sayB (l.take 0) t ++ List.replicate (n - 0) 0)).toArray 3 (0, 0)) := by rw [hX]; exact heap_alloc_new _ _
  have HM := Lib.hid hm
  have HX := Lib.hid hX
  have HB := Lib.hid hbx
  have HL := Lib.hid hL
  have HW := Lib.hid hw
  clear hm hX hbx hL hw
  go_enter Try.func35, Try.ntmps35
  go_wp2_with (go_at_call 40; refine (maybe_any _ _).mono ?_; rintro e w' ⟨rfl, rfl⟩; rw [HM.out])
  rw [← HX.out]
  clear hmk
  go_loopw [7, 8, 20] (fun _ _ i w' => ∃ k : Nat, k ≤ n ∧ i = .int .i64 k ∧ Frm [] w w' ∧ Hid (w'.heap[w.heap.size]? = some (.cells (ints (sayB (l.take k) t ++ List.replicate (n - k) 0)).toArray 3 (0, 0)))) (fun _ _ i _ => n - (intOf i).toNat)
  case atStart => exact ⟨0, by omega, rfl, hFX, HB⟩
  case round =>
    obtain ⟨k, hk, rfl, hF, HG⟩ := hrel
    by_cases hlt : k < n
    · have hb0 : (0 : Int) ≤ (k : Int) := by omega
      have hb2 : (k : Int) < (n : Int) := by omega
      obtain ⟨x, hx, hg, hc⟩ := (HL.out.frm0 hF).get hlt
      have hix := ix_u8 (c := c) HL.out.ad hlt
      obtain ⟨x0, x1⟩ := HW.out x (List.mem_of_getElem? hx)
      have hkl : (l.take k).length = k := by rw [List.length_take]; have := HL.out.len; omega
      have hP := fill_step (A := sayB (l.take k) t) (m := n) (x % t) (by rw [sayB_length, hkl]) hlt
      rw [← sayB_succ hx] at hP
      have hlen : (ints (sayB (l.take k) t ++ List.replicate (n - k) 0)).length = n := by rw [ints_length, List.length_append, sayB_length, hkl, List.length_replicate]; omega
      have k4 : wr.cell? ⟨w.heap.size, k, none⟩ = some ((ints (sayB (l.take k) t ++ List.replicate (n - k) 0))[k]'(by omega)) := by rw [cell_of_heap HG.out, List.getElem?_toArray]; exact List.getElem?_eq_getElem _
      generalize (ints (sayB (l.take k) t ++ List.replicate (n - k) 0))[k]'(by omega) = u1 at k4
      have k6 : wr.frozen? ⟨w.heap.size, k, none⟩ = false := frozen_of_heap HG.out
      have hgl := lt_of_heap HG.out
      have HP := Lib.hid hP
      clear hP hlen hx hg hkl
      go_wp2
      go_roundw
      case rel =>
        refine ⟨k + 1, by omega, by go_num, hF.setCell _ _ (.inr (Nat.le_refl _)), Lib.hid ?_⟩
        rw [← HP.out]
        exact heap_setCell_at _ HG.out
      case measure => simp [intOf]; omega
    · obtain rfl : k = n := by omega
      go_wp2
      go_ret2
      refine ⟨rfl, hF, ?_⟩
      have := HG.out
      rw [Nat.sub_self, List.replicate_zero, List.append_nil, List.take_of_length_le (by have := HL.out.len; omega)] at this
      exact this

theorem counts_bad {w : World} {a : Option Addr} {n c b o : Nat} {l : List Int} (hL : Li .i64 w a n c b o l) (t : Int) (h : ck l t ≠ 0) :
    Calls Try.prog 33 #[.slice a n c, .int .i64 t] w (Ret (.tuple #[.slice none 0 0, .int .i64 (ck l t)]) (fun w' => w = w')) := by
  have hc := check_any hL t
  generalize ck l t = e at hc h ⊢
  have hb : (e != 0) = true := by simpa using h
  have HC := Lib.hid hc
  clear hc h hL
  go_enter Try.func33, Try.ntmps33
  go_wp2_with (go_at_call 36; refine HC.out.mono ?_; rintro e w' ⟨rfl, rfl⟩)
  go_ret2
  exact ⟨rfl, rfl⟩
set_option maxHeartbeats 1000000 in
theorem counts_ok {w : World} {a : Option Addr} {n c b o : Nat} {l : List Int} (hL : Li .i64 w a n c b o l) (t : Nat) (h : ck l (t : Int) = 0) :
    Calls Try.prog 33 #[.slice a n c, .int .i64 (t : Int)] w (Ret (.tuple #[.slice (some ⟨w.heap.size, 0, none⟩) t t, .int .i64 0]) (fun w' => Frm [] w w' ∧ w'.heap[w.heap.size]? = some (.cells (ints (cnts l t)).toArray 3 (0, 0)))) := by
  obtain ⟨hm, hn, hr⟩ := ck_zero h
  obtain ⟨t0, t1⟩ := mb_iff.1 hm
  have hc := check_any hL t
  rw [h] at hc
  have hln := hL.len
  have hmk := make_int t (by omega)
  have hn' : n ≤ 100000 := by omega
  obtain ⟨X, hX⟩ : ∃ X, X = w.alloc (.cells (ints (List.replicate t 0)).toArray 3) := ⟨_, rfl⟩
  have hFX : Frm [] w X := by rw [hX]; exact (Frm.refl _ _).alloc _
  have hbx : X.heap[w.heap.size]? = some (.cells (ints (cnts (l.take 0) t)).toArray 3 (0, 0)) := by rw [hX, List.take_zero, cnts_nil]; exact heap_alloc_new _ _
  have HC := Lib.hid hc
  have HX := Lib.hid hX
  have HB := Lib.hid hbx
  have HL := Lib.hid hL
  have HR := Lib.hid hr
  have HN := Lib.hid hln
  clear hm hX hbx hL hr h hc hn hln
  go_enter Try.func33, Try.ntmps33
  go_wp2_with (go_at_call 36; refine HC.out.mono ?_; rintro e w' ⟨rfl, rfl⟩)
  rw [← HX.out]
  clear hmk
  go_loopw [9, 20] (fun _ i w' => ∃ k : Nat, k ≤ n ∧ i = .int .i64 k ∧ Frm [] w w' ∧ Hid (w'.heap[w.heap.size]? = some (.cells (ints (cnts (l.take k) t)).toArray 3 (0, 0)))) (fun _ i _ => n - (intOf i).toNat)
  case atStart => exact ⟨0, by omega, rfl, hFX, HB⟩
  case round =>
    obtain ⟨k, hk, rfl, hF, HG⟩ := hrel
    by_cases hlt : k < n
    · have hb0 : (0 : Int) ≤ (k : Int) := by omega
      have hb2 : (k : Int) < (n : Int) := by omega
      obtain ⟨x, hx, hg, hc⟩ := (HL.out.frm0 hF).get hlt
      have hix := ix_int (c := c) HL.out.ad hlt
      obtain ⟨x0, x1⟩ := HR.out x (List.mem_of_getElem? hx)
      obtain ⟨j, rfl⟩ := Int.eq_ofNat_of_zero_le x0
      have hj : j < t := by omega
      have hP := cnts_snoc (l.take k) t j hj
      obtain ⟨hkl, hge⟩ := List.getElem?_eq_some_iff.1 hx
      have htk : l.take (k + 1) = l.take k ++ [(j : Int)] := by rw [List.take_succ_eq_append_getElem hkl, hge]
      rw [← htk] at hP
      have hP2 := set_ints (cnts (l.take k) t) j (cnt (l.take k) j + 1)
      rw [hP] at hP2
      have hcb := cnt_bd (l.take k) (j : Int)
      rw [List.length_take] at hcb
      have k4 : wr.cell? ⟨w.heap.size, j, none⟩ = some (.int .i64 (cnt (l.take k) (j : Int))) := by rw [cell_of_heap HG.out, List.getElem?_toArray]; exact ints_get (cnts_get hj)
      have k6 : wr.frozen? ⟨w.heap.size, j, none⟩ = false := frozen_of_heap HG.out
      have hgl := lt_of_heap HG.out
      have HP := Lib.hid hP2
      clear hP hx hg hP2 htk hge
      generalize cnt (l.take k) (j : Int) = z at *
      have hz0 : 0 ≤ z := hcb.1
      have hz1 : z ≤ 100000 := by omega
      clear hcb
      go_wp2
      go_roundw
      case rel =>
        refine ⟨k + 1, by omega, by go_num, hF.setCell _ _ (.inr (Nat.le_refl _)), Lib.hid ?_⟩
        rw [← HP.out]
        exact heap_setCell_at _ HG.out
      case measure => simp [intOf]; omega
    · obtain rfl : k = n := by omega
      go_wp2
      go_ret2
      refine ⟨rfl, hF, ?_⟩
      have := HG.out
      rw [List.take_of_length_le (by have := HN.out; omega)] at this
      exact this
end Go.Proofs.Ytjgnmmlbnkmgfaa
