/- Layer 1: the walk of MemPlays. -/
import Derived.Test.YthmpmpjkkjjbbaaMakes
namespace Go.Proofs.Ythmpmpjkkjjbbaa
open Go.ChangeShapes Go.WideShapes Go.ChangeAt Go.RowKit

theorem make_u64_u8 (n : Nat) (h : n ≤ 255) (w : World) : (Instr.makeSlice 25 (.int .u8 n) (.int .u8 n)).run Try.prog w =
    .ok (.slice (some ⟨w.heap.size, 0, none⟩) n n) (w.alloc (.cells (u64s (List.replicate n 0)).toArray 23)) := by
  obtain ⟨i0, hi, hz0, hz1, hz2⟩ := info_parts info_u64
  have := run_make (P := Try.prog) w 25 23 i0 (.int .u64 0) Try.underlying25 hi hz0 .u8 .u8 (n : Int) (n : Int) (by omega) (by omega) (by rw [hz2]; omega) (by omega)
  rw [this, hz1]
  have e : madeCells (Value.int .u64 0).cells (Int.toNat (n : Int) * 1) = (u64s (List.replicate n 0)).toArray := by
    apply Array.ext
    · simp [madeCells, u64s]
    · intro j h1 h2
      simp [madeCells, u64s, Value.cells, Nat.mod_one]
  rw [e]; simp

theorem mWs_len (ws : List Int) (a : Acc) : (mWs ws a).length = ws.length := by unfold mWs; split <;> simp
theorem Rd.cells {w : World} {b o c n : Nat} {ws : List Int} (h : Rd w (.slice (some ⟨b, o, none⟩) n c) (u64s ws)) : b < w.heap.size ∧ ∀ i x, ws[i]? = some x → w.cell? ⟨b, o + i, none⟩ = some (.int .u64 x) := by
  rcases h with ⟨hv, _⟩ | ⟨b', o', c', hv, _, hb, hr⟩
  · cases hv
  · injection hv with h1 h2 h3
    injection h1 with h1
    injection h1 with h4 h5
    subst h4 h5
    exact ⟨hb, fun i x hx => hr i _ (by rw [u64s, List.getElem?_map, hx]; rfl)⟩
theorem refdo_n {w : World} {ws : List Int} {b o c n : Nat} (hn : ws.length = n) (h0 : 0 < n) (hrd : Rd w (.slice (some ⟨b, o, none⟩) n c) (u64s ws)) (hle : n ≤ 65536) (x : Acc) :
    Calls Try.prog 11 #[.slice (some ⟨b, o, none⟩) n c, .agg #[.int .i64 x.k, .int .i64 x.w, .int .u64 x.b, .int .u64 x.a]] w
    (fun e w' => ∃ b' o' c', Ret (.tuple #[.slice (some ⟨b', o', none⟩) n c', .agg #[.int .i64 (mRes ws x).k, .int .i64 (mRes ws x).w, .int .u64 (mRes ws x).b, .int .u64 (mRes ws x).a], .int .i64 (mErr n x.k x.w)])
      (fun w' => Frm [] w w' ∧ Rd w' (.slice (some ⟨b', o', none⟩) n c') (u64s (mWs ws x)) ∧ (b' = b ∨ w.heap.size ≤ b')) e w') := by
  subst hn
  obtain ⟨hb, hc⟩ := hrd.cells
  refine (refdo_any hrd hb hc hle x.k x.w x.b x.a).mono fun e w' hh => ?_
  obtain ⟨v, h1, h2, h3, h4⟩ := hh
  rcases h4 with rfl | h4
  · exact ⟨b, o, c, h1, h2, h3, .inl rfl⟩
  · have h3' : Rd w' v (u64s (mWs ws x)) := h3
    rcases h3' with ⟨_, hnil⟩ | ⟨b', o', c', rfl, hl, hb', hr⟩
    · have h5 : (mWs ws x).length = 0 := by have : mWs ws x = [] := by simpa [u64s] using hnil
                                            rw [this]; rfl
      rw [mWs_len] at h5; omega
    · have e : (u64s (mWs ws x)).length = ws.length := by simp [u64s, mWs_len]
      rw [e] at h1 h3 h4
      exact ⟨b', o', c', h1, h2, h3, .inr (h4 b' rfl)⟩

set_option maxRecDepth 100000 in
set_option maxHeartbeats 6400000 in
theorem walk_MemPlays (many : Int) (wm : (Lit.int .u8 many).wf = true) (av : Option Addr) (len cap : Nat) (xs : List Acc) (how : Int) (wh : (Lit.int .u64 how).wf = true) (w : World) (has : IsAccs w av len xs) :
    Calls Try.prog 3 #[.int .u8 many, .slice av len cap, .int .u64 how] w (Ret (.bool true) (fun w' => Below w.heap.size w w')) := by
  have hmb := bounds_u8 wm
  have hhb := bounds_u64 wh
  clear wm wh
  by_cases h1 : many < 1
  · have hb1 : decide (many < 1) = true := by simpa using h1
    go_enter Try.func3, Try.ntmps3
    go_wp2_with fail
    refine (known_true _).mono ?_
    rintro e w5 ⟨rfl, hF5⟩
    go_wp2
    go_ret
    exact ⟨rfl, hF5.below (Nat.le_refl _) (by simp)⟩

  have hb1 : decide (many < 1) = false := by simpa using h1
  by_cases h2 : 40 < many
  · have hb2 : decide (40 < many) = true := by simpa using h2
    go_enter Try.func3, Try.ntmps3
    go_wp2_with fail
    refine (known_true _).mono ?_
    rintro e w5 ⟨rfl, hF5⟩
    go_wp2
    go_ret
    exact ⟨rfl, hF5.below (Nat.le_refl _) (by simp)⟩

  have hb2 : decide (40 < many) = false := by simpa using h2
  by_cases h3 : 60 < len
  · have hb3 : decide ((60 : Int) < len) = true := by simp; omega
    go_enter Try.func3, Try.ntmps3
    go_wp2_with fail
    refine (known_true _).mono ?_
    rintro e w5 ⟨rfl, hF5⟩
    go_wp2
    go_ret
    exact ⟨rfl, hF5.below (Nat.le_refl _) (by simp)⟩

  have hb3 : decide ((60 : Int) < len) = false := by simp; omega
  obtain ⟨n, rfl⟩ := Int.eq_ofNat_of_zero_le hmb.1
  obtain ⟨hal, hacc⟩ := has
  subst hal
  have hmk := make_u64_u8 n (by omega)
  have HACC := Lib.hid hacc
  clear hacc hmb
  go_enter Try.func3, Try.ntmps3
  go_wp2_with fail
  have hrl : (List.replicate n (0 : Int)).length = n := by simp
  have hr0 := rd_new (w := w.alloc _) w.heap.size (List.replicate n 0) (heap_alloc_new w _)
  rw [hrl] at hr0
  refine (made_any (xs := List.replicate n 0) hr0 (by rw [hrl]; omega) (by rw [hrl]; omega)).mono ?_
  rintro e w1 ⟨p, d, c, rfl, hF1, hM, hp, hd⟩
  have hr1 := hr0.frm hF1 (by simp)
  have hF : Frm [] w w1 := ((Frm.refl _ _).alloc _).trans hF1
  have hp1 : w.heap.size < p := by simp at hp; omega
  have hd1 : w.heap.size < d := by simp at hd; omega
  clear hmk hF1 hr0 hp hd
  have HR1 := Lib.hid hr1
  have HRL := Lib.hid hrl
  clear hr1 hrl
  go_wp2_with fail
  go_loopw [6, 7, 9, 10, 11, 12, 13, 34, 35, 36, 37, 38, 39, 40, 41, 42, 43, 44, 45, 46, 47, 48, 49, 50, 51, 52, 53, 54, 55, 56, 57, 58, 59, 60, 61, 62, 63, 64, 65, 66, 67, 68, 69, 70, 71, 72, 73, 74, 75, 76, 77, 78, 79, 80, 81, 82, 83, 84, 85] (fun z r _ _ _ _ _ i _ _ _ _ _ _ _ _ _ _ _ _ _ _ _ _ _ _ _ _ _ _ _ _ _ _ _ _ _ _ _ _ _ _ _ _ _ _ _ _ _ _ _ _ _ _ _ _ _ _ _ wr => ∃ (kk b o cc : Nat) (ws : List Int), kk ≤ xs.length ∧ z = .bool false ∧ i = .int .i64 kk ∧ ws.length = n ∧ r = .slice (some ⟨b, o, none⟩) n cc ∧ Rd wr (.slice (some ⟨b, o, none⟩) n cc) (u64s ws) ∧ b ≠ d ∧ MemAt wr p d c ws ∧ Frm [] w wr) (fun _ _ _ _ _ _ _ i _ _ _ _ _ _ _ _ _ _ _ _ _ _ _ _ _ _ _ _ _ _ _ _ _ _ _ _ _ _ _ _ _ _ _ _ _ _ _ _ _ _ _ _ _ _ _ _ _ _ _ _ => xs.length - (intOf i).toNat)
  case atStart => exact ⟨0, w.heap.size, 0, n, List.replicate n 0, Nat.zero_le _, rfl, rfl, HRL.out, rfl, HR1.out, by omega, hM, hF⟩
  case round =>
    obtain ⟨kk, b, o, cc, ws, hkk, rfl, rfl, hwl, rfl, hrd, hbd, hMr, hFr⟩ := hrel
    have HWL := Lib.hid hwl
    have HRD := Lib.hid hrd
    clear hwl hrd
    by_cases hlt : kk < xs.length
    · obtain ⟨x, hx⟩ : ∃ x, xs[kk]? = some x := ⟨_, List.getElem?_eq_getElem hlt⟩
      obtain ⟨ba, oa, rfl, hba, hcells⟩ := HACC.out (by omega)
      obtain ⟨c0, c1, c2, c3⟩ := (hcells kk x hx).frm hFr hba (by simp)
      clear hcells hx
      go_wp2_with fail
      refine (refdo_n HWL.out (by omega) (HRD.out.frm ((Frm.refl [] _).alloc _) (by simp)) (by omega) x).mono ?_
      rintro e w2 ⟨b', o', c', rfl, hF2, hrd2, hb2⟩
      have hx10 := hF2.heap (heap_alloc_new wr _) (by simp)
      have hM2 := (hMr.alloc _).frm hF2 (by simp) (by simp)
      have hF2' := (hFr.alloc _).trans hF2
      have hdl := hMr.dlt
      have hpl := hMr.plt
      have hd2 := hM2.dlt
      have hbd' : b' ≠ d := by simp at hb2; omega
      obtain ⟨x0, x1, x2, x3⟩ := cells4 hx10
      have hx10l := lt_of_heap hx10
      have hx10r : d < wr.heap.size ∧ p < wr.heap.size := ⟨hdl, hpl⟩
      generalize wr.heap.size = s10 at hx10 hx10l x0 x1 x2 x3 hx10r ⊢
      have HRD2 := Lib.hid hrd2
      have HX10 := Lib.hid hx10
      clear hF2 hrd2 hx10 hdl hpl hb2 hMr hFr c0 c1 c2 c3 HRD
      go_wp2_with fail
      · refine (step_true (does_mem (hM2.alloc _) x (mRes ws x) _) (by rw [HWL.out]; simp [accEq])).mono ?_
        rintro e w3 ⟨rfl, hF3, hM3⟩
        have hrd3 := (HRD2.out.frm ((Frm.refl [] _).alloc _) (by simp)).frm hF3 (by intro bb hbb; cases hbb; simpa using hbd')
        have hF3' : Frm [] w w3 := (hF2'.alloc _).trans_new hF3 (by simp; omega)
        have hlen3 : (mWs ws x).length = n := by rw [mWs_len, HWL.out]
        have hnn : ((n : Int) != n) = false := by simp
        have HL3 := Lib.hid hlen3
        clear hF3 hlen3 hM2 hF2' x0 x1 x2 x3
        go_wp2_with fail
        have hlm := len_mem hM3
        rw [HL3.out] at hlm
        refine hlm.mono ?_
        clear hlm
        rintro e w4 ⟨rfl, rfl⟩
        go_wp2_with fail
        refine (step_true (words_k (ys := mWs ws x) hM3 0 n (by omega) (by rw [HL3.out]; omega) hrd3 (by rw [HL3.out]; omega) 0) (by rw [List.drop_zero, List.take_of_length_le (by rw [HL3.out]; omega)]; simp)).mono ?_
        rintro e w5 ⟨rfl, hF5⟩
        have hM5 := hM3.frm hF5 (by simp) (by simp)
        have hrd5 := hrd3.frm hF5 (by simp)
        have hF5' := hF3'.trans hF5
        have HRD5 := Lib.hid hrd5
        clear hM3 hrd3 hF3' hF5 hrd5
        go_wp2
        go_roundw
        case rel => exact ⟨kk + 1, b', o', c', mWs ws x, by omega, rfl, by go_num, HL3.out, rfl, HRD5.out, hbd', hM5, hF5'⟩
        case measure => simp [intOf]; omega
      · refine (refkind_any _ _).mono ?_
        rintro e w3 ⟨rfl, rfl⟩
        by_cases hkb : kindB x.k = true
        · have HK := Lib.hid hkb
          go_wp2_with fail
          have hk1 : 1 ≤ x.k ∧ x.k ≤ 4 := by have := HK.out; unfold kindB at this; simpa using this
          refine (makes_mem (hM2.alloc _) x.k x.w x.b x.a hk1.1 hk1.2 _ _ _ _ _ rfl (by rw [HWL.out])).mono ?_
          clear hk1
          rintro e w3 ⟨rfl, hF3, hM3⟩
          have hM3 : MemAt w3 p d c (mWs ws x) := hM3
          have hrd3 := (HRD2.out.frm ((Frm.refl [] _).alloc _) (by simp)).frm hF3 (by intro bb hbb; cases hbb; simpa using hbd')
          have hF3' : Frm [] w w3 := (hF2'.alloc _).trans_new hF3 (by simp; omega)
          have hlen3 : (mWs ws x).length = n := by rw [mWs_len, HWL.out]
          have hnn : ((n : Int) != n) = false := by simp
          have HL3 := Lib.hid hlen3
          clear hF3 hlen3 hM2 hF2' x0 x1 x2 x3
          go_wp2_with fail
          have hlm := len_mem hM3
          rw [HL3.out] at hlm
          refine hlm.mono ?_
          clear hlm
          rintro e w4 ⟨rfl, rfl⟩
          go_wp2_with fail
          refine (step_true (words_k (ys := mWs ws x) hM3 0 n (by omega) (by rw [HL3.out]; omega) hrd3 (by rw [HL3.out]; omega) 0) (by rw [List.drop_zero, List.take_of_length_le (by rw [HL3.out]; omega)]; simp)).mono ?_
          rintro e w5 ⟨rfl, hF5⟩
          have hM5 := hM3.frm hF5 (by simp) (by simp)
          have hrd5 := hrd3.frm hF5 (by simp)
          have hF5' := hF3'.trans hF5
          have HRD5 := Lib.hid hrd5
          clear hM3 hrd3 hF3' hF5 hrd5
          go_wp2
          go_roundw
          case rel => exact ⟨kk + 1, b', o', c', mWs ws x, by omega, rfl, by go_num, HL3.out, rfl, HRD5.out, hbd', hM5, hF5'⟩
          case measure => simp [intOf]; omega
        · have hkb1 : kindB x.k = false := by simpa using hkb
          clear hkb
          go_wp2_with fail
          refine (step_true (does_mem (hM2.alloc _) x (mRes ws x) _) (by rw [HWL.out]; simp [accEq])).mono ?_
          rintro e w3 ⟨rfl, hF3, hM3⟩
          have hrd3 := (HRD2.out.frm ((Frm.refl [] _).alloc _) (by simp)).frm hF3 (by intro bb hbb; cases hbb; simpa using hbd')
          have hF3' : Frm [] w w3 := (hF2'.alloc _).trans_new hF3 (by simp; omega)
          have hlen3 : (mWs ws x).length = n := by rw [mWs_len, HWL.out]
          have hnn : ((n : Int) != n) = false := by simp
          have HL3 := Lib.hid hlen3
          clear hF3 hlen3 hM2 hF2' x0 x1 x2 x3
          go_wp2_with fail
          have hlm := len_mem hM3
          rw [HL3.out] at hlm
          refine hlm.mono ?_
          clear hlm
          rintro e w4 ⟨rfl, rfl⟩
          go_wp2_with fail
          refine (step_true (words_k (ys := mWs ws x) hM3 0 n (by omega) (by rw [HL3.out]; omega) hrd3 (by rw [HL3.out]; omega) 0) (by rw [List.drop_zero, List.take_of_length_le (by rw [HL3.out]; omega)]; simp)).mono ?_
          rintro e w5 ⟨rfl, hF5⟩
          have hM5 := hM3.frm hF5 (by simp) (by simp)
          have hrd5 := hrd3.frm hF5 (by simp)
          have hF5' := hF3'.trans hF5
          have HRD5 := Lib.hid hrd5
          clear hM3 hrd3 hF3' hF5 hrd5
          go_wp2
          go_roundw
          case rel => exact ⟨kk + 1, b', o', c', mWs ws x, by omega, rfl, by go_num, HL3.out, rfl, HRD5.out, hbd', hM5, hF5'⟩
          case measure => simp [intOf]; omega
    · obtain rfl : kk = xs.length := by omega
      go_wp2_with fail
      refine (known_true _).mono ?_
      rintro e w5 ⟨rfl, hF5⟩
      go_wp2
      go_ret
      exact ⟨rfl, (hFr.trans hF5).below (Nat.le_refl _) (by simp)⟩
end Go.Proofs.Ythmpmpjkkjjbbaa
