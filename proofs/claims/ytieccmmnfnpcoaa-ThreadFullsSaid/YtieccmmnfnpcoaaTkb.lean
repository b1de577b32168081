/- Stage 12: the law ThreadFulls. (By gen_tkb.py.) -/
import Derived.Test.YtieccmmnfnpcoaaTka
import Derived.Test.YtieccmmnfnpcoaaRw
import Derived.Deep.CutBlock
namespace Go.Proofs.Ytieccmmnfnpcoaa
open Go.ChangeShapes Go.WideShapes Go.ChangeAt Go.RowKit
set_option linter.unusedVariables false
set_option linter.unusedSimpArgs false
theorem u_inst : Try.prog.underlying 71 = some (.slice 74) := by kernel_rfl
theorem i_inst : (Try.prog.info? 74).map (fun i => (i.zero, i.size, i.bytes)) = some (some (.agg #[.int .i64 0, .int .i64 0, .int .i64 0, .int .u64 0]), 4, 32) := by kernel_rfl
theorem i_int0 : (Try.prog.info? 3).map (fun i => (i.zero, i.size, i.bytes)) = some (some (.int .i64 0), 1, 8) := by kernel_rfl
/-- make of so many instructions. -/
theorem make_inst (n : Nat) (h : n ≤ 1000000) (w : World) : (Instr.makeSlice 71 (.int .i64 n) (.int .i64 n)).run Try.prog w =
    .ok (.slice (some ⟨w.heap.size, 0, none⟩) n n) (w.alloc (.cells (madeCells ins0.cells.toArray (n * 4)) 74)) := by
  obtain ⟨i0, hi, hz0, hz1, hz2⟩ := info_parts i_inst
  have := run_make (P := Try.prog) w 71 74 i0 _ u_inst hi hz0 .i64 .i64 (n : Int) (n : Int) (by omega) (by omega) (by rw [hz2]; omega) (by omega)
  rw [this, hz1]
  simp only [Int.toNat_natCast]
  rfl
theorem gr_makei {B n : Nat} {w : World} (hB : B ≤ w.heap.size) : Gr 74 4 B (w.alloc (.cells (madeCells ins0.cells.toArray (n * 4)) 74)) (some ⟨w.heap.size, 0, none⟩) n n (fun _ => ins0.cells) := by
  refine ⟨fun i _ => rfl, Nat.le_refl _, .inr ⟨_, _, rfl, hB, heap_alloc_new _ _, by simp [madeCells], fun i hi j v hv => ?_⟩⟩
  have hj : j < 4 := by have := (List.getElem?_eq_some_iff.1 hv).1; exact this
  have hlt : i * 4 + j < n * 4 := by omega
  have hm : (i * 4 + j) % 4 = j := by omega
  unfold madeCells
  rw [Array.getElem?_map]
  simp only [Array.getElem?_range, hlt, if_true, Option.map_some]
  show some (ins0.cells.toArray[(i * 4 + j) % 4]!) = some v
  rw [hm]
  simp [hv]
def fuF (k j : Nat) : List Value := if j < k then fuI.cells else ins0.cells
theorem fuF_len (k j : Nat) : (fuF k j).length = 4 := by unfold fuF; split <;> rfl
theorem fuF_next (k j : Nat) : fuF (k + 1) j = upd (fuF k) k fuI.cells j := by
  unfold fuF upd
  by_cases e : j = k
  · subst e; simp
  · by_cases h : j < k
    · simp [e, h, show j < k + 1 by omega]
    · simp [e, h, show ¬ j < k + 1 by omega]
theorem gr_inl {B n g : Nat} {w : World} (h : Gr 74 4 B w (some ⟨g, 0, none⟩) n n (fuF n)) : InL w (some ⟨g, 0, none⟩) n n g 0 (fuL n) := by
  refine ⟨fuL_length n, fun _ => rfl, fun i x hx j v hv => ?_, Nat.le_refl _⟩
  have hi := (List.getElem?_eq_some_iff.1 hx).1
  rw [fuL_length] at hi
  rw [fuL_get hi] at hx
  cases hx
  obtain ⟨g', hg', _, _, _, hc⟩ := h.at_ hi
  cases hg'
  rw [Nat.zero_add]
  exact hc i hi j v (by unfold fuF; rw [if_pos hi]; exact hv)
theorem RunR.no {w w' : World} {F : List Nat} {q : Nat} {M : Md} {r : List Dd} {er : Int} (he : er ≠ 0) {e : Ending} (h : RunR w F q (M, r, er) e w') : Ret (.tuple #[.slice none 0 0, .int .i64 er]) (fun w' => Frm [] w w') e w' := by
  unfold RunR at h; rwa [if_neg he] at h
theorem RunR.yes {w w' : World} {F : List Nat} {q n : Nat} {M : Md} {r : List Dd} {e : Ending} (hn : r.length = n) (h : RunR w F q (M, r, 0) e w') : ∃ a c F', Ret (.tuple #[.slice a n c, .int .i64 0]) (fun w' => Go F w w' ∧ MAt w' F' q M) e w' := by
  subst hn
  unfold RunR at h
  rw [if_pos rfl] at h
  obtain ⟨a, c, F', h1, h2, h3, _⟩ := h
  exact ⟨a, c, F', h1, h2, h3⟩
set_option maxRecDepth 100000 in
set_option maxHeartbeats 12800000 in
theorem walk_ThreadFulls (x : Int) (hxw : (Lit.int .i64 x).wf = true) (y : Int) (hyw : (Lit.int .i64 y).wf = true) (z : Int) (hzw : (Lit.int .i64 z).wf = true) (w : World) :
    Calls Try.prog 5 #[.int .i64 x, .int .i64 y, .int .i64 z] w (Ret (.bool true) (fun w' => Below w.heap.size w w')) := by
  clear hxw hyw hzw
  by_cases hq0 : x < 62
  · have hb0 : decide (x < 62) = true := by simpa using hq0
    clear hq0
    go_enter Try.func5, Try.ntmps5
    go_wp2_with fail
    refine (known_true _).mono ?_
    rintro e99 w99 ⟨rfl, f99⟩
    go_wp2_with fail
    go_ret
    exact ⟨rfl, ((Frm.refl [] w).trans f99).below (Nat.le_refl _) (fun x hx => by simp at hx)⟩
  have hb0 : decide (x < 62) = false := by simpa using hq0
  by_cases hq1 : 66 < x
  · have hb1 : decide (66 < x) = true := by simpa using hq1
    clear hq1
    go_enter Try.func5, Try.ntmps5
    go_wp2_with fail
    refine (known_true _).mono ?_
    rintro e99 w99 ⟨rfl, f99⟩
    go_wp2_with fail
    go_ret
    exact ⟨rfl, ((Frm.refl [] w).trans f99).below (Nat.le_refl _) (fun x hx => by simp at hx)⟩
  have hb1 : decide (66 < x) = false := by simpa using hq1
  by_cases hq2 : y < 254
  · have hb2 : decide (y < 254) = true := by simpa using hq2
    clear hq2
    go_enter Try.func5, Try.ntmps5
    go_wp2_with fail
    refine (known_true _).mono ?_
    rintro e99 w99 ⟨rfl, f99⟩
    go_wp2_with fail
    go_ret
    exact ⟨rfl, ((Frm.refl [] w).trans f99).below (Nat.le_refl _) (fun x hx => by simp at hx)⟩
  have hb2 : decide (y < 254) = false := by simpa using hq2
  by_cases hq3 : 258 < y
  · have hb3 : decide (258 < y) = true := by simpa using hq3
    clear hq3
    go_enter Try.func5, Try.ntmps5
    go_wp2_with fail
    refine (known_true _).mono ?_
    rintro e99 w99 ⟨rfl, f99⟩
    go_wp2_with fail
    go_ret
    exact ⟨rfl, ((Frm.refl [] w).trans f99).below (Nat.le_refl _) (fun x hx => by simp at hx)⟩
  have hb3 : decide (258 < y) = false := by simpa using hq3
  by_cases hq4 : z < 99998
  · have hb4 : decide (z < 99998) = true := by simpa using hq4
    clear hq4
    go_enter Try.func5, Try.ntmps5
    go_wp2_with fail
    refine (known_true _).mono ?_
    rintro e99 w99 ⟨rfl, f99⟩
    go_wp2_with fail
    go_ret
    exact ⟨rfl, ((Frm.refl [] w).trans f99).below (Nat.le_refl _) (fun x hx => by simp at hx)⟩
  have hb4 : decide (z < 99998) = false := by simpa using hq4
  by_cases hq5 : 100002 < z
  · have hb5 : decide (100002 < z) = true := by simpa using hq5
    clear hq5
    go_enter Try.func5, Try.ntmps5
    go_wp2_with fail
    refine (known_true _).mono ?_
    rintro e99 w99 ⟨rfl, f99⟩
    go_wp2_with fail
    go_ret
    exact ⟨rfl, ((Frm.refl [] w).trans f99).below (Nat.le_refl _) (fun x hx => by simp at hx)⟩
  have hb5 : decide (100002 < z) = false := by simpa using hq5
  obtain ⟨t, rfl⟩ : ∃ t : Nat, x = t := ⟨x.toNat, by omega⟩
  obtain ⟨m, rfl⟩ : ∃ m : Nat, y = m := ⟨y.toNat, by omega⟩
  obtain ⟨p, rfl⟩ : ∃ p : Nat, z = p := ⟨z.toNat, by omega⟩
  have HT := Lib.hid (show 62 ≤ t ∧ t ≤ 66 by omega)
  have HM := Lib.hid (show 254 ≤ m ∧ m ≤ 258 by omega)
  have HP := Lib.hid (show 99998 ≤ p ∧ p ≤ 100002 by omega)
  have ht2 : (t : Int) ≤ 66 := by omega
  have hm2 : (m : Int) ≤ 258 := by omega
  have hp2 : (p : Int) ≤ 100002 := by omega
  clear hq0 hq1 hq2 hq3 hq4 hq5
  have hmk := make_inst m (by have := HM.out; omega) w
  obtain ⟨g, hg, hG0⟩ : ∃ g, w.heap.size = g ∧ Gr 74 4 w.heap.size (w.alloc (.cells (madeCells ins0.cells.toArray (m * 4)) 74)) (some ⟨g, 0, none⟩) m m (fun _ => ins0.cells) := ⟨_, rfl, gr_makei (Nat.le_refl _)⟩
  rw [hg] at hmk
  have HGE := Lib.hid (show w.heap.size ≤ g by omega)
  have HG0 := Lib.hid hG0
  have HF0 := Lib.hid ((Frm.refl [] w).alloc (.cells (madeCells ins0.cells.toArray (m * 4)) 74))
  clear hg hG0
  generalize w.alloc (.cells (madeCells ins0.cells.toArray (m * 4)) 74) = w1 at *
  go_enter Try.func5, Try.ntmps5
  go_upto_region 4 with fail
  clear hmk
  go_wp2_with fail
  go_loopw [46] (fun i wr => ∃ k : Nat, k ≤ m ∧ i = .int .i64 k ∧ Frm [] w wr ∧ Gr 74 4 w.heap.size wr (some ⟨g, 0, none⟩) m m (fuF k)) (fun i _ => m - (intOf i).toNat)
  case atStart => exact ⟨0, Nat.zero_le _, rfl, HF0.out, HG0.out.congr fun j hj => by simp [fuF]⟩
  case round =>
    obtain ⟨k, hk, rfl, hF, hG⟩ := hrel
    by_cases hlt : k < m
    · have HF := Lib.hid hF
      have HG := Lib.hid hG
      have HLT := Lib.hid hlt
      clear hF hG
      go_wp2_with fail
      refine (instr_any _ _ _ _ _).mono ?_
      rintro e w2 ⟨rfl, f2⟩
      have hF := HF.out.trans f2
      have hG := HG.out.frm0 f2
      have hix := ix_gr (c := m) (g := g) u_inst i_inst hlt
      obtain ⟨g', hg', _, hgl, hfz, hcell⟩ := hG.at_ hlt
      cases hg'
      have hc := hcell k hlt
      rw [show fuF k k = ins0.cells from if_neg (Nat.lt_irrefl k)] at hc
      have hc0 : w2.cell? ⟨g, k * 4, none⟩ = some (.int .i64 0) := hc 0 _ rfl
      have hc1 : w2.cell? ⟨g, k * 4 + 1, none⟩ = some (.int .i64 0) := hc 1 _ rfl
      have hc2 : w2.cell? ⟨g, k * 4 + 2, none⟩ = some (.int .i64 0) := hc 2 _ rfl
      have hc3 : w2.cell? ⟨g, k * 4 + 3, none⟩ = some (.int .u64 0) := hc 3 _ rfl
      have HPUT := Lib.hid (hG.put (i := k) rfl hlt (l := fuI.cells) rfl)
      have HFS := Lib.hid (Frm.setCells (D := []) (a := w) (b := g) (.inr HGE.out) fuI.cells (k * 4) w2 hF)
      clear hF hG hgl hcell hc f2 HF HG
      go_wp2_with fail
      go_roundw
      case rel =>
        refine ⟨k + 1, by omega, by go_num, HFS.out, ?_⟩
        exact HPUT.out.congr fun j hj => fuF_next k j
      case measure => simp [intOf]; omega
    · have hkn : k = m := by omega
      subst hkn
      have HI := Lib.hid (gr_inl hG)
      have HF := Lib.hid hF
      clear hG hF
      obtain ⟨wy, rfl⟩ : ∃ wy, wy = wr := ⟨_, rfl⟩
      by_cases hbig : 256 < k
      · have hbb : decide ((256 : Int) < (k : Int)) = true := by simp; omega
        have HB := Lib.hid (newcode_bad HI.out (fu_no hbig) (by have := HM.out; omega))
        clear hbig
        go_wp2_with fail
        refine HB.out.mono ?_
        rintro e w2 ⟨rfl, f2⟩
        have F2 := HF.out.trans f2
        go_wp2_with fail
        refine (known_true _).mono ?_
        rintro e99 w99 ⟨rfl, f99⟩
        go_wp2_with fail
        go_ret
        exact ⟨rfl, (F2.trans f99).below (Nat.le_refl _) (fun x hx => by simp at hx)⟩
      · have hbb : decide ((256 : Int) < (k : Int)) = false := by simp; omega
        have HN := Lib.hid (newcode_ok HI.out (fu_ok (by have := HM.out; omega) (by omega)))
        have HK := Lib.hid (show k ≤ 256 by omega)
        clear hbig
        go_wp2_with fail
        refine HN.out.mono ?_
        rintro e w2 ⟨qc, bc, cc, rfl, f2, hC, hqc, hbc⟩
        have HF2 := Lib.hid (HF.out.trans f2)
        have HC := Lib.hid hC.prog
        have HQ2 := Lib.hid (show qc < w2.heap.size from lt_of_heap hC.obj)
        clear hC f2 hqc hbc
        go_wp2_with fail
        have hrd : Rd (w2.alloc (.cells #[.int .u64 0] 28)) (.slice (some ⟨w2.heap.size, 0, none⟩) 1 1) (u64s [0]) :=
          .inr ⟨w2.heap.size, 0, 1, rfl, by simp [u64s], by simp, fun i u hu => by rw [Nat.zero_add, cell_of_heap (heap_alloc_new _ _)]; simpa [u64s] using hu⟩
        refine (arena_any hrd (by simp) (by simp)).mono ?_
        rintro e w3 ⟨pm, dm, cm, rfl, f3, hM3, hp3, hd3⟩
        have HM3 := Lib.hid (mat_New hM3)
        have HF3 := Lib.hid ((HF2.out.alloc (.cells #[.int .u64 0] 28)).trans f3)
        have HC3 := Lib.hid (HC.out.goes (G := []) (Go.of (((Frm.refl [] w2).alloc (.cells #[.int .u64 0] 28)).trans f3)) (by simp))
        have HQ3 := Lib.hid (show qc < w3.heap.size from by have := (((Frm.refl [] w2).alloc (.cells #[.int .u64 0] 28)).trans f3).size; have := HQ2.out; omega)
        clear hrd f3 hM3 hp3 hd3
        go_wp2_with fail
        refine HM3.out.mono ?_
        rintro e w4 ⟨q, F, rfl, f4, hM4, hn4⟩
        have HF4 := Lib.hid (HF3.out.trans f4)
        have HM4 := Lib.hid hM4
        have HC4 := Lib.hid (HC3.out.goes (G := []) (Go.of f4) (by simp))
        have hs3 := HF3.out.size
        have HN4 := Lib.hid (show ∀ x ∈ F, w.heap.size ≤ x from fun x hx => by have := hn4 x hx; omega)
        have HQ4 := Lib.hid (show qc < w4.heap.size from by have := f4.size; have := HQ3.out; omega)
        have HQF := Lib.hid (show qc ∉ F from fun h => by have := hn4 _ h; have := HQ3.out; omega)
        clear f4 hM4 hn4 hs3
        go_wp2_with fail
        have HRELS := Lib.hid (show PgAt w4 false qc [qc] (fuP k 0) from HC4.out)
        go_loopw [13] (fun i wr => ∃ (j : Nat) (F : List Nat), j ≤ t ∧ i = .int .i64 j ∧ Frm [] w wr ∧ MAt wr F q (fuM k (min j 64)) ∧ PgAt wr false qc [qc] (fuP k 0) ∧ (∀ x ∈ F, w.heap.size ≤ x) ∧ qc ∉ F ∧ qc < wr.heap.size) (fun i _ => t - (intOf i).toNat)
        case atStart => exact ⟨0, F, Nat.zero_le _, rfl, HF4.out, HM4.out, HRELS.out, HN4.out, HQF.out, HQ4.out⟩
        case round =>
          clear HM4 HC4 HN4 HQ4 HQF HRELS HF4 HM3 HC3 HF3 HQ3 HC HQ2
          obtain ⟨j, F, hj, rfl, hF, hM, hP, hN, hq, hql⟩ := hrel
          have HF := Lib.hid hF
          have HM' := Lib.hid hM
          have HP' := Lib.hid hP
          have HN' := Lib.hid hN
          have HQ := Lib.hid hq
          have HQL := Lib.hid hql
          clear hF hN hq hql
          by_cases hlt : j < t
          · by_cases h64 : j < 64
            · have hb7 : decide ((64 : Int) ≤ (j : Int)) = false := by simp; omega
              have hl : (fuM k (min j 64)).ts.length = j := by unfold fuM; simp; omega
              have hA := mat_Add hM (by rw [hl]; exact h64) hP
              rw [hl] at hA
              have HA := Lib.hid hA
              have HLT := Lib.hid hlt
              have H64 := Lib.hid h64
              clear hA hM hP hl h64
              go_wp2_with fail
              refine HA.out.mono ?_
              rintro e w5 ⟨F', rfl, hg5, hM5, hn5⟩
              have HM5 := Lib.hid (show MAt w5 F' q (fuM k (min (j + 1) 64)) from by rw [show min (j + 1) 64 = min j 64 + 1 from by have := H64.out; omega, ← fuM_next]; exact hM5)
              have HP5 := Lib.hid (HP'.out.goes hg5 (fun x hx => by simp at hx; subst hx; exact HQ.out))
              obtain ⟨D, hD, hDF⟩ := hg5
              have HF5 := Lib.hid (HF.out.trans_new hD (fun x hx => .inr (HN'.out x (hDF x hx).1)))
              have HN5 := Lib.hid (show ∀ x ∈ F', w.heap.size ≤ x from fun x hx => (hn5 x hx).elim (HN'.out x) (fun h => by have := HF.out.size; omega))
              have HQ5 := Lib.hid (show qc ∉ F' from fun h => (hn5 _ h).elim HQ.out (fun h => by have := HQL.out; omega))
              have HQL5 := Lib.hid (show qc < w5.heap.size from by have := hD.size; have := HQL.out; omega)
              clear hM5 hn5 hD hDF HA
              go_wp2_with fail
              go_roundw
              case rel => exact ⟨j + 1, F', by omega, by go_num, HF5.out, HM5.out, HP5.out, HN5.out, HQ5.out, HQL5.out⟩
              case measure => simp [intOf]; omega
            · have hb7 : decide ((64 : Int) ≤ (j : Int)) = true := by simp; omega
              have hl : (fuM k (min j 64)).ts.length = 64 := by unfold fuM; simp; omega
              have HA := Lib.hid (mat_Add_full hM hl hP)
              have HMM := Lib.hid (show min (j + 1) 64 = min j 64 by omega)
              have HLT := Lib.hid hlt
              clear hM hP hl h64
              go_wp2_with fail
              refine HA.out.mono ?_
              rintro e w5 ⟨rfl, f5⟩
              have HM5 := Lib.hid (HM'.out.quiet f5)
              have HP5 := Lib.hid (HP'.out.goes (G := []) (Go.of f5) (by simp))
              have HF5 := Lib.hid (HF.out.trans f5)
              have HQL5 := Lib.hid (show qc < w5.heap.size from by have := f5.size; have := HQL.out; omega)
              clear f5 HA
              go_wp2_with fail
              go_roundw
              case rel => exact ⟨j + 1, F, by omega, by go_num, HF5.out, by rw [HMM.out]; exact HM5.out, HP5.out, HN'.out, HQ.out, HQL5.out⟩
              case measure => simp [intOf]; omega
          · have hjt : j = t := by omega
            subst hjt
            have hmk2 := run_mk (k := .i64) Try.underlying82 i_int0 (by decide) p (by have := HP.out; omega) wr
            have HLI := Lib.hid (li_new (k := .i64) (t := 3) (w := wr.alloc (.cells (ns .i64 (List.replicate p 0)).toArray 3)) (n := p) (l := List.replicate p 0) (by simp) (heap_alloc_new _ _))
            have HM6 := Lib.hid (hM.quiet ((Frm.refl [] wr).alloc (.cells (ns .i64 (List.replicate p 0)).toArray 3)))
            have hR := mat_Run HM6.out (fuM_few _ _) HLI.out (by have := HP.out; omega) (by decide) (fun _ => by simp)
            have HF6 := Lib.hid (HF.out.alloc (.cells (ns .i64 (List.replicate p 0)).toArray 3))
            have HS0 := Lib.hid (show (fuM k (min j 64)).steps 0 = 0 from by rw [show min j 64 = (min j 64 - 2) + 2 from by have := HT.out; omega]; rfl)
            clear hM hP
            by_cases hpp : 100000 < p
            · have hb8 : decide ((100000 : Int) < (p : Int)) = true := by simp; omega
              rw [fuM_run2 hpp] at hR
              have HR := Lib.hid (hR.mono fun e w' h => RunR.no (by decide) h)
              clear hR hpp
              go_wp2_with fail
              refine HR.out.mono ?_
              rintro e w7 ⟨rfl, f7⟩
              have hS := mat_Steps (HM6.out.quiet f7) 0
              rw [HS0.out] at hS
              have HS := Lib.hid hS
              have HF7 := Lib.hid (HF6.out.trans f7)
              clear hS f7
              go_wp2_with fail
              refine HS.out.mono ?_
              rintro e w8 ⟨rfl, rfl⟩
              go_wp2_with fail
              refine (known_true _).mono ?_
              rintro e99 w99 ⟨rfl, f99⟩
              go_wp2_with fail
              go_ret
              exact ⟨rfl, (HF7.out.trans f99).below (Nat.le_refl _) (fun x hx => by simp at hx)⟩
            · have hb8 : decide ((100000 : Int) < (p : Int)) = false := by simp; omega
              obtain ⟨l', h1, h2⟩ := fuM_run (m := k) (k := min j 64 - 2) (p := p) (by have := HM.out; omega) (by have := HM.out; omega) (by have := HM.out; have := HP.out; omega) (by omega)
              rw [show (min j 64 - 2) + 2 = min j 64 from by have := HT.out; omega] at h2
              rw [h2] at hR
              have HR := Lib.hid (hR.mono fun e w' h => RunR.yes h1 h)
              generalize min j 64 - 2 = r at *
              clear hR hpp h1 h2
              go_wp2_with fail
              refine HR.out.mono ?_
              rintro e w7 ⟨a7, c7, F7, rfl, hg7, hM7⟩
              obtain ⟨D, hD, hDF⟩ := hg7
              have HF7 := Lib.hid (HF6.out.trans_new hD (fun x hx => .inr (HN'.out x (hDF x hx).1)))
              have HD0 := Lib.hid (show Calls _ _ _ _ (Ret (.bool true) _) from mat_Done hM7 0)
              have HM7 := Lib.hid hM7
              clear hM7 hD hDF HR
              go_wp2_with fail
              refine HD0.out.mono ?_
              rintro e w8 ⟨rfl, f8⟩
              have HF8 := Lib.hid (HF7.out.trans f8)
              have HM8 := Lib.hid (HM7.out.quiet f8)
              have HR8 := Lib.hid (show Calls _ _ _ _ (Ret (.int .u64 (k : Int)) _) from mat_Result HM8.out 0)
              clear f8
              go_wp2_with fail
              refine HR8.out.mono ?_
              rintro e w9 ⟨rfl, f9⟩
              have HF9 := Lib.hid (HF8.out.trans f9)
              have HM9 := Lib.hid (HM8.out.quiet f9)
              have HS9 := Lib.hid (show Calls _ _ _ _ (Ret (.int .i64 (k : Int)) _) from mat_Steps HM9.out 0)
              have HD9 := Lib.hid (show Calls _ _ _ _ (Ret (.bool false) _) from mat_Done HM9.out 1)
              clear f9
              go_wp2_with fail
              refine HS9.out.mono ?_
              rintro e w10 ⟨rfl, rfl⟩
              go_wp2_with fail
              refine HD9.out.mono ?_
              rintro e w11 ⟨rfl, f11⟩
              have HF11 := Lib.hid (HF9.out.trans f11)
              clear f11
              go_wp2_with fail
              refine (known_true _).mono ?_
              rintro e99 w99 ⟨rfl, f99⟩
              go_wp2_with fail
              go_ret
              exact ⟨rfl, (HF11.out.trans f99).below (Nat.le_refl _) (fun x hx => by simp at hx)⟩
end Go.Proofs.Ytieccmmnfnpcoaa
