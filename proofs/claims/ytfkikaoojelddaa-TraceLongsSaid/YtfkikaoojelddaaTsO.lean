/- Stage 13: the law TraceLongs. (By gen_tso.py.) -/
import Derived.Test.YtfkikaoojelddaaTrZ
import Derived.Deep.MidRow
namespace Go.Proofs.Ytfkikaoojelddaa
open Go.ChangeShapes Go.WideShapes Go.ChangeAt Go.RowKit
set_option linter.unusedVariables false
set_option linter.unusedSimpArgs false
def lgD (i : Nat) : Dd := ⟨(i : Int) % 2, ⟨1, (i : Int) % 2, 0, 0⟩, true, false⟩
def lgL (n : Nat) : List Dd := (List.range n).map lgD
theorem lgL_length (n : Nat) : (lgL n).length = n := by unfold lgL; simp
theorem lgL_get {n k : Nat} (h : k < n) : (lgL n)[k]? = some (lgD k) := by unfold lgL; simp [h]
theorem lg_mod (i : Nat) : (i : Int) % 2 = 0 ∨ (i : Int) % 2 = 1 := by omega
theorem lgD_may (i : Nat) : may (lgD i) = true := by
  unfold may isTh isAc isWd lgD
  rcases lg_mod i with h | h <;> simp [h]
theorem lgD_ok (i : Nat) : DdOk (lgD i) := by
  have hw : ∀ y : Int, 0 ≤ y → y < 100 → (Lit.int .i64 y).wf = true := fun y a b => WalkArith.wf_i64 (by omega)
  have hu : ∀ y : Int, 0 ≤ y → y < 100 → (Lit.int .u64 y).wf = true := fun y a b => by
    have e1 : IntKind.u64.min = 0 := by decide
    have e2 : IntKind.u64.max = 18446744073709551615 := by decide
    simp only [Lit.wf, Bool.and_eq_true, decide_eq_true_eq]
    rw [e1, e2]
    omega
  exact ⟨hw ((i : Int) % 2) (by omega) (by omega), hw 1 (by decide) (by decide), hw ((i : Int) % 2) (by omega) (by omega), hu 0 (by decide) (by decide), hu 0 (by decide) (by decide)⟩
theorem lgL_mem {n : Nat} {d : Dd} (h : d ∈ lgL n) : ∃ j, d = lgD j := by
  unfold lgL at h
  obtain ⟨j, hj, rfl⟩ := List.mem_map.1 h
  exact ⟨j, rfl⟩
theorem lgL_vldT (n : Nat) : vldT (lgL n) = true := by
  refine vldT_iff.2 fun k hk => ?_
  unfold okAt
  cases hd : (lgL n)[k]? with
  | none => rfl
  | some d =>
    obtain ⟨j, rfl⟩ := lgL_mem (List.mem_of_getElem? hd)
    have h2 : endd ((lgL n).take k) (lgD j).i = false := by
      unfold endd
      rw [List.any_eq_false]
      intro e he
      obtain ⟨i, rfl⟩ := lgL_mem (List.mem_of_mem_take he)
      simp [lgD]
    simp only [lgD_may, h2, Bool.not_false, Bool.and_self]
theorem lg_wro (n : Nat) : wro (lgL n) = if 100000 < n then 5 else 0 := by
  unfold wro; rw [lgL_length, lgL_vldT]; simp
theorem lg_rdo {m : Nat} (hm : 2 ≤ m) : ∀ (l : List Dd) (i : Nat), (∀ d ∈ l, ∃ j, d = lgD j) → rdo (List.replicate m 0) i l = (List.replicate m 0, none)
  | [], i, _ => rfl
  | d :: r, i, h => by
    obtain ⟨j, rfl⟩ := h _ (List.mem_cons_self ..)
    have hk : ¬ (lgD j).a.k = 0 := by simp [lgD]
    have hg : ∀ k : Nat, (List.replicate m (0 : Int)).getD k 0 = 0 := fun k => by
      rw [List.getD_eq_getElem?_getD, List.getElem?_replicate]
      split <;> rfl
    have hn : nofit (List.replicate m 0) (lgD j) = false := by
      unfold nofit
      rw [hg]
      have : ¬ ((List.replicate m (0 : Int)).length : Int) ≤ (lgD j).a.w := by
        rw [List.length_replicate]
        show ¬ (m : Int) ≤ (j : Int) % 2
        omega
      simp only [decide_eq_false this, Bool.false_or]
      rfl
    have hs : (List.replicate m (0 : Int)).set (lgD j).a.w.toNat (lgD j).a.a = List.replicate m 0 := by
      show (List.replicate m (0 : Int)).set _ 0 = _
      apply List.ext_getElem?
      intro q
      rw [List.getElem?_set]
      split
      · rename_i e
        subst e
        split
        · rename_i hlt
          rw [List.length_replicate] at hlt
          rw [List.getElem?_replicate, if_pos hlt]
        · rename_i hlt
          rw [List.length_replicate] at hlt
          rw [List.getElem?_replicate, if_neg hlt]
      · rfl
    unfold rdo
    rw [if_neg hk, hn, hs]
    simp only [Bool.false_eq_true, if_false]
    exact lg_rdo hm r (i + 1) (fun d hd => h d (List.mem_cons_of_mem _ hd))
def lgE : List (Wd × Bool) := [(⟨0, 0, 0, -1, -1⟩, true), (⟨1, 1, 1, -1, -1⟩, true)]
theorem lg_estep (k : Nat) : estep k lgE (lgD k) = lgE := by
  unfold estep lgE
  rcases lg_mod k with e | e <;> simp [ext, lgD, e, atW, waw, chW, chg, hasO]
theorem lg_eag {n : Nat} : ∀ j, j + 2 ≤ n → eag (lgL n) (j + 2) = lgE
  | 0, h => by
    show (match (lgL n)[1]? with | some d => estep 1 (match (lgL n)[0]? with | some d => estep 0 [] d | none => []) d | none => _) = _
    rw [lgL_get (show 1 < n by omega), lgL_get (show 0 < n by omega)]
    show estep 1 (estep 0 [] (lgD 0)) (lgD 1) = lgE
    simp [estep, lgE, ext, lgD, atW, waw, chW, chg, hasO]
  | j + 1, h => by
    show (match (lgL n)[j + 2]? with | some d => estep (j + 2) (eag (lgL n) (j + 2)) d | none => eag (lgL n) (j + 2)) = _
    rw [lgL_get (show j + 2 < n by omega), lg_eag j (by omega)]
    exact lg_estep (j + 2)
theorem lg_wts {n : Nat} (h : 2 ≤ n) : wts (lgL n) = [⟨0, 0, 0, -1, -1⟩, ⟨1, 1, 1, -1, -1⟩] := by
  obtain ⟨j, rfl⟩ : ∃ j, n = j + 2 := ⟨n - 2, by omega⟩
  unfold wts
  rw [lgL_length, lg_eag j (Nat.le_refl _)]
  rfl
/-- make of so many things. -/
theorem make_did (n : Nat) (h : n ≤ 1000000) (w : World) : (Instr.makeSlice 22 (.int .i64 n) (.int .i64 n)).run Try.prog w =
    .ok (.slice (some ⟨w.heap.size, 0, none⟩) n n) (w.alloc (.cells (madeCells dd0.cells.toArray (n * 7)) 40)) := by
  obtain ⟨i0, hi, hz0, hz1, hz2⟩ := info_parts i_did
  have := run_make (P := Try.prog) w 22 40 i0 _ u_did hi hz0 .i64 .i64 (n : Int) (n : Int) (by omega) (by omega) (by rw [hz2]; omega) (by omega)
  rw [this, hz1]
  simp only [Int.toNat_natCast]
  rfl
theorem gr_make {B n : Nat} {w : World} (hB : B ≤ w.heap.size) : Gr 40 7 B (w.alloc (.cells (madeCells dd0.cells.toArray (n * 7)) 40)) (some ⟨w.heap.size, 0, none⟩) n n (fun _ => dd0.cells) := by
  refine ⟨fun i _ => rfl, Nat.le_refl _, .inr ⟨_, _, rfl, hB, heap_alloc_new _ _, by simp [madeCells], fun i hi j v hv => ?_⟩⟩
  have hj : j < 7 := by have := (List.getElem?_eq_some_iff.1 hv).1; exact this
  have hlt : i * 7 + j < n * 7 := by omega
  have hm : (i * 7 + j) % 7 = j := by omega
  unfold madeCells
  rw [Array.getElem?_map]
  simp only [Array.getElem?_range, hlt, if_true, Option.map_some]
  show some (dd0.cells.toArray[(i * 7 + j) % 7]!) = some v
  rw [hm]
  have := hv
  simp [hv]
def lgF (k j : Nat) : List Value := if j < k then (lgD j).cells else dd0.cells
theorem lgF_len (k j : Nat) : (lgF k j).length = 7 := by unfold lgF; split <;> rfl
theorem lgF_next (k j : Nat) : lgF (k + 1) j = upd (lgF k) k (lgD k).cells j := by
  unfold lgF upd
  by_cases e : j = k
  · subst e; simp
  · by_cases h : j < k
    · simp [e, h, show j < k + 1 by omega]
    · simp [e, h, show ¬ j < k + 1 by omega]
theorem lgF_all {n j : Nat} (h : j < n) : ddF (lgL n) j = lgF n j := by
  unfold ddF lgF
  rw [List.getD_eq_getElem?_getD, lgL_get h, if_pos h]; rfl
theorem dl_none (w : World) : DL w none 0 0 0 0 [] := ⟨rfl, fun h => by omega, fun j v hv => by simp [ddsC] at hv, Nat.le_refl _, fun _ => rfl⟩
theorem gr_two (X : World) : Gr 52 5 0 (X.alloc (.cells #[.int .i64 0, .int .i64 0, .int .i64 0, .int .i64 (-1), .int .i64 (-1), .int .i64 1, .int .i64 1, .int .i64 1, .int .i64 (-1), .int .i64 (-1)] 52)) (some ⟨X.heap.size, 0, none⟩) 2 2 (wdF [⟨0, 0, 0, -1, -1⟩, ⟨1, 1, 1, -1, -1⟩]) := by
  refine ⟨fun i hi => ?_, Nat.le_refl _, .inr ⟨_, _, rfl, Nat.zero_le _, heap_alloc_new _ _, by decide, fun i hi j v hv => ?_⟩⟩
  · rcases i with _ | _ | i
    · rfl
    · rfl
    · omega
  · rcases i with _ | _ | i
    · rcases j with _ | _ | _ | _ | _ | j <;> first | exact hv | (exfalso; have := (List.getElem?_eq_some_iff.1 hv).1; simp [wdF, Wd.cells] at this; omega)
    · rcases j with _ | _ | _ | _ | _ | j <;> first | exact hv | (exfalso; have := (List.getElem?_eq_some_iff.1 hv).1; simp [wdF, Wd.cells] at this; omega)
    · omega
set_option maxRecDepth 100000 in
set_option maxHeartbeats 12800000 in
theorem walk_TraceLongs (x : Int) (hxw : (Lit.int .i64 x).wf = true) (y : Int) (hyw : (Lit.int .i64 y).wf = true) (w : World) :
    Calls Try.prog 6 #[.int .i64 x, .int .i64 y] w (Ret (.bool true) (fun w' => Below w.heap.size w w')) := by
  clear hxw hyw
  by_cases hq0 : x < 99998
  · have hb0 : decide (x < 99998) = true := by simpa using hq0
    clear hq0
    go_enter Try.func6, Try.ntmps6
    go_wp2_with fail
    refine (known_true _).mono ?_
    rintro e9 w9 ⟨rfl, f9⟩
    go_wp2_with fail
    go_ret
    exact ⟨rfl, ((Frm.refl [] w).trans f9).below (Nat.le_refl _) (fun x hx => by simp at hx)⟩
  have hb0 : decide (x < 99998) = false := by simpa using hq0
  by_cases hq1 : 100002 < x
  · have hb1 : decide (100002 < x) = true := by simpa using hq1
    clear hq1
    go_enter Try.func6, Try.ntmps6
    go_wp2_with fail
    refine (known_true _).mono ?_
    rintro e9 w9 ⟨rfl, f9⟩
    go_wp2_with fail
    go_ret
    exact ⟨rfl, ((Frm.refl [] w).trans f9).below (Nat.le_refl _) (fun x hx => by simp at hx)⟩
  have hb1 : decide (100002 < x) = false := by simpa using hq1
  by_cases hq2 : y < 65534
  · have hb2 : decide (y < 65534) = true := by simpa using hq2
    clear hq2
    go_enter Try.func6, Try.ntmps6
    go_wp2_with fail
    refine (known_true _).mono ?_
    rintro e9 w9 ⟨rfl, f9⟩
    go_wp2_with fail
    go_ret
    exact ⟨rfl, ((Frm.refl [] w).trans f9).below (Nat.le_refl _) (fun x hx => by simp at hx)⟩
  have hb2 : decide (y < 65534) = false := by simpa using hq2
  by_cases hq3 : 65538 < y
  · have hb3 : decide (65538 < y) = true := by simpa using hq3
    clear hq3
    go_enter Try.func6, Try.ntmps6
    go_wp2_with fail
    refine (known_true _).mono ?_
    rintro e9 w9 ⟨rfl, f9⟩
    go_wp2_with fail
    go_ret
    exact ⟨rfl, ((Frm.refl [] w).trans f9).below (Nat.le_refl _) (fun x hx => by simp at hx)⟩
  have hb3 : decide (65538 < y) = false := by simpa using hq3
  obtain ⟨n, rfl⟩ : ∃ n : Nat, x = n := ⟨x.toNat, by omega⟩
  obtain ⟨m, rfl⟩ : ∃ m : Nat, y = m := ⟨y.toNat, by omega⟩
  have HN := Lib.hid (show 99998 ≤ n ∧ n ≤ 100002 by omega)
  have HM := Lib.hid (show 65534 ≤ m ∧ m ≤ 65538 by omega)
  have hn2 : (n : Int) ≤ 100002 := by omega
  have hm2 : (m : Int) ≤ 65538 := by omega
  clear hq0 hq1 hq2 hq3
  have hmk := make_did n (by have := HN.out; omega) w
  obtain ⟨g, hg, hG0⟩ : ∃ g, w.heap.size = g ∧ Gr 40 7 w.heap.size (w.alloc (.cells (madeCells dd0.cells.toArray (n * 7)) 40)) (some ⟨g, 0, none⟩) n n (fun _ => dd0.cells) := ⟨_, rfl, gr_make (Nat.le_refl _)⟩
  rw [hg] at hmk
  have HGE := Lib.hid (show w.heap.size ≤ g by omega)
  have HG0 := Lib.hid hG0
  have HF0 := Lib.hid ((Frm.refl [] w).alloc (.cells (madeCells dd0.cells.toArray (n * 7)) 40))
  clear hg hG0
  generalize w.alloc (.cells (madeCells dd0.cells.toArray (n * 7)) 40) = w1 at *
  go_enter Try.func6, Try.ntmps6
  go_upto_region 4 with fail
  clear hmk
  go_wp2_with fail
  go_loopw [27] (fun i wr => ∃ k : Nat, k ≤ n ∧ i = .int .i64 k ∧ Frm [] w wr ∧ Gr 40 7 w.heap.size wr (some ⟨g, 0, none⟩) n n (lgF k)) (fun i _ => n - (intOf i).toNat)
  case atStart => exact ⟨0, Nat.zero_le _, rfl, HF0.out, HG0.out.congr fun j hj => by simp [lgF]⟩
  case round =>
    obtain ⟨k, hk, rfl, hF, hG⟩ := hrel
    by_cases hlt : k < n
    · have hix := ix_gr (c := n) (g := g) u_did i_did hlt
      obtain ⟨g', hg', _, hgl, hfz, hcell⟩ := hG.at_ hlt
      cases hg'
      have hc := hcell k hlt
      rw [show lgF k k = dd0.cells from if_neg (Nat.lt_irrefl k)] at hc
      have hc0 : wr.cell? ⟨g, k * 7, none⟩ = some (.int .i64 0) := hc 0 _ rfl
      have hc1 : wr.cell? ⟨g, k * 7 + 1, none⟩ = some (.int .i64 0) := hc 1 _ rfl
      have hc2 : wr.cell? ⟨g, k * 7 + 2, none⟩ = some (.int .i64 0) := hc 2 _ rfl
      have hc3 : wr.cell? ⟨g, k * 7 + 3, none⟩ = some (.int .u64 0) := hc 3 _ rfl
      have hc4 : wr.cell? ⟨g, k * 7 + 4, none⟩ = some (.int .u64 0) := hc 4 _ rfl
      have hc5 : wr.cell? ⟨g, k * 7 + 5, none⟩ = some (.bool false) := hc 5 _ rfl
      have hc6 : wr.cell? ⟨g, k * 7 + 6, none⟩ = some (.bool false) := hc 6 _ rfl
      have HF := Lib.hid hF
      have HG := Lib.hid hG
      have HLT := Lib.hid hlt
      have HPUT := Lib.hid (hG.put (i := k) rfl hlt (l := [.int .i64 ((k : Int) % 2), .int .i64 1, .int .i64 ((k : Int) % 2), .int .u64 0, .int .u64 0, .bool true, .bool false]) rfl)
      have HFS := Lib.hid (Frm.setCells (D := []) (a := w) (b := g) (.inr HGE.out) [.int .i64 ((k : Int) % 2), .int .i64 1, .int .i64 ((k : Int) % 2), .int .u64 0, .int .u64 0, .bool true, .bool false] (k * 7) wr hF)
      have hk0 : 0 ≤ (k : Int) := by omega
      clear hF hG hgl hcell hc
      go_wp2_with fail
      go_roundw
      case rel =>
        refine ⟨k + 1, by omega, by go_num, HFS.out, ?_⟩
        exact HPUT.out.congr fun j hj => lgF_next k j
      case measure => simp [intOf]; omega
    · have hkn : k = n := by omega
      subst hkn
      have HGD := Lib.hid (hG.congr (f' := ddF (lgL k)) fun j hj => lgF_all hj)
      obtain ⟨b5, hD⟩ := HGD.out.dl (lgL_length k)
      have HD0 := Lib.hid hD
      have HF := Lib.hid hF
      have hmw := run_mk (k := .u64) Try.underlying31 info_u64 (by decide) m (by have := HM.out; omega)
      clear hD hG
      have HOK := Lib.hid (show ∀ d ∈ lgL k, DdOk d from fun d hd => by obtain ⟨j, rfl⟩ := lgL_mem hd; exact lgD_ok j)
      have HK2 := Lib.hid (show k ≤ 100002 from HN.out.2)
      have D0 := Lib.hid (HD0.out.frm0 ((Frm.refl [] wr).alloc (.cells (ns .u64 (List.replicate m 0)).toArray 30)))
      have W0 := Lib.hid (li_new (k := .u64) (t := 30) (w := (wr.alloc (.cells (ns .u64 (List.replicate m 0)).toArray 30))) (n := m) (l := List.replicate m 0) (by simp) (heap_alloc_new _ _))
      have F0 := Lib.hid (HF.out.alloc (.cells (ns .u64 (List.replicate m 0)).toArray 30))
      have HWL := Lib.hid (show (List.replicate m (0 : Int)).length = m by simp)
      have HRD := Lib.hid (lg_rdo (m := m) (by have := HM.out; omega) (lgL k) 0 (fun d hd => lgL_mem hd))
      have HWO := Lib.hid (lg_wro k)
      have HWT := Lib.hid (lg_wts (n := k) (by have := HN.out; omega))
      have HVD := Lib.hid (show vld (lgL k) = decide (k ≤ 100000) by unfold vld; rw [lgL_length, lgL_vldT]; simp)
      by_cases hbig : 100000 < k
      · have hbb : decide ((100000 : Int) < (k : Int)) = true := by simp; omega
        have HV := Lib.hid (show vld (lgL k) = false by rw [HVD.out]; simp; omega)
        have HW5 := Lib.hid (show wro (lgL k) = 5 by rw [HWO.out, if_pos hbig])
        have HWR := Lib.hid (show waR (lgL k) = ([], 5) by unfold waR; rw [HW5.out]; rfl)
        have HCH := Lib.hid (show chR (lgL k) 0 = ([], 5) by unfold chR; rw [HW5.out]; rfl)
        have HOF := Lib.hid (show ofR (lgL k) 0 = ([], 5) by unfold ofR; rw [HW5.out]; rfl)
        have HCK := Lib.hid (show chkR (List.replicate m 0) (lgL k) = (0, 5) by unfold chkR wfo; rw [HW5.out]; rfl)
        have HRP := Lib.hid (show repR (List.replicate m 0) (lgL k) = ([], 5) by unfold repR wfo; rw [HW5.out]; rfl)
        clear hbig
        generalize lgL k = l at *
        go_wp2_with fail
        refine (Valid_any D0.out).mono ?_
        rintro e1 w1 ⟨rfl, f1⟩
        rw [HV.out]
        have D1 := Lib.hid (D0.out.frm0 f1)
        have W1 := Lib.hid (W0.out.frm0 f1)
        have F1 := Lib.hid (F0.out.trans f1)
        clear f1
        have HQ2 := Lib.hid (lwaits_any (a' := none) (c' := 0) (B' := 0) D1.out HOK.out HWR.out rfl (by decide) (Gr.nil _ _ _ _ _))
        go_wp2_with fail
        refine (HQ2.out).mono ?_
        rintro e2 w2 ⟨rfl, f2⟩
        have D2 := Lib.hid (D1.out.frm0 f2)
        have W2 := Lib.hid (W1.out.frm0 f2)
        have F2 := Lib.hid (F1.out.trans f2)
        clear f2
        have hq3 := lchanges_any (a' := none) (c' := 0) (b' := 0) (o' := 0) D2.out 0 (e0 := 5) HK2.out (by rw [HCH.out]; exact li_nil _) (by rw [HCH.out])
        rw [HCH.out] at hq3
        have HQ3 := Lib.hid hq3
        clear hq3
        go_wp2_with fail
        refine (HQ3.out).mono ?_
        rintro e3 w3 ⟨rfl, f3⟩
        have D3 := Lib.hid (D2.out.frm0 f3)
        have W3 := Lib.hid (W2.out.frm0 f3)
        have F3 := Lib.hid (F2.out.trans f3)
        clear f3
        have hq4 := lof_any (a' := none) (c' := 0) (b' := 0) (o' := 0) D3.out 0 (e0 := 5) HK2.out (by rw [HOF.out]; exact dl_none _) (by rw [HOF.out])
        rw [HOF.out] at hq4
        have HQ4 := Lib.hid hq4
        clear hq4
        go_wp2_with fail
        refine (HQ4.out).mono ?_
        rintro e4 w4 ⟨rfl, f4⟩
        have D4 := Lib.hid (D3.out.frm0 f4)
        have W4 := Lib.hid (W3.out.frm0 f4)
        have F4 := Lib.hid (F3.out.trans f4)
        clear f4
        go_wp2_with fail
        refine (lchecks_any W4.out D4.out (x := 0) (e0 := 5) (by rw [HCK.out]) (by rw [HCK.out])).mono ?_
        rintro e5 w5 ⟨rfl, f5⟩
        have D5 := Lib.hid (D4.out.frm0 f5)
        have W5 := Lib.hid (W4.out.frm0 f5)
        have F5 := Lib.hid (F4.out.trans f5)
        clear f5
        go_wp2_with fail
        refine (lreplays_any (a3 := none) (c3 := 0) (b3 := 0) (o3 := 0) W5.out D5.out (L := []) (e0 := 5) HRP.out rfl (by decide) (li64_nil _)).mono ?_
        rintro e6 w6 ⟨rfl, f6⟩
        have D6 := Lib.hid (D5.out.frm0 f6)
        have W6 := Lib.hid (W5.out.frm0 f6)
        have F6 := Lib.hid (F5.out.trans f6)
        clear f6
        go_wp2_with fail
        refine (known_true _).mono ?_
        rintro e9 w9 ⟨rfl, f9⟩
        go_wp2_with fail
        go_ret
        exact ⟨rfl, (F6.out.trans f9).below (Nat.le_refl _) (fun x hx => by simp at hx)⟩
      · have hbb : decide ((100000 : Int) < (k : Int)) = false := by simp; omega
        have HW5 := Lib.hid (show wro (lgL k) = 0 by rw [HWO.out, if_neg hbig])
        by_cases hbg : 65536 < m
        · have hbc : decide ((65536 : Int) < (m : Int)) = true := by simp; omega
          have HWF := Lib.hid (show wfo (List.replicate m (0 : Int)).length (lgL k) = 2 by unfold wfo; rw [HWL.out, HW5.out, if_neg (by simp), if_pos (.inr hbg)])
          have HCK := Lib.hid (show chkR (List.replicate m 0) (lgL k) = (0, 2) by unfold chkR; rw [HWF.out]; rfl)
          have HRP := Lib.hid (show repR (List.replicate m 0) (lgL k) = ([], 2) by unfold repR; rw [HWF.out]; rfl)
          clear hbig hbg
          generalize lgL k = l at *
          go_wp2_with fail
          refine (lchecks_any W0.out D0.out (x := 0) (e0 := 2) (by rw [HCK.out]) (by rw [HCK.out])).mono ?_
          rintro e1 w1 ⟨rfl, f1⟩
          have D1 := Lib.hid (D0.out.frm0 f1)
          have W1 := Lib.hid (W0.out.frm0 f1)
          have F1 := Lib.hid (F0.out.trans f1)
          clear f1
          go_wp2_with fail
          refine (lreplays_any (a3 := none) (c3 := 0) (b3 := 0) (o3 := 0) W1.out D1.out (L := []) (e0 := 2) HRP.out rfl (by decide) (li64_nil _)).mono ?_
          rintro e2 w2 ⟨rfl, f2⟩
          have D2 := Lib.hid (D1.out.frm0 f2)
          have W2 := Lib.hid (W1.out.frm0 f2)
          have F2 := Lib.hid (F1.out.trans f2)
          clear f2
          go_wp2_with fail
          refine (known_true _).mono ?_
          rintro e9 w9 ⟨rfl, f9⟩
          go_wp2_with fail
          go_ret
          exact ⟨rfl, (F2.out.trans f9).below (Nat.le_refl _) (fun x hx => by simp at hx)⟩
        · have hbc : decide ((65536 : Int) < (m : Int)) = false := by simp; omega
          have HV := Lib.hid (show vld (lgL k) = true by rw [HVD.out]; simp; omega)
          have HWF := Lib.hid (show wfo (List.replicate m (0 : Int)).length (lgL k) = 0 by unfold wfo; rw [HWL.out, HW5.out, if_neg (by simp), if_neg (by have := HM.out; omega)])
          have HCK := Lib.hid (show chkR (List.replicate m 0) (lgL k) = (-1, 0) by unfold chkR; rw [HWF.out, if_neg (by simp), HRD.out]; rfl)
          have HWR := Lib.hid (show waR (lgL k) = ([⟨0, 0, 0, -1, -1⟩, ⟨1, 1, 1, -1, -1⟩], 0) by unfold waR; rw [HW5.out, if_neg (by simp), HWT.out])
          clear hbig hbg
          generalize lgL k = l at *
          go_wp2_with fail
          refine (Valid_any D0.out).mono ?_
          rintro e1 w1 ⟨rfl, f1⟩
          rw [HV.out]
          have D1 := Lib.hid (D0.out.frm0 f1)
          have W1 := Lib.hid (W0.out.frm0 f1)
          have F1 := Lib.hid (F0.out.trans f1)
          clear f1
          go_wp2_with fail
          refine (lchecks_any W1.out D1.out (x := -1) (e0 := 0) (by rw [HCK.out]) (by rw [HCK.out])).mono ?_
          rintro e2 w2 ⟨rfl, f2⟩
          have D2 := Lib.hid (D1.out.frm0 f2)
          have W2 := Lib.hid (W1.out.frm0 f2)
          have F2 := Lib.hid (F1.out.trans f2)
          clear f2
          have HG2 := Lib.hid (gr_two w2)
          have HQ3 := Lib.hid (lwaits_any (D2.out.frm0 ((Frm.refl [] w2).alloc (.cells #[.int .i64 0, .int .i64 0, .int .i64 0, .int .i64 (-1), .int .i64 (-1), .int .i64 1, .int .i64 1, .int .i64 1, .int .i64 (-1), .int .i64 (-1)] 52))) HOK.out HWR.out rfl (by decide) HG2.out)
          go_wp2_with fail
          refine HQ3.out.mono ?_
          rintro e3 w3 ⟨rfl, f3⟩
          have F3 := Lib.hid ((F2.out.alloc (.cells #[.int .i64 0, .int .i64 0, .int .i64 0, .int .i64 (-1), .int .i64 (-1), .int .i64 1, .int .i64 1, .int .i64 1, .int .i64 (-1), .int .i64 (-1)] 52)).trans f3)
          clear f3
          go_wp2_with fail
          refine (known_true _).mono ?_
          rintro e9 w9 ⟨rfl, f9⟩
          go_wp2_with fail
          go_ret
          exact ⟨rfl, (F3.out.trans f9).below (Nat.le_refl _) (fun x hx => by simp at hx)⟩
end Go.Proofs.Ytfkikaoojelddaa
