/- The walk of McsPlays (by gen_mcpl.py). -/
import Derived.Test.YtoieedlkffmcgaaMcPz
import Derived.Test.YtoieedlkffmcgaaMcHw
import Derived.Deep.DeepCutAuto
namespace Go.Proofs.Ytoieedlkffmcgaa
open Go.ChangeShapes Go.WideShapes Go.ChangeAt Go.RowKit
set_option linter.unusedVariables false

def zrun : Value := .agg #[.int .i64 0, .int .i64 0, .int .i64 0, .int .i64 0, .bool false, .int .i64 0, .int .u64 0, .bool false]
theorem info_run : (Try.prog.info? 42).map (fun i => (i.zero, i.size, i.bytes)) = some (some zrun, 8, 64) := by kernel_rfl
theorem mk_runs (n : Nat) (h : n ≤ 255) : ∃ cs : Array Value, cs.size = n * 8 ∧ ∀ w : World, (Instr.makeSlice 34 (.int .u8 n) (.int .u8 n)).run Try.prog w =
    .ok (.slice (some ⟨w.heap.size, 0, none⟩) n n) (w.alloc (.cells cs 42)) := by
  obtain ⟨i0, hi, hz0, hz1, hz2⟩ := info_parts info_run
  refine ⟨madeCells zrun.cells (Int.toNat (n : Int) * 8), by simp [madeCells], fun w => ?_⟩
  have := run_make (P := Try.prog) w 34 42 i0 zrun Try.underlying34 hi hz0 .u8 .u8 (n : Int) (n : Int) (by omega) (by omega) (by rw [hz2]; omega) (by omega)
  rw [this, hz1]; simp
theorem new_t (w : World) {n t : Nat} (n64 : n ≤ 64) (ht : t < n) (back : Bool) :
    Calls Try.prog 12 #[.agg #[.int .i64 1, .int .i64 n], .int .i64 0, .int .i64 (2 * (t : Int)), .bool back] w (Ret (.tuple #[.agg #[.int .i64 1, .int .i64 n, .int .i64 0, .int .i64 (2 * t : Nat), .bool back, .int .i64 1, .int .u64 0, .bool false], .int .i64 0]) (fun w' => Frm [] w w')) := by
  have e : (2 * (t : Int)) = ((2 * t : Nat) : Int) := by omega
  rw [e]; exact new_run w (b := 1) (t := n) (L := 0) (k := 2 * t) n64 (by omega) (by decide) (.inl (by decide)) (by omega) back
/-- A block that nobody uses is written. -/
theorem Gt.frm1 {B : Nat} {w w' : World} {n p d c bp bh br bn g oo cg x : Nat} {ws : List Int} {pg pr : Nat → Option Pr} {hs : Nat → Bool} {qa : Nat → Nat} (h : Gt B w n p d c bp bh br bn g oo cg ws pg pr hs qa) (hf : Frm [x] w w') (h1 : B ≠ x) (h2 : p ≠ x) (h3 : d ≠ x) (h4 : bp ≠ x) (h5 : bh ≠ x) (h6 : br ≠ x) (h7 : bn ≠ x) (h8 : g ≠ x) : Gt B w' n p d c bp bh br bn g oo cg ws pg pr hs qa :=
  ⟨h.sb.frm hf (by simp; exact h1) (by simp; exact h2) (by simp; exact h3) (by simp; exact h4) (by simp; exact h5), h.rn.frm hf (by simp; exact h6), hf.heap h.nn (by simp; exact h7), rd_far h.rd hf (by simp; exact h8), h.lo, h.gne, h.gq⟩
/-- What is true at the head of each round. -/
def Rp (w : World) (B n p d c bp bh br bn g oo cg : Nat) (wr : World) : Prop :=
  ∃ ws pg hs qa, Frm [] w wr ∧ Gt B wr n p d c bp bh br bn g oo cg ws pg pg hs qa ∧ Ps wr n pg qa

set_option maxRecDepth 100000 in
set_option maxHeartbeats 600000 in
theorem plays_loop {a : Option Addr} {len cap b o : Nat} {xs : List Int} {n : Nat} {w : World} (hL : Li .u8 w a len cap b o xs) (hx : ∀ x ∈ xs, (Lit.int .u8 x).wf = true) (hb : 0 < len → b < w.heap.size) (n1 : 1 ≤ n) (n6 : n ≤ 6) (hlen : len ≤ 150) :
    Calls Try.prog 3 #[.int .u8 n, .slice a len cap] w (Ret (.bool true) (fun w' => Frm [] w w')) := by
  have d1 : decide ((n : Int) < 1) = false := by simp; omega
  have d1' : decide (n < 1) = false := by simp; omega
  have d2 : decide ((6 : Int) < (n : Int)) = false := by simp; omega
  have d2' : decide (6 < n) = false := by simp; omega
  have d3 : decide ((150 : Int) < (len : Int)) = false := by simp; omega
  have d3' : decide (150 < len) = false := by simp; omega
  have HL := Lib.hid hL
  have HX := Lib.hid hx
  clear hL hx
  have hmk := mk_al n (by omega)
  go_enter Try.func3, Try.ntmps3
  go_wp2_with fail
  refine (nodes_new1 _ n n1 (by omega)).mono ?_
  rintro e w1 ⟨rfl, hF1, hN1⟩
  have HN := Lib.hid hN1
  have HF := Lib.hid hF1
  clear hN1 hF1
  go_wp2_with fail
  have hrd := rd_new w1 (1 + 6 * n)
  refine (made_any hrd (by simp) (by simp; omega)).mono ?_
  rintro e w2 ⟨p, d, c, rfl, hF, hM, hp, hd⟩
  have hF2 : Frm [] w1 w2 := ((Frm.refl _ _).alloc _).trans hF
  simp only [World.size_alloc] at hp hd
  have hnl := HN.out.lt
  have hgl : w.heap.size < w1.heap.size := by have := HN.out.lt; omega
  have hnd : w.heap.size ≠ d := by omega
  have hnp : w.heap.size ≠ p := by omega
  have hd0 : w.heap.size ≤ d := by have := HF.out.size; omega
  have HRD := Lib.hid (hrd.frm hF (by simp))
  obtain ⟨g, hg⟩ : ∃ g, g = w1.heap.size := ⟨_, rfl⟩
  replace HN := Lib.hid (HN.out.frm hF2)
  replace HF := Lib.hid (HF.out.trans hF2)
  have HM := Lib.hid hM
  have hw2 := hF2.size
  have hgd : w1.heap.size ≠ d ∧ w1.heap.size ≠ p ∧ w1.heap.size < w2.heap.size := by
    have := hF.size; simp only [World.size_alloc] at this; omega
  clear hF hM hp hd hrd hmk hF2 hnl
  have hmp := mk_progs n (by omega)
  have hmb := mk_bools n (by omega)
  obtain ⟨zs, hzs, hmr⟩ := mk_runs n (by omega)
  go_upto_region 9 with fail
  obtain ⟨W9, hW9⟩ : ∃ W, W = w2.alloc (.cells #[.int .i64 1, .int .i64 n] 32) := ⟨_, rfl⟩
  rw [← hW9]
  have hF9 : Frm [] w2 W9 := by rw [hW9]; exact (Frm.refl _ _).alloc _
  have hnn : W9.heap[w2.heap.size]? = some (.cells #[.int .i64 1, .int .i64 n] 32 (0, 0)) := by rw [hW9]; exact heap_alloc_new _ _
  have hs9 : w2.heap.size < W9.heap.size := lt_of_heap hnn
  clear hW9
  have HNN := Lib.hid hnn
  replace HN := Lib.hid (HN.out.frm hF9)
  replace HM := Lib.hid (HM.out.frm hF9 (by simp) (by simp))
  replace HF := Lib.hid (HF.out.trans hF9)
  replace HRD := Lib.hid (rd_far HRD.out hF9 (by simp))
  clear hF9 hnn
  go_cut [10, 11, 12] (fun s10 s11 s12 wx => ∃ bp br bh : Nat, s10 = .slice (some ⟨bp, 0, none⟩) n n ∧ s11 = .slice (some ⟨br, 0, none⟩) n n ∧ s12 = .slice (some ⟨bh, 0, none⟩) n n ∧ Frm [] W9 wx ∧ W9.heap.size ≤ bp ∧ W9.heap.size ≤ br ∧ W9.heap.size ≤ bh ∧ bp ≠ bh ∧ wx.heap[bp]? = some (.cells (vof (fun _ => .nilIface) n) 37 (0, 0)) ∧ wx.heap[br]? = some (.cells zs 42 (0, 0)) ∧ wx.heap[bh]? = some (.cells (vof (fun _ => .bool false) n) 4 (0, 0)))
  case first =>
    go_region
    all_goals
      go_wp2
      go_meet
      first
        | exact ⟨W9.heap.size, W9.heap.size + 1, W9.heap.size + 1 + 1, rfl, rfl, rfl, ((((Frm.refl _ _).alloc _).alloc _).alloc _).drew, by omega, by omega, by omega, by omega, heap_alloc_old _ (heap_alloc_old _ (heap_alloc_new _ _)), heap_alloc_old _ (heap_alloc_at _ (by simp)), heap_alloc_at _ (by simp)⟩
        | exact ⟨W9.heap.size, W9.heap.size + 1 + 1, W9.heap.size + 1, rfl, rfl, rfl, ((((Frm.refl _ _).alloc _).alloc _).alloc _).drew, by omega, by omega, by omega, by omega, heap_alloc_old _ (heap_alloc_old _ (heap_alloc_new _ _)), heap_alloc_at _ (by simp), heap_alloc_old _ (heap_alloc_at _ (by simp))⟩
        | exact ⟨W9.heap.size + 1, W9.heap.size, W9.heap.size + 1 + 1, rfl, rfl, rfl, ((((Frm.refl _ _).alloc _).alloc _).alloc _).drew, by omega, by omega, by omega, by omega, heap_alloc_old _ (heap_alloc_at _ (by simp)), heap_alloc_old _ (heap_alloc_old _ (heap_alloc_new _ _)), heap_alloc_at _ (by simp)⟩
        | exact ⟨W9.heap.size + 1, W9.heap.size + 1 + 1, W9.heap.size, rfl, rfl, rfl, ((((Frm.refl _ _).alloc _).alloc _).alloc _).drew, by omega, by omega, by omega, by omega, heap_alloc_old _ (heap_alloc_at _ (by simp)), heap_alloc_at _ (by simp), heap_alloc_old _ (heap_alloc_old _ (heap_alloc_new _ _))⟩
        | exact ⟨W9.heap.size + 1 + 1, W9.heap.size, W9.heap.size + 1, rfl, rfl, rfl, ((((Frm.refl _ _).alloc _).alloc _).alloc _).drew, by omega, by omega, by omega, by omega, heap_alloc_at _ (by simp), heap_alloc_old _ (heap_alloc_old _ (heap_alloc_new _ _)), heap_alloc_old _ (heap_alloc_at _ (by simp))⟩
        | exact ⟨W9.heap.size + 1 + 1, W9.heap.size + 1, W9.heap.size, rfl, rfl, rfl, ((((Frm.refl _ _).alloc _).alloc _).alloc _).drew, by omega, by omega, by omega, by omega, heap_alloc_at _ (by simp), heap_alloc_old _ (heap_alloc_at _ (by simp)), heap_alloc_old _ (heap_alloc_old _ (heap_alloc_new _ _))⟩
  case rest =>
    obtain ⟨bp, br, bh, rfl, rfl, rfl, hFx, hbp, hbr, hbh, hne, hpr, hru, hha⟩ := hcut
    have hB : w.heap.size ≤ W9.heap.size := HF.out.size
    have hnl := HN.out.lt
    have hml := HM.out.plt
    have hdl := HM.out.dlt
    have hpd := HM.out.ne
    have hS0 : Sb w.heap.size wc n w.heap.size p d c bp bh (List.replicate (1 + 6 * n) 0) (fun _ => none) (fun _ => false) (fun _ => 0) :=
      ⟨HN.out.frm hFx, HM.out.frm hFx (by simp) (by simp), fun x hx => by rw [(List.mem_replicate.1 hx).2]; exact Int.le_refl _, by simp, hpr, hha, ⟨hd0, by omega, by omega⟩, ⟨hnd, by omega, by omega, by omega, by omega, by omega, by omega, hne⟩, fun i _ h => absurd rfl h, fun i j _ _ _ h _ => absurd rfl h⟩
    have hG0 : Gt w.heap.size wc n p d c bp bh br w2.heap.size w1.heap.size 0 (1 + 6 * n) (List.replicate (1 + 6 * n) 0) (fun _ => none) (fun _ => none) (fun _ => false) (fun _ => 0) :=
      ⟨hS0, ⟨zs, hru, hzs, fun i _ b s o h => (by cases h)⟩, hFx.heap HNN.out (by simp), rd_far HRD.out hFx (by simp), ⟨by omega, by omega, by omega⟩, ⟨hgd.1, hgd.2.1, by omega, by omega, by omega⟩, fun i _ h => absurd rfl h⟩
    have HR0 : Hid (Rp w w.heap.size n p d c bp bh br w2.heap.size w1.heap.size 0 (1 + 6 * n) wc) := Lib.hid ⟨_, _, _, _, HF.out.trans hFx, hG0, fun i _ b s o h => (by cases h)⟩
    clear hS0 hG0 hFx hpr hha hru hmp hmb hmr hzs HN HM HF HNN HRD hnl hml hdl hpd hbp hbh hbr hne hnd hnp hd0 hB hgl hgd hs9 hw2 hg
    clear g
    generalize w2.heap.size = bn at *
    go_wp2_with fail
    go_loopw [7, 14, 15, 16, 17, 18, 19, 20, 21, 22, 69, 70, 71, 72, 73, 74, 75, 76, 77, 78, 79, 80, 81, 82, 83, 84, 85, 86, 87, 88, 89, 90, 91, 92, 93, 94, 95, 96, 97, 98, 99, 100, 101, 102, 103, 104, 105, 106, 107, 108, 109, 110, 111, 112, 113, 114, 115, 116, 117, 118, 119, 120, 121, 122, 123, 124, 125, 126, 127, 128, 129, 130, 131, 132, 133, 134, 135, 136, 137, 138, 139, 140, 141, 142, 143, 144, 145, 146, 147, 148, 149, 150, 151, 152, 153, 154, 155, 156, 157, 158] (fun sq _ _ _ _ _ _ _ _ _ sk _ _ _ _ _ _ _ _ _ _ _ _ _ _ _ _ _ _ _ _ _ _ _ _ _ _ _ _ _ _ _ _ _ _ _ _ _ _ _ _ _ _ _ _ _ _ _ _ _ _ _ _ _ _ _ _ _ _ _ _ _ _ _ _ _ _ _ _ _ _ _ _ _ _ _ _ _ _ _ _ _ _ _ _ _ _ _ _ _ wr => ∃ (k g oo cg : Nat), k ≤ len ∧ sk = .int .i64 k ∧ sq = .slice (some ⟨g, oo, none⟩) (1 + 6 * n) cg ∧ Rp w w.heap.size n p d c bp bh br bn g oo cg wr) (fun sq _ _ _ _ _ _ _ _ _ sk _ _ _ _ _ _ _ _ _ _ _ _ _ _ _ _ _ _ _ _ _ _ _ _ _ _ _ _ _ _ _ _ _ _ _ _ _ _ _ _ _ _ _ _ _ _ _ _ _ _ _ _ _ _ _ _ _ _ _ _ _ _ _ _ _ _ _ _ _ _ _ _ _ _ _ _ _ _ _ _ _ _ _ _ _ _ _ _ _ _ => len - (intOf sk).toNat)
    case atStart => exact ⟨0, _, _, _, Nat.zero_le _, rfl, rfl, HR0.out⟩
    case round =>
      clear HR0
      obtain ⟨k, g, oo, cg, hk, rfl, rfl, ws, pg, hs, qa, hF, hGt, hPs⟩ := hrel
      have HF := Lib.hid hF
      have HG := Lib.hid hGt
      have HP := Lib.hid hPs
      clear hF hGt hPs
      by_cases hlt : k < len
      · have hb0 := hb (by omega)
        obtain ⟨x, hxk, _, hcx⟩ := (HL.out.frm0 HF.out).get hlt
        have hix := ix_u8 (c := cap) HL.out.ad hlt
        have hx0 : 0 ≤ x ∧ x ≤ 255 := by
          have h := HX.out x (List.mem_of_getElem? hxk)
          simp only [Lit.wf, Bool.and_eq_true, decide_eq_true_eq] at h; have hmin : IntKind.u8.min = 0 := rfl; have hmax : IntKind.u8.max = 255 := rfl; omega
        obtain ⟨y, rfl⟩ := Int.eq_ofNat_of_zero_le hx0.1
        have hkl : (k : Int) < (len : Int) := by omega
        have hz : ¬ ((n : Int) = 0) := by omega
        have ht : y % n < n := Nat.mod_lt _ (by omega)
        have hyt : ((y : Int) % (n : Int)) = ((y % n : Nat) : Int) := by push_cast; rfl
        generalize hyy : y % n = t at ht hyt
        have HYT := Lib.hid hyt
        clear hxk hyy hyt
        have hcp : wr.cell? ⟨bp, t, none⟩ = some (pvI (pg t) (qa t)) := by rw [cell_of_heap HG.out.sb.progs, vof_get _ ht]
        have hch : wr.cell? ⟨bh, t, none⟩ = some (.bool (hs t)) := by rw [cell_of_heap HG.out.sb.hass, vof_get _ ht]
        have htn : (t : Int) < (n : Int) := by omega
        have hnil := nil_pv (pg t) (qa t)
        have hgrd := grd_pv (pg t) (qa t) 81
        go_upto_region 14 with fail
        rw [HYT.out]
        go_upto_if 82 with fail
        go_cut [] (fun wx => ∃ pg hs qa, Frm [] w wx ∧ Gt w.heap.size wx n p d c bp bh br bn g oo cg ws pg pg hs qa ∧ Ps wx n pg qa ∧ ∃ v, pg t = some v)
        case first =>
          clear hnil hgrd
          cases hv : pg t with
          | some v =>
            have hi : (pg t).isNone = false := by rw [hv]; rfl
            have HV := Lib.hid hv
            clear hv hcp
            go_wp2
            go_meet
            exact ⟨_, _, _, HF.out, HG.out, HP.out, _, HV.out⟩
          | none =>
            have hi : (pg t).isNone = true := by rw [hv]; rfl
            have HV := Lib.hid hv
            have hBw := HF.out.size
            clear hv hcp
            go_wp2_with fail
            refine (begin_t HG.out.sb.nd (by omega) ht (hs t)).mono ?_
            rintro e w7 ⟨q7, rfl, g7, hR7, hq7⟩
            have hha7 := g7.heap HG.out.sb.hass (by simp)
            have hnn7 := g7.heap HG.out.nn (by simp)
            have hbh7 := lt_of_heap hha7
            have hbn7 := lt_of_heap hnn7
            have HHA := Lib.hid hha7
            have HNN := Lib.hid hnn7
            have HG7 := Lib.hid g7
            have HR7 := Lib.hid hR7
            clear hha7 hnn7 g7 hR7 hch hi hix hcx
            go_upto_region 16 with fail
            have e2t : ((2 * t : Nat) : Int) = 2 * (t : Int) := by omega
            have hwt : IntKind.i64.wrap (2 * (t : Int)) = 2 * (t : Int) := IntWalk.i64_in _ (by omega)
            go_cut [18, 19] (fun s18 s19 wx => ∃ b18 : Nat, s18 = .pointer (some ⟨b18, 0, none⟩) ∧ s19 = .int .i64 0 ∧ Frm [] w7 wx ∧ w7.heap.size ≤ b18 ∧ wx.heap[b18]? = some (.cells #[.int .i64 1, .int .i64 n, .int .i64 0, .int .i64 (2 * t : Nat), .bool (hs t), .int .i64 1, .int .u64 0, .bool false] 42 (0, 0)))
            case first =>
              refine wp_region_noPanic ?_
              refine wp_region_held_drew (S := fun w' => Frm [] w7 w') (by kernel_rfl) ((Frm.refl _ _).drew) (fun hHeld => ?_)
              refine take_in (i := 0) (d := 95) (v := .agg #[.int .i64 1, .int .i64 n]) rfl rfl (by kernel_rfl) (by kernel_rfl) (by kernel_rfl) (fun _ _ _ h => h) (by kernel_rfl) (fun w' hS => by have hS' : Frm [] w7 w' := hS; obtain ⟨c0, c1⟩ := cells2 (hS'.heap HNN.out (by simp)); go_simp) (by assumption) ?_
              try simp only [Act.put, List.setIfInBounds_toArray, List.set_cons_zero, List.set_cons_succ]
              refine take_in (i := 1) (d := 96) (v := .int .i64 t) rfl rfl (by kernel_rfl) (by kernel_rfl) (by kernel_rfl) (fun _ _ _ h => h) (by kernel_rfl) (fun _ _ => rfl) (by assumption) ?_
              try simp only [Act.put, List.setIfInBounds_toArray, List.set_cons_zero, List.set_cons_succ]
              refine take_in (i := 2) (d := 97) (v := .int .i64 (2 * (t : Int))) rfl rfl (by kernel_rfl) (by kernel_rfl) (by kernel_rfl) (fun _ _ _ h => h) (by kernel_rfl) (fun w' hS => by go_simp) (by assumption) ?_
              try simp only [Act.put, List.setIfInBounds_toArray, List.set_cons_zero, List.set_cons_succ]
              refine take_in (i := 3) (d := 98) (v := .slice (some ⟨bh, 0, none⟩) n n) rfl rfl (by kernel_rfl) (by kernel_rfl) (by kernel_rfl) (fun _ _ _ h => h) (by kernel_rfl) (fun _ _ => rfl) (by assumption) ?_
              try simp only [Act.put, List.setIfInBounds_toArray, List.set_cons_zero, List.set_cons_succ]
              refine take_in (i := 4) (d := 99) (v := .int .i64 t) rfl rfl (by kernel_rfl) (by kernel_rfl) (by kernel_rfl) (fun _ _ _ h => h) (by kernel_rfl) (fun _ _ => rfl) (by assumption) ?_
              try simp only [Act.put, List.setIfInBounds_toArray, List.set_cons_zero, List.set_cons_succ]
              refine take_in (i := 5) (d := 100) (v := .pointer (some ⟨bh, t, none⟩)) rfl rfl (by kernel_rfl) (by kernel_rfl) (by kernel_rfl) (fun _ _ _ h => h) (by kernel_rfl) (fun w' hS => by go_simp) (by assumption) ?_
              try simp only [Act.put, List.setIfInBounds_toArray, List.set_cons_zero, List.set_cons_succ]
              refine take_in (i := 6) (d := 101) (v := .bool (hs t)) rfl rfl (by kernel_rfl) (by kernel_rfl) (by kernel_rfl) (fun _ _ _ h => h) (by kernel_rfl) (fun w' hS => by have hS' : Frm [] w7 w' := hS; have hh : w'.cell? ⟨bh, t, none⟩ = some (.bool (hs t)) := (by rw [cell_of_heap (hS'.heap HHA.out (by simp)), vof_get _ ht]); go_simp) (by assumption) ?_
              try simp only [Act.put, List.setIfInBounds_toArray, List.set_cons_zero, List.set_cons_succ]
              refine wpAnyH_ready (rs := [7, 11]) (by kernel_rfl) (by simp) ?_
              refine AllReadyH.cons rfl (fun K hK => ?_) (AllReadyH.cons rfl (fun K hK => ?_) AllReadyH.nil)
              · go_simp
                refine (new_t _ (by omega) ht (hs t)).mono ?_
                rintro e x1 ⟨rfl, g1⟩
                have s1 : Frm [] w7 x1 := Frm.trans (by (repeat' (first | assumption | exact Frm.refl _ _ | apply Frm.drew | apply Frm.drewN))) g1
                refine hK.out _ _ (by exact s1) (fun hHeld => ?_)
                clear hK K
                try change wpAnyH _ _ _ _ _ _ _ (Act.put _ (some 102) _) _
                try simp only [Act.put, List.setIfInBounds_toArray, List.set_cons_zero, List.set_cons_succ]
                refine take_in (i := 8) (d := 94) (v := .tuple #[.agg #[.int .i64 1, .int .i64 n, .int .i64 0, .int .i64 (2 * t : Nat), .bool (hs t), .int .i64 1, .int .u64 0, .bool false], .int .i64 0]) rfl rfl (by kernel_rfl) (by kernel_rfl) (by kernel_rfl) (fun _ _ _ h => h) (by kernel_rfl) (fun _ _ => rfl) (by assumption) ?_
                try simp only [Act.put, List.setIfInBounds_toArray, List.set_cons_zero, List.set_cons_succ]
                refine take_in (i := 9) (d := 103) (v := .agg #[.int .i64 1, .int .i64 n, .int .i64 0, .int .i64 (2 * t : Nat), .bool (hs t), .int .i64 1, .int .u64 0, .bool false]) rfl rfl (by kernel_rfl) (by kernel_rfl) (by kernel_rfl) (fun _ _ _ h => h) (by kernel_rfl) (fun _ _ => rfl) (by assumption) ?_
                try simp only [Act.put, List.setIfInBounds_toArray, List.set_cons_zero, List.set_cons_succ]
                refine take_in (i := 10) (d := 104) (v := .int .i64 0) rfl rfl (by kernel_rfl) (by kernel_rfl) (by kernel_rfl) (fun _ _ _ h => h) (by kernel_rfl) (fun _ _ => rfl) (by assumption) ?_
                try simp only [Act.put, List.setIfInBounds_toArray, List.set_cons_zero, List.set_cons_succ]
                refine wpAnyH_ready (rs := [11]) (by kernel_rfl) (by simp) ?_
                refine AllReadyH.cons rfl (fun K hK => ?_) AllReadyH.nil
                go_simp
                have s2 : Frm [] w7 (x1.alloc (.cells #[.int .i64 0, .int .i64 0, .int .i64 0, .int .i64 0, .bool false, .int .i64 0, .int .u64 0, .bool false] 42)) := s1.alloc _
                refine hK.out _ _ (by exact s2) (fun hHeld => ?_)
                clear hK K
                try change wpAnyH _ _ _ _ _ _ _ (Act.put _ (some 18) _) _
                try simp only [Act.put, List.setIfInBounds_toArray, List.set_cons_zero, List.set_cons_succ]
                have hz8 := heap_alloc_new x1 (.cells #[.int .i64 0, .int .i64 0, .int .i64 0, .int .i64 0, .bool false, .int .i64 0, .int .u64 0, .bool false] 42)
                obtain ⟨r0, r1, r2, r3, r4, r5, r6, r7⟩ := cells8 hz8
                have fz := fun i => frozen_of_heap (i := i) hz8
                refine wpAnyH_ready (rs := [12]) (by kernel_rfl) (by simp) ?_
                refine AllReadyH.cons rfl (fun K hK => ?_) AllReadyH.nil
                go_simp
                have hle : w7.heap.size ≤ x1.heap.size := s1.size
                refine hK.out _ _ (s1.alloc _) (fun hHeld => ?_)
                clear hK K
                try simp only [Act.put, List.setIfInBounds_toArray, List.set_cons_zero, List.set_cons_succ]
                refine take_in (i := 13) (d := 19) (v := .int .i64 0) rfl rfl (by kernel_rfl) (by kernel_rfl) (by kernel_rfl) (fun _ _ _ h => h) (by kernel_rfl) (fun _ _ => rfl) (by assumption) ?_
                try simp only [Act.put, List.setIfInBounds_toArray, List.set_cons_zero, List.set_cons_succ]
                refine wpAnyH_done (by kernel_rfl) ?_ _
                refine NoPanic.normal ?_
                clear r0 r1 r2 r3 r4 r5 r6 r7 fz hz8
                go_wp2
                go_meet
                exact ⟨x1.heap.size, rfl, rfl, s1.alloc _, hle, by rw [e2t]; exact heap_alloc_new _ _⟩
              · go_simp
                have s1 : Frm [] w7 (w7.drew.alloc (.cells #[.int .i64 0, .int .i64 0, .int .i64 0, .int .i64 0, .bool false, .int .i64 0, .int .u64 0, .bool false] 42)) := (Frm.drew (Frm.refl _ _)).alloc _
                refine hK.out _ _ (by exact s1) (fun hHeld => ?_)
                clear hK K
                try change wpAnyH _ _ _ _ _ _ _ (Act.put _ (some 18) _) _
                try simp only [Act.put, List.setIfInBounds_toArray, List.set_cons_zero, List.set_cons_succ]
                refine wpAnyH_ready (rs := [7]) (by kernel_rfl) (by simp) ?_
                refine AllReadyH.cons rfl (fun K hK => ?_) AllReadyH.nil
                go_simp
                refine (new_t _ (by omega) ht (hs t)).mono ?_
                rintro e x1 ⟨rfl, g1⟩
                have s2 : Frm [] w7 x1 := Frm.trans s1 g1
                have hz8 : x1.heap[w7.heap.size]? = some (.cells #[.int .i64 0, .int .i64 0, .int .i64 0, .int .i64 0, .bool false, .int .i64 0, .int .u64 0, .bool false] 42 (0, 0)) := g1.heap (heap_alloc_new w7.drew (.cells #[.int .i64 0, .int .i64 0, .int .i64 0, .int .i64 0, .bool false, .int .i64 0, .int .u64 0, .bool false] 42)) (by simp)
                refine hK.out _ _ (by exact s2) (fun hHeld => ?_)
                clear hK K
                try change wpAnyH _ _ _ _ _ _ _ (Act.put _ (some 102) _) _
                try simp only [Act.put, List.setIfInBounds_toArray, List.set_cons_zero, List.set_cons_succ]
                refine take_in (i := 8) (d := 94) (v := .tuple #[.agg #[.int .i64 1, .int .i64 n, .int .i64 0, .int .i64 (2 * t : Nat), .bool (hs t), .int .i64 1, .int .u64 0, .bool false], .int .i64 0]) rfl rfl (by kernel_rfl) (by kernel_rfl) (by kernel_rfl) (fun _ _ _ h => h) (by kernel_rfl) (fun _ _ => rfl) (by assumption) ?_
                try simp only [Act.put, List.setIfInBounds_toArray, List.set_cons_zero, List.set_cons_succ]
                refine take_in (i := 9) (d := 103) (v := .agg #[.int .i64 1, .int .i64 n, .int .i64 0, .int .i64 (2 * t : Nat), .bool (hs t), .int .i64 1, .int .u64 0, .bool false]) rfl rfl (by kernel_rfl) (by kernel_rfl) (by kernel_rfl) (fun _ _ _ h => h) (by kernel_rfl) (fun _ _ => rfl) (by assumption) ?_
                try simp only [Act.put, List.setIfInBounds_toArray, List.set_cons_zero, List.set_cons_succ]
                refine take_in (i := 10) (d := 104) (v := .int .i64 0) rfl rfl (by kernel_rfl) (by kernel_rfl) (by kernel_rfl) (fun _ _ _ h => h) (by kernel_rfl) (fun _ _ => rfl) (by assumption) ?_
                try simp only [Act.put, List.setIfInBounds_toArray, List.set_cons_zero, List.set_cons_succ]
                obtain ⟨r0, r1, r2, r3, r4, r5, r6, r7⟩ := cells8 hz8
                have fz := fun i => frozen_of_heap (i := i) hz8
                refine wpAnyH_ready (rs := [12]) (by kernel_rfl) (by simp) ?_
                refine AllReadyH.cons rfl (fun K hK => ?_) AllReadyH.nil
                go_simp
                refine hK.out _ _ (Frm.set8 s2 _ _ _ _ _ _ _ _ _ (.inr (Nat.le_refl _))) (fun hHeld => ?_)
                clear hK K
                try simp only [Act.put, List.setIfInBounds_toArray, List.set_cons_zero, List.set_cons_succ]
                refine take_in (i := 13) (d := 19) (v := .int .i64 0) rfl rfl (by kernel_rfl) (by kernel_rfl) (by kernel_rfl) (fun _ _ _ h => h) (by kernel_rfl) (fun _ _ => rfl) (by assumption) ?_
                try simp only [Act.put, List.setIfInBounds_toArray, List.set_cons_zero, List.set_cons_succ]
                refine wpAnyH_done (by kernel_rfl) ?_ _
                refine NoPanic.normal ?_
                have hfin := setCells8 (b := w7.heap.size) hz8 (.int .i64 1) (.int .i64 n) (.int .i64 0) (.int .i64 (2 * (t : Int))) (.bool (hs t)) (.int .i64 1) (.int .u64 0) (.bool false)
                have s3 := Frm.set8 s2 w7.heap.size (.int .i64 1) (.int .i64 n) (.int .i64 0) (.int .i64 (2 * (t : Int))) (.bool (hs t)) (.int .i64 1) (.int .u64 0) (.bool false) (.inr (Nat.le_refl _))
                clear r0 r1 r2 r3 r4 r5 r6 r7 fz hz8
                go_wp2
                go_meet
                exact ⟨w7.heap.size, rfl, rfl, s3, Nat.le_refl _, by rw [e2t]; exact hfin⟩
            case rest =>
              obtain ⟨b18, rfl, rfl, h8, hle8, hr8⟩ := hcut
              have hhaC := h8.heap HHA.out (by simp)
              have hprC := (HG7.out.trans h8).heap HG.out.sb.progs (by simp)
              have hrnC := HG.out.rn.frm (HG7.out.trans h8) (by simp)
              have hlt1 := lt_of_heap HG.out.sb.progs
              have hlt2 : br < wr.heap.size := by obtain ⟨cs, hc, _⟩ := HG.out.rn; exact lt_of_heap hc
              have hsz7 := HG7.out.size
              have hchC : wc.cell? ⟨bh, t, none⟩ = some (.bool (hs t)) := by rw [cell_of_heap hhaC, vof_get _ ht]
              have hcpC : wc.cell? ⟨bp, t, none⟩ = some (pvI (pg t) (qa t)) := by rw [cell_of_heap hprC, vof_get _ ht]
              have hzb : wc.frozen? ⟨bp, t, none⟩ = false := frozen_of_heap hprC
              have HK8 := Lib.hid (fun w' (hf : Frm [bp, br, bh] wc w') => hf.heap hr8 (by simp; omega))
              have HE := Lib.hid h8
              have HRC := Lib.hid hrnC
              have HHC := Lib.hid hhaC
              clear h8 hhaC hprC hrnC
              go_upto_region 19 with fail
              refine wp_region_noPanic ?_
              refine wp_region_held_drew (S := fun w' => Frm [bp, br, bh] wc w') (by kernel_rfl) ((Frm.refl _ _).drew) (fun hHeld => ?_)
              refine take_in (i := 0) (d := 115) (v := .slice (some ⟨bp, 0, none⟩) n n) rfl rfl (by kernel_rfl) (by kernel_rfl) (by kernel_rfl) (fun _ _ _ h => h) (by kernel_rfl) (fun _ _ => rfl) (by assumption) ?_
              try simp only [Act.put, List.setIfInBounds_toArray, List.set_cons_zero, List.set_cons_succ]
              refine take_in (i := 1) (d := 116) (v := .int .i64 t) rfl rfl (by kernel_rfl) (by kernel_rfl) (by kernel_rfl) (fun _ _ _ h => h) (by kernel_rfl) (fun _ _ => rfl) (by assumption) ?_
              try simp only [Act.put, List.setIfInBounds_toArray, List.set_cons_zero, List.set_cons_succ]
              refine take_in (i := 2) (d := 117) (v := .slice (some ⟨br, 0, none⟩) n n) rfl rfl (by kernel_rfl) (by kernel_rfl) (by kernel_rfl) (fun _ _ _ h => h) (by kernel_rfl) (fun _ _ => rfl) (by assumption) ?_
              try simp only [Act.put, List.setIfInBounds_toArray, List.set_cons_zero, List.set_cons_succ]
              refine take_in (i := 3) (d := 118) (v := .int .i64 t) rfl rfl (by kernel_rfl) (by kernel_rfl) (by kernel_rfl) (fun _ _ _ h => h) (by kernel_rfl) (fun _ _ => rfl) (by assumption) ?_
              try simp only [Act.put, List.setIfInBounds_toArray, List.set_cons_zero, List.set_cons_succ]
              refine take_in (i := 4) (d := 119) (v := .slice (some ⟨bh, 0, none⟩) n n) rfl rfl (by kernel_rfl) (by kernel_rfl) (by kernel_rfl) (fun _ _ _ h => h) (by kernel_rfl) (fun _ _ => rfl) (by assumption) ?_
              try simp only [Act.put, List.setIfInBounds_toArray, List.set_cons_zero, List.set_cons_succ]
              refine take_in (i := 5) (d := 120) (v := .int .i64 t) rfl rfl (by kernel_rfl) (by kernel_rfl) (by kernel_rfl) (fun _ _ _ h => h) (by kernel_rfl) (fun _ _ => rfl) (by assumption) ?_
              try simp only [Act.put, List.setIfInBounds_toArray, List.set_cons_zero, List.set_cons_succ]
              refine take_in (i := 6) (d := 121) (v := .iface (Ip (hs t)) (.pointer (some ⟨q7, 0, none⟩))) rfl rfl (by kernel_rfl) (by kernel_rfl) (by kernel_rfl) (fun _ _ _ h => h) (by kernel_rfl) (fun _ _ => rfl) (by assumption) ?_
              try simp only [Act.put, List.setIfInBounds_toArray, List.set_cons_zero, List.set_cons_succ]
              refine take_in (i := 7) (d := 122) (v := .agg #[.int .i64 1, .int .i64 n, .int .i64 0, .int .i64 (2 * t : Nat), .bool (hs t), .int .i64 1, .int .u64 0, .bool false]) rfl rfl (by kernel_rfl) (by kernel_rfl) (by kernel_rfl) (fun _ _ _ h => h) (by kernel_rfl) (fun w' hS => by have hS' : Frm [bp, br, bh] wc w' := hS; obtain ⟨c0, c1, c2, c3, c4, c5, c6, c7⟩ := cells8 (HK8.out w' hS'); go_simp) (by assumption) ?_
              try simp only [Act.put, List.setIfInBounds_toArray, List.set_cons_zero, List.set_cons_succ]
              refine take_in (i := 8) (d := 123) (v := .slice (some ⟨bh, 0, none⟩) n n) rfl rfl (by kernel_rfl) (by kernel_rfl) (by kernel_rfl) (fun _ _ _ h => h) (by kernel_rfl) (fun _ _ => rfl) (by assumption) ?_
              try simp only [Act.put, List.setIfInBounds_toArray, List.set_cons_zero, List.set_cons_succ]
              refine take_in (i := 9) (d := 124) (v := .int .i64 t) rfl rfl (by kernel_rfl) (by kernel_rfl) (by kernel_rfl) (fun _ _ _ h => h) (by kernel_rfl) (fun _ _ => rfl) (by assumption) ?_
              try simp only [Act.put, List.setIfInBounds_toArray, List.set_cons_zero, List.set_cons_succ]
              refine take_in (i := 10) (d := 125) (v := .pointer (some ⟨bh, t, none⟩)) rfl rfl (by kernel_rfl) (by kernel_rfl) (by kernel_rfl) (fun _ _ _ h => h) (by kernel_rfl) (fun w' hS => by go_simp) (by assumption) ?_
              try simp only [Act.put, List.setIfInBounds_toArray, List.set_cons_zero, List.set_cons_succ]
              refine wpAnyH_ready (rs := [11]) (by kernel_rfl) (by simp) ?_
              refine AllReadyH.cons rfl (fun K hK => ?_) AllReadyH.nil
              go_simp
              refine hK.out _ _ (by assumption) (fun hHeld => ?_)
              clear hK K
              try change wpAnyH _ _ _ _ _ _ _ (Act.put _ (some 126) _) _
              try simp only [Act.put, List.setIfInBounds_toArray, List.set_cons_zero, List.set_cons_succ]
              refine take_in (i := 12) (d := 127) (v := .bool (!hs t)) rfl rfl (by kernel_rfl) (by kernel_rfl) (by kernel_rfl) (fun _ _ _ h => h) (by kernel_rfl) (fun _ _ => rfl) (by assumption) ?_
              try simp only [Act.put, List.setIfInBounds_toArray, List.set_cons_zero, List.set_cons_succ]
              refine take_in (i := 13) (d := 128) (v := .pointer (some ⟨bp, t, none⟩)) rfl rfl (by kernel_rfl) (by kernel_rfl) (by kernel_rfl) (fun _ _ _ h => h) (by kernel_rfl) (fun w' hS => by go_simp) (by assumption) ?_
              try simp only [Act.put, List.setIfInBounds_toArray, List.set_cons_zero, List.set_cons_succ]
              have f1 : Frm [bp] wc (wc.setCell ⟨bp, t, none⟩ (.iface (Ip (hs t)) (.pointer (some ⟨q7, 0, none⟩)))) := (Frm.refl _ _).setCell _ _ (.inl (by simp))
              have hne1 := HG.out.brne
              have hrn1 := HRC.out.frm f1 (by simp; exact hne1.2.2.1)
              obtain ⟨v0, k0⟩ := hrn1.any (i := t * 8) (by omega)
              obtain ⟨v1, k1⟩ := hrn1.any (i := t * 8 + 1) (by omega)
              obtain ⟨v2, k2⟩ := hrn1.any (i := t * 8 + 2) (by omega)
              obtain ⟨v3, k3⟩ := hrn1.any (i := t * 8 + 3) (by omega)
              obtain ⟨v4, k4⟩ := hrn1.any (i := t * 8 + 4) (by omega)
              obtain ⟨v5, k5⟩ := hrn1.any (i := t * 8 + 5) (by omega)
              obtain ⟨v6, k6⟩ := hrn1.any (i := t * 8 + 6) (by omega)
              obtain ⟨v7, k7⟩ := hrn1.any (i := t * 8 + 7) (by omega)
              have fz := hrn1.frz
              have HB0 := Gt.begin HG.out HP.out ht HV.out (HG7.out.trans HE.out) hBw (HR7.out.frm HE.out (by simp)) hq7 (!hs t)
              have hFe := (((HF.out.trans (HG7.out.trans HE.out)).setCell ⟨bp, t, none⟩ (.iface (Ip (hs t)) (.pointer (some ⟨q7, 0, none⟩))) (.inr HG.out.sb.low.2.1)).put8 br (t * 8) (.int .i64 1) (.int .i64 n) (.int .i64 0) (.int .i64 (2 * t : Nat)) (.bool (hs t)) (.int .i64 1) (.int .u64 0) (.bool false) (.inr (by have := HG.out.lo.1; omega))).setCell ⟨bh, t, none⟩ (.bool (!hs t)) (.inr HG.out.sb.low.2.2)
              have hc9 := f1.heap HHC.out (by simp; exact Ne.symm HG.out.sb.ne.2.2.2.2.2.2.2)
              have hc9' := (Frm.put8 (Frm.refl [br] _) br (t * 8) (.int .i64 1) (.int .i64 n) (.int .i64 0) (.int .i64 (2 * t : Nat)) (.bool (hs t)) (.int .i64 1) (.int .u64 0) (.bool false) (.inl (by simp))).heap hc9 (by simp; exact Ne.symm hne1.2.2.2.1)
              have kb := (cell_of_heap hc9').trans (vof_get _ ht)
              have fb : _ = false := frozen_of_heap (i := t) hc9'
              rw [e2t] at HB0 hFe kb fb
              have HB := Lib.hid (And.intro HB0 hFe)
              unfold put8 at kb fb
              clear HB0 hFe hc9 hc9'
              refine wpAnyH_ready (rs := [14]) (by kernel_rfl) (by simp) ?_
              refine AllReadyH.cons rfl (fun K hK => ?_) AllReadyH.nil
              go_simp
              refine hK.out _ _ (by exact ((Frm.refl [bp, br, bh] wc).setCell _ _ (.inl (by simp))).drew) (fun hHeld => ?_)
              clear hK K
              try simp only [Act.put, List.setIfInBounds_toArray, List.set_cons_zero, List.set_cons_succ]
              refine take_in (i := 15) (d := 129) (v := .pointer (some ⟨br, t * 8, none⟩)) rfl rfl (by kernel_rfl) (by kernel_rfl) (by kernel_rfl) (fun _ _ _ h => h) (by kernel_rfl) (fun w' hS => by go_simp) (by assumption) ?_
              try simp only [Act.put, List.setIfInBounds_toArray, List.set_cons_zero, List.set_cons_succ]
              refine wpAnyH_ready (rs := [16]) (by kernel_rfl) (by simp) ?_
              refine AllReadyH.cons rfl (fun K hK => ?_) AllReadyH.nil
              go_simp
              refine hK.out _ _ (by exact (Frm.put8 ((Frm.refl [bp, br, bh] wc).setCell ⟨bp, t, none⟩ _ (.inl (by simp))) br (t * 8) _ _ _ _ _ _ _ _ (.inl (by simp))).drew) (fun hHeld => ?_)
              clear hK K
              try simp only [Act.put, List.setIfInBounds_toArray, List.set_cons_zero, List.set_cons_succ]
              refine take_in (i := 17) (d := 130) (v := .pointer (some ⟨bh, t, none⟩)) rfl rfl (by kernel_rfl) (by kernel_rfl) (by kernel_rfl) (fun _ _ _ h => h) (by kernel_rfl) (fun w' hS => by go_simp) (by assumption) ?_
              try simp only [Act.put, List.setIfInBounds_toArray, List.set_cons_zero, List.set_cons_succ]
              refine wpAnyH_ready (rs := [18]) (by kernel_rfl) (by simp) ?_
              refine AllReadyH.cons rfl (fun K hK => ?_) AllReadyH.nil
              clear k0 k1 k2 k3 k4 k5 k6 k7 fz hchC hcpC hzb
              go_simp
              refine hK.out _ _ (by exact ((Frm.put8 ((Frm.refl [bp, br, bh] wc).setCell ⟨bp, t, none⟩ _ (.inl (by simp))) br (t * 8) _ _ _ _ _ _ _ _ (.inl (by simp))).setCell ⟨bh, t, none⟩ _ (.inl (by simp))).drew) (fun hHeld => ?_)
              clear hK K
              try simp only [Act.put, List.setIfInBounds_toArray, List.set_cons_zero, List.set_cons_succ]
              refine wpAnyH_done (by kernel_rfl) ?_ _
              refine NoPanic.normal ?_
              clear kb fb
              go_wp2
              go_meet
              exact ⟨_, _, _, HB.out.2.drew, HB.out.1.1.frm0 (Frm.refl _ _).drew, HB.out.1.2.frm0 (Frm.refl _ _).drew, _, up_eq _ _ _⟩
        case rest =>
          clear HF HG HP hcp hch hnil hgrd hix hcx
          obtain ⟨pg1, hs1, qa1, hF, hGt, hPs, ⟨back, s, o⟩, hv⟩ := hcut
          have HF := Lib.hid hF
          have HG := Lib.hid hGt
          have HP := Lib.hid hPs
          have HV := Lib.hid hv
          clear hF hGt hPs hv
          have hPg := HP.out t ht back s o HV.out
          obtain ⟨met, hPg', hk0⟩ := hPg
          obtain ⟨e', s', o', ws', wait, no, hst, hok, hpos, hln⟩ := (hk0 rfl).1.stp 1 n 0 (2 * t) ws HG.out.sb.pos
          have HST := Lib.hid hst
          have HOK := Lib.hid hok
          have HPOS := Lib.hid hpos
          have HLN := Lib.hid hln
          have hqn := HG.out.sb.qne t ht (by rw [HV.out]; simp)
          have HQN := Lib.hid hqn
          have HGQ := Lib.hid (HG.out.gq t ht (by rw [HV.out]; simp))
          have e2t : ((2 * t : Nat) : Int) = 2 * (t : Int) := by omega
          have HDO := Lib.hid (fun (w' : World) (hf : Frm [] wc w') => does_any (HG.out.sb.mem.frm hf (by simp) (by simp)) ((HP.out t ht back s o HV.out).frm hf (by simp)) HG.out.sb.len (by omega) (rd_far HG.out.rd hf (by simp)) HG.out.gne.1 HGQ.out HQN.out.1 HQN.out.2.1 (by omega) (by omega) (by omega) HST.out HOK.out HLN.out)
          have HSTEP := Lib.hid (fun (w0 w' : World) (g' o2 c2 : Nat) (hf : Frm [] wc w0) (hA : Aftr p d c (qa1 t) back 1 n 0 (2 * t) w0 ws' s' o' e' w') (hrd : Rd w' (.slice (some ⟨g', o2, none⟩) (1 + 6 * n) c2) (u64s ws')) (hg : g' = g ∨ w0.heap.size ≤ g') => Gt.step (HG.out.frm0 hf) (HP.out.frm0 hf) ht HV.out hA HPOS.out HLN.out hrd hg)
          have hbq : br ≠ qa1 t := by
            obtain ⟨met, hP1, _⟩ := HP.out t ht back s o HV.out
            obtain ⟨cs, hc, _⟩ := HG.out.rn
            exact ty_ne hc hP1.obj (by cases back <;> decide)
          have HK1 := Lib.hid (fun w' (hf : Frm [d, qa1 t] wc w') => (show w'.cell? ⟨bp, t, none⟩ = some (.iface (Ip back) (.pointer (some ⟨qa1 t, 0, none⟩))) from by
            rw [cell_of_heap (hf.heap HG.out.sb.progs (by simp; exact ⟨Ne.symm HG.out.sb.ne.2.2.2.2.2.1, Ne.symm HQN.out.2.2.1⟩)), vof_get _ ht, HV.out]; rfl))
          have HK2 := Lib.hid (fun w' (hf : Frm [d, qa1 t] wc w') => (HG.out.rn.frm hf (by simp; exact ⟨HG.out.brne.1, hbq⟩)).cells ht HV.out)
          have hl1 := HG.out.sb.nd.lt
          have hl2 := HG.out.sb.mem.plt
          have hl3 := HG.out.sb.mem.dlt
          have hl4 := lt_of_heap HG.out.sb.progs
          have hl5 := lt_of_heap HG.out.sb.hass
          have hl6 : br < wc.heap.size := by obtain ⟨cs, hc, _⟩ := HG.out.rn; exact lt_of_heap hc
          have hl7 := lt_of_heap HG.out.nn
          have hl8 := HG.out.glt
          have hq8 := (HP.out t ht back s o HV.out).lt
          have hB8 := HF.out.size
          have HOLD := Lib.hid (fun i (hi : i < n) (hn : up pg1 t none i ≠ none) => show qa1 i < wc.heap.size from by
            cases hv : up pg1 t none i with
            | none => exact absurd hv hn
            | some x =>
              obtain ⟨b, s, o⟩ := x
              by_cases e : i = t
              · rw [e, up_eq] at hv; cases hv
              · rw [up_ne _ _ e] at hv; exact (HP.out i hi b s o hv).lt)
          clear hPg' hk0 hst hok hpos hln hqn HST HOK HPOS HLN
          go_upto_region 20 with fail
          go_cut [20, 21, 22] (fun s20 s21 s22 wx => ∃ b20 g' o2 c2 : Nat, s20 = .pointer (some ⟨b20, 0, none⟩) ∧ s21 = .slice (some ⟨g', o2, none⟩) (1 + 6 * n) c2 ∧ s22 = .bool true ∧ wc.heap.size ≤ b20 ∧ wx.heap[b20]? = some (.cells #[.int .i64 1, .int .i64 n, .int .i64 0, .int .i64 (2 * t : Nat), .bool back, .int .i64 s', .int .u64 o', .bool e'] 42 (0, 0)) ∧ Gt w.heap.size wx n p d c bp bh br bn g' o2 c2 ws' (up pg1 t (some (back, s', o'))) (up pg1 t none) hs1 qa1 ∧ Ps wx n (up pg1 t none) qa1 ∧ PgR wx (qa1 t) back 1 n 0 (2 * t) s' o' e' ∧ Frm [] w wx)
          case first =>
            refine wp_region_noPanic ?_
            refine wp_region_held_drew (S := fun w' => Frm [d, qa1 t] wc w') (by kernel_rfl) ((Frm.refl _ _).drew) (fun hHeld => ?_)
            refine take_in (i := 0) (d := 132) (v := .slice (some ⟨bp, 0, none⟩) n n) rfl rfl (by kernel_rfl) (by kernel_rfl) (by kernel_rfl) (fun _ _ _ h => h) (by kernel_rfl) (fun _ _ => rfl) (by assumption) ?_
            try simp only [Act.put, List.setIfInBounds_toArray, List.set_cons_zero, List.set_cons_succ]
            refine take_in (i := 1) (d := 133) (v := .int .i64 t) rfl rfl (by kernel_rfl) (by kernel_rfl) (by kernel_rfl) (fun _ _ _ h => h) (by kernel_rfl) (fun _ _ => rfl) (by assumption) ?_
            try simp only [Act.put, List.setIfInBounds_toArray, List.set_cons_zero, List.set_cons_succ]
            refine take_in (i := 2) (d := 134) (v := .pointer (some ⟨bp, t, none⟩)) rfl rfl (by kernel_rfl) (by kernel_rfl) (by kernel_rfl) (fun _ _ _ h => h) (by kernel_rfl) (fun w' hS => by go_simp) (by assumption) ?_
            try simp only [Act.put, List.setIfInBounds_toArray, List.set_cons_zero, List.set_cons_succ]
            refine take_in (i := 3) (d := 135) (v := .iface (Ip back) (.pointer (some ⟨qa1 t, 0, none⟩))) rfl rfl (by kernel_rfl) (by kernel_rfl) (by kernel_rfl) (fun _ _ _ h => h) (by kernel_rfl) (fun w' hS => by have hS' : Frm [d, qa1 t] wc w' := hS; have hh := HK1.out w' hS'; go_simp) (by assumption) ?_
            try simp only [Act.put, List.setIfInBounds_toArray, List.set_cons_zero, List.set_cons_succ]
            refine take_in (i := 4) (d := 136) (v := .slice (some ⟨br, 0, none⟩) n n) rfl rfl (by kernel_rfl) (by kernel_rfl) (by kernel_rfl) (fun _ _ _ h => h) (by kernel_rfl) (fun _ _ => rfl) (by assumption) ?_
            try simp only [Act.put, List.setIfInBounds_toArray, List.set_cons_zero, List.set_cons_succ]
            refine take_in (i := 5) (d := 137) (v := .int .i64 t) rfl rfl (by kernel_rfl) (by kernel_rfl) (by kernel_rfl) (fun _ _ _ h => h) (by kernel_rfl) (fun _ _ => rfl) (by assumption) ?_
            try simp only [Act.put, List.setIfInBounds_toArray, List.set_cons_zero, List.set_cons_succ]
            refine take_in (i := 6) (d := 138) (v := .pointer (some ⟨br, t * 8, none⟩)) rfl rfl (by kernel_rfl) (by kernel_rfl) (by kernel_rfl) (fun _ _ _ h => h) (by kernel_rfl) (fun w' hS => by go_simp) (by assumption) ?_
            try simp only [Act.put, List.setIfInBounds_toArray, List.set_cons_zero, List.set_cons_succ]
            refine take_in (i := 7) (d := 139) (v := .agg #[.int .i64 1, .int .i64 n, .int .i64 0, .int .i64 (2 * t : Nat), .bool back, .int .i64 s, .int .u64 o, .bool false]) rfl rfl (by kernel_rfl) (by kernel_rfl) (by kernel_rfl) (fun _ _ _ h => h) (by kernel_rfl) (fun w' hS => by have hS' : Frm [d, qa1 t] wc w' := hS; obtain ⟨c0, c1, c2, c3, c4, c5, c6, c7⟩ := HK2.out w' hS'; go_simp) (by assumption) ?_
            try simp only [Act.put, List.setIfInBounds_toArray, List.set_cons_zero, List.set_cons_succ]
            refine take_in (i := 8) (d := 140) (v := .pointer (some ⟨p, 0, none⟩)) rfl rfl (by kernel_rfl) (by kernel_rfl) (by kernel_rfl) (fun _ _ _ h => h) (by kernel_rfl) (fun _ _ => rfl) (by assumption) ?_
            try simp only [Act.put, List.setIfInBounds_toArray, List.set_cons_zero, List.set_cons_succ]
            refine take_in (i := 9) (d := 141) (v := .slice (some ⟨g, oo, none⟩) (1 + 6 * n) cg) rfl rfl (by kernel_rfl) (by kernel_rfl) (by kernel_rfl) (fun _ _ _ h => h) (by kernel_rfl) (fun _ _ => rfl) (by assumption) ?_
            try simp only [Act.put, List.setIfInBounds_toArray, List.set_cons_zero, List.set_cons_succ]
            refine wpAnyH_ready (rs := [10, 15]) (by kernel_rfl) (by simp) ?_
            refine AllReadyH.cons rfl (fun K hK => ?_) (AllReadyH.cons rfl (fun K hK => ?_) AllReadyH.nil)
            · go_simp
              refine (HDO.out _ (by (repeat' (first | assumption | exact Frm.refl _ _ | apply Frm.drew | apply Frm.drewN | apply Frm.alloc)))).mono ?_
              rintro e x1 ⟨g', o2, c2, rfl, hA, hrd, hgg⟩
              have hSt := HSTEP.out _ _ _ _ _ (by (repeat' (first | assumption | exact Frm.refl _ _ | apply Frm.drew | apply Frm.drewN | apply Frm.alloc))) hA hrd hgg
              have s1 : Frm [d, qa1 t] wc x1 := Frm.trans (by (repeat' (first | assumption | exact Frm.refl _ _ | apply Frm.drew | apply Frm.drewN | apply Frm.alloc))) hA.1
              have HS1 := Lib.hid hSt
              have HGG := Lib.hid hgg
              have HFX := Lib.hid (HF.out.trans_new s1 (by intro y hy; simp at hy; rcases hy with rfl | rfl; exact .inr HG.out.sb.low.1; exact .inr HQN.out.2.2.2.2.2))
              clear hSt hrd hA hgg
              refine hK.out _ _ (by exact s1) (fun hHeld => ?_)
              clear hK K
              try change wpAnyH _ _ _ _ _ _ _ (Act.put _ (some 142) _) _
              try simp only [Act.put, List.setIfInBounds_toArray, List.set_cons_zero, List.set_cons_succ]
              refine take_in (i := 11) (d := 131) (v := .tuple #[.agg #[.int .i64 1, .int .i64 n, .int .i64 0, .int .i64 (2 * t : Nat), .bool back, .int .i64 s', .int .u64 o', .bool e'], .slice (some ⟨g', o2, none⟩) (1 + 6 * n) c2, .bool true]) rfl rfl (by kernel_rfl) (by kernel_rfl) (by kernel_rfl) (fun _ _ _ h => h) (by kernel_rfl) (fun _ _ => rfl) (by assumption) ?_
              try simp only [Act.put, List.setIfInBounds_toArray, List.set_cons_zero, List.set_cons_succ]
              refine take_in (i := 12) (d := 143) (v := .agg #[.int .i64 1, .int .i64 n, .int .i64 0, .int .i64 (2 * t : Nat), .bool back, .int .i64 s', .int .u64 o', .bool e']) rfl rfl (by kernel_rfl) (by kernel_rfl) (by kernel_rfl) (fun _ _ _ h => h) (by kernel_rfl) (fun _ _ => rfl) (by assumption) ?_
              try simp only [Act.put, List.setIfInBounds_toArray, List.set_cons_zero, List.set_cons_succ]
              refine take_in (i := 13) (d := 144) (v := .slice (some ⟨g', o2, none⟩) (1 + 6 * n) c2) rfl rfl (by kernel_rfl) (by kernel_rfl) (by kernel_rfl) (fun _ _ _ h => h) (by kernel_rfl) (fun _ _ => rfl) (by assumption) ?_
              try simp only [Act.put, List.setIfInBounds_toArray, List.set_cons_zero, List.set_cons_succ]
              refine take_in (i := 14) (d := 145) (v := .bool true) rfl rfl (by kernel_rfl) (by kernel_rfl) (by kernel_rfl) (fun _ _ _ h => h) (by kernel_rfl) (fun _ _ => rfl) (by assumption) ?_
              try simp only [Act.put, List.setIfInBounds_toArray, List.set_cons_zero, List.set_cons_succ]
              refine wpAnyH_ready (rs := [15]) (by kernel_rfl) (by simp) ?_
              refine AllReadyH.cons rfl (fun K hK => ?_) AllReadyH.nil
              go_simp
              have s2 : Frm [d, qa1 t] wc (x1.alloc (.cells #[.int .i64 0, .int .i64 0, .int .i64 0, .int .i64 0, .bool false, .int .i64 0, .int .u64 0, .bool false] 42)) := s1.alloc _
              refine hK.out _ _ (by exact s2) (fun hHeld => ?_)
              clear hK K
              try change wpAnyH _ _ _ _ _ _ _ (Act.put _ (some 20) _) _
              try simp only [Act.put, List.setIfInBounds_toArray, List.set_cons_zero, List.set_cons_succ]
              have hz8 := heap_alloc_new x1 (.cells #[.int .i64 0, .int .i64 0, .int .i64 0, .int .i64 0, .bool false, .int .i64 0, .int .u64 0, .bool false] 42)
              obtain ⟨r0, r1, r2, r3, r4, r5, r6, r7⟩ := cells8 hz8
              have fz := fun i => frozen_of_heap (i := i) hz8
              refine wpAnyH_ready (rs := [16]) (by kernel_rfl) (by simp) ?_
              refine AllReadyH.cons rfl (fun K hK => ?_) AllReadyH.nil
              go_simp
              have hle : wc.heap.size ≤ x1.heap.size := s1.size
              refine hK.out _ _ (s1.alloc _) (fun hHeld => ?_)
              clear hK K
              try simp only [Act.put, List.setIfInBounds_toArray, List.set_cons_zero, List.set_cons_succ]
              refine take_in (i := 17) (d := 21) (v := .slice (some ⟨g', o2, none⟩) (1 + 6 * n) c2) rfl rfl (by kernel_rfl) (by kernel_rfl) (by kernel_rfl) (fun _ _ _ h => h) (by kernel_rfl) (fun _ _ => rfl) (by assumption) ?_
              try simp only [Act.put, List.setIfInBounds_toArray, List.set_cons_zero, List.set_cons_succ]
              refine take_in (i := 18) (d := 22) (v := .bool true) rfl rfl (by kernel_rfl) (by kernel_rfl) (by kernel_rfl) (fun _ _ _ h => h) (by kernel_rfl) (fun _ _ => rfl) (by assumption) ?_
              try simp only [Act.put, List.setIfInBounds_toArray, List.set_cons_zero, List.set_cons_succ]
              refine wpAnyH_done (by kernel_rfl) ?_ _
              refine NoPanic.normal ?_
              clear r0 r1 r2 r3 r4 r5 r6 r7 fz hz8
              go_wp2
              go_meet
              exact ⟨x1.heap.size, g', o2, c2, rfl, rfl, rfl, hle, by rw [e2t]; exact heap_alloc_new _ _, HS1.out.1.frm0 ((Frm.refl _ _).alloc _), HS1.out.2.1.frm0 ((Frm.refl _ _).alloc _), HS1.out.2.2.frm ((Frm.refl [] _).alloc _) (by simp), HFX.out.alloc _⟩
            · go_simp
              have s0 : Frm [d, qa1 t] wc (wc.drew.alloc (.cells #[.int .i64 0, .int .i64 0, .int .i64 0, .int .i64 0, .bool false, .int .i64 0, .int .u64 0, .bool false] 42)) := ((Frm.refl _ _).drew).alloc _
              refine hK.out _ _ (by exact s0) (fun hHeld => ?_)
              clear hK K
              try change wpAnyH _ _ _ _ _ _ _ (Act.put _ (some 20) _) _
              try simp only [Act.put, List.setIfInBounds_toArray, List.set_cons_zero, List.set_cons_succ]
              refine wpAnyH_ready (rs := [10]) (by kernel_rfl) (by simp) ?_
              refine AllReadyH.cons rfl (fun K hK => ?_) AllReadyH.nil
              go_simp
              refine (HDO.out _ (by (repeat' (first | assumption | exact Frm.refl _ _ | apply Frm.drew | apply Frm.drewN | apply Frm.alloc)))).mono ?_
              rintro e x1 ⟨g', o2, c2, rfl, hA, hrd, hgg⟩
              have hSt := HSTEP.out _ _ _ _ _ (by (repeat' (first | assumption | exact Frm.refl _ _ | apply Frm.drew | apply Frm.drewN | apply Frm.alloc))) hA hrd hgg
              have s1 : Frm [d, qa1 t] wc x1 := Frm.trans (by (repeat' (first | assumption | exact Frm.refl _ _ | apply Frm.drew | apply Frm.drewN | apply Frm.alloc))) hA.1
              have hz8 : x1.heap[wc.heap.size]? = some (.cells #[.int .i64 0, .int .i64 0, .int .i64 0, .int .i64 0, .bool false, .int .i64 0, .int .u64 0, .bool false] 42 (0, 0)) := hA.1.heap (heap_alloc_new wc.drew (.cells #[.int .i64 0, .int .i64 0, .int .i64 0, .int .i64 0, .bool false, .int .i64 0, .int .u64 0, .bool false] 42)) (by simp; omega)
              have hgx : g' ≠ wc.heap.size := by
                rcases hgg with h | h
                · omega
                · simp at h; omega
              have HS1 := Lib.hid hSt
              have HGG := Lib.hid hgg
              have HFX := Lib.hid (HF.out.trans_new s1 (by intro y hy; simp at hy; rcases hy with rfl | rfl; exact .inr HG.out.sb.low.1; exact .inr HQN.out.2.2.2.2.2))
              clear hSt hrd hA hgg
              refine hK.out _ _ (by exact s1) (fun hHeld => ?_)
              clear hK K
              try change wpAnyH _ _ _ _ _ _ _ (Act.put _ (some 142) _) _
              try simp only [Act.put, List.setIfInBounds_toArray, List.set_cons_zero, List.set_cons_succ]
              refine take_in (i := 11) (d := 131) (v := .tuple #[.agg #[.int .i64 1, .int .i64 n, .int .i64 0, .int .i64 (2 * t : Nat), .bool back, .int .i64 s', .int .u64 o', .bool e'], .slice (some ⟨g', o2, none⟩) (1 + 6 * n) c2, .bool true]) rfl rfl (by kernel_rfl) (by kernel_rfl) (by kernel_rfl) (fun _ _ _ h => h) (by kernel_rfl) (fun _ _ => rfl) (by assumption) ?_
              try simp only [Act.put, List.setIfInBounds_toArray, List.set_cons_zero, List.set_cons_succ]
              refine take_in (i := 12) (d := 143) (v := .agg #[.int .i64 1, .int .i64 n, .int .i64 0, .int .i64 (2 * t : Nat), .bool back, .int .i64 s', .int .u64 o', .bool e']) rfl rfl (by kernel_rfl) (by kernel_rfl) (by kernel_rfl) (fun _ _ _ h => h) (by kernel_rfl) (fun _ _ => rfl) (by assumption) ?_
              try simp only [Act.put, List.setIfInBounds_toArray, List.set_cons_zero, List.set_cons_succ]
              refine take_in (i := 13) (d := 144) (v := .slice (some ⟨g', o2, none⟩) (1 + 6 * n) c2) rfl rfl (by kernel_rfl) (by kernel_rfl) (by kernel_rfl) (fun _ _ _ h => h) (by kernel_rfl) (fun _ _ => rfl) (by assumption) ?_
              try simp only [Act.put, List.setIfInBounds_toArray, List.set_cons_zero, List.set_cons_succ]
              refine take_in (i := 14) (d := 145) (v := .bool true) rfl rfl (by kernel_rfl) (by kernel_rfl) (by kernel_rfl) (fun _ _ _ h => h) (by kernel_rfl) (fun _ _ => rfl) (by assumption) ?_
              try simp only [Act.put, List.setIfInBounds_toArray, List.set_cons_zero, List.set_cons_succ]
              obtain ⟨r0, r1, r2, r3, r4, r5, r6, r7⟩ := cells8 hz8
              have fz := fun i => frozen_of_heap (i := i) hz8
              refine wpAnyH_ready (rs := [16]) (by kernel_rfl) (by simp) ?_
              refine AllReadyH.cons rfl (fun K hK => ?_) AllReadyH.nil
              go_simp
              refine hK.out _ _ (Frm.set8 s1 _ _ _ _ _ _ _ _ _ (.inr (Nat.le_refl _))) (fun hHeld => ?_)
              clear hK K
              try simp only [Act.put, List.setIfInBounds_toArray, List.set_cons_zero, List.set_cons_succ]
              refine take_in (i := 17) (d := 21) (v := .slice (some ⟨g', o2, none⟩) (1 + 6 * n) c2) rfl rfl (by kernel_rfl) (by kernel_rfl) (by kernel_rfl) (fun _ _ _ h => h) (by kernel_rfl) (fun _ _ => rfl) (by assumption) ?_
              try simp only [Act.put, List.setIfInBounds_toArray, List.set_cons_zero, List.set_cons_succ]
              refine take_in (i := 18) (d := 22) (v := .bool true) rfl rfl (by kernel_rfl) (by kernel_rfl) (by kernel_rfl) (fun _ _ _ h => h) (by kernel_rfl) (fun _ _ => rfl) (by assumption) ?_
              try simp only [Act.put, List.setIfInBounds_toArray, List.set_cons_zero, List.set_cons_succ]
              refine wpAnyH_done (by kernel_rfl) ?_ _
              refine NoPanic.normal ?_
              have hfin := setCells8 (b := wc.heap.size) hz8 (.int .i64 1) (.int .i64 n) (.int .i64 0) (.int .i64 (2 * (t : Int))) (.bool back) (.int .i64 s') (.int .u64 o') (.bool e')
              have s3 := Frm.set8 (Frm.refl [wc.heap.size] x1) wc.heap.size (.int .i64 1) (.int .i64 n) (.int .i64 0) (.int .i64 (2 * (t : Int))) (.bool back) (.int .i64 s') (.int .u64 o') (.bool e') (.inl (by simp))
              have s4 := Frm.set8 HFX.out wc.heap.size (.int .i64 1) (.int .i64 n) (.int .i64 0) (.int .i64 (2 * (t : Int))) (.bool back) (.int .i64 s') (.int .u64 o') (.bool e') (.inr (by omega))
              have g9 := Gt.frm1 HS1.out.1 s3 (by omega) (by omega) (by omega) (by omega) (by omega) (by omega) (by omega) hgx
              have p9 := HS1.out.2.1.frm s3 (fun i hi hn => by have := HOLD.out i hi hn; simp; omega)
              have r9 := HS1.out.2.2.frm s3 (by simp; omega)
              have H9 := Lib.hid (And.intro hfin (And.intro g9 (And.intro p9 (And.intro r9 s4))))
              clear r0 r1 r2 r3 r4 r5 r6 r7 fz hz8 hfin s3 s4 g9 p9 r9
              go_wp2
              go_meet
              exact ⟨wc.heap.size, g', o2, c2, rfl, rfl, rfl, Nat.le_refl _, by rw [e2t]; exact H9.out.1, H9.out.2.1, H9.out.2.2.1, H9.out.2.2.2.1, H9.out.2.2.2.2⟩
          case rest =>
            obtain ⟨b20, g', o2, c2, rfl, rfl, rfl, hb20, hr20, hG2, hP2, hR2, hF2⟩ := hcut
            have HG2 := Lib.hid hG2
            have HP2 := Lib.hid hP2
            have HR2 := Lib.hid hR2
            have HF2 := Lib.hid hF2
            have HR20 := Lib.hid hr20
            have hbb : b20 ≠ br ∧ b20 ≠ bp := by omega
            clear hG2 hP2 hR2 hF2 hr20 HDO HSTEP HK1 HK2 HOLD HG HP HF HGQ HQN
            have hHas := HF2.out
            obtain ⟨c0, c1, c2', c3, c4, c5, c6, c7⟩ := cells8 HR20.out
            rw [e2t] at c3
            have hrn := HG2.out.rn
            obtain ⟨v0, k0⟩ := hrn.any (i := t * 8) (by omega)
            obtain ⟨v1, k1⟩ := hrn.any (i := t * 8 + 1) (by omega)
            obtain ⟨v2, k2⟩ := hrn.any (i := t * 8 + 2) (by omega)
            obtain ⟨v3, k3⟩ := hrn.any (i := t * 8 + 3) (by omega)
            obtain ⟨v4, k4⟩ := hrn.any (i := t * 8 + 4) (by omega)
            obtain ⟨v5, k5⟩ := hrn.any (i := t * 8 + 5) (by omega)
            obtain ⟨v6, k6⟩ := hrn.any (i := t * 8 + 6) (by omega)
            obtain ⟨v7, k7⟩ := hrn.any (i := t * 8 + 7) (by omega)
            have fz := hrn.frz
            have hGR := Gt.run HG2.out HP2.out ht rfl HR2.out
            have hFE := HF2.out.put8 br (t * 8) (.int .i64 1) (.int .i64 n) (.int .i64 0) (.int .i64 (2 * t : Nat)) (.bool back) (.int .i64 s') (.int .u64 o') (.bool e') (.inr (by have := HG2.out.lo.1; omega))
            have f8 : Frm [br] wc (put8 wc br (t * 8) (.int .i64 1) (.int .i64 n) (.int .i64 0) (.int .i64 (2 * t : Nat)) (.bool back) (.int .i64 s') (.int .u64 o') (.bool e')) := (Frm.refl [br] wc).put8 br (t * 8) _ _ _ _ _ _ _ _ (.inl (by simp))
            have kb := (cells8 (f8.heap HR20.out (by simp; exact hbb.1))).2.2.2.2.2.2.2
            have kp := (cell_of_heap (i := t) (f8.heap HG2.out.sb.progs (by simp; exact Ne.symm HG2.out.brne.2.2.1))).trans (vof_get _ ht)
            have fp : _ = false := frozen_of_heap (i := t) (f8.heap HG2.out.sb.progs (by simp; exact Ne.symm HG2.out.brne.2.2.1))
            rw [e2t] at hGR hFE kb kp fp
            have HGR := Lib.hid (And.intro hGR hFE)
            unfold put8 at kb kp fp
            clear hGR hFE hrn hHas f8
            cases e' with
            | false =>
              clear kp fp
              go_wp2
              go_roundw
              case rel => exact ⟨k + 1, g', o2, c2, by omega, by go_num, rfl, ws', _, hs1, qa1, HGR.out.2, HGR.out.1.1, HGR.out.1.2.1.put HGR.out.1.2.2⟩
              case measure => simp [intOf]; omega
            | true =>
              have hD := Gt.drop HGR.out.1.1 HGR.out.1.2.1 ht
              have hFD := HGR.out.2.setCell ⟨bp, t, none⟩ .nilIface (.inr HG2.out.sb.low.2.1)
              have HD := Lib.hid (And.intro hD hFD)
              clear hD hFD HGR
              go_wp2
              go_roundw
              case rel => exact ⟨k + 1, g', o2, c2, by omega, by go_num, rfl, ws', _, hs1, qa1, HD.out.2, HD.out.1.1, HD.out.1.2⟩
              case measure => simp [intOf]; omega
      · have hkl : ¬ ((k : Int) < (len : Int)) := by omega
        clear HG HP
        go_wp2_with fail
        refine known_true.mono ?_
        rintro e w7 ⟨rfl, g7⟩
        go_wp2
        go_ret
        exact ⟨rfl, HF.out.trans g7⟩
#print axioms plays_loop
end Go.Proofs.Ytoieedlkffmcgaa
