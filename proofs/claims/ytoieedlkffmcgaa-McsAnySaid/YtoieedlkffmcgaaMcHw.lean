/- The walk of McsHolds. -/
import Derived.Test.YtoieedlkffmcgaaMcSz
import Derived.Test.YtoieedlkffmcgaaMcAl
import Derived.Test.YtoieedlkffmcgaaLi
import Derived.Deep.DeepCutAuto
namespace Go.Proofs.Ytoieedlkffmcgaa
open Go.ChangeShapes Go.WideShapes Go.ChangeAt Go.RowKit
set_option linter.unusedVariables false

theorem info_prog : (Try.prog.info? 37).map (fun i => (i.zero, i.size, i.bytes)) = some (some .nilIface, 1, 16) := by kernel_rfl
theorem info_bool : (Try.prog.info? 4).map (fun i => (i.zero, i.size, i.bytes)) = some (some (.bool false), 1, 1) := by kernel_rfl
theorem mk_progs (n : Nat) (h : n ≤ 255) (w : World) : (Instr.makeSlice 33 (.int .u8 n) (.int .u8 n)).run Try.prog w =
    .ok (.slice (some ⟨w.heap.size, 0, none⟩) n n) (w.alloc (.cells (vof (fun _ => .nilIface) n) 37)) := by
  obtain ⟨i0, hi, hz0, hz1, hz2⟩ := info_parts info_prog
  have := run_make (P := Try.prog) w 33 37 i0 .nilIface Try.underlying33 hi hz0 .u8 .u8 (n : Int) (n : Int) (by omega) (by omega) (by rw [hz2]; omega) (by omega)
  rw [this, hz1]
  have e : madeCells (Value.nilIface).cells (Int.toNat (n : Int) * 1) = vof (fun _ => .nilIface) n := by
    apply Array.ext
    · simp [madeCells, vof]
    · intro j h1 h2
      simp [madeCells, vof, Value.cells, Nat.mod_one]
  rw [e]; simp
theorem mk_bools (n : Nat) (h : n ≤ 255) (w : World) : (Instr.makeSlice 35 (.int .u8 n) (.int .u8 n)).run Try.prog w =
    .ok (.slice (some ⟨w.heap.size, 0, none⟩) n n) (w.alloc (.cells (vof (fun _ => .bool false) n) 4)) := by
  obtain ⟨i0, hi, hz0, hz1, hz2⟩ := info_parts info_bool
  have := run_make (P := Try.prog) w 35 4 i0 (.bool false) Try.underlying35 hi hz0 .u8 .u8 (n : Int) (n : Int) (by omega) (by omega) (by rw [hz2]; omega) (by omega)
  rw [this, hz1]
  have e : madeCells (Value.bool false).cells (Int.toNat (n : Int) * 1) = vof (fun _ => .bool false) n := by
    apply Array.ext
    · simp [madeCells, vof]
    · intro j h1 h2
      simp [madeCells, vof, Value.cells, Nat.mod_one]
  rw [e]; simp

theorem begin_t {w : World} {n t k : Nat} (h : Nd w n 1 t) (t64 : t ≤ 64) (hk : k < t) (back : Bool) :
    Calls Try.prog 11 #[.pointer (some ⟨n, 0, none⟩), .int .i64 0, .int .i64 (2 * (k : Int)), .bool back] w (fun e w' => ∃ q, Ret (.tuple #[.iface (Ip back) (.pointer (some ⟨q, 0, none⟩)), .int .i64 0]) (fun w' => Frm [] w w' ∧ PgR w' q back 1 t 0 (2 * k) 1 0 false ∧ w.heap.size ≤ q) e w') := by
  have e : (2 * (k : Int)) = ((2 * k : Nat) : Int) := by omega
  rw [e]; exact begin_0 h t64 (by omega) back
theorem nil_pv (x : Option Pr) (q : Nat) (w : World) : (binOp .eql 37 (pvI x q) .nilIface).run Try.prog w = .ok (.bool x.isNone) w := by
  cases x with
  | none => kernel_rfl
  | some x => obtain ⟨b, s, o⟩ := x; cases b <;> kernel_rfl
theorem grd_pv (x : Option Pr) (q j : Nat) (w : World) : (eqGuard .eql 37 (.tmp j) (.const .nilIface) (pvI x q) .nilIface).run Try.prog w = .ok () w := by
  cases x with
  | none => kernel_rfl
  | some x => obtain ⟨b, s, o⟩ := x; cases b <;> kernel_rfl
theorem as_acq (v : Option Addr) (w : World) : (Instr.typeAssert (.iface 62 (.pointer v)) 37 62 true).run Try.prog w = .ok (.tuple #[.pointer v, .bool true]) w := by kernel_rfl
theorem as_rel (v : Option Addr) (w : World) : (Instr.typeAssert (.iface 63 (.pointer v)) 37 62 true).run Try.prog w = .ok (.tuple #[.pointer none, .bool false]) w := by kernel_rfl
/-- What is true at the head of each round. -/
def Rnd (w : World) (B n nq p d c bp bh : Nat) (a : Option Addr) (m cc : Nat) (wr : World) : Prop :=
  ∃ ws pg hs qa C q, Frm [] w wr ∧ Sb B wr n nq p d c bp bh ws pg hs qa ∧ Ps wr n pg qa ∧ Inv (mm ws) pg hs n C q ∧ Qu (B + 1) wr a m cc q

set_option maxRecDepth 100000 in
set_option maxHeartbeats 1600000 in
theorem holds_loop {a : Option Addr} {len cap b o : Nat} {xs : List Int} {n : Nat} {w : World} (hL : Li .u8 w a len cap b o xs) (hx : ∀ x ∈ xs, (Lit.int .u8 x).wf = true) (hb : 0 < len → b < w.heap.size) (n1 : 1 ≤ n) (n6 : n ≤ 6) (hlen : len ≤ 150) :
    Calls Try.prog 7 #[.int .u8 n, .slice a len cap] w (Ret (.bool true) (fun w' => Frm [] w w')) := by
  have d1 : decide ((n : Int) < 1) = false := by simp; omega
  have d1' : decide (n < 1) = false := by simp; omega
  have d2 : decide ((6 : Int) < (n : Int)) = false := by simp; omega
  have d2' : decide (6 < n) = false := by simp; omega
  have d3 : decide ((150 : Int) < (len : Int)) = false := by simp; omega
  have d3' : decide (150 < len) = false := by simp; omega
  have HL := Lib.hid hL
  have HX := Lib.hid hx
  clear hL hx
  have hmk := mk_al n (by omega)
  go_enter Try.func7, Try.ntmps7
  go_wp2_with fail
  refine (nodes_new1 _ n n1 (by omega)).mono ?_
  rintro e w1 ⟨rfl, hF1, hN1⟩
  have HN := Lib.hid hN1
  have HF := Lib.hid hF1
  clear hN1 hF1
  go_wp2_with fail
  have hrd := rd_new w1 (1 + 6 * n)
  refine (made_any hrd (by simp) (by simp; omega)).mono ?_
  rintro e w2 ⟨p, d, c, rfl, hF, hM, hp, hd⟩
  have hF2 : Frm [] w1 w2 := ((Frm.refl _ _).alloc _).trans hF
  simp only [World.size_alloc] at hp hd
  have hnl := HN.out.lt
  have hnd : w.heap.size ≠ d := by omega
  have hnp : w.heap.size ≠ p := by omega
  have hd0 : w.heap.size ≤ d := by have := HF.out.size; omega
  replace HN := Lib.hid (HN.out.frm hF2)
  replace HF := Lib.hid (HF.out.trans hF2)
  have HM := Lib.hid hM
  clear hF hM hp hd hrd hmk hF2 hnl
  have hmp := mk_progs n (by omega)
  have hmb := mk_bools n (by omega)
  go_upto_region 7 with fail
  go_cut [8, 9] (fun s8 s9 wx => ∃ bp bh : Nat, s8 = .slice (some ⟨bp, 0, none⟩) n n ∧ s9 = .slice (some ⟨bh, 0, none⟩) n n ∧ Frm [] w2 wx ∧ w2.heap.size ≤ bp ∧ w2.heap.size ≤ bh ∧ bp ≠ bh ∧ wx.heap[bp]? = some (.cells (vof (fun _ => .nilIface) n) 37 (0, 0)) ∧ wx.heap[bh]? = some (.cells (vof (fun _ => .bool false) n) 4 (0, 0)))
  case first =>
    go_region
    all_goals
      go_wp2
      go_meet
      first
        | exact ⟨w2.heap.size, w2.heap.size + 1, rfl, rfl, (((Frm.refl _ _).alloc _).alloc _).drew, by omega, by omega, by omega, heap_alloc_old _ (heap_alloc_new _ _), heap_alloc_at _ (by simp)⟩
        | exact ⟨w2.heap.size + 1, w2.heap.size, rfl, rfl, (((Frm.refl _ _).alloc _).alloc _).drew, by omega, by omega, by omega, heap_alloc_at _ (by simp), heap_alloc_old _ (heap_alloc_new _ _)⟩
  case rest =>
    obtain ⟨bp, bh, rfl, rfl, hFx, hbp, hbh, hne, hpr, hha⟩ := hcut
    have hB : w.heap.size ≤ w2.heap.size := HF.out.size
    have hnl := HN.out.lt
    have hml := HM.out.plt
    have hdl := HM.out.dlt
    have hpd := HM.out.ne
    have hS0 : Sb w.heap.size wc n w.heap.size p d c bp bh (List.replicate (1 + 6 * n) 0) (fun _ => none) (fun _ => false) (fun _ => 0) :=
      ⟨HN.out.frm hFx, HM.out.frm hFx (by simp) (by simp), fun x hx => by rw [(List.mem_replicate.1 hx).2]; exact Int.le_refl _, by simp, hpr, hha, ⟨hd0, by omega, by omega⟩, ⟨hnd, by omega, by omega, by omega, by omega, by omega, by omega, hne⟩, fun i _ h => absurd rfl h, fun i j _ _ _ h _ => absurd rfl h⟩
    have hI0 : Inv (mm (List.replicate (1 + 6 * n) 0)) (fun _ => none) (fun _ => false) n [] [] := Inv.start n _ (fun i => by
      unfold mm; rw [List.getD_eq_getElem?_getD, List.getElem?_replicate]; split <;> rfl)
    have HR0 : Hid (Rnd w w.heap.size n w.heap.size p d c bp bh none 0 0 wc) := Lib.hid ⟨_, _, _, _, [], [], HF.out.trans hFx, hS0, fun i _ b s o h => (by cases h), hI0, Qu.nil _ _⟩
    clear hS0 hI0 hFx hpr hha hmp hmb HN HM HF hnl hml hdl hpd hbp hbh hne hnd hnp hd0 hB
    go_wp2_with fail
    go_loopw [10, 12, 13, 14, 15, 16, 17, 18, 19, 20, 21, 62, 63, 64, 65, 66, 67, 68, 69, 70, 71, 72, 73, 74, 75, 76, 77, 78, 79, 80, 81, 82, 83, 84, 85, 86, 87, 88, 89, 90, 91, 92, 93, 94, 95, 96, 97, 98, 99, 100, 101, 102, 103, 104, 105, 106, 107, 108, 109, 110, 111, 112, 113, 114, 115, 116, 117, 118, 119, 120, 121, 122, 123, 124, 125, 126, 127, 128, 129, 130, 131, 132, 133, 134, 135, 136, 137, 138, 139, 140, 141, 142, 143, 144, 145, 146, 147, 148, 149, 150, 151, 152, 153, 154, 155, 156, 157, 158, 159, 160, 161, 162, 163, 164, 165, 166, 167, 168, 169, 170, 171, 172, 173, 174, 175, 176, 177, 178, 179, 180, 181, 182, 183, 184, 185] (fun sq _ _ _ _ _ _ _ _ _ _ sk _ _ _ _ _ _ _ _ _ _ _ _ _ _ _ _ _ _ _ _ _ _ _ _ _ _ _ _ _ _ _ _ _ _ _ _ _ _ _ _ _ _ _ _ _ _ _ _ _ _ _ _ _ _ _ _ _ _ _ _ _ _ _ _ _ _ _ _ _ _ _ _ _ _ _ _ _ _ _ _ _ _ _ _ _ _ _ _ _ _ _ _ _ _ _ _ _ _ _ _ _ _ _ _ _ _ _ _ _ _ _ _ _ _ _ _ _ _ _ _ _ _ _ wr => ∃ (k : Nat) (a' : Option Addr) (m cc : Nat), k ≤ len ∧ m ≤ k ∧ sk = .int .i64 k ∧ sq = .slice a' m cc ∧ Rnd w w.heap.size n w.heap.size p d c bp bh a' m cc wr) (fun sq _ _ _ _ _ _ _ _ _ _ sk _ _ _ _ _ _ _ _ _ _ _ _ _ _ _ _ _ _ _ _ _ _ _ _ _ _ _ _ _ _ _ _ _ _ _ _ _ _ _ _ _ _ _ _ _ _ _ _ _ _ _ _ _ _ _ _ _ _ _ _ _ _ _ _ _ _ _ _ _ _ _ _ _ _ _ _ _ _ _ _ _ _ _ _ _ _ _ _ _ _ _ _ _ _ _ _ _ _ _ _ _ _ _ _ _ _ _ _ _ _ _ _ _ _ _ _ _ _ _ _ _ _ _ _ => len - (intOf sk).toNat)
    case atStart => exact ⟨0, none, 0, 0, Nat.zero_le _, Nat.le_refl _, rfl, rfl, HR0.out⟩
    case round =>
      clear HR0
      obtain ⟨k, a1, m1, c1, hk, hmk, rfl, rfl, ws, pg, hs, qa, C, q, hF, hSb, hPs, hI, hQ⟩ := hrel
      have HF := Lib.hid hF
      have HS := Lib.hid hSb
      have HP := Lib.hid hPs
      have HI := Lib.hid hI
      have HQ := Lib.hid hQ
      clear hF hSb hPs hI hQ
      by_cases hlt : k < len
      · have hb0 := hb (by omega)
        obtain ⟨x, hxk, _, hcx⟩ := (HL.out.frm0 HF.out).get hlt
        have hix := ix_u8 (c := cap) HL.out.ad hlt
        have hx0 : 0 ≤ x ∧ x ≤ 255 := by
          have h := HX.out x (List.mem_of_getElem? hxk)
          simp only [Lit.wf, Bool.and_eq_true, decide_eq_true_eq] at h; have hmin : IntKind.u8.min = 0 := rfl; have hmax : IntKind.u8.max = 255 := rfl; omega
        obtain ⟨y, rfl⟩ := Int.eq_ofNat_of_zero_le hx0.1
        have hkl : (k : Int) < (len : Int) := by omega
        have hz : ¬ ((n : Int) = 0) := by omega
        have ht : y % n < n := Nat.mod_lt _ (by omega)
        have hyt : ((y : Int) % (n : Int)) = ((y % n : Nat) : Int) := by push_cast; rfl
        generalize hyy : y % n = t at ht hyt
        have HYT := Lib.hid hyt
        clear hxk hyy hyt
        have hcp : wr.cell? ⟨bp, t, none⟩ = some (pvI (pg t) (qa t)) := by rw [cell_of_heap HS.out.progs, vof_get _ ht]
        have hch : wr.cell? ⟨bh, t, none⟩ = some (.bool (hs t)) := by rw [cell_of_heap HS.out.hass, vof_get _ ht]
        have htn : (t : Int) < (n : Int) := by omega
        have hnil := nil_pv (pg t) (qa t)
        have hgrd := grd_pv (pg t) (qa t) 74
        go_upto_region 13 with fail
        rw [HYT.out]
        go_upto_if 75 with fail
        go_cut [] (fun wx => ∃ pg hs qa, Frm [] w wx ∧ Sb w.heap.size wx n w.heap.size p d c bp bh ws pg hs qa ∧ Ps wx n pg qa ∧ Inv (mm ws) pg hs n C q ∧ Qu (w.heap.size + 1) wx a1 m1 c1 q ∧ ∃ v, pg t = some v)
        case first =>
          clear hnil hgrd
          cases hv : pg t with
          | none =>
            have hi : (pg t).isNone = true := by rw [hv]; rfl
            have HV := Lib.hid hv
            have hBw := HF.out.size
            clear hv hcp
            go_wp2_with fail
            refine (begin_t HS.out.nd (by omega) ht (hs t)).mono ?_
            rintro e w7 ⟨q7, rfl, g7, hR7, hq7⟩
            have hpr := g7.heap HS.out.progs (by simp)
            have hha := g7.heap HS.out.hass (by simp)
            have k1 : w7.cell? ⟨bp, t, none⟩ = some (pvI (pg t) (qa t)) := by rw [cell_of_heap hpr, vof_get _ ht]
            have z1 : w7.frozen? ⟨bp, t, none⟩ = false := frozen_of_heap hpr
            have k2 : (w7.setCell ⟨bp, t, none⟩ (.iface (Ip (hs t)) (.pointer (some ⟨q7, 0, none⟩)))).cell? ⟨bh, t, none⟩ = some (.bool (hs t)) := by
              rw [cell_of_heap (heap_setCell_far _ _ HS.out.ne.2.2.2.2.2.2.2 hha), vof_get _ ht]
            have z2 : (w7.setCell ⟨bp, t, none⟩ (.iface (Ip (hs t)) (.pointer (some ⟨q7, 0, none⟩)))).frozen? ⟨bh, t, none⟩ = false := frozen_of_heap (heap_setCell_far _ _ HS.out.ne.2.2.2.2.2.2.2 hha)
            have HB := Lib.hid (HS.out.begin HP.out ht HV.out g7 hBw hR7 hq7 false)
            have HF7 := Lib.hid (((HF.out.trans g7).setCell ⟨bp, t, none⟩ (.iface (Ip (hs t)) (.pointer (some ⟨q7, 0, none⟩))) (.inr HS.out.low.2.1)).setCell ⟨bh, t, none⟩ (.bool false) (.inr HS.out.low.2.2))
            have HQ7 := Lib.hid ((HQ.out.frm0 g7).frm (((Frm.refl [bp, bh] w7).setCell ⟨bp, t, none⟩ (.iface (Ip (hs t)) (.pointer (some ⟨q7, 0, none⟩))) (.inl (by simp))).setCell ⟨bh, t, none⟩ (.bool false) (.inl (by simp)))
              (fun x hx => by simp; exact ⟨(HQ.out.frm0 g7).ne hpr (by decide) x hx, (HQ.out.frm0 g7).ne hha (by decide) x hx⟩))
            clear g7 hR7 hq7 hpr hha
            go_wp2
            go_meet
            exact ⟨_, _, _, HF7.out, HB.out.1, HB.out.2, HI.out.begin ht HV.out 0, HQ7.out, _, up_eq _ _ _⟩
          | some v =>
            have hi : (pg t).isNone = false := by rw [hv]; rfl
            have HV := Lib.hid hv
            clear hv hcp
            go_wp2
            go_meet
            exact ⟨_, _, _, HF.out, HS.out, HP.out, HI.out, HQ.out, _, HV.out⟩
        case rest =>
          clear HF HS HP HI HQ hcp hch hnil hgrd hix hcx
          obtain ⟨pg1, hs1, qa1, hF, hSb, hPs, hI, hQ, ⟨back, s, o⟩, hv⟩ := hcut
          have HF := Lib.hid hF
          have HS := Lib.hid hSb
          have HP := Lib.hid hPs
          have HI := Lib.hid hI
          have HQ := Lib.hid hQ
          have HV := Lib.hid hv
          clear hF hSb hPs hI hQ hv
          go_upto_region 18 with fail
          go_cut [108] (fun s8 wx => s8 = .bool false ∧ Frm [] wc wx)
          case first =>
            by_cases hh : ∃ i, i < n ∧ hs1 i = true
            · obtain ⟨i, hi, hti⟩ := hh
              have HT := Lib.hid hti
              clear hti
              go_wp2_with fail
              refine (some_true HS.out.hass (by omega) hi HT.out).mono ?_
              rintro e w7 ⟨rfl, rfl⟩
              go_wp2
              go_meet
              exact ⟨rfl, Frm.refl _ _⟩
            · have hno : ∀ i, i < n → hs1 i = false := fun i hi => by
                cases hx : hs1 i with
                | false => rfl
                | true => exact absurd ⟨i, hi, hx⟩ hh
              obtain ⟨i0, hi0, p0, hp0, hw0⟩ := HI.out.goes hno ht HV.out
              have HNO := Lib.hid hno
              have HW := Lib.hid (works_true HS.out.mem HS.out.progs (by omega) hi0 ⟨_, hp0⟩ HP.out (fun i hi b1 s1 o1 hv1 => by
                obtain ⟨met, _, hr⟩ := HP.out i hi b1 s1 o1 hv1
                obtain ⟨e', s', o', ws', wait, no, hst, hok, _, _⟩ := (hr rfl).1.stp 1 n 0 (2 * i) ws HS.out.pos
                obtain ⟨rfl, _⟩ := step_left HI.out hi hv1 HS.out.len hst
                exact ⟨e', s', o', ws', wait, hst, hok, fun e => stp_goes hst (by subst e; rw [hv1] at hp0; cases hp0; exact hw0)⟩))
              clear hh hno hp0 hw0
              go_wp2_with fail
              refine (some_false HS.out.hass (by omega) HNO.out).mono ?_
              rintro e w7 ⟨rfl, rfl⟩
              go_wp2_with fail
              refine HW.out.mono ?_
              rintro e w8 ⟨rfl, g8⟩
              have HG8 := Lib.hid g8
              clear g8
              go_wp2
              go_meet
              exact ⟨rfl, HG8.out⟩
          case rest =>
            obtain ⟨rfl, hF8⟩ := hcut
            have HF9 := Lib.hid (HF.out.trans hF8)
            have HS9 := Lib.hid (HS.out.frm0 hF8)
            have HP9 := Lib.hid (HP.out.frm0 hF8)
            have HQ9 := Lib.hid (HQ.out.frm0 hF8)
            obtain ⟨met, hPg, hk0⟩ := HP9.out t ht back s o HV.out
            obtain ⟨e', s', o', ws', wait, no, hst, hok, hpos, hln⟩ := (hk0 rfl).1.stp 1 n 0 (2 * t) ws HS9.out.pos
            obtain ⟨rfl, hLf⟩ := step_left HI.out ht HV.out HS9.out.len hst
            have h0 := get0 HS9.out.len
            have h0' : ws'[0]? = some (mm ws' 0) := get0 (hln.trans HS9.out.len)
            have HL0 := Lib.hid (Load_ok HS9.out.mem 0 _ h0)
            have HL0' := Lib.hid h0'
            have HST := Lib.hid hst
            have HOK := Lib.hid hok
            have HPOS := Lib.hid hpos
            have HLN := Lib.hid hln
            have HLF := Lib.hid hLf
            clear hF8 HF HS HP HQ hPg hk0 hst hok hpos hln hLf h0 h0'
            go_wp2_with fail
            refine HL0.out.mono ?_
            rintro e w1 ⟨rfl, g1, hM1⟩
            have HF1 := Lib.hid (HF9.out.trans_new g1 (fun j hj => .inr (by simp at hj; subst hj; exact HS9.out.low.1)))
            have HQ1 := Lib.hid (HQ9.out.load HS9.out g1)
            have HP1 := Lib.hid (HP9.out.load HS9.out g1 (fun _ h => h))
            have HS1 := Lib.hid (HS9.out.load g1 hM1)
            have hR1 := HP1.out t ht back s o HV.out
            obtain ⟨q1, q2, q3, q4, q5, q6⟩ := HS1.out.qne t ht (by rw [HV.out]; simp)
            have HSP := Lib.hid (Step_any HS1.out.mem hR1 q1 q2 HST.out HOK.out)
            have HR1 := Lib.hid hR1
            have hcp1 : w1.cell? ⟨bp, t, none⟩ = some (.iface (Ip back) (.pointer (some ⟨qa1 t, 0, none⟩))) := by rw [cell_of_heap HS1.out.progs, vof_get _ ht, HV.out]; rfl
            have hms := m_Step back (qa1 t)
            have hcs := c_Step back
            clear g1 hM1 HL0 HF9 HQ9 HP9 HS9 hR1
            go_wp2_with fail
            refine HSP.out.mono ?_
            rintro e w2 ⟨rfl, hA⟩
            obtain ⟨hS2, hP2, _⟩ := HS1.out.step HP1.out ht HV.out hA HPOS.out HLN.out
            obtain ⟨g2, hM2, hR2⟩ := hA
            have HF2 := Lib.hid (HF1.out.trans_new g2 (fun j hj => .inr (by simp at hj; rcases hj with rfl | rfl; exact HS1.out.low.1; exact q6)))
            have HQ2 := Lib.hid (HQ1.out.step HS1.out HR1.out g2)
            have HL2 := Lib.hid (Load_ok hS2.mem 0 _ HL0'.out)
            have HS2 := Lib.hid hS2
            have HP2 := Lib.hid hP2
            have HR2 := Lib.hid hR2
            clear hS2 hP2 g2 hM2 hR2 hcp1 hms hcs HSP HF1 HQ1 HP1 HS1 HR1 HPOS HLN HST HOK HL0'
            go_wp2_with fail
            refine HL2.out.mono ?_
            rintro e w3 ⟨rfl, g3, hM3⟩
            have HF3 := Lib.hid (HF2.out.trans_new g3 (fun j hj => .inr (by simp at hj; subst hj; exact HS2.out.low.1)))
            have HQ3 := Lib.hid (HQ2.out.load HS2.out g3)
            have HP3 := Lib.hid (HP2.out.load HS2.out g3 (fun _ h => up_sub h))
            have HS3 := Lib.hid (HS2.out.load g3 hM3)
            have HR3 := Lib.hid (HR2.out.frm g3 (by simp; exact q1))
            have hcp3 : w3.cell? ⟨bp, t, none⟩ = some (.iface (Ip back) (.pointer (some ⟨qa1 t, 0, none⟩))) := by rw [cell_of_heap HS3.out.progs, vof_get _ ht, up_eq]; rfl
            clear g3 hM3 HL2 HF2 HQ2 HP2 HS2 HR2
            have hmd := m_Done back (qa1 t)
            have hcd := c_Done back
            have hz3 : w3.frozen? ⟨bp, t, none⟩ = false := frozen_of_heap HS3.out.progs
            cases back with
            | true =>
              have has := as_rel (some ⟨qa1 t, 0, none⟩)
              have hlf := HLF.out.1 rfl
              have hcp : w3.cell? ⟨bp, t, none⟩ = some (.iface 63 (.pointer (some ⟨qa1 t, 0, none⟩))) := hcp3
              have hmd' : ∀ W, (method 249 63 (.pointer (some ⟨qa1 t, 0, none⟩)) "Done").run Try.prog W = .ok (fDone true, .pointer (some ⟨qa1 t, 0, none⟩)) W := hmd
              have HD3 := Lib.hid (Done_any HR3.out)
              clear hcp3 hmd HLF
              go_wp2_with fail
              refine HD3.out.mono ?_
              rintro e w4 ⟨rfl, rfl⟩
              cases e' with
              | false =>
                obtain ⟨C', hI'⟩ := hlf.1 rfl
                clear hlf
                go_wp2
                go_roundw
                case rel => exact ⟨k + 1, a1, m1, c1, by omega, by omega, by go_num, rfl, ws', _, hs1, qa1, C', q, HF3.out, HS3.out, HP3.out.put HR3.out, hI', HQ3.out⟩
                case measure => simp [intOf]; omega
              | true =>
                obtain ⟨C', hI'⟩ := hlf.2 rfl
                clear hlf
                obtain ⟨hS4, hP4⟩ := HS3.out.drop ht HP3.out
                have hF4 := HF3.out.setCell ⟨bp, t, none⟩ .nilIface (.inr HS3.out.low.2.1)
                have hQ4 := HQ3.out.frm ((Frm.refl [bp] w3).setCell ⟨bp, t, none⟩ .nilIface (.inl (by simp))) (fun x hx => by simp; exact HQ3.out.ne HS3.out.progs (by decide) x hx)
                have H4 := Lib.hid (And.intro hS4 (And.intro hP4 (And.intro hF4 (And.intro hQ4 hI'))))
                clear hS4 hP4 hF4 hQ4 hI'
                go_wp2
                go_roundw
                case rel => exact ⟨k + 1, a1, m1, c1, by omega, by omega, by go_num, rfl, ws', _, hs1, qa1, C', q, H4.out.2.2.1, H4.out.1, H4.out.2.1, H4.out.2.2.2.2, H4.out.2.2.2.1⟩
                case measure => simp [intOf]; omega
            | false =>
              have has := as_acq (some ⟨qa1 t, 0, none⟩)
              obtain ⟨q1x, hq1, hfa, htr⟩ := HLF.out.2 rfl
              have hcp : w3.cell? ⟨bp, t, none⟩ = some (.iface 62 (.pointer (some ⟨qa1 t, 0, none⟩))) := hcp3
              have HQX := Lib.hid hq1
              have HFA := Lib.hid hfa
              have HTR := Lib.hid htr
              clear hcp3 hmd HLF hq1 hfa htr
              go_upto_if 150 with fail
              go_cut [10] (fun s10 wx => ∃ (a' : Option Addr) (m' c' : Nat), s10 = .slice a' m' c' ∧ m' ≤ k + 1 ∧ Frm [] w wx ∧ Sb w.heap.size wx n w.heap.size p d c bp bh ws' (up pg1 t (some (false, s', o'))) hs1 qa1 ∧ Ps wx n (up pg1 t none) qa1 ∧ PgR wx (qa1 t) false 1 n 0 (2 * t) s' o' e' ∧ Qu (w.heap.size + 1) wx a' m' c' q1x)
              case first =>
                by_cases hl : mm ws' 0 = mm ws 0
                · have hq1 := HQX.out
                  rw [if_pos hl] at hq1
                  have hQe := HQ3.out
                  rw [← hq1] at hQe
                  have HQE := Lib.hid hQe
                  clear hq1 hQe
                  go_wp2
                  go_meet
                  exact ⟨_, _, _, rfl, by omega, HF3.out, HS3.out, HP3.out, HR3.out, HQE.out⟩
                · have hq1 := HQX.out
                  rw [if_neg hl] at hq1
                  have HQ1X := Lib.hid hq1
                  clear hq1
                  have f0 : Frm [] w3 (w3.alloc (.cells #[.int .i64 (t : Int)] 3)) := (Frm.refl [] w3).alloc _
                  have hBs := HF3.out.size
                  have hnl := HS3.out.nd.lt
                  have hQ0 := HQ3.out.frm0 f0
                  go_wp2_with (at_builtin; refine wpl_queue rfl (.tmp 151) (.tmp 153) rfl (B := w.heap.size + 1) (a := a1) (n := m1) (c := c1) (q := q) (t := t) (by simp [Act.eval]) (by simp [Act.eval]) hQ0 (heap_alloc_new _ _) (by omega) (by simp; omega) ?_; intro a4 c4 w4 hQ4 g4)
                  have H4 : Hid (Frm [] w w4 ∧ Sb w.heap.size w4 n w.heap.size p d c bp bh ws' (up pg1 t (some (false, s', o'))) hs1 qa1 ∧ Ps w4 n (up pg1 t none) qa1 ∧ PgR w4 (qa1 t) false 1 n 0 (2 * t) s' o' e' ∧ Qu (w.heap.size + 1) w4 a4 (m1 + 1) c4 q1x) :=
                    Lib.hid ⟨(HF3.out.trans f0).trans_new g4 (fun j hj => .inr (by have := (hQ0.from_ j hj).1; omega)), (HS3.out.frm0 f0).grow hQ0 g4, (HP3.out.frm0 f0).grow hQ0 g4, (HR3.out.frm f0 (by simp)).grow hQ0 g4, by rw [HQ1X.out]; exact hQ4⟩
                  clear g4 hQ4 hQ0 f0
                  go_wp2
                  go_meet
                  exact ⟨_, _, _, rfl, by omega, H4.out.1, H4.out.2.1, H4.out.2.2.1, H4.out.2.2.2.1, H4.out.2.2.2.2⟩
              case rest =>
                clear has
                obtain ⟨a4, m4, c4, rfl, hm4, hF4, hS4, hP4, hR4, hQ4⟩ := hcut
                have HF4 := Lib.hid hF4
                have HS4 := Lib.hid hS4
                have HP4 := Lib.hid hP4
                have HR4 := Lib.hid hR4
                have HQ4 := Lib.hid hQ4
                clear hF4 hS4 hP4 hR4 hQ4 hcp hz3 HF3 HS3 HP3 HR3 HQ3
                have hcp4 : wc.cell? ⟨bp, t, none⟩ = some (.iface 62 (.pointer (some ⟨qa1 t, 0, none⟩))) := by rw [cell_of_heap HS4.out.progs, vof_get _ ht, up_eq]; rfl
                have hmd' : ∀ W, (method 249 62 (.pointer (some ⟨qa1 t, 0, none⟩)) "Done").run Try.prog W = .ok (fDone false, .pointer (some ⟨qa1 t, 0, none⟩)) W := m_Done false (qa1 t)
                have HD4 := Lib.hid (Done_any HR4.out)
                have hz4 : wc.frozen? ⟨bp, t, none⟩ = false := frozen_of_heap HS4.out.progs
                go_wp2_with fail
                refine HD4.out.mono ?_
                rintro e w5 ⟨rfl, rfl⟩
                cases e' with
                | false =>
                  obtain ⟨C', hI'⟩ := HFA.out rfl
                  go_wp2
                  go_roundw
                  case rel => exact ⟨k + 1, a4, m4, c4, by omega, by omega, by go_num, rfl, ws', _, hs1, qa1, C', q1x, HF4.out, HS4.out, HP4.out.put HR4.out, hI', HQ4.out⟩
                  case measure => simp [intOf]; omega
                | true =>
                  obtain ⟨hall, q2, hqe, C', hI'⟩ := HTR.out rfl
                  have hQt := HQ4.out
                  rw [hqe] at hQt
                  obtain ⟨hS5, hP5⟩ := HS4.out.drop ht HP4.out
                  have f5 : Frm [bp] wc (wc.setCell ⟨bp, t, none⟩ .nilIface) := (Frm.refl [bp] wc).setCell _ _ (.inl (by simp))
                  have hQ5 := hQt.frm f5 (fun x hx => by simp; exact hQt.ne HS4.out.progs (by decide) x hx)
                  obtain ⟨g, off, rfl, hm0, hcq, hQ6⟩ := hQ5.tail
                  have hF5 := HF4.out.setCell ⟨bp, t, none⟩ .nilIface (.inr HS4.out.low.2.1)
                  obtain ⟨hS6, hP6⟩ := hS5.got ht hP5
                  have hF6 := hF5.setCell ⟨bh, t, none⟩ (.bool true) (.inr hS5.low.2.2)
                  have hQ7 := hQ6.frm ((Frm.refl [bh] _).setCell ⟨bh, t, none⟩ (.bool true) (.inl (by simp))) (fun x hx => by simp; exact hQ6.ne hS5.hass (by decide) x hx)
                  have HSM := Lib.hid (some_false hS5.hass (by omega) hall)
                  have hz5 : (wc.setCell ⟨bp, t, none⟩ .nilIface).frozen? ⟨bh, t, none⟩ = false := frozen_of_heap hS5.hass
                  have hc5 : (wc.setCell ⟨bp, t, none⟩ .nilIface).cell? ⟨bh, t, none⟩ = some (.bool (hs1 t)) := by rw [cell_of_heap hS5.hass, vof_get _ ht]
                  have hm1 : ((m4 : Int) == 0) = false := by simp; omega
                  have hm0' : (0 : Int) < (m4 : Int) := by omega
                  have hslt := sl_tail g off m4 c4 hm0
                  have H6 := Lib.hid (And.intro hF6 (And.intro hS6 (And.intro hP6 (And.intro hI' hQ7))))
                  clear hall hqe hI' hQt hS5 hP5 f5 hQ5 hF5 hS6 hP6 hF6 hQ7 hQ6 HF4 HS4 HP4 HR4 HQ4 HTR HFA HQX
                  go_wp2_with fail
                  refine HSM.out.mono ?_
                  rintro e w6 ⟨rfl, rfl⟩
                  go_wp2
                  go_roundw
                  case rel => exact ⟨k + 1, _, m4 - 1, c4 - 1, by omega, by omega, by go_num, rfl, ws', _, _, qa1, C', q2, H6.out.1, H6.out.2.1, H6.out.2.2.1, H6.out.2.2.2.1, H6.out.2.2.2.2⟩
                  case measure => simp [intOf]; omega
      · have hkl : ¬ ((k : Int) < (len : Int)) := by omega
        clear HS HP HI HQ
        go_wp2_with fail
        refine known_true.mono ?_
        rintro e w7 ⟨rfl, g7⟩
        go_wp2
        go_ret
        exact ⟨rfl, HF.out.trans g7⟩
#print axioms holds_loop
end Go.Proofs.Ytoieedlkffmcgaa
