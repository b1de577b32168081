/- Package latch: readState (by gen_luf.py). -/
import Derived.Test.YticbbfcachnkiaaGreatDoorUuE
namespace Go.Proofs.YticbbfcachnkiaaGreatDoor
open Go.ChangeShapes Go.WideShapes Go.ChangeAt Go.RowKit
set_option linter.unusedVariables false
set_option linter.unusedSimpArgs false
noncomputable def rstT (k : Nat) : Code := dropS k (Tryz.f159.body.getD .skip)
theorem MvAt.set_st {w : World} {q T qe ql : Nat} {a : Option Addr} {n c : Nat} {m : Mv} (h : MvAt w q T qe ql a n c m) (s : LS) :
    MvAt (((((((w.setCell ⟨q, 11, none⟩ (.int .u64 (s.sh : Int))).setCell ⟨q, 12, none⟩ (.int .i64 s.up)).setCell ⟨q, 13, none⟩ (.int .i64 s.ex)).setCell ⟨q, 14, none⟩ (.int .i64 s.wa)).setCell ⟨q, 15, none⟩ (.int .i64 s.gr)).setCell ⟨q, 16, none⟩ (.int .i64 s.fi)).setCell ⟨q, 17, none⟩ (.int .i64 s.la)) q T qe ql a n c { m with s := s } :=
  ((((((h.set_sh s.sh).set_up s.up).set_ex s.ex).set_wa s.wa).set_gr s.gr).set_fi s.fi).set_la s.la
theorem Frm.set_st {D : List Nat} {a b : World} {q : Nat} (h : Frm D a b) (hq : q ∈ D) (v0 v1 v2 v3 v4 v5 v6 : Value) :
    Frm D a (((((((b.setCell ⟨q, 11, none⟩ v0).setCell ⟨q, 12, none⟩ v1).setCell ⟨q, 13, none⟩ v2).setCell ⟨q, 14, none⟩ v3).setCell ⟨q, 15, none⟩ v4).setCell ⟨q, 16, none⟩ v5).setCell ⟨q, 17, none⟩ v6) :=
  ((((((h.setCell _ v0 (.inl hq)).setCell _ v1 (.inl hq)).setCell _ v2 (.inl hq)).setCell _ v3 (.inl hq)).setCell _ v4 (.inl hq)).setCell _ v5 (.inl hq)).setCell _ v6 (.inl hq)
section
variable {w : World} {p d cc q T qe ql B : Nat} {a : Option Addr} {n c : Nat} {m : Mv} {ws : List Int}
set_option maxRecDepth 1000000 in
set_option maxHeartbeats 4000000 in
theorem rstEnd {W : World} {g : Nat} {v : Nat} {s : LS} (hF : Frm [d] w W) (hM : MemAt W p d cc ws) (h : MvAt W q T qe ql a n c m) (hR : Row .i64 3 B W a n c m.wk) (hbn : ∀ x ∈ blk (.slice a n c), x ≠ p ∧ x ≠ d) (hg : Gd T s) (hW : Laid W) (hB : B ≤ W.heap.size) (hlw : m.wk.length ≤ 999) (hmd : m.k ≠ 1 → m.md = 1 ∨ m.md = 2 ∨ m.md = 3) (hk : m.k = 0 ∨ m.k = 1 ∨ m.k = 2) (hq2 : 2 ≤ q)
    (hgs : W.heap[g]? = some (.cells #[.int .u64 s.sh, .int .i64 s.up, .int .i64 s.ex, .int .i64 s.wa, .int .i64 s.gr, .int .i64 s.fi, .int .i64 s.la] 130 (0, 0))) (v1 v2 v3 v4 v8 v9 v10 v11 v12 v13 v14 v15 v16 v17 v18 v19 v20 v21 v22 v23 v24 v25 v26 v27 v28 v29 v30 v31 v32 v33 v34 v35 v36 v37 v38 v39 v40 v41 v42 v43 v44 v45 v46 v47 v48 v49 v50 v51 : Value) :
    Code.wp Tryz.prog (rstT 4) (bodyPost Tryz.prog Tryz.f159 (AftS w p d cc q T qe ql B a n c (.int .i64 0) ws { m with s1 := v, s := s }.decide)) ⟨List.toArray (.pointer (some ⟨q, 0, none⟩) :: v1 :: v2 :: v3 :: v4 :: .int .u64 (v : Int) :: .int .i64 0 :: .pointer (some ⟨g, 0, none⟩) :: v8 :: v9 :: v10 :: v11 :: v12 :: v13 :: v14 :: v15 :: v16 :: v17 :: v18 :: v19 :: v20 :: v21 :: v22 :: v23 :: v24 :: v25 :: v26 :: v27 :: v28 :: v29 :: v30 :: v31 :: v32 :: v33 :: v34 :: v35 :: v36 :: v37 :: v38 :: v39 :: v40 :: v41 :: v42 :: v43 :: v44 :: v45 :: v46 :: v47 :: v48 :: v49 :: v50 :: v51 :: []), []⟩ W := by
  have HF := Lib.hid hF
  have HM := Lib.hid hM
  have HV := Lib.hid h
  have HNE := Lib.hid (mv_ne h hM)
  have hqr := row_ne h hR
  have HQR := Lib.hid hqr
  have HR := Lib.hid hR
  have HBN := Lib.hid hbn
  have HG := Lib.hid hg
  have HL := Lib.hid hW
  have HMD := Lib.hid hmd
  have HK := Lib.hid hk
  obtain ⟨c0, c1, c2, c3, c4, c5, c6, c7, c8, c9, c10, c11, c12, c13, c14, c15, c16, c17, c18, c19, c20, c21⟩ := h.cells
  obtain ⟨y0, y1, y2, y3, y4, y5, y6⟩ := cells7 hgs
  have hbl := h.lt
  have hgl := lt_of_heap hgs
  have z10 := h.frz 10
  have z11 := h.frz 11
  have z12 := h.frz 12
  have z13 := h.frz 13
  have z14 := h.frz 14
  have z15 := h.frz 15
  have z16 := h.frz 16
  have z17 := h.frz 17
  clear hF hM h hR hbn hg hgs hW hqr hmd hk
  conv => arg 2; whnf
  go_wp2_with fail
  go_region
  have hqq : q ∈ [q] := by simp
  have hFx : Frm [q] W (((((((((W.setCell ⟨q, 10, none⟩ (.int .u64 (v : Int))).setCell ⟨q, 11, none⟩ (.int .u64 (s.sh : Int))).setCell ⟨q, 12, none⟩ (.int .i64 s.up)).setCell ⟨q, 13, none⟩ (.int .i64 s.ex)).setCell ⟨q, 14, none⟩ (.int .i64 s.wa)).setCell ⟨q, 15, none⟩ (.int .i64 s.gr)).setCell ⟨q, 16, none⟩ (.int .i64 s.fi)).setCell ⟨q, 17, none⟩ (.int .i64 s.la)).drewN 1) := (((Frm.refl [q] W).setCell ⟨q, 10, none⟩ (.int .u64 (v : Int)) (.inl hqq)).set_st hqq (.int .u64 (s.sh : Int)) (.int .i64 s.up) (.int .i64 s.ex) (.int .i64 s.wa) (.int .i64 s.gr) (.int .i64 s.fi) (.int .i64 s.la)).drewN 1
  clear hqq
  have HFX := Lib.hid hFx
  have hVx := ((HV.out.set_s1 v).set_st s).drewN 1
  have hRx := HR.out.frm HFX.out (by intro x hx; simp; rintro rfl; exact HQR.out hx)
  have H := Lib.hid (decide_any hVx hRx HG.out (HL.out.frm HFX.out (by intro x hx; simp at hx; omega)) (Nat.le_trans hB HFX.out.size) hlw HMD.out HK.out)
  clear hFx hVx hRx c0 c1 c2 c3 c4 c5 c6 c7 c8 c9 c10 c11 c12 c13 c14 c15 c16 c17 c18 c19 c20 c21 y0 y1 y2 y3 y4 y5 y6 z10 z11 z12 z13 z14 z15 z16 z17
  go_wp2_with fail
  refine H.out.mono ?_
  rintro e w2 hA
  have HA := Lib.hid (aftS_aftM (v := .int .i64 0) HF.out HM.out HNE.out HBN.out (aft_trans HFX.out hA))
  obtain ⟨a3, n3, c3, rfl, -⟩ := hA
  go_wp2
  go_ret
  exact HA.out
set_option maxRecDepth 1000000 in
set_option maxHeartbeats 4000000 in
theorem readState_ok (hM : MemAt w p d cc ws) (h : MvAt w q T qe ql a n c m) (hwa : WkA B w a n c m) (v : Nat) (hv : v < 18446744073709551616) (h0 : m.s0 < 18446744073709551616) (hx : ws[m.wd + 2]? = some (v : Int)) (hL : Laid w) (hd2 : 2 ≤ d) (hr : rdB T m.s0 v = true) (hnx : m.nx = 3) (hB : B ≤ w.heap.size) (hlw : m.wk.length ≤ 999) (hmd : m.k ≠ 1 → m.md = 1 ∨ m.md = 2 ∨ m.md = 3) (hk : m.k = 0 ∨ m.k = 1 ∨ m.k = 2) (hq2 : 2 ≤ q) :
    Calls Tryz.prog 159 #[.pointer (some ⟨q, 0, none⟩), .iface 24 (.pointer (some ⟨p, 0, none⟩))] w (AftS w p d cc q T qe ql B a n c (.int .i64 0) ws { m with s1 := v, s := rdLS m.s0 v }.decide) := by
  have hm := m_load p
  have hn := n_load p
  have hmf : ∀ (fn : Fn) (first cap : Array Value) (w : World), (Instr.makeFunc fn first cap).run Tryz.prog w = .ok (.func fn first cap) w := fun _ _ _ _ => rfl
  have T64 := h.t64
  obtain ⟨hqp, hqd⟩ := mv_ne h hM
  have hbn := wk_ne hwa hM
  have HV : Hid (∀ w', Frm [d] w w' → MvAt w' q T qe ql a n c m) := Lib.hid fun w' hf => h.frm hf (by simpa using hqd)
  have HA : Hid (∀ w', Frm [d] w w' → WkA B w' a n c m) := Lib.hid fun w' hf => hwa.frm hf (by intro x hx; simpa using (hbn x hx).2)
  have HL : Hid (∀ w', Frm [d] w w' → Laid w') := Lib.hid fun w' hf => hL.frm hf (by intro x hx; simp at hx; omega)
  have hc2 : ∀ w', Frm [d] w w' → w'.cell? ⟨q, 2, none⟩ = some (.int .i64 (m.wd : Int)) := fun w' hf => (h.frm hf (by simpa using hqd)).cells.2.2.1
  obtain ⟨xw, hxw⟩ : ∃ xw, xw = m.wd + 2 := ⟨_, rfl⟩
  rw [← hxw] at hx
  have HL1 : Hid (∀ w', Frm [] w w' → Calls Tryz.prog 142 #[.pointer (some ⟨p, 0, none⟩), .int .i64 (xw : Int)] w' (Ret (.tuple #[.int .u64 (v : Int), .int .i64 0]) (fun x => Frm [d] w' x ∧ MemAt x p d cc ws))) := Lib.hid fun w' hf => Load_ok (hM.frm hf (by simp) (by simp)) xw (v : Int) hx
  obtain ⟨hwa, hwb, hwc⟩ := wr_wd (n := m.wd) (x := xw) 2 (by omega) (by have := h.wdf; omega)
  clear hxw
  have hbl := h.lt
  have HBN := Lib.hid hbn
  have HRV := Lib.hid (rdV_yes hr)
  have HGD : Hid (Gd T (rdLS m.s0 v)) := Lib.hid (may_gd T64 (by simp [rdB] at hr; exact hr.2))
  have HNX := Lib.hid hnx
  have HMD := Lib.hid hmd
  have HKK := Lib.hid hk
  clear h hM hwa hx hbn hnx hL hr hmd hk
  go_enter Tryz.func159, Tryz.ntmps159
  go_wp2_with fail
  go_region_held3 (fun w' => Frm [d] w w') (repeat' (first | assumption | exact Frm.refl _ _ | apply Frm.drew | apply Frm.drewN)) ((go_at_call 142; (with_reducible refine (HL1.out _ (by (repeat' (first | exact Frm.refl _ _ | apply Frm.drew | apply Frm.drewN)))).mono ?_); rintro e w1 ⟨rfl, hF1, hM1⟩; have hFw : Frm [d] w w1 := Frm.trans (by (repeat' (first | exact Frm.refl _ _ | apply Frm.drew | apply Frm.drewN))) hF1))
  all_goals
    have HF1 := Lib.hid hFw
    have HM1 := Lib.hid hM1
    have HV1 := Lib.hid (HV.out _ hFw)
    have HA1 := Lib.hid (HA.out _ hFw)
    have HLd := Lib.hid (HL.out _ hFw)
    clear hFw hM1 hF1 hc2
    have hbl1 := HV1.out.lt
    have hc9 : ∀ w', Frm [] w1 w' → w'.cell? ⟨q, 9, none⟩ = some (.int .u64 (m.s0 : Int)) := fun w' hf => (HV1.out.frm hf (by simp)).cells.2.2.2.2.2.2.2.2.2.1
    have HRD : Hid (∀ w', Frm [] w1 w' → Calls Tryz.prog 90 #[.pointer (some ⟨q, 0, none⟩), .agg #[.int .u64 (m.s0 : Int), .int .u64 (v : Int)]] w' (Ret (.tuple #[.agg #[.int .u64 (rdLS m.s0 v).sh, .int .i64 (rdLS m.s0 v).up, .int .i64 (rdLS m.s0 v).ex, .int .i64 (rdLS m.s0 v).wa, .int .i64 (rdLS m.s0 v).gr, .int .i64 (rdLS m.s0 v).fi, .int .i64 (rdLS m.s0 v).la], .int .i64 0]) (fun x => Frm [] w' x))) := Lib.hid fun w' hf => by
      have := read_any (w0 := m.s0) (w1 := v) (HV1.out.frm hf (by simp)).nd (HLd.out.frm0 hf) h0 hv
      rw [HRV.out] at this
      exact this
    have hz : ∀ w', Frm [] (w1.alloc (.cells #[.int .u64 0, .int .i64 0, .int .i64 0, .int .i64 0, .int .i64 0, .int .i64 0, .int .i64 0] 130)) w' → (w'.cell? ⟨w1.heap.size, 0, none⟩ = some (.int .u64 0) ∧ w'.cell? ⟨w1.heap.size, 1, none⟩ = some (.int .i64 0) ∧ w'.cell? ⟨w1.heap.size, 2, none⟩ = some (.int .i64 0) ∧ w'.cell? ⟨w1.heap.size, 3, none⟩ = some (.int .i64 0) ∧ w'.cell? ⟨w1.heap.size, 4, none⟩ = some (.int .i64 0) ∧ w'.cell? ⟨w1.heap.size, 5, none⟩ = some (.int .i64 0) ∧ w'.cell? ⟨w1.heap.size, 6, none⟩ = some (.int .i64 0)) ∧ (w'.frozen? ⟨w1.heap.size, 0, none⟩ = false ∧ w'.frozen? ⟨w1.heap.size, 1, none⟩ = false ∧ w'.frozen? ⟨w1.heap.size, 2, none⟩ = false ∧ w'.frozen? ⟨w1.heap.size, 3, none⟩ = false ∧ w'.frozen? ⟨w1.heap.size, 4, none⟩ = false ∧ w'.frozen? ⟨w1.heap.size, 5, none⟩ = false ∧ w'.frozen? ⟨w1.heap.size, 6, none⟩ = false) ∧ w1.heap.size < w'.heap.size := fun w' hf => by
      have := hf.heap (heap_alloc_new _ _) (by simp)
      exact ⟨cells7 this, frozen7 this, lt_of_heap this⟩
    have HZ := Lib.hid hz
    clear hz
    go_wp2_with fail
    rename_i K hK
    have HK := Lib.hid hK
    clear hK
    go_region_held3 (fun w' => Frm [] w1 w') (repeat' (first | (with_reducible refine Frm.set7 ?_ _ _ _ _ _ _ _ _ (.inr (Nat.le_refl _))) | assumption | exact Frm.refl _ _ | apply Frm.drew | apply Frm.drewN | apply Frm.alloc | (refine Frm.setCell ?_ _ _ (.inr (Nat.le_refl _))) | (refine Frm.trans ?_ g1))) ((go_at_call 90; (with_reducible refine (HRD.out _ (by assumption)).mono ?_); rintro e w2 ⟨rfl, g1⟩; first | (have g2 : Frm [] (w1.alloc (.cells #[.int .u64 0, .int .i64 0, .int .i64 0, .int .i64 0, .int .i64 0, .int .i64 0, .int .i64 0] 130)) w2 := (Frm.refl [] (w1.alloc (.cells #[.int .u64 0, .int .i64 0, .int .i64 0, .int .i64 0, .int .i64 0, .int .i64 0, .int .i64 0] 130))).drew.trans g1; obtain ⟨⟨t0, t1, t2, t3, t4, t5, t6⟩, ⟨u0, u1, u2, u3, u4, u5, u6⟩, tl⟩ := HZ.out _ g2) | (have g2 : Frm [] (w1.alloc (.cells #[.int .u64 0, .int .i64 0, .int .i64 0, .int .i64 0, .int .i64 0, .int .i64 0, .int .i64 0] 130)) w2 := g1; obtain ⟨⟨t0, t1, t2, t3, t4, t5, t6⟩, ⟨u0, u1, u2, u3, u4, u5, u6⟩, tl⟩ := HZ.out _ g2) | skip))
    · have hFF : Frm [] w1 (w2.alloc (.cells #[.int .u64 (rdLS m.s0 v).sh, .int .i64 (rdLS m.s0 v).up, .int .i64 (rdLS m.s0 v).ex, .int .i64 (rdLS m.s0 v).wa, .int .i64 (rdLS m.s0 v).gr, .int .i64 (rdLS m.s0 v).fi, .int .i64 (rdLS m.s0 v).la] 130)) := by assumption
      refine HK.out _ _ ?_
      exact rstEnd (g := w2.heap.size) (HF1.out.trans hFF.nil) (HM1.out.frm hFF (by simp) (by simp)) (HV1.out.frm hFF (by simp)) ((HA1.out.row (.inl ⟨by rw [HNX.out]; decide, by rw [HNX.out]; decide⟩)).frm0 hFF) HBN.out HGD.out (HLd.out.frm0 hFF) (Nat.le_trans hB (Nat.le_trans HF1.out.size hFF.size)) hlw HMD.out HKK.out hq2 (heap_alloc_new _ _) _ _ _ _ _ _ _ _ _ _ _ _ _ _ _ _ _ _ _ _ _ _ _ _ _ _ _ _ _ _ _ _ _ _ _ _ _ _ _ _ _ _ _ _ _ _ _ _
    · have hFF : Frm [] w1 (((((((w2.setCell ⟨w1.heap.size, 0, none⟩ (.int .u64 (((rdLS m.s0 v).sh : Int)))).setCell ⟨w1.heap.size, 1, none⟩ (.int .i64 (rdLS m.s0 v).up)).setCell ⟨w1.heap.size, 2, none⟩ (.int .i64 (rdLS m.s0 v).ex)).setCell ⟨w1.heap.size, 3, none⟩ (.int .i64 (rdLS m.s0 v).wa)).setCell ⟨w1.heap.size, 4, none⟩ (.int .i64 (rdLS m.s0 v).gr)).setCell ⟨w1.heap.size, 5, none⟩ (.int .i64 (rdLS m.s0 v).fi)).setCell ⟨w1.heap.size, 6, none⟩ (.int .i64 (rdLS m.s0 v).la)) := (((Frm.refl [] w1).alloc _).trans g2).set7 _ _ _ _ _ _ _ _ (.inr (Nat.le_refl _))
      refine HK.out _ _ ?_
      exact rstEnd (g := w1.heap.size) (HF1.out.trans hFF.nil) (HM1.out.frm hFF (by simp) (by simp)) (HV1.out.frm hFF (by simp)) ((HA1.out.row (.inl ⟨by rw [HNX.out]; decide, by rw [HNX.out]; decide⟩)).frm0 hFF) HBN.out HGD.out (HLd.out.frm0 hFF) (Nat.le_trans hB (Nat.le_trans HF1.out.size hFF.size)) hlw HMD.out HKK.out hq2 (setCells7 (g2.heap (heap_alloc_new _ _) (by simp)) _ _ _ _ _ _ _) _ _ _ _ _ _ _ _ _ _ _ _ _ _ _ _ _ _ _ _ _ _ _ _ _ _ _ _ _ _ _ _ _ _ _ _ _ _ _ _ _ _ _ _ _ _ _ _
set_option maxRecDepth 1000000 in
set_option maxHeartbeats 4000000 in
theorem readState_bad (hM : MemAt w p d cc ws) (h : MvAt w q T qe ql a n c m) (hwa : WkA B w a n c m) (v : Nat) (hv : v < 18446744073709551616) (h0 : m.s0 < 18446744073709551616) (hx : ws[m.wd + 2]? = some (v : Int)) (hL : Laid w) (hd2 : 2 ≤ d) (hr : rdB T m.s0 v = false) :
    Calls Tryz.prog 159 #[.pointer (some ⟨q, 0, none⟩), .iface 24 (.pointer (some ⟨p, 0, none⟩))] w (AftS w p d cc q T qe ql B a n c (.int .i64 12) ws m) := by
  have hm := m_load p
  have hn := n_load p
  have hmf : ∀ (fn : Fn) (first cap : Array Value) (w : World), (Instr.makeFunc fn first cap).run Tryz.prog w = .ok (.func fn first cap) w := fun _ _ _ _ => rfl
  have T64 := h.t64
  obtain ⟨hqp, hqd⟩ := mv_ne h hM
  have hbn := wk_ne hwa hM
  have HV : Hid (∀ w', Frm [d] w w' → MvAt w' q T qe ql a n c m) := Lib.hid fun w' hf => h.frm hf (by simpa using hqd)
  have HA : Hid (∀ w', Frm [d] w w' → WkA B w' a n c m) := Lib.hid fun w' hf => hwa.frm hf (by intro x hx; simpa using (hbn x hx).2)
  have HL : Hid (∀ w', Frm [d] w w' → Laid w') := Lib.hid fun w' hf => hL.frm hf (by intro x hx; simp at hx; omega)
  have hc2 : ∀ w', Frm [d] w w' → w'.cell? ⟨q, 2, none⟩ = some (.int .i64 (m.wd : Int)) := fun w' hf => (h.frm hf (by simpa using hqd)).cells.2.2.1
  obtain ⟨xw, hxw⟩ : ∃ xw, xw = m.wd + 2 := ⟨_, rfl⟩
  rw [← hxw] at hx
  have HL1 : Hid (∀ w', Frm [] w w' → Calls Tryz.prog 142 #[.pointer (some ⟨p, 0, none⟩), .int .i64 (xw : Int)] w' (Ret (.tuple #[.int .u64 (v : Int), .int .i64 0]) (fun x => Frm [d] w' x ∧ MemAt x p d cc ws))) := Lib.hid fun w' hf => Load_ok (hM.frm hf (by simp) (by simp)) xw (v : Int) hx
  obtain ⟨hwa, hwb, hwc⟩ := wr_wd (n := m.wd) (x := xw) 2 (by omega) (by have := h.wdf; omega)
  clear hxw
  have hbl := h.lt
  have HBN := Lib.hid hbn
  have HRV := Lib.hid (rdV_no hr)
  clear h hM hwa hx hbn hL hr
  go_enter Tryz.func159, Tryz.ntmps159
  go_wp2_with fail
  go_region_held3 (fun w' => Frm [d] w w') (repeat' (first | assumption | exact Frm.refl _ _ | apply Frm.drew | apply Frm.drewN)) ((go_at_call 142; (with_reducible refine (HL1.out _ (by (repeat' (first | exact Frm.refl _ _ | apply Frm.drew | apply Frm.drewN)))).mono ?_); rintro e w1 ⟨rfl, hF1, hM1⟩; have hFw : Frm [d] w w1 := Frm.trans (by (repeat' (first | exact Frm.refl _ _ | apply Frm.drew | apply Frm.drewN))) hF1))
  all_goals
    have HF1 := Lib.hid hFw
    have HM1 := Lib.hid hM1
    have HV1 := Lib.hid (HV.out _ hFw)
    have HA1 := Lib.hid (HA.out _ hFw)
    have HLd := Lib.hid (HL.out _ hFw)
    clear hFw hM1 hF1 hc2
    have hbl1 := HV1.out.lt
    have hc9 : ∀ w', Frm [] w1 w' → w'.cell? ⟨q, 9, none⟩ = some (.int .u64 (m.s0 : Int)) := fun w' hf => (HV1.out.frm hf (by simp)).cells.2.2.2.2.2.2.2.2.2.1
    have HRD : Hid (∀ w', Frm [] w1 w' → Calls Tryz.prog 90 #[.pointer (some ⟨q, 0, none⟩), .agg #[.int .u64 (m.s0 : Int), .int .u64 (v : Int)]] w' (Ret (.tuple #[.agg #[.int .u64 0, .int .i64 0, .int .i64 0, .int .i64 0, .int .i64 0, .int .i64 0, .int .i64 0], .int .i64 12]) (fun x => Frm [] w' x))) := Lib.hid fun w' hf => by
      have := read_any (w0 := m.s0) (w1 := v) (HV1.out.frm hf (by simp)).nd (HLd.out.frm0 hf) h0 hv
      rw [HRV.out] at this
      exact this
    have hz : ∀ w', Frm [] (w1.alloc (.cells #[.int .u64 0, .int .i64 0, .int .i64 0, .int .i64 0, .int .i64 0, .int .i64 0, .int .i64 0] 130)) w' → (w'.cell? ⟨w1.heap.size, 0, none⟩ = some (.int .u64 0) ∧ w'.cell? ⟨w1.heap.size, 1, none⟩ = some (.int .i64 0) ∧ w'.cell? ⟨w1.heap.size, 2, none⟩ = some (.int .i64 0) ∧ w'.cell? ⟨w1.heap.size, 3, none⟩ = some (.int .i64 0) ∧ w'.cell? ⟨w1.heap.size, 4, none⟩ = some (.int .i64 0) ∧ w'.cell? ⟨w1.heap.size, 5, none⟩ = some (.int .i64 0) ∧ w'.cell? ⟨w1.heap.size, 6, none⟩ = some (.int .i64 0)) ∧ (w'.frozen? ⟨w1.heap.size, 0, none⟩ = false ∧ w'.frozen? ⟨w1.heap.size, 1, none⟩ = false ∧ w'.frozen? ⟨w1.heap.size, 2, none⟩ = false ∧ w'.frozen? ⟨w1.heap.size, 3, none⟩ = false ∧ w'.frozen? ⟨w1.heap.size, 4, none⟩ = false ∧ w'.frozen? ⟨w1.heap.size, 5, none⟩ = false ∧ w'.frozen? ⟨w1.heap.size, 6, none⟩ = false) ∧ w1.heap.size < w'.heap.size := fun w' hf => by
      have := hf.heap (heap_alloc_new _ _) (by simp)
      exact ⟨cells7 this, frozen7 this, lt_of_heap this⟩
    have HZ := Lib.hid hz
    clear hz
    go_wp2_with fail
    rename_i K hK
    have HK := Lib.hid hK
    clear hK
    go_region_held3 (fun w' => Frm [] w1 w') (repeat' (first | (with_reducible refine Frm.set7 ?_ _ _ _ _ _ _ _ _ (.inr (Nat.le_refl _))) | assumption | exact Frm.refl _ _ | apply Frm.drew | apply Frm.drewN | apply Frm.alloc | (refine Frm.setCell ?_ _ _ (.inr (Nat.le_refl _))) | (refine Frm.trans ?_ g1))) ((go_at_call 90; (with_reducible refine (HRD.out _ (by assumption)).mono ?_); rintro e w2 ⟨rfl, g1⟩; first | (have g2 : Frm [] (w1.alloc (.cells #[.int .u64 0, .int .i64 0, .int .i64 0, .int .i64 0, .int .i64 0, .int .i64 0, .int .i64 0] 130)) w2 := (Frm.refl [] (w1.alloc (.cells #[.int .u64 0, .int .i64 0, .int .i64 0, .int .i64 0, .int .i64 0, .int .i64 0, .int .i64 0] 130))).drew.trans g1; obtain ⟨⟨t0, t1, t2, t3, t4, t5, t6⟩, ⟨u0, u1, u2, u3, u4, u5, u6⟩, tl⟩ := HZ.out _ g2) | (have g2 : Frm [] (w1.alloc (.cells #[.int .u64 0, .int .i64 0, .int .i64 0, .int .i64 0, .int .i64 0, .int .i64 0, .int .i64 0] 130)) w2 := g1; obtain ⟨⟨t0, t1, t2, t3, t4, t5, t6⟩, ⟨u0, u1, u2, u3, u4, u5, u6⟩, tl⟩ := HZ.out _ g2) | skip))
    · have hFF : Frm [] w1 (w2.alloc (.cells #[.int .u64 0, .int .i64 0, .int .i64 0, .int .i64 0, .int .i64 0, .int .i64 0, .int .i64 0] 130)) := by assumption
      have HFF := Lib.hid hFF
      refine HK.out _ _ ?_
      have HV2 := Lib.hid (HV1.out.frm hFF (by simp))
      clear hFF
      go_wp2
      go_ret
      exact aftS_same ((HF1.out.weak (by simp)).trans HFF.out.nil) (HM1.out.frm HFF.out (by simp) (by simp)) HV2.out (HA1.out.frm HFF.out (by simp))
    · have hFF : Frm [] w1 (((((((w2.setCell ⟨w1.heap.size, 0, none⟩ (.int .u64 (0))).setCell ⟨w1.heap.size, 1, none⟩ (.int .i64 0)).setCell ⟨w1.heap.size, 2, none⟩ (.int .i64 0)).setCell ⟨w1.heap.size, 3, none⟩ (.int .i64 0)).setCell ⟨w1.heap.size, 4, none⟩ (.int .i64 0)).setCell ⟨w1.heap.size, 5, none⟩ (.int .i64 0)).setCell ⟨w1.heap.size, 6, none⟩ (.int .i64 0)) := (((Frm.refl [] w1).alloc _).trans g2).set7 _ _ _ _ _ _ _ _ (.inr (Nat.le_refl _))
      have HFF := Lib.hid hFF
      refine HK.out _ _ ?_
      have HV2 := Lib.hid (HV1.out.frm hFF (by simp))
      clear hFF
      go_wp2
      go_ret
      exact aftS_same ((HF1.out.weak (by simp)).trans HFF.out.nil) (HM1.out.frm HFF.out (by simp) (by simp)) HV2.out (HA1.out.frm HFF.out (by simp))
end
end Go.Proofs.YticbbfcachnkiaaGreatDoor
