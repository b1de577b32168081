/- Package latch: handOn, serve (by gen_ltz.py). -/
import Derived.Test.YticbbfcachnkiaaGreatDoorUtY
import Derived.Test.YticbbfcachnkiaaGreatDoorUAp
import Derived.Deep.RegionLaw
namespace Go.Proofs.YticbbfcachnkiaaGreatDoor
open Go.ChangeShapes Go.WideShapes Go.ChangeAt Go.RowKit
set_option linter.unusedVariables false
set_option linter.unusedSimpArgs false

theorem info_int : (Tryz.prog.info? 3).map (fun i => (i.zero, i.size, i.bytes)) = some (some (.int .i64 0), 1, 8) := by kernel_rfl
namespace Mv
/-- The latch is given to who wants X, or the first one who waits is looked at. -/
def handOn (m : Mv) : Mv := if m.s.wa ≠ -1 ∧ m.s.sh = 0 then { m with wk := m.wk ++ [m.s.wa * 2 + 1], s := { m.s.give m.s.wa 3 with wa := -1 } }.finish else if m.s.wa ≠ -1 ∨ m.s.fi = -1 then m.finish else { m with nx := 8 }
def serve (m : Mv) (md sec : Int) : Mv := { m with wk := m.wk ++ [m.s.fi], s := { m.s with fi := sec, la := if sec = -1 then -1 else m.s.la }.give (m.s.fi / 2) md }.handOn
end Mv
/-- What is true behind a step that may give: the slice of who is woken may be a new one. -/
def AftM (w : World) (q T qe ql : Nat) (a : Option Addr) (n c : Nat) (B : Nat) (m' : Mv) (e : Ending) (w' : World) : Prop :=
  ∃ a' n' c', Ret (.tuple #[]) (fun w' => Frm (q :: blk (.slice a n c)) w w' ∧ MvAt w' q T qe ql a' n' c' m' ∧ Row .i64 3 B w' a' n' c' m'.wk ∧ ∀ x ∈ blk (.slice a' n' c'), x ∈ blk (.slice a n c) ∨ w.heap.size ≤ x) e w'
theorem row_ne {w : World} {q T qe ql : Nat} {a : Option Addr} {n c B : Nat} {m : Mv} {l : List Int} (h : MvAt w q T qe ql a n c m) (hR : Row .i64 3 B w a n c l) : q ∉ blk (.slice a n c) := by
  intro hx
  rcases hR.1.2 with ⟨hv, _⟩ | ⟨g, cap, cur, hv, _, hc, _⟩
  · rw [hv] at hx; cases hx
  · rw [hv] at hx; simp [blk] at hx; subst hx
    have := h.obj.symm.trans hc
    simp at this
theorem Mv.fin_wk (m : Mv) : m.finish.wk = m.wk := rfl
section
variable {w : World} {q T qe ql : Nat} {a : Option Addr} {n c B : Nat} {m : Mv}
set_option maxRecDepth 1000000 in
set_option maxHeartbeats 4000000 in
theorem handOn_any (h : MvAt w q T qe ql a n c m) (hR : Row .i64 3 B w a n c m.wk) (hg : Gd T m.s) (hB : B ≤ w.heap.size) (hlw : m.wk.length ≤ 1000) :
    Calls Tryz.prog 177 #[.pointer (some ⟨q, 0, none⟩)] w (AftM w q T qe ql a n c B m.handOn) := by
  have hqr := row_ne h hR
  obtain ⟨c0, c1, c2, c3, c4, c5, c6, c7, c8, c9, c10, c11, c12, c13, c14, c15, c16, c17, c18, c19, c20, c21⟩ := h.cells
  have hbl := h.lt
  have z6 := h.frz 6
  have z14 := h.frz 14
  have z19 := h.frz 19
  by_cases hw : m.s.wa = -1
  · have e1 : (m.s.wa != -1) = false := by simp [hw]
    by_cases hf : m.s.fi = -1
    · have e2 : (m.s.fi == -1) = true := by simpa using hf
      have hE : m.handOn = m.finish := by unfold Mv.handOn; rw [if_neg (by simp [hw]), if_pos (.inr hf)]
      rw [hE]
      have H := Lib.hid (finish_any h hR.2 hg)
      have HR := Lib.hid hR
      clear h hE hw hf hR
      go_enter Tryz.func177, Tryz.ntmps177
      go_wp2_with fail
      refine H.out.mono ?_
      rintro e w1 ⟨rfl, hF, hM⟩
      have HF1 := Lib.hid hF
      have HM1 := Lib.hid hM
      clear hF hM
      go_wp2
      go_end0
      exact ⟨a, n, c, rfl, HF1.out.weak (by simp), HM1.out, HR.out.frm HF1.out (by simpa using fun x hx (e : x = q) => hqr (e ▸ hx)), fun x hx => .inl hx⟩
    · have e2 : (m.s.fi == -1) = false := by simpa using hf
      have hE : m.handOn = { m with nx := 8 } := by unfold Mv.handOn; rw [if_neg (by simp [hw]), if_neg (by simp [hw, hf])]
      rw [hE]
      have HM := Lib.hid h
      have HR := Lib.hid hR
      clear h hE hw hf hR
      go_enter Tryz.func177, Tryz.ntmps177
      go_wp2
      go_end0
      have hF : Frm [q] w (w.setCell ⟨q, 6, none⟩ (.int .i64 8)) := (Frm.refl _ _).setCell _ _ (.inl (by simp))
      exact ⟨a, n, c, rfl, hF.weak (by simp), HM.out.set_nx 8, HR.out.frm hF (by simpa using fun x hx (e : x = q) => hqr (e ▸ hx)), fun x hx => .inl hx⟩
  · by_cases hs : m.s.sh = 0
    · skip
      obtain ⟨u, hu⟩ := Int.eq_ofNat_of_zero_le (show 0 ≤ m.s.wa by have := hg.wa; omega)
      have huT : u < T := by have := hg.wa; omega
      have hE : m.handOn = { m with wk := m.wk ++ [m.s.wa * 2 + 1], s := { m.s.give m.s.wa 3 with wa := -1 } }.finish := by unfold Mv.handOn; rw [if_pos ⟨hw, hs⟩]
      rw [hE, hu]
      rw [hu] at c14
      have hgG : Gd T (m.s.give u 3) := hg.give u huT h.t64 3
      have hgF : Gd T { m.s.give u 3 with wa := -1 } := ⟨hgG.sh, hgG.up, hgG.ex, ⟨Int.le_refl _, by show (-1 : Int) < T; omega⟩, hgG.gr, hgG.fi, hgG.la⟩
      have HO : Hid (∀ w', Frm [] w w' → Qt 68 #[.pointer (some ⟨q, 0, none⟩), .int .i64 (u : Int), .int .i64 1] (.tuple #[.int .i64 ((u : Int) * 2 + 1), .int .i64 0]) w') := Lib.hid fun w1 h1 => Qt.of fun w' hf => of_yes (h.nd.frm (h1.trans hf)) u 1 huT (by decide)
      have HO1 := Lib.hid (HO.out _ (Frm.refl _ _))
      have hlen : m.wk.length = n := hR.2.symm
      have HT := h.t64
      have HM := Lib.hid h
      have HR := Lib.hid hR
      have HG := Lib.hid hg
      have HGF := Lib.hid hgF
      have HQ := Lib.hid hqr
      have e1 : ((u : Int) != -1) = true := by simp
      have e2 : ((m.s.sh : Int) == 0) = true := by simp [hs]
      have HS := Lib.hid hs
      have HU := Lib.hid hu
      clear h hR hg hgF hgG hqr hE hw hs hu
      go_enter Tryz.func177, Tryz.ntmps177
      go_wp2_with fail
      go_quiet ((go_at_call 68; with_reducible exact HO1.out.at_ _))
      go_wp2_with (at_builtin; refine wpl_app_at Tryz.underlying48 info_int (by decide) (by decide) rfl (.tmp 39) (.tmp 41) rfl (B := B) (a := a) (n := n) (c := c) (m := 1) (l := m.wk) (l2 := [(u : Int) * 2 + 1]) (by simp [Act.eval]) (by simp [Act.eval]) (HR.out.frm0 (((Frm.refl _ _).drewN _).alloc _)) (li_new rfl (heap_alloc_new _ _)) (by omega) (by have := hB; simp; omega) ?_; intro a1 k1 w1 hR1 f1 p1; have HF1 : Hid (Frm (blk (.slice a n c)) w w1) := Lib.hid (((((Frm.refl _ _).drewN _).alloc _)).trans f1); have HR1 := Lib.hid hR1; have HP1 := Lib.hid p1; have HM1 := Lib.hid (HM.out.frm HF1.out HQ.out); clear f1 hR1 p1; obtain ⟨d0, d1, d2, d3, d4, d5, d6, d7, d8, d9, d10, d11, d12, d13, d14, d15, d16, d17, d18, d19, d20, d21⟩ := HM1.out.cells; have hbl1 := HM1.out.lt; have y19 := HM1.out.frz 19; rw [HU.out] at d14)
      have hq1 : q ∉ blk (.slice a1 (n + 1) k1) := fun hx => by
        rcases HP1.out q hx with h | h
        · exact HQ.out h
        · simp at h; omega
      have hF2 : Frm [q] w1 (w1.setCell ⟨q, 19, none⟩ (.slice a1 (n + 1) k1)) := (Frm.refl _ _).setCell _ _ (.inl (by simp))
      have hM2 := HM1.out.set_wk a1 (n + 1) k1 (m.wk ++ [(u : Int) * 2 + 1])
      have HF2 := Lib.hid hF2
      have HM2 := Lib.hid hM2
      clear hF2 hM2 d0 d1 d2 d3 d4 d5 d6 d7 d8 d9 d10 d11 d12 d13 d14 d15 d16 d17 d18 d19 d20 d21
      refine (give_any HM2.out u (by omega) 3 (by decide) HG.out.sh (HG.out.take u).gr).mono ?_
      rintro e w2 ⟨rfl, hF3, hM3⟩
      have HF3 := Lib.hid (HF2.out.trans hF3)
      have HM3 := Lib.hid hM3
      clear hF3 hM3
      obtain ⟨e0, e_1, e_2, e3, e4, e5, e6, e7, e8, e9, e10, e11, e12, e13, e14, e15, e16, e17, e18, e19, e20, e21⟩ := HM3.out.cells
      have hbl2 := HM3.out.lt
      have y14 := HM3.out.frz 14
      have H := Lib.hid (finish_any (HM3.out.set_wa (-1)) (by simp; omega) HGF.out)
      go_wp2_with fail
      refine H.out.mono ?_
      rintro e w3 ⟨rfl, hF4, hM4⟩
      have HF4 := Lib.hid ((HF3.out.setCell ⟨q, 14, none⟩ (.int .i64 (-1)) (.inl (by simp))).trans hF4)
      have HM4 := Lib.hid hM4
      clear hF4 hM4
      go_wp2
      go_end0
      exact ⟨a1, n + 1, k1, rfl, (HF1.out.weak (by intro x hx; exact .tail _ hx)).trans (HF4.out.weak (by simp)), HM4.out, HR1.out.frm HF4.out (by simpa using fun x hx (e : x = q) => hq1 (e ▸ hx)), fun x hx => (HP1.out x hx).imp id (fun h => by simp at h; omega)⟩
    · have e1 : (m.s.wa != -1) = true := by simp [hw]
      have e2 : ((m.s.sh : Int) == 0) = false := by simp; omega
      have hE : m.handOn = m.finish := by unfold Mv.handOn; rw [if_neg (by simp [hs]), if_pos (.inl hw)]
      rw [hE]
      have H := Lib.hid (finish_any h hR.2 hg)
      have HR := Lib.hid hR
      clear h hE hw hs hR
      go_enter Tryz.func177, Tryz.ntmps177
      go_wp2_with fail
      refine H.out.mono ?_
      rintro e w1 ⟨rfl, hF, hM⟩
      have HF1 := Lib.hid hF
      have HM1 := Lib.hid hM
      clear hF hM
      go_wp2
      go_end0
      exact ⟨a, n, c, rfl, HF1.out.weak (by simp), HM1.out, HR.out.frm HF1.out (by simpa using fun x hx (e : x = q) => hqr (e ▸ hx)), fun x hx => .inl hx⟩
set_option maxRecDepth 1000000 in
set_option maxHeartbeats 4000000 in
theorem serve_any (h : MvAt w q T qe ql a n c m) (hR : Row .i64 3 B w a n c m.wk) (hg : Gd T m.s) (hB : B ≤ w.heap.size) (hlw : m.wk.length ≤ 999) (md : Int) (hmd : md = 1 ∨ md = 2 ∨ md = 3) (sec : Int) (hf0 : 0 ≤ m.s.fi) (hs1 : -1 ≤ sec) (hs2 : sec < 2 * T) :
    Calls Tryz.prog 170 #[.pointer (some ⟨q, 0, none⟩), .int .i64 md, .int .i64 sec] w (AftM w q T qe ql a n c B (m.serve md sec)) := by
  have hqr := row_ne h hR
  have T64 := h.t64
  obtain ⟨u, hu⟩ := Int.eq_ofNat_of_zero_le hf0
  have huT : u < 2 * T := by have := hg.fi; omega
  have HO : Hid (∀ w', Frm [] w w' → Qt 112 #[.pointer (some ⟨q, 0, none⟩), .int .i64 (u : Int)] (.tuple #[.int .i64 ((u : Int) / 2), .int .i64 0]) w') := Lib.hid fun w1 h1 => Qt.of fun w' hf => owner_yes (h.nd.frm (h1.trans hf)) u huT
  have HO1 := Lib.hid (HO.out _ (Frm.refl _ _))
  obtain ⟨c0, c1, c2, c3, c4, c5, c6, c7, c8, c9, c10, c11, c12, c13, c14, c15, c16, c17, c18, c19, c20, c21⟩ := h.cells
  rw [hu] at c16
  have hbl := h.lt
  have z19 := h.frz 19
  have HM := Lib.hid h
  have HR := Lib.hid hR
  have HG := Lib.hid hg
  have HQ := Lib.hid hqr
  have hlen : m.wk.length = n := hR.2.symm
  have HU := Lib.hid hu
  clear h hR hg hqr hu
  go_enter Tryz.func170, Tryz.ntmps170
  go_wp2_with fail
  go_quiet ((go_at_call 112; with_reducible exact HO1.out.at_ _))
  go_wp2_with fail
  go_region_law (refine step_appW Tryz.underlying48 info_int (by decide) (by decide) rfl (.tmp 27) (.tmp 32) rfl (B := B) (a := a) (n := n) (c := c) (m := 1) (l := m.wk) (l2 := [(u : Int)]) (by simp [Act.eval]) (by simp [Act.eval]) (by first | exact HR.out.frm0 ((((Frm.refl _ _).drewN _).alloc _).drew) | exact HR.out.frm0 ((((Frm.refl _ _).drewN _).drew).alloc _)) (li_new rfl (heap_alloc_new _ _)) (by omega) (by have := hB; simp; omega) ?_; intro a1 k1 w1 hR1 f1 p1; (first | (have hF1 : Frm (blk (.slice a n c)) w w1 := ((((Frm.refl _ _).drewN _).alloc _).drew).trans f1) | (have hF1 : Frm (blk (.slice a n c)) w w1 := ((((Frm.refl _ _).drewN _).drew).alloc _).trans f1)); have HR1 := Lib.hid hR1; have HP1 := Lib.hid p1; have HM1 := Lib.hid (HM.out.frm hF1 HQ.out); have HF1 := Lib.hid hF1; clear f1 hR1 p1 hF1; obtain ⟨d0, d1, d2, d3, d4, d5, d6, d7, d8, d9, d10, d11, d12, d13, d14, d15, d16, d17, d18, d19, d20, d21⟩ := HM1.out.cells; have hbl1 := HM1.out.lt; have y19 := HM1.out.frz 19; have y16 := HM1.out.frz 16; have y17 := HM1.out.frz 17; rw [HU.out] at d16)
  all_goals
    have hq1 : q ∉ blk (.slice a1 (n + 1) k1) := fun hx => by
      rcases HP1.out q hx with h | h
      · exact HQ.out h
      · simp at h; omega
    have e2 : ((u / 2 : Nat) : Int) = (u : Int) / 2 := by omega
    by_cases hsec : sec = -1
    · have es : (sec == -1) = true := by simpa using hsec
      have hS : Gd T { m.s with fi := sec, la := -1 } := ⟨HG.out.sh, HG.out.up, HG.out.ex, HG.out.wa, HG.out.gr, ⟨hs1, hs2⟩, ⟨Int.le_refl _, by show (-1 : Int) < 2 * T; omega⟩⟩
      have H := give_any (((HM1.out.set_wk a1 (n + 1) k1 (m.wk ++ [(u : Int)])).set_fi sec).set_la (-1)) (u / 2) (by omega) md hmd HG.out.sh (hS.take (u / 2 : Nat)).gr
      have hgG := hS.give (u / 2) (by omega) T64 md
      have hE : m.serve md sec = Mv.handOn { m with wk := m.wk ++ [(u : Int)], s := { m.s with fi := sec, la := -1 }.give ((u / 2 : Nat) : Int) md } := by unfold Mv.serve; rw [HU.out, e2]; rw [if_pos hsec]
      rw [e2] at H hgG hE
      have HFa : Hid (Frm [q] w1 _) := Lib.hid ((((Frm.refl [q] w1).setCell ⟨q, 19, none⟩ (.slice a1 (n + 1) k1) (.inl (by simp))).setCell ⟨q, 16, none⟩ (.int .i64 sec) (.inl (by simp))).setCell ⟨q, 17, none⟩ (.int .i64 (-1)) (.inl (by simp)))
      have HH := Lib.hid H
      have HGG := Lib.hid hgG
      have HE := Lib.hid hE
      clear H hgG hE hS hsec
      go_wp2_with fail
      refine HH.out.mono ?_
      rintro e w2 ⟨rfl, hF2, hM2⟩
      have HF2 := Lib.hid (HFa.out.trans hF2)
      have hR2 := HR1.out.frm HF2.out (by simpa using fun x hx (e : x = q) => hq1 (e ▸ hx))
      have H2 := Lib.hid (handOn_any hM2 hR2 HGG.out (by have := HF2.out.size; have := HF1.out.size; omega) (by simp; omega))
      clear hF2 hM2 hR2
      go_wp2_with fail
      refine H2.out.mono ?_
      rintro e w3 ⟨a3, n3, k3, rfl, hF3, hM3, hR3, hP3⟩
      have HF3 := Lib.hid hF3
      have HM3 := Lib.hid hM3
      have HR3 := Lib.hid hR3
      have HP3 := Lib.hid hP3
      clear hF3 hM3 hR3 hP3
      go_wp2
      go_end0
      rw [HE.out]
      refine ⟨a3, n3, k3, rfl, ?_, HM3.out, HR3.out, fun x hx => ?_⟩
      · exact ((HF1.out.weak (by intro x hx; exact .tail _ hx)).trans (HF2.out.weak (by simp))).trans_new HF3.out (fun x hx => by
          rcases List.mem_cons.1 hx with rfl | hx
          · exact .inl (by simp)
          · rcases HP1.out x hx with h | h
            · exact .inl (.tail _ h)
            · right; simp at h; omega)
      · have s1 := HF1.out.size
        have s2 := HF2.out.size
        rcases HP3.out x hx with h | h
        · rcases HP1.out x h with h | h
          · exact .inl h
          · right; simp at h; omega
        · right; omega
    · have es : (sec == -1) = false := by simpa using hsec
      have hS : Gd T { m.s with fi := sec, la := m.s.la } := ⟨HG.out.sh, HG.out.up, HG.out.ex, HG.out.wa, HG.out.gr, ⟨hs1, hs2⟩, HG.out.la⟩
      have H := give_any (((HM1.out.set_wk a1 (n + 1) k1 (m.wk ++ [(u : Int)])).set_fi sec)) (u / 2) (by omega) md hmd HG.out.sh (hS.take (u / 2 : Nat)).gr
      have hgG := hS.give (u / 2) (by omega) T64 md
      have hE : m.serve md sec = Mv.handOn { m with wk := m.wk ++ [(u : Int)], s := { m.s with fi := sec, la := m.s.la }.give ((u / 2 : Nat) : Int) md } := by unfold Mv.serve; rw [HU.out, e2]; rw [if_neg hsec]
      rw [e2] at H hgG hE
      have HFa : Hid (Frm [q] w1 _) := Lib.hid ((((Frm.refl [q] w1).setCell ⟨q, 19, none⟩ (.slice a1 (n + 1) k1) (.inl (by simp))).setCell ⟨q, 16, none⟩ (.int .i64 sec) (.inl (by simp))))
      have HH := Lib.hid H
      have HGG := Lib.hid hgG
      have HE := Lib.hid hE
      clear H hgG hE hS hsec
      go_wp2_with fail
      refine HH.out.mono ?_
      rintro e w2 ⟨rfl, hF2, hM2⟩
      have HF2 := Lib.hid (HFa.out.trans hF2)
      have hR2 := HR1.out.frm HF2.out (by simpa using fun x hx (e : x = q) => hq1 (e ▸ hx))
      have H2 := Lib.hid (handOn_any hM2 hR2 HGG.out (by have := HF2.out.size; have := HF1.out.size; omega) (by simp; omega))
      clear hF2 hM2 hR2
      go_wp2_with fail
      refine H2.out.mono ?_
      rintro e w3 ⟨a3, n3, k3, rfl, hF3, hM3, hR3, hP3⟩
      have HF3 := Lib.hid hF3
      have HM3 := Lib.hid hM3
      have HR3 := Lib.hid hR3
      have HP3 := Lib.hid hP3
      clear hF3 hM3 hR3 hP3
      go_wp2
      go_end0
      rw [HE.out]
      refine ⟨a3, n3, k3, rfl, ?_, HM3.out, HR3.out, fun x hx => ?_⟩
      · exact ((HF1.out.weak (by intro x hx; exact .tail _ hx)).trans (HF2.out.weak (by simp))).trans_new HF3.out (fun x hx => by
          rcases List.mem_cons.1 hx with rfl | hx
          · exact .inl (by simp)
          · rcases HP1.out x hx with h | h
            · exact .inl (.tail _ h)
            · right; simp at h; omega)
      · have s1 := HF1.out.size
        have s2 := HF2.out.size
        rcases HP3.out x hx with h | h
        · rcases HP1.out x h with h | h
          · exact .inl h
          · right; simp at h; omega
        · right; omega
end
end Go.Proofs.YticbbfcachnkiaaGreatDoor
