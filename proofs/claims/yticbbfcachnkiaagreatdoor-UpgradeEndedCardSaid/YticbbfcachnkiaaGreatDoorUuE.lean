/- Package latch: readMode, readNext (by gen_lue.py). -/
import Derived.Test.YticbbfcachnkiaaGreatDoorUuD
namespace Go.Proofs.YticbbfcachnkiaaGreatDoor
open Go.ChangeShapes Go.WideShapes Go.ChangeAt Go.RowKit
set_option linter.unusedVariables false
set_option linter.unusedSimpArgs false

namespace Mv
def readMode (m : Mv) (v : Int) : Mv := if m.s.goes v (m.s.fi != m.s.la) = false then m.finish else if m.s.fi ≠ m.s.la then { m with fr := v, nx := 9 } else m.serve v (-1)
end Mv
section
variable {w : World} {p d cc q T qe ql B : Nat} {a : Option Addr} {n c : Nat} {m : Mv} {ws : List Int}
/-- A quiet step, behind which the move is another one in the same place. -/
theorem aftS_same {m' : Mv} {v : Value} {w' : World} (hF : Frm [d, q] w w') (hM : MemAt w' p d cc ws) (h : MvAt w' q T qe ql a n c m') (hA : WkA B w' a n c m') : AftS w p d cc q T qe ql B a n c v ws m' (.returned v) w' :=
  ⟨a, n, c, rfl, hF.weak (by simp), hM, h, hA, fun x hx => .inl hx⟩
theorem aftS_aftM {m' : Mv} {w1 w' : World} {e : Ending} {v : Value} (hF : Frm [d] w w1) (hM1 : MemAt w1 p d cc ws) (hne : q ≠ p ∧ q ≠ d) (hbn : ∀ x ∈ blk (.slice a n c), x ≠ p ∧ x ≠ d) (h : AftM w1 q T qe ql a n c B m' e w') : AftS w p d cc q T qe ql B a n c v ws m' (.returned v) w' := by
  obtain ⟨a', n', c', ⟨_, hF', hV, hR, hP⟩⟩ := h
  refine ⟨a', n', c', rfl, (hF.weak (by simp)).trans (hF'.weak (by intro x hx; exact .tail _ hx)), hM1.frm hF' ?_ ?_, hV, WkA.of_row hR, fun x hx => (hP x hx).imp id (fun h => Nat.le_trans hF.size h)⟩
  · intro hx
    rcases List.mem_cons.1 hx with h | h
    · exact hne.1 h.symm
    · exact (hbn _ h).1 rfl
  · intro hx
    rcases List.mem_cons.1 hx with h | h
    · exact hne.2 h.symm
    · exact (hbn _ h).2 rfl
set_option maxRecDepth 1000000 in
set_option maxHeartbeats 4000000 in
theorem readMode_bad (hM : MemAt w p d cc ws) (h : MvAt w q T qe ql a n c m) (hwa : WkA B w a n c m) (hg : Gd T m.s) (k : Nat) (hk : m.s.fi = k) (u : Int) (h0 : 0 ≤ u) (h64 : u < 18446744073709551616) (hu : ¬ (u = 1 ∨ u = 2 ∨ u = 3)) (hx : ws[mdW m.nb k]? = some u) :
    Calls Tryz.prog 160 #[.pointer (some ⟨q, 0, none⟩), .iface 24 (.pointer (some ⟨p, 0, none⟩))] w (AftS w p d cc q T qe ql B a n c (.int .i64 12) ws m) := by
  have hkT : k < 2 * T := by have := hg.fi; omega
  have T64 := h.t64
  obtain ⟨hqp, hqd⟩ := mv_ne h hM
  have hbn := wk_ne hwa hM
  have HV : Hid (∀ w', Frm [d] w w' → MvAt w' q T qe ql a n c m) := Lib.hid fun w' hf => h.frm hf (by simpa using hqd)
  have HA : Hid (∀ w', Frm [d] w w' → WkA B w' a n c m) := Lib.hid fun w' hf => hwa.frm hf (by intro x hx; simpa using (hbn x hx).2)
  have hc16 : ∀ w', Frm [d] w w' → w'.cell? ⟨q, 16, none⟩ = some (.int .i64 (k : Int)) := fun w' hf => by rw [← hk]; exact (h.frm hf (by simpa using hqd)).st.2.2.2.2.2.1
  have HC : Hid (∀ w', Frm [] w w' → Calls Tryz.prog 119 #[.iface 24 (.pointer (some ⟨p, 0, none⟩)), .pointer (some ⟨q, 0, none⟩), .int .i64 (k : Int)] w' (Ret (.tuple #[.int .i64 0, .int .i64 12]) (fun x => Frm [d] w' x ∧ MemAt x p d cc ws))) := Lib.hid fun w' hf => wanted_bad (hM.frm hf (by simp) (by simp)) (h.frm hf (by simp)).nd hqd h.fit k hkT u h0 h64 hu hx
  have hbl := h.lt
  clear h hM hwa hx hbn hk hg
  go_enter Tryz.func160, Tryz.ntmps160
  go_wp2_with fail
  go_region_held3 (fun w' => Frm [d] w w') (repeat' (first | assumption | exact Frm.refl _ _ | apply Frm.drew | apply Frm.drewN)) ((go_at_call 119; (with_reducible refine (HC.out _ (by (repeat' (first | exact Frm.refl _ _ | apply Frm.drew | apply Frm.drewN)))).mono ?_); rintro e w1 ⟨rfl, hF1, hM1⟩; have hFw : Frm [d] w w1 := Frm.trans (by (repeat' (first | exact Frm.refl _ _ | apply Frm.drew | apply Frm.drewN))) hF1))
  all_goals
    have HF1 := Lib.hid hFw
    have HM1 := Lib.hid hM1
    have HV1 := Lib.hid (HV.out _ hFw)
    have HA1 := Lib.hid (HA.out _ hFw)
    clear hFw hM1 hF1 hc16
    go_wp2
    go_ret
    exact aftS_same (HF1.out.weak (by simp)) HM1.out HV1.out HA1.out
set_option maxRecDepth 1000000 in
set_option maxHeartbeats 4000000 in
theorem readNext_bad (hM : MemAt w p d cc ws) (h : MvAt w q T qe ql a n c m) (hwa : WkA B w a n c m) (hg : Gd T m.s) (k : Nat) (hk : m.s.fi = k) (u : Int) (h0 : 0 ≤ u) (hu : isL T (u - 1) = false) (hx : ws[nxW m.nb k]? = some u) :
    Calls Tryz.prog 161 #[.pointer (some ⟨q, 0, none⟩), .iface 24 (.pointer (some ⟨p, 0, none⟩))] w (AftS w p d cc q T qe ql B a n c (.int .i64 12) ws m) := by
  have hkT : k < 2 * T := by have := hg.fi; omega
  have T64 := h.t64
  obtain ⟨hqp, hqd⟩ := mv_ne h hM
  have hbn := wk_ne hwa hM
  have HV : Hid (∀ w', Frm [d] w w' → MvAt w' q T qe ql a n c m) := Lib.hid fun w' hf => h.frm hf (by simpa using hqd)
  have HA : Hid (∀ w', Frm [d] w w' → WkA B w' a n c m) := Lib.hid fun w' hf => hwa.frm hf (by intro x hx; simpa using (hbn x hx).2)
  have hc16 : ∀ w', Frm [d] w w' → w'.cell? ⟨q, 16, none⟩ = some (.int .i64 (k : Int)) := fun w' hf => by rw [← hk]; exact (h.frm hf (by simpa using hqd)).st.2.2.2.2.2.1
  have HC : Hid (∀ w', Frm [] w w' → Calls Tryz.prog 110 #[.iface 24 (.pointer (some ⟨p, 0, none⟩)), .pointer (some ⟨q, 0, none⟩), .int .i64 (k : Int)] w' (Ret (.tuple #[.int .i64 0, .int .i64 12]) (fun x => Frm [d] w' x ∧ MemAt x p d cc ws))) := Lib.hid fun w' hf => behind_bad (hM.frm hf (by simp) (by simp)) (h.frm hf (by simp)).nd hqd h.fit k hkT u h0 hu hx
  have hbl := h.lt
  clear h hM hwa hx hbn hk hg
  go_enter Tryz.func161, Tryz.ntmps161
  go_wp2_with fail
  go_region_held3 (fun w' => Frm [d] w w') (repeat' (first | assumption | exact Frm.refl _ _ | apply Frm.drew | apply Frm.drewN)) ((go_at_call 110; (with_reducible refine (HC.out _ (by (repeat' (first | exact Frm.refl _ _ | apply Frm.drew | apply Frm.drewN)))).mono ?_); rintro e w1 ⟨rfl, hF1, hM1⟩; have hFw : Frm [d] w w1 := Frm.trans (by (repeat' (first | exact Frm.refl _ _ | apply Frm.drew | apply Frm.drewN))) hF1))
  all_goals
    have HF1 := Lib.hid hFw
    have HM1 := Lib.hid hM1
    have HV1 := Lib.hid (HV.out _ hFw)
    have HA1 := Lib.hid (HA.out _ hFw)
    clear hFw hM1 hF1 hc16
    go_wp2
    go_ret
    exact aftS_same (HF1.out.weak (by simp)) HM1.out HV1.out HA1.out
set_option maxRecDepth 1000000 in
set_option maxHeartbeats 4000000 in
theorem readNext_ok (hM : MemAt w p d cc ws) (h : MvAt w q T qe ql a n c m) (hwa : WkA B w a n c m) (hg : Gd T m.s) (k : Nat) (hk : m.s.fi = k) (u : Int) (hu : isL T (u - 1) = true) (hx : ws[nxW m.nb k]? = some u) (hnx : m.nx = 9) (hfr : m.fr = 1 ∨ m.fr = 2 ∨ m.fr = 3) (hB : B ≤ w.heap.size) (hlw : m.wk.length ≤ 999) :
    Calls Tryz.prog 161 #[.pointer (some ⟨q, 0, none⟩), .iface 24 (.pointer (some ⟨p, 0, none⟩))] w (AftS w p d cc q T qe ql B a n c (.int .i64 0) ws (m.serve m.fr (u - 1))) := by
  have hkT : k < 2 * T := by have := hg.fi; omega
  have T64 := h.t64
  obtain ⟨hqp, hqd⟩ := mv_ne h hM
  have hbn := wk_ne hwa hM
  have HV : Hid (∀ w', Frm [d] w w' → MvAt w' q T qe ql a n c m) := Lib.hid fun w' hf => h.frm hf (by simpa using hqd)
  have HA : Hid (∀ w', Frm [d] w w' → WkA B w' a n c m) := Lib.hid fun w' hf => hwa.frm hf (by intro x hx; simpa using (hbn x hx).2)
  have hc16 : ∀ w', Frm [d] w w' → w'.cell? ⟨q, 16, none⟩ = some (.int .i64 (k : Int)) := fun w' hf => by rw [← hk]; exact (h.frm hf (by simpa using hqd)).st.2.2.2.2.2.1
  have HC : Hid (∀ w', Frm [] w w' → Calls Tryz.prog 110 #[.iface 24 (.pointer (some ⟨p, 0, none⟩)), .pointer (some ⟨q, 0, none⟩), .int .i64 (k : Int)] w' (Ret (.tuple #[.int .i64 (u - 1), .int .i64 0]) (fun x => Frm [d] w' x ∧ MemAt x p d cc ws))) := Lib.hid fun w' hf => behind_ok (hM.frm hf (by simp) (by simp)) (h.frm hf (by simp)).nd hqd h.fit k hkT u hu hx
  have HR : Hid (∀ w', Frm [d] w w' → Row .i64 3 B w' a n c m.wk) := Lib.hid fun w' hf => (hwa.row (.inr (.inr hnx))).frm hf (by intro x hx; simpa using (hbn x hx).2)
  obtain ⟨hu0, hu1⟩ := isL_le hu
  have hfi0 : 0 ≤ m.s.fi := by omega
  have HG := Lib.hid hg
  have HBN := Lib.hid hbn
  have hbl := h.lt
  clear h hM hwa hx hbn hk hg hu
  go_enter Tryz.func161, Tryz.ntmps161
  go_wp2_with fail
  go_region_held3 (fun w' => Frm [d] w w') (repeat' (first | assumption | exact Frm.refl _ _ | apply Frm.drew | apply Frm.drewN)) ((go_at_call 110; (with_reducible refine (HC.out _ (by (repeat' (first | exact Frm.refl _ _ | apply Frm.drew | apply Frm.drewN)))).mono ?_); rintro e w1 ⟨rfl, hF1, hM1⟩; have hFw : Frm [d] w w1 := Frm.trans (by (repeat' (first | exact Frm.refl _ _ | apply Frm.drew | apply Frm.drewN))) hF1))
  all_goals
    have HF1 := Lib.hid hFw
    have HM1 := Lib.hid hM1
    have HV1 := Lib.hid (HV.out _ hFw)
    have HR1 := Lib.hid (HR.out _ hFw)
    clear hFw hM1 hF1 hc16
    have c18 := HV1.out.cells.2.2.2.2.2.2.2.2.2.2.2.2.2.2.2.2.2.2.1
    have hbl1 := HV1.out.lt
    have H2 := Lib.hid (serve_any HV1.out HR1.out HG.out (Nat.le_trans hB HF1.out.size) hlw m.fr hfr (u - 1) hfi0 (by omega) (by omega))
    go_wp2_with fail
    refine H2.out.mono ?_
    rintro e w2 hA
    have HA2 := Lib.hid hA
    obtain ⟨a3, n3, c3, rfl, -⟩ := hA
    go_wp2
    go_ret
    exact aftS_aftM HF1.out HM1.out ⟨hqp, hqd⟩ HBN.out HA2.out
set_option maxRecDepth 1000000 in
set_option maxHeartbeats 4000000 in
theorem readMode_ok (hM : MemAt w p d cc ws) (h : MvAt w q T qe ql a n c m) (hwa : WkA B w a n c m) (hg : Gd T m.s) (k : Nat) (hk : m.s.fi = k) (u : Int) (hu : u = 1 ∨ u = 2 ∨ u = 3) (hx : ws[mdW m.nb k]? = some u) (hnx : m.nx = 8) (hL : Laid w) (hd2 : 2 ≤ d) (hB : B ≤ w.heap.size) (hlw : m.wk.length ≤ 999) :
    Calls Tryz.prog 160 #[.pointer (some ⟨q, 0, none⟩), .iface 24 (.pointer (some ⟨p, 0, none⟩))] w (AftS w p d cc q T qe ql B a n c (.int .i64 0) ws (m.readMode u)) := by
  have hkT : k < 2 * T := by have := hg.fi; omega
  have T64 := h.t64
  obtain ⟨hqp, hqd⟩ := mv_ne h hM
  have hbn := wk_ne hwa hM
  have HV : Hid (∀ w', Frm [d] w w' → MvAt w' q T qe ql a n c m) := Lib.hid fun w' hf => h.frm hf (by simpa using hqd)
  have HA : Hid (∀ w', Frm [d] w w' → WkA B w' a n c m) := Lib.hid fun w' hf => hwa.frm hf (by intro x hx; simpa using (hbn x hx).2)
  have hc16 : ∀ w', Frm [d] w w' → w'.cell? ⟨q, 16, none⟩ = some (.int .i64 (k : Int)) := fun w' hf => by rw [← hk]; exact (h.frm hf (by simpa using hqd)).st.2.2.2.2.2.1
  have HC : Hid (∀ w', Frm [] w w' → Calls Tryz.prog 119 #[.iface 24 (.pointer (some ⟨p, 0, none⟩)), .pointer (some ⟨q, 0, none⟩), .int .i64 (k : Int)] w' (Ret (.tuple #[.int .i64 u, .int .i64 0]) (fun x => Frm [d] w' x ∧ MemAt x p d cc ws))) := Lib.hid fun w' hf => wanted_ok (hM.frm hf (by simp) (by simp)) (h.frm hf (by simp)).nd hqd h.fit k hkT u hu hx
  have HR : Hid (∀ w', Frm [d] w w' → Row .i64 3 B w' a n c m.wk) := Lib.hid fun w' hf => (hwa.row (.inr (.inl hnx))).frm hf (by intro x hx; simpa using (hbn x hx).2)
  have HL : Hid (∀ w', Frm [d] w w' → Laid w') := Lib.hid fun w' hf => hL.frm hf (by intro x hx; simp at hx; omega)
  have HGD : Hid (∀ w' b, Frm [d] w w' → Calls Tryz.prog 168 #[.pointer (some ⟨q, 11, none⟩), .int .i64 u, .bool b] w' (Ret (.bool (m.s.goes u b)) (fun x => Frm [] w' x))) := Lib.hid fun w' b hf => goesL_any (HL.out _ hf) (HV.out _ hf).st u b
  have hfi0 : 0 ≤ m.s.fi := by omega
  have HG := Lib.hid hg
  have HBN := Lib.hid hbn
  have hbl := h.lt
  have HK := Lib.hid hk
  have HNX := Lib.hid hnx
  have hqb := hwa.ne h
  have HQB := Lib.hid hqb
  clear h hM hwa hx hbn hk hg hL hnx hqb
  cases ho : (m.s.fi != m.s.la) with
  | false =>
    cases hg : m.s.goes u false with
    | false =>
      have hE : m.readMode u = m.finish := by unfold Mv.readMode; rw [ho, hg]; simp
      rw [hE]
      have HGE := Lib.hid hg
      have ek : ((k : Int) != m.s.la) = false := by rw [← HK.out]; exact ho
      clear hE hg
      rw [HK.out] at ho
      go_enter Tryz.func160, Tryz.ntmps160
      go_wp2_with fail
      go_region_held3 (fun w' => Frm [d] w w') (repeat' (first | assumption | exact Frm.refl _ _ | apply Frm.drew | apply Frm.drewN)) ((go_at_call 119; (with_reducible refine (HC.out _ (by (repeat' (first | exact Frm.refl _ _ | apply Frm.drew | apply Frm.drewN)))).mono ?_); rintro e w1 ⟨rfl, hF1, hM1⟩; have hFw : Frm [d] w w1 := Frm.trans (by (repeat' (first | exact Frm.refl _ _ | apply Frm.drew | apply Frm.drewN))) hF1))
      all_goals
        have HF1 := Lib.hid hFw
        have HM1 := Lib.hid hM1
        have HV1 := Lib.hid (HV.out _ hFw)
        have HR1 := Lib.hid (HR.out _ hFw)
        clear hFw hM1 hF1
        have c16 := HV1.out.cells.2.2.2.2.2.2.2.2.2.2.2.2.2.2.2.2.1
        have c17 := HV1.out.cells.2.2.2.2.2.2.2.2.2.2.2.2.2.2.2.2.2.1
        rw [HK.out] at c16
        clear hc16
        have hbl1 := HV1.out.lt
        go_wp2_with fail
        go_quiet (fail)
        go_wp2_with fail
        refine (HGD.out _ false (HF1.out.drewN _)).mono ?_
        rw [HGE.out]
        rintro e w2 ⟨rfl, hF2⟩
        have HF2 := Lib.hid ((HF1.out.drewN _).trans hF2.nil)
        have hF3 := (((Frm.refl [] _).drewN _).trans hF2 : Frm [] w1 w2)
        have HM2 := Lib.hid (HM1.out.frm hF3 (by simp) (by simp))
        have HV2 := Lib.hid (HV1.out.frm hF3 (by simp))
        have HR2 := Lib.hid (HR1.out.frm0 hF3)
        clear hF2 hF3 c16 c17
        have H2 := Lib.hid (finish_any HV2.out HR2.out.2 HG.out)
        go_wp2_with fail
        refine H2.out.mono ?_
        rintro e w3 ⟨rfl, hF3, hV3⟩
        have HF3 := Lib.hid hF3
        have HV3 := Lib.hid hV3
        clear hF3 hV3
        go_wp2
        go_ret
        exact aftS_same ((HF2.out.weak (by simp)).trans (HF3.out.weak (by simp))) (HM2.out.frm HF3.out (by simpa using fun h => hqp h.symm) (by simpa using fun h => hqd h.symm)) HV3.out (((WkA.of_row (m := m) HR2.out).frm HF3.out (by intro x hx; simp; rintro rfl; exact HQB.out hx)).nx rfl (fun hh => absurd hh m.fin_nx))
    | true =>
      have hE : m.readMode u = m.serve u (-1) := by unfold Mv.readMode; rw [ho, hg]; simp only [Bool.true_eq_false, if_false]; rw [if_neg (by simpa using ho)]
      rw [hE]
      have HGE := Lib.hid hg
      have ek : ((k : Int) != m.s.la) = false := by rw [← HK.out]; exact ho
      clear hE hg
      rw [HK.out] at ho
      go_enter Tryz.func160, Tryz.ntmps160
      go_wp2_with fail
      go_region_held3 (fun w' => Frm [d] w w') (repeat' (first | assumption | exact Frm.refl _ _ | apply Frm.drew | apply Frm.drewN)) ((go_at_call 119; (with_reducible refine (HC.out _ (by (repeat' (first | exact Frm.refl _ _ | apply Frm.drew | apply Frm.drewN)))).mono ?_); rintro e w1 ⟨rfl, hF1, hM1⟩; have hFw : Frm [d] w w1 := Frm.trans (by (repeat' (first | exact Frm.refl _ _ | apply Frm.drew | apply Frm.drewN))) hF1))
      all_goals
        have HF1 := Lib.hid hFw
        have HM1 := Lib.hid hM1
        have HV1 := Lib.hid (HV.out _ hFw)
        have HR1 := Lib.hid (HR.out _ hFw)
        clear hFw hM1 hF1
        have c16 := HV1.out.cells.2.2.2.2.2.2.2.2.2.2.2.2.2.2.2.2.1
        have c17 := HV1.out.cells.2.2.2.2.2.2.2.2.2.2.2.2.2.2.2.2.2.1
        rw [HK.out] at c16
        clear hc16
        have hbl1 := HV1.out.lt
        go_wp2_with fail
        go_quiet (fail)
        go_wp2_with fail
        refine (HGD.out _ false (HF1.out.drewN _)).mono ?_
        rw [HGE.out]
        rintro e w2 ⟨rfl, hF2⟩
        have HF2 := Lib.hid ((HF1.out.drewN _).trans hF2.nil)
        have hF3 := (((Frm.refl [] _).drewN _).trans hF2 : Frm [] w1 w2)
        have HM2 := Lib.hid (HM1.out.frm hF3 (by simp) (by simp))
        have HV2 := Lib.hid (HV1.out.frm hF3 (by simp))
        have HR2 := Lib.hid (HR1.out.frm0 hF3)
        clear hF2 hF3 c16 c17
        have H2 := Lib.hid (serve_any HV2.out HR2.out HG.out (Nat.le_trans hB HF2.out.size) hlw u hu (-1) hfi0 (by decide) (by omega))
        go_wp2_with fail
        refine H2.out.mono ?_
        rintro e w3 hA
        have HA3 := Lib.hid hA
        obtain ⟨a3, n3, c3, rfl, -⟩ := hA
        go_wp2
        go_ret
        exact aftS_aftM HF2.out HM2.out ⟨hqp, hqd⟩ HBN.out HA3.out
  | true =>
    cases hg : m.s.goes u true with
    | false =>
      have hE : m.readMode u = m.finish := by unfold Mv.readMode; rw [ho, hg]; simp
      rw [hE]
      have HGE := Lib.hid hg
      have ek : ((k : Int) != m.s.la) = true := by rw [← HK.out]; exact ho
      clear hE hg
      rw [HK.out] at ho
      go_enter Tryz.func160, Tryz.ntmps160
      go_wp2_with fail
      go_region_held3 (fun w' => Frm [d] w w') (repeat' (first | assumption | exact Frm.refl _ _ | apply Frm.drew | apply Frm.drewN)) ((go_at_call 119; (with_reducible refine (HC.out _ (by (repeat' (first | exact Frm.refl _ _ | apply Frm.drew | apply Frm.drewN)))).mono ?_); rintro e w1 ⟨rfl, hF1, hM1⟩; have hFw : Frm [d] w w1 := Frm.trans (by (repeat' (first | exact Frm.refl _ _ | apply Frm.drew | apply Frm.drewN))) hF1))
      all_goals
        have HF1 := Lib.hid hFw
        have HM1 := Lib.hid hM1
        have HV1 := Lib.hid (HV.out _ hFw)
        have HR1 := Lib.hid (HR.out _ hFw)
        clear hFw hM1 hF1
        have c16 := HV1.out.cells.2.2.2.2.2.2.2.2.2.2.2.2.2.2.2.2.1
        have c17 := HV1.out.cells.2.2.2.2.2.2.2.2.2.2.2.2.2.2.2.2.2.1
        rw [HK.out] at c16
        clear hc16
        have hbl1 := HV1.out.lt
        go_wp2_with fail
        go_quiet (fail)
        go_wp2_with fail
        refine (HGD.out _ true (HF1.out.drewN _)).mono ?_
        rw [HGE.out]
        rintro e w2 ⟨rfl, hF2⟩
        have HF2 := Lib.hid ((HF1.out.drewN _).trans hF2.nil)
        have hF3 := (((Frm.refl [] _).drewN _).trans hF2 : Frm [] w1 w2)
        have HM2 := Lib.hid (HM1.out.frm hF3 (by simp) (by simp))
        have HV2 := Lib.hid (HV1.out.frm hF3 (by simp))
        have HR2 := Lib.hid (HR1.out.frm0 hF3)
        clear hF2 hF3 c16 c17
        have H2 := Lib.hid (finish_any HV2.out HR2.out.2 HG.out)
        go_wp2_with fail
        refine H2.out.mono ?_
        rintro e w3 ⟨rfl, hF3, hV3⟩
        have HF3 := Lib.hid hF3
        have HV3 := Lib.hid hV3
        clear hF3 hV3
        go_wp2
        go_ret
        exact aftS_same ((HF2.out.weak (by simp)).trans (HF3.out.weak (by simp))) (HM2.out.frm HF3.out (by simpa using fun h => hqp h.symm) (by simpa using fun h => hqd h.symm)) HV3.out (((WkA.of_row (m := m) HR2.out).frm HF3.out (by intro x hx; simp; rintro rfl; exact HQB.out hx)).nx rfl (fun hh => absurd hh m.fin_nx))
    | true =>
      have hE : m.readMode u = { m with fr := u, nx := 9 } := by unfold Mv.readMode; rw [ho, hg]; simp only [Bool.true_eq_false, if_false]; rw [if_pos (by simpa using ho)]
      rw [hE]
      have HGE := Lib.hid hg
      have ek : ((k : Int) != m.s.la) = true := by rw [← HK.out]; exact ho
      clear hE hg
      rw [HK.out] at ho
      go_enter Tryz.func160, Tryz.ntmps160
      go_wp2_with fail
      go_region_held3 (fun w' => Frm [d] w w') (repeat' (first | assumption | exact Frm.refl _ _ | apply Frm.drew | apply Frm.drewN)) ((go_at_call 119; (with_reducible refine (HC.out _ (by (repeat' (first | exact Frm.refl _ _ | apply Frm.drew | apply Frm.drewN)))).mono ?_); rintro e w1 ⟨rfl, hF1, hM1⟩; have hFw : Frm [d] w w1 := Frm.trans (by (repeat' (first | exact Frm.refl _ _ | apply Frm.drew | apply Frm.drewN))) hF1))
      all_goals
        have HF1 := Lib.hid hFw
        have HM1 := Lib.hid hM1
        have HV1 := Lib.hid (HV.out _ hFw)
        have HR1 := Lib.hid (HR.out _ hFw)
        clear hFw hM1 hF1
        have c16 := HV1.out.cells.2.2.2.2.2.2.2.2.2.2.2.2.2.2.2.2.1
        have c17 := HV1.out.cells.2.2.2.2.2.2.2.2.2.2.2.2.2.2.2.2.2.1
        rw [HK.out] at c16
        clear hc16
        have hbl1 := HV1.out.lt
        go_wp2_with fail
        go_quiet (fail)
        go_wp2_with fail
        refine (HGD.out _ true (HF1.out.drewN _)).mono ?_
        rw [HGE.out]
        rintro e w2 ⟨rfl, hF2⟩
        have HF2 := Lib.hid ((HF1.out.drewN _).trans hF2.nil)
        have hF3 := (((Frm.refl [] _).drewN _).trans hF2 : Frm [] w1 w2)
        have HM2 := Lib.hid (HM1.out.frm hF3 (by simp) (by simp))
        have HV2 := Lib.hid (HV1.out.frm hF3 (by simp))
        have HR2 := Lib.hid (HR1.out.frm0 hF3)
        clear hF2 hF3 c16 c17
        obtain ⟨c0, c1, c2, c3, c4, c5, c6, c7, c8, c9, c10, c11, c12, c13, c14, c15, c16, c17, c18, c19, c20, c21⟩ := HV2.out.cells
        have hbl2 := HV2.out.lt
        have z6 := HV2.out.frz 6
        have z18 := HV2.out.frz 18
        go_wp2
        go_ret
        exact aftS_same (((HF2.out.weak (by simp)).setCell ⟨q, 18, none⟩ (.int .i64 u) (.inl (by simp))).setCell ⟨q, 6, none⟩ (.int .i64 9) (.inl (by simp))) ((HM2.out.setFar _ _ hqp hqd).setFar _ _ hqp hqd) ((HV2.out.set_fr u).set_nx 9) (((WkA.of_row (m := m) HR2.out).frm (((Frm.refl [q] _).setCell ⟨q, 18, none⟩ (.int .i64 u) (.inl (by simp))).setCell ⟨q, 6, none⟩ (.int .i64 9) (.inl (by simp))) (by intro x hx; simp; rintro rfl; exact HQB.out hx)).nx rfl (fun _ => .inr (.inl HNX.out)))
end
end Go.Proofs.YticbbfcachnkiaaGreatDoor
