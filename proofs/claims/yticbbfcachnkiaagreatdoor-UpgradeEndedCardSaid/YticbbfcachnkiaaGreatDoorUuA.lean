/- Package latch: get, giveBack, goOver, decide (by gen_lua.py). -/
import Derived.Test.YticbbfcachnkiaaGreatDoorUtZ
namespace Go.Proofs.YticbbfcachnkiaaGreatDoor
open Go.ChangeShapes Go.WideShapes Go.ChangeAt Go.RowKit
set_option linter.unusedVariables false
set_option linter.unusedSimpArgs false

namespace Mv
def get (m : Mv) : Mv := if m.s.of m.t ≠ 0 then m.refuse else if m.s.fi = -1 ∧ m.s.wa = -1 ∧ m.s.goes m.md false = true then { m with s := m.s.give m.t m.md }.finish else { m with wt := true, nx := 4 }
def giveBack (m : Mv) : Mv := if m.s.of m.t = 0 ∨ m.s.wa = m.t then m.refuse else { m with s := m.s.take m.t }.handOn
def goOver (m : Mv) : Mv :=
  if (m.s.of m.t ≠ 2 ∧ m.s.of m.t ≠ 3) ∨ m.s.of m.t = m.md ∨ m.s.wa = m.t then m.refuse
  else if m.md ≠ 3 then { m with s := m.s.give m.t m.md }.handOn
  else if m.s.sh = 0 then { m with s := m.s.give m.t m.md }.finish
  else { m with s := { m.s with wa := m.t }, wt := true, nx := 6 }
def decide (m : Mv) : Mv := if m.k = 0 then m.get else if m.k = 1 then m.giveBack else m.goOver
end Mv
theorem LS.of_le (s : LS) (t : Int) : s.of t = 0 ∨ s.of t = 1 ∨ s.of t = 2 ∨ s.of t = 3 := by unfold LS.of; split; simp; split; simp; split <;> simp
/-- A call so far: the move alone may be another one; its thread and its mode are the same. -/
def Kq (q : Nat) (t : Nat) (md : Int) (w w' : World) : Prop := Frm [q] w w' ∧ w'.cell? ⟨q, 3, none⟩ = some (.int .i64 (t : Int)) ∧ w'.cell? ⟨q, 5, none⟩ = some (.int .i64 md)
theorem Kq.refl {q t : Nat} {md : Int} {w : World} (h3 : w.cell? ⟨q, 3, none⟩ = some (.int .i64 (t : Int))) (h5 : w.cell? ⟨q, 5, none⟩ = some (.int .i64 md)) : Kq q t md w w := ⟨Frm.refl _ _, h3, h5⟩
theorem Kq.drewN {q t : Nat} {md : Int} {w w' : World} (h : Kq q t md w w') (n : Nat) : Kq q t md w (w'.drewN n) := ⟨h.1.drewN n, h.2⟩
theorem Kq.drew {q t : Nat} {md : Int} {w w' : World} (h : Kq q t md w w') : Kq q t md w w'.drew := h.drewN 1
section
variable {w : World} {q T qe ql : Nat} {a : Option Addr} {n c B : Nat} {m : Mv}
theorem MvAt.kq {w1 w2 : World} {s : LS} (hF : Frm [q] w1 w2) (h : MvAt w2 q T qe ql a n c { m with s := s }) : Kq q m.t m.md w1 w2 := ⟨hF, h.cells.2.2.2.1, h.cells.2.2.2.2.2.1⟩
theorem aft_quiet {m' : Mv} {w' : World} (hM : MvAt w' q T qe ql a n c m') (hF : Frm [q] w w') (hR : Row .i64 3 B w a n c m'.wk) (hq : q ∉ blk (.slice a n c)) : AftM w q T qe ql a n c B m' (.returned (.tuple #[])) w' :=
  ⟨a, n, c, rfl, hF.weak (by simp), hM, hR.frm hF (by simpa using fun x hx (e : x = q) => hq (e ▸ hx)), fun x hx => .inl hx⟩
theorem aft_trans {m' : Mv} {w1 w' : World} {e : Ending} (hF : Frm [q] w w1) (h : AftM w1 q T qe ql a n c B m' e w') : AftM w q T qe ql a n c B m' e w' := by
  obtain ⟨a', n', c', he, hF', hM, hR, hP⟩ := h
  refine ⟨a', n', c', he, (hF.weak (by simp)).trans hF', hM, hR, fun x hx => (hP x hx).imp id (fun h => Nat.le_trans hF.size h)⟩
set_option maxRecDepth 1000000 in
set_option maxHeartbeats 4000000 in
theorem get_any (h : MvAt w q T qe ql a n c m) (hR : Row .i64 3 B w a n c m.wk) (hg : Gd T m.s) (hW : Laid w) (hB : B ≤ w.heap.size) (hlw : m.wk.length ≤ 999) (hmd : m.k ≠ 1 → m.md = 1 ∨ m.md = 2 ∨ m.md = 3) (hk : m.k = 0 ∨ m.k = 1 ∨ m.k = 2) (hk0 : m.k = 0) :
    Calls Tryz.prog 165 #[.pointer (some ⟨q, 0, none⟩)] w (AftM w q T qe ql a n c B m.get) := by
  have hqr := row_ne h hR
  have htT := h.tT
  have T64 := h.t64
  have HO := Lib.hid (of_any h.st (m.t : Int) (by omega) (by omega) hg.sh)
  obtain ⟨c0, c1, c2, c3, c4, c5, c6, c7, c8, c9, c10, c11, c12, c13, c14, c15, c16, c17, c18, c19, c20, c21⟩ := h.cells
  have hbl := h.lt
  have z6 := h.frz 6
  have z21 := h.frz 21
  have hmd1 := hmd (by omega)
  by_cases hof : m.s.of m.t = 0
  · rw [hof] at HO
    have HGo := Lib.hid (goesL_any hW h.st m.md false)
    have HMw : Hid (∀ w', Frm [] w w' → MvAt w' q T qe ql a n c m) := Lib.hid fun w' g => h.frm g (by simp)
    have HGv : Hid (∀ w', Frm [] w w' → Calls Tryz.prog 175 #[.pointer (some ⟨q, 11, none⟩), .int .i64 (m.t : Int), .int .i64 m.md] w' (Ret (.tuple #[]) (fun x => Frm [q] w' x ∧ MvAt x q T qe ql a n c { m with s := m.s.give m.t m.md }))) := Lib.hid fun w' g => give_any (h.frm g (by simp)) m.t (by omega) m.md hmd1 hg.sh (hg.take m.t).gr
    have HR := Lib.hid hR
    have HGG := Lib.hid (hg.give m.t htT T64 m.md)
    have hlen : n = m.wk.length := hR.2
    have HL := Lib.hid hlen
    clear h hR hg hW hmd hmd1 hlen hk0 hk
    by_cases hf : m.s.fi = -1
    · have ef : (m.s.fi == -1) = true := by simpa using hf
      by_cases hw : m.s.wa = -1
      · have ew : (m.s.wa == -1) = true := by simpa using hw
        cases hgo : m.s.goes m.md false with
        | true =>
          rw [hgo] at HGo
          have hE : m.get = { m with s := m.s.give m.t m.md }.finish := by unfold Mv.get; rw [if_neg (by simp [hof]), if_pos ⟨hf, hw, hgo⟩]
          rw [hE]
          clear hE hf hw hgo hof
          go_enter Tryz.func165, Tryz.ntmps165
          go_wp2_with fail
          refine HO.out.mono ?_
          rintro e w1 ⟨rfl, rfl⟩
          go_wp2_with fail
          refine HGo.out.mono ?_
          rintro e w1 ⟨rfl, hF⟩
          have HF0 := Lib.hid hF
          have HM0 := Lib.hid (HMw.out _ hF)
          clear c0 c1 c2 c3 c4 c5 c6 c7 c8 c9 c10 c11 c12 c13 c14 c15 c16 c17 c18 c19 c20 c21 z6 z21
          have HGw : Hid (∀ w', Frm [] w1 w' → Calls Tryz.prog 175 #[.pointer (some ⟨q, 11, none⟩), .int .i64 (m.t : Int), .int .i64 m.md] w' (Ret (.tuple #[]) (fun x => Frm [q] w' x ∧ MvAt x q T qe ql a n c { m with s := m.s.give m.t m.md }))) := Lib.hid fun w' g => HGv.out _ (HF0.out.trans g)
          have h3 := HM0.out.cells.2.2.2.1
          have h5 := HM0.out.cells.2.2.2.2.2.1
          have hk3 : ∀ w', Kq q m.t m.md w1 w' → w'.cell? ⟨q, 3, none⟩ = some (.int .i64 (m.t : Int)) := fun w' h => h.2.1
          have hk5 : ∀ w', Kq q m.t m.md w1 w' → w'.cell? ⟨q, 5, none⟩ = some (.int .i64 m.md) := fun w' h => h.2.2
          have hbl1 := HM0.out.lt
          clear hF
          go_wp2_with fail
          go_region_held3 (fun w' => Kq q m.t m.md w1 w') (repeat' (first | assumption | exact Kq.refl h3 h5 | apply Kq.drew | apply Kq.drewN)) ((go_at_call 175; (with_reducible refine (HGw.out _ (by (repeat' (first | exact Frm.refl _ _ | apply Frm.drew | apply Frm.drewN)))).mono ?_); rintro e w2 ⟨rfl, g1, hM1⟩; have g2 : Kq q m.t m.md w1 w2 := hM1.kq (Frm.trans (by (repeat' (first | exact Frm.refl _ _ | apply Frm.drew | apply Frm.drewN))) g1)))
          all_goals
            have HF1 : Hid (Frm [q] w w2) := Lib.hid (HF0.out.nil.trans g2.1)
            have H2 := Lib.hid (finish_any hM1 HL.out HGG.out)
            clear g1 hM1
            go_wp2_with fail
            refine H2.out.mono ?_
            rintro e w2 ⟨rfl, hF, hM⟩
            have HF2 := Lib.hid (HF1.out.trans hF)
            have HM2 := Lib.hid hM
            clear hF hM
            go_wp2
            go_end0
            exact aft_quiet HM2.out HF2.out HR.out hqr
        | false =>
          rw [hgo] at HGo
          have hE : m.get = { m with wt := true, nx := 4 } := by unfold Mv.get; rw [if_neg (by simp [hof]), if_neg (by simp [hgo])]
          rw [hE]
          clear hE
          clear hf hw hgo hof
          go_enter Tryz.func165, Tryz.ntmps165
          go_wp2_with fail
          refine HO.out.mono ?_
          rintro e w1 ⟨rfl, rfl⟩
          go_wp2_with fail
          refine HGo.out.mono ?_
          rintro e w1 ⟨rfl, hF⟩
          have HF0 : Hid (Frm [q] w w1) := Lib.hid hF.nil
          have HM0 := Lib.hid (HMw.out _ hF)
          obtain ⟨d0, d1, d2, d3, d4, d5, d6, d7, d8, d9, d10, d11, d12, d13, d14, d15, d16, d17, d18, d19, d20, d21⟩ := HM0.out.cells
          have hbl1 := HM0.out.lt
          have y6 := HM0.out.frz 6
          have y21 := HM0.out.frz 21
          clear hF
          go_wp2
          go_end0
          exact aft_quiet ((HM0.out.set_wt true).set_nx 4) (((HF0.out.setCell ⟨q, 21, none⟩ (.bool true) (.inl (by simp))).setCell ⟨q, 6, none⟩ (.int .i64 4) (.inl (by simp)))) HR.out hqr
      · have ew : (m.s.wa == -1) = false := by simpa using hw
        have HF0 : Hid (Frm [q] w w) := Lib.hid (Frm.refl _ _)
        have HM0 := Lib.hid (HMw.out _ (Frm.refl _ _))
        have hE : m.get = { m with wt := true, nx := 4 } := by unfold Mv.get; rw [if_neg (by simp [hof]), if_neg (by simp [hw])]
        rw [hE]
        clear hE
        clear hf hw hof
        go_enter Tryz.func165, Tryz.ntmps165
        go_wp2_with fail
        refine HO.out.mono ?_
        rintro e w1 ⟨rfl, rfl⟩
        go_wp2
        go_end0
        exact aft_quiet ((HM0.out.set_wt true).set_nx 4) (((HF0.out.setCell ⟨q, 21, none⟩ (.bool true) (.inl (by simp))).setCell ⟨q, 6, none⟩ (.int .i64 4) (.inl (by simp)))) HR.out hqr
    · have ef : (m.s.fi == -1) = false := by simpa using hf
      have HF0 : Hid (Frm [q] w w) := Lib.hid (Frm.refl _ _)
      have HM0 := Lib.hid (HMw.out _ (Frm.refl _ _))
      have hE : m.get = { m with wt := true, nx := 4 } := by unfold Mv.get; rw [if_neg (by simp [hof]), if_neg (by simp [hf])]
      rw [hE]
      clear hE
      clear hf hof
      go_enter Tryz.func165, Tryz.ntmps165
      go_wp2_with fail
      refine HO.out.mono ?_
      rintro e w1 ⟨rfl, rfl⟩
      go_wp2
      go_end0
      exact aft_quiet ((HM0.out.set_wt true).set_nx 4) (((HF0.out.setCell ⟨q, 21, none⟩ (.bool true) (.inl (by simp))).setCell ⟨q, 6, none⟩ (.int .i64 4) (.inl (by simp)))) HR.out hqr
  · have eo : (m.s.of m.t != 0) = true := by simpa using hof
    have hE : m.get = m.refuse := by unfold Mv.get; rw [if_pos hof]
    rw [hE]
    have H := Lib.hid (refuse_any h hR.2 hg)
    have HR := Lib.hid hR
    clear h hE hR hg hof hW
    go_enter Tryz.func165, Tryz.ntmps165
    go_wp2_with fail
    refine HO.out.mono ?_
    rintro e w1 ⟨rfl, rfl⟩
    go_wp2_with fail
    refine H.out.mono ?_
    rintro e w1 ⟨rfl, hF, hM⟩
    have HF1 := Lib.hid hF
    have HM1 := Lib.hid hM
    clear hF hM
    go_wp2
    go_end0
    exact aft_quiet HM1.out HF1.out HR.out hqr
set_option maxRecDepth 1000000 in
set_option maxHeartbeats 4000000 in
theorem giveBack_any (h : MvAt w q T qe ql a n c m) (hR : Row .i64 3 B w a n c m.wk) (hg : Gd T m.s) (hW : Laid w) (hB : B ≤ w.heap.size) (hlw : m.wk.length ≤ 999) (hmd : m.k ≠ 1 → m.md = 1 ∨ m.md = 2 ∨ m.md = 3) (hk : m.k = 0 ∨ m.k = 1 ∨ m.k = 2) :
    Calls Tryz.prog 166 #[.pointer (some ⟨q, 0, none⟩)] w (AftM w q T qe ql a n c B m.giveBack) := by
  have hqr := row_ne h hR
  have htT := h.tT
  have T64 := h.t64
  have HO := Lib.hid (of_any h.st (m.t : Int) (by omega) (by omega) hg.sh)
  obtain ⟨c0, c1, c2, c3, c4, c5, c6, c7, c8, c9, c10, c11, c12, c13, c14, c15, c16, c17, c18, c19, c20, c21⟩ := h.cells
  have hbl := h.lt
  have HQ : Hid (Qt 173 #[.pointer (some ⟨q, 11, none⟩), .int .i64 (m.t : Int)] (.int .i64 (m.s.of m.t)) w) := Lib.hid (Qt.of fun w' hf => of_any (h.st.frm hf (by simp)) (m.t : Int) (by omega) (by omega) hg.sh)
  clear HO
  by_cases hof : m.s.of m.t = 0
  · have eo : (m.s.of m.t == 0) = true := by simpa using hof
    have hE : m.giveBack = m.refuse := by unfold Mv.giveBack; rw [if_pos (.inl hof)]
    rw [hE]
    have H : Hid (∀ k, Calls Tryz.prog 174 #[.pointer (some ⟨q, 0, none⟩)] (w.drewN k) (Ret (.tuple #[]) (fun w' => Frm [q] (w.drewN k) w' ∧ MvAt w' q T qe ql a n c m.refuse))) := Lib.hid fun k => refuse_any (h.drewN k) hR.2 hg
    have HR := Lib.hid hR
    clear h hE hR hg hof hW
    go_enter Tryz.func166, Tryz.ntmps166
    go_wp2_with fail
    go_quiet ((go_at_call 173; with_reducible exact HQ.out.at_ _))
    go_wp2_with fail
    refine (H.out _).mono ?_
    rintro e w1 ⟨rfl, hF, hM⟩
    have HF1 := Lib.hid (((Frm.refl [q] w).drewN _).trans hF)
    have HM1 := Lib.hid hM
    clear hF hM
    go_wp2
    go_end0
    exact aft_quiet HM1.out HF1.out HR.out hqr
  · have eo : (m.s.of m.t == 0) = false := by simpa using hof
    by_cases hw : m.s.wa = m.t
    · have ew : (m.s.wa == (m.t : Int)) = true := by simpa using hw
      have hE : m.giveBack = m.refuse := by unfold Mv.giveBack; rw [if_pos (.inr hw)]
      rw [hE]
      have H : Hid (∀ k, Calls Tryz.prog 174 #[.pointer (some ⟨q, 0, none⟩)] (w.drewN k) (Ret (.tuple #[]) (fun w' => Frm [q] (w.drewN k) w' ∧ MvAt w' q T qe ql a n c m.refuse))) := Lib.hid fun k => refuse_any (h.drewN k) hR.2 hg
      have HR := Lib.hid hR
      clear h hE hR hg hof hw hW
      go_enter Tryz.func166, Tryz.ntmps166
      go_wp2_with fail
      go_quiet ((go_at_call 173; with_reducible exact HQ.out.at_ _))
      go_wp2_with fail
      refine (H.out _).mono ?_
      rintro e w1 ⟨rfl, hF, hM⟩
      have HF1 := Lib.hid (((Frm.refl [q] w).drewN _).trans hF)
      have HM1 := Lib.hid hM
      clear hF hM
      go_wp2
      go_end0
      exact aft_quiet HM1.out HF1.out HR.out hqr
    · have ew : (m.s.wa == (m.t : Int)) = false := by simpa using hw
      have hE : m.giveBack = { m with s := m.s.take m.t }.handOn := by unfold Mv.giveBack; rw [if_neg (by simp [hof, hw])]
      rw [hE]
      have HT : Hid (∀ k, Calls Tryz.prog 176 #[.pointer (some ⟨q, 11, none⟩), .int .i64 (m.t : Int)] (w.drewN k) (Ret (.tuple #[]) (fun x => Frm [q] (w.drewN k) x ∧ MvAt x q T qe ql a n c { m with s := m.s.take m.t }))) := Lib.hid fun k => take_any (h.drewN k) m.t (by omega) hg.sh
      have HR := Lib.hid hR
      have HGG := Lib.hid (hg.take m.t)
      clear h hE hR hg hof hw hW
      go_enter Tryz.func166, Tryz.ntmps166
      go_wp2_with fail
      go_quiet ((go_at_call 173; with_reducible exact HQ.out.at_ _))
      go_wp2_with fail
      refine (HT.out _).mono ?_
      rintro e w1 ⟨rfl, hF, hM⟩
      have HF1 := Lib.hid (((Frm.refl [q] w).drewN _).trans hF)
      have hR1 := HR.out.frm HF1.out (by simpa using fun x hx (e : x = q) => hqr (e ▸ hx))
      have H2 := Lib.hid (handOn_any hM hR1 HGG.out (Nat.le_trans hB HF1.out.size) (by show m.wk.length ≤ _; omega))
      clear hF hM hR1
      go_wp2_with fail
      refine H2.out.mono ?_
      rintro e w2 hA
      have HA := Lib.hid (aft_trans HF1.out hA)
      obtain ⟨a3, n3, c3, rfl, -⟩ := hA
      go_wp2
      go_end0
      exact HA.out
set_option maxRecDepth 1000000 in
set_option maxHeartbeats 4000000 in
theorem goOver_any (h : MvAt w q T qe ql a n c m) (hR : Row .i64 3 B w a n c m.wk) (hg : Gd T m.s) (hW : Laid w) (hB : B ≤ w.heap.size) (hlw : m.wk.length ≤ 999) (hmd : m.k ≠ 1 → m.md = 1 ∨ m.md = 2 ∨ m.md = 3) (hk : m.k = 0 ∨ m.k = 1 ∨ m.k = 2) (hk2 : m.k = 2) :
    Calls Tryz.prog 167 #[.pointer (some ⟨q, 0, none⟩)] w (AftM w q T qe ql a n c B m.goOver) := by
  have hqr := row_ne h hR
  have htT := h.tT
  have T64 := h.t64
  have HO := Lib.hid (of_any h.st (m.t : Int) (by omega) (by omega) hg.sh)
  obtain ⟨c0, c1, c2, c3, c4, c5, c6, c7, c8, c9, c10, c11, c12, c13, c14, c15, c16, c17, c18, c19, c20, c21⟩ := h.cells
  have hbl := h.lt
  have hmd1 := hmd (by omega)
  have z6 := h.frz 6
  have z14 := h.frz 14
  have z21 := h.frz 21
  rcases m.s.of_le m.t with hof | hof | hof | hof
  all_goals rw [hof] at HO
  · have hE : m.goOver = m.refuse := by unfold Mv.goOver; rw [if_pos (.inl ⟨by rw [hof]; decide, by rw [hof]; decide⟩)]
    rw [hE]
    have H : Hid (∀ k, Calls Tryz.prog 174 #[.pointer (some ⟨q, 0, none⟩)] (w.drewN k) (Ret (.tuple #[]) (fun w' => Frm [q] (w.drewN k) w' ∧ MvAt w' q T qe ql a n c m.refuse))) := Lib.hid fun k => refuse_any (h.drewN k) hR.2 hg
    have HR := Lib.hid hR
    clear h hE hR hg hmd hW hmd1 hof
    go_enter Tryz.func167, Tryz.ntmps167
    go_wp2_with fail
    refine HO.out.mono ?_
    rintro e w1 ⟨rfl, rfl⟩
    go_wp2_with fail
    go_quiet (fail)
    go_wp2_with fail
    refine (H.out _).mono ?_
    rintro e w1 ⟨rfl, hF, hM⟩
    have HF1 := Lib.hid (((Frm.refl [q] w).drewN _).trans hF)
    have HM1 := Lib.hid hM
    clear hF hM
    go_wp2
    go_end0
    exact aft_quiet HM1.out HF1.out HR.out hqr
  · have hE : m.goOver = m.refuse := by unfold Mv.goOver; rw [if_pos (.inl ⟨by rw [hof]; decide, by rw [hof]; decide⟩)]
    rw [hE]
    have H : Hid (∀ k, Calls Tryz.prog 174 #[.pointer (some ⟨q, 0, none⟩)] (w.drewN k) (Ret (.tuple #[]) (fun w' => Frm [q] (w.drewN k) w' ∧ MvAt w' q T qe ql a n c m.refuse))) := Lib.hid fun k => refuse_any (h.drewN k) hR.2 hg
    have HR := Lib.hid hR
    clear h hE hR hg hmd hW hmd1 hof
    go_enter Tryz.func167, Tryz.ntmps167
    go_wp2_with fail
    refine HO.out.mono ?_
    rintro e w1 ⟨rfl, rfl⟩
    go_wp2_with fail
    go_quiet (fail)
    go_wp2_with fail
    refine (H.out _).mono ?_
    rintro e w1 ⟨rfl, hF, hM⟩
    have HF1 := Lib.hid (((Frm.refl [q] w).drewN _).trans hF)
    have HM1 := Lib.hid hM
    clear hF hM
    go_wp2
    go_end0
    exact aft_quiet HM1.out HF1.out HR.out hqr
  · by_cases hm : (2 : Int) = m.md
    · have em : ((2 : Int) == m.md) = true := by simpa using hm
      have hE : m.goOver = m.refuse := by unfold Mv.goOver; rw [if_pos (.inr (.inl (by rw [hof]; exact hm)))]
      rw [hE]
      have H : Hid (∀ k, Calls Tryz.prog 174 #[.pointer (some ⟨q, 0, none⟩)] (w.drewN k) (Ret (.tuple #[]) (fun w' => Frm [q] (w.drewN k) w' ∧ MvAt w' q T qe ql a n c m.refuse))) := Lib.hid fun k => refuse_any (h.drewN k) hR.2 hg
      have HR := Lib.hid hR
      clear h hE hR hg hmd hW hmd1 hof hm
      go_enter Tryz.func167, Tryz.ntmps167
      go_wp2_with fail
      refine HO.out.mono ?_
      rintro e w1 ⟨rfl, rfl⟩
      go_wp2_with fail
      go_quiet (fail)
      go_wp2_with fail
      refine (H.out _).mono ?_
      rintro e w1 ⟨rfl, hF, hM⟩
      have HF1 := Lib.hid (((Frm.refl [q] w).drewN _).trans hF)
      have HM1 := Lib.hid hM
      clear hF hM
      go_wp2
      go_end0
      exact aft_quiet HM1.out HF1.out HR.out hqr
    · have em : ((2 : Int) == m.md) = false := by simpa using hm
      by_cases hw : m.s.wa = m.t
      · have ew : (m.s.wa == (m.t : Int)) = true := by simpa using hw
        have hE : m.goOver = m.refuse := by unfold Mv.goOver; rw [if_pos (.inr (.inr hw))]
        rw [hE]
        have H : Hid (∀ k, Calls Tryz.prog 174 #[.pointer (some ⟨q, 0, none⟩)] (w.drewN k) (Ret (.tuple #[]) (fun w' => Frm [q] (w.drewN k) w' ∧ MvAt w' q T qe ql a n c m.refuse))) := Lib.hid fun k => refuse_any (h.drewN k) hR.2 hg
        have HR := Lib.hid hR
        clear h hE hR hg hmd hW hmd1 hof hm hw
        go_enter Tryz.func167, Tryz.ntmps167
        go_wp2_with fail
        refine HO.out.mono ?_
        rintro e w1 ⟨rfl, rfl⟩
        go_wp2_with fail
        go_quiet (fail)
        go_wp2_with fail
        refine (H.out _).mono ?_
        rintro e w1 ⟨rfl, hF, hM⟩
        have HF1 := Lib.hid (((Frm.refl [q] w).drewN _).trans hF)
        have HM1 := Lib.hid hM
        clear hF hM
        go_wp2
        go_end0
        exact aft_quiet HM1.out HF1.out HR.out hqr
      · have ew : (m.s.wa == (m.t : Int)) = false := by simpa using hw
        have hneg : ¬ ((m.s.of m.t ≠ 2 ∧ m.s.of m.t ≠ 3) ∨ m.s.of m.t = m.md ∨ m.s.wa = m.t) := by
          rintro (⟨h1, h2⟩ | h1 | h1)
          · first | exact h1 hof | exact h2 hof
          · rw [hof] at h1; exact hm h1
          · exact hw h1
        clear hm hw
        by_cases h3x : m.md = 3
        · have e3 : (m.md != 3) = false := by simp [h3x]
          by_cases hs : m.s.sh = 0
          · have es : ((m.s.sh : Int) == 0) = true := by simp [hs]
            have hE : m.goOver = { m with s := m.s.give m.t m.md }.finish := by unfold Mv.goOver; rw [if_neg hneg, if_neg (by simp [h3x]), if_pos hs]
            clear h3x hs
            skip
            rw [hE]
            have HGw : Hid (∀ w', Frm [] w w' → Calls Tryz.prog 175 #[.pointer (some ⟨q, 11, none⟩), .int .i64 (m.t : Int), .int .i64 m.md] w' (Ret (.tuple #[]) (fun x => Frm [q] w' x ∧ MvAt x q T qe ql a n c { m with s := m.s.give m.t m.md }))) := Lib.hid fun w' g => give_any (h.frm g (by simp)) m.t (by omega) m.md hmd1 hg.sh (hg.take m.t).gr
            have HR := Lib.hid hR
            have HGG := Lib.hid (hg.give m.t htT T64 m.md)
            have hlen : n = m.wk.length := hR.2
            have HL := Lib.hid hlen
            have h3 := h.cells.2.2.2.1
            have h5 := h.cells.2.2.2.2.2.1
            have hk3 : ∀ w', Kq q m.t m.md w w' → w'.cell? ⟨q, 3, none⟩ = some (.int .i64 (m.t : Int)) := fun w' h => h.2.1
            have hk5 : ∀ w', Kq q m.t m.md w w' → w'.cell? ⟨q, 5, none⟩ = some (.int .i64 m.md) := fun w' h => h.2.2
            have HK3 := Lib.hid hk3
            have HK5 := Lib.hid hk5
            clear h hE hR hg hW hlen hk3 hk5 hmd hof hneg
            go_enter Tryz.func167, Tryz.ntmps167
            go_wp2_with fail
            refine HO.out.mono ?_
            rintro e w1 ⟨rfl, rfl⟩
            go_wp2_with fail
            go_quiet (fail)
            go_wp2_with fail
            have hk3 := HK3.out
            have hk5 := HK5.out
            go_region_held3 (fun w' => Kq q m.t m.md w w') (repeat' (first | assumption | exact Kq.refl h3 h5 | apply Kq.drew | apply Kq.drewN)) ((go_at_call 175; (with_reducible refine (HGw.out _ (by (repeat' (first | exact Frm.refl _ _ | apply Frm.drew | apply Frm.drewN)))).mono ?_); rintro e w2 ⟨rfl, g1, hM1⟩; have g2 : Kq q m.t m.md w w2 := hM1.kq (Frm.trans (by (repeat' (first | exact Frm.refl _ _ | apply Frm.drew | apply Frm.drewN))) g1)))
            all_goals
              have HF1 : Hid (Frm [q] w w2) := Lib.hid g2.1
              have H2 := Lib.hid (finish_any hM1 HL.out HGG.out)
              clear g1 hM1 hk3 hk5 g2
              go_wp2_with fail
              refine H2.out.mono ?_
              rintro e w2 ⟨rfl, hF, hM⟩
              have HF2 := Lib.hid (HF1.out.trans hF)
              have HM2 := Lib.hid hM
              clear hF hM
              go_wp2
              go_end0
              exact aft_quiet HM2.out HF2.out HR.out hqr
          · have es : ((m.s.sh : Int) == 0) = false := by simp; omega
            have hE : m.goOver = { m with s := { m.s with wa := m.t }, wt := true, nx := 6 } := by unfold Mv.goOver; rw [if_neg hneg, if_neg (by simp [h3x]), if_neg hs]
            rw [hE]
            have HM := Lib.hid h
            have HR := Lib.hid hR
            clear h hE hR hg hW hmd hmd1 hof hneg h3x hs
            go_enter Tryz.func167, Tryz.ntmps167
            go_wp2_with fail
            refine HO.out.mono ?_
            rintro e w1 ⟨rfl, rfl⟩
            go_wp2_with fail
            go_quiet (fail)
            go_wp2
            go_end0
            exact aft_quiet ((((HM.out.drewN _).set_wa m.t).set_wt true).set_nx 6) ((((((Frm.refl [q] w).drewN _).setCell ⟨q, 14, none⟩ (.int .i64 (m.t : Int)) (.inl (by simp))).setCell ⟨q, 21, none⟩ (.bool true) (.inl (by simp))).setCell ⟨q, 6, none⟩ (.int .i64 6) (.inl (by simp)))) HR.out hqr
        · have e3 : (m.md != 3) = true := by simpa using h3x
          have hE : m.goOver = { m with s := m.s.give m.t m.md }.handOn := by unfold Mv.goOver; rw [if_neg hneg, if_pos h3x]
          clear h3x
          skip
          rw [hE]
          have HGw : Hid (∀ w', Frm [] w w' → Calls Tryz.prog 175 #[.pointer (some ⟨q, 11, none⟩), .int .i64 (m.t : Int), .int .i64 m.md] w' (Ret (.tuple #[]) (fun x => Frm [q] w' x ∧ MvAt x q T qe ql a n c { m with s := m.s.give m.t m.md }))) := Lib.hid fun w' g => give_any (h.frm g (by simp)) m.t (by omega) m.md hmd1 hg.sh (hg.take m.t).gr
          have HR := Lib.hid hR
          have HGG := Lib.hid (hg.give m.t htT T64 m.md)
          have hlen : n = m.wk.length := hR.2
          have HL := Lib.hid hlen
          have h3 := h.cells.2.2.2.1
          have h5 := h.cells.2.2.2.2.2.1
          have hk3 : ∀ w', Kq q m.t m.md w w' → w'.cell? ⟨q, 3, none⟩ = some (.int .i64 (m.t : Int)) := fun w' h => h.2.1
          have hk5 : ∀ w', Kq q m.t m.md w w' → w'.cell? ⟨q, 5, none⟩ = some (.int .i64 m.md) := fun w' h => h.2.2
          have HK3 := Lib.hid hk3
          have HK5 := Lib.hid hk5
          clear h hE hR hg hW hlen hk3 hk5 hmd hof hneg
          go_enter Tryz.func167, Tryz.ntmps167
          go_wp2_with fail
          refine HO.out.mono ?_
          rintro e w1 ⟨rfl, rfl⟩
          go_wp2_with fail
          go_quiet (fail)
          go_wp2_with fail
          have hk3 := HK3.out
          have hk5 := HK5.out
          go_region_held3 (fun w' => Kq q m.t m.md w w') (repeat' (first | assumption | exact Kq.refl h3 h5 | apply Kq.drew | apply Kq.drewN)) ((go_at_call 175; (with_reducible refine (HGw.out _ (by (repeat' (first | exact Frm.refl _ _ | apply Frm.drew | apply Frm.drewN)))).mono ?_); rintro e w2 ⟨rfl, g1, hM1⟩; have g2 : Kq q m.t m.md w w2 := hM1.kq (Frm.trans (by (repeat' (first | exact Frm.refl _ _ | apply Frm.drew | apply Frm.drewN))) g1)))
          all_goals
            have HF1 : Hid (Frm [q] w w2) := Lib.hid g2.1
            have H2 := Lib.hid (handOn_any hM1 (HR.out.frm HF1.out (by simpa using fun x hx (e : x = q) => hqr (e ▸ hx))) HGG.out (Nat.le_trans hB HF1.out.size) (by show m.wk.length ≤ _; omega))
            clear g1 hM1 hk3 hk5 g2
            go_wp2_with fail
            refine H2.out.mono ?_
            rintro e w2 hA
            have HA := Lib.hid (aft_trans HF1.out hA)
            obtain ⟨a3, n3, c3, rfl, -⟩ := hA
            go_wp2
            go_end0
            exact HA.out
  · by_cases hm : (3 : Int) = m.md
    · have em : ((3 : Int) == m.md) = true := by simpa using hm
      have hE : m.goOver = m.refuse := by unfold Mv.goOver; rw [if_pos (.inr (.inl (by rw [hof]; exact hm)))]
      rw [hE]
      have H : Hid (∀ k, Calls Tryz.prog 174 #[.pointer (some ⟨q, 0, none⟩)] (w.drewN k) (Ret (.tuple #[]) (fun w' => Frm [q] (w.drewN k) w' ∧ MvAt w' q T qe ql a n c m.refuse))) := Lib.hid fun k => refuse_any (h.drewN k) hR.2 hg
      have HR := Lib.hid hR
      clear h hE hR hg hmd hW hmd1 hof hm
      go_enter Tryz.func167, Tryz.ntmps167
      go_wp2_with fail
      refine HO.out.mono ?_
      rintro e w1 ⟨rfl, rfl⟩
      go_wp2_with fail
      go_quiet (fail)
      go_wp2_with fail
      refine (H.out _).mono ?_
      rintro e w1 ⟨rfl, hF, hM⟩
      have HF1 := Lib.hid (((Frm.refl [q] w).drewN _).trans hF)
      have HM1 := Lib.hid hM
      clear hF hM
      go_wp2
      go_end0
      exact aft_quiet HM1.out HF1.out HR.out hqr
    · have em : ((3 : Int) == m.md) = false := by simpa using hm
      by_cases hw : m.s.wa = m.t
      · have ew : (m.s.wa == (m.t : Int)) = true := by simpa using hw
        have hE : m.goOver = m.refuse := by unfold Mv.goOver; rw [if_pos (.inr (.inr hw))]
        rw [hE]
        have H : Hid (∀ k, Calls Tryz.prog 174 #[.pointer (some ⟨q, 0, none⟩)] (w.drewN k) (Ret (.tuple #[]) (fun w' => Frm [q] (w.drewN k) w' ∧ MvAt w' q T qe ql a n c m.refuse))) := Lib.hid fun k => refuse_any (h.drewN k) hR.2 hg
        have HR := Lib.hid hR
        clear h hE hR hg hmd hW hmd1 hof hm hw
        go_enter Tryz.func167, Tryz.ntmps167
        go_wp2_with fail
        refine HO.out.mono ?_
        rintro e w1 ⟨rfl, rfl⟩
        go_wp2_with fail
        go_quiet (fail)
        go_wp2_with fail
        refine (H.out _).mono ?_
        rintro e w1 ⟨rfl, hF, hM⟩
        have HF1 := Lib.hid (((Frm.refl [q] w).drewN _).trans hF)
        have HM1 := Lib.hid hM
        clear hF hM
        go_wp2
        go_end0
        exact aft_quiet HM1.out HF1.out HR.out hqr
      · have ew : (m.s.wa == (m.t : Int)) = false := by simpa using hw
        have hneg : ¬ ((m.s.of m.t ≠ 2 ∧ m.s.of m.t ≠ 3) ∨ m.s.of m.t = m.md ∨ m.s.wa = m.t) := by
          rintro (⟨h1, h2⟩ | h1 | h1)
          · first | exact h1 hof | exact h2 hof
          · rw [hof] at h1; exact hm h1
          · exact hw h1
        clear hm hw
        by_cases h3x : m.md = 3
        · have e3 : (m.md != 3) = false := by simp [h3x]
          exfalso; simp [h3x] at em
        · have e3 : (m.md != 3) = true := by simpa using h3x
          have hE : m.goOver = { m with s := m.s.give m.t m.md }.handOn := by unfold Mv.goOver; rw [if_neg hneg, if_pos h3x]
          clear h3x
          skip
          rw [hE]
          have HGw : Hid (∀ w', Frm [] w w' → Calls Tryz.prog 175 #[.pointer (some ⟨q, 11, none⟩), .int .i64 (m.t : Int), .int .i64 m.md] w' (Ret (.tuple #[]) (fun x => Frm [q] w' x ∧ MvAt x q T qe ql a n c { m with s := m.s.give m.t m.md }))) := Lib.hid fun w' g => give_any (h.frm g (by simp)) m.t (by omega) m.md hmd1 hg.sh (hg.take m.t).gr
          have HR := Lib.hid hR
          have HGG := Lib.hid (hg.give m.t htT T64 m.md)
          have hlen : n = m.wk.length := hR.2
          have HL := Lib.hid hlen
          have h3 := h.cells.2.2.2.1
          have h5 := h.cells.2.2.2.2.2.1
          have hk3 : ∀ w', Kq q m.t m.md w w' → w'.cell? ⟨q, 3, none⟩ = some (.int .i64 (m.t : Int)) := fun w' h => h.2.1
          have hk5 : ∀ w', Kq q m.t m.md w w' → w'.cell? ⟨q, 5, none⟩ = some (.int .i64 m.md) := fun w' h => h.2.2
          have HK3 := Lib.hid hk3
          have HK5 := Lib.hid hk5
          clear h hE hR hg hW hlen hk3 hk5 hmd hof hneg
          go_enter Tryz.func167, Tryz.ntmps167
          go_wp2_with fail
          refine HO.out.mono ?_
          rintro e w1 ⟨rfl, rfl⟩
          go_wp2_with fail
          go_quiet (fail)
          go_wp2_with fail
          have hk3 := HK3.out
          have hk5 := HK5.out
          go_region_held3 (fun w' => Kq q m.t m.md w w') (repeat' (first | assumption | exact Kq.refl h3 h5 | apply Kq.drew | apply Kq.drewN)) ((go_at_call 175; (with_reducible refine (HGw.out _ (by (repeat' (first | exact Frm.refl _ _ | apply Frm.drew | apply Frm.drewN)))).mono ?_); rintro e w2 ⟨rfl, g1, hM1⟩; have g2 : Kq q m.t m.md w w2 := hM1.kq (Frm.trans (by (repeat' (first | exact Frm.refl _ _ | apply Frm.drew | apply Frm.drewN))) g1)))
          all_goals
            have HF1 : Hid (Frm [q] w w2) := Lib.hid g2.1
            have H2 := Lib.hid (handOn_any hM1 (HR.out.frm HF1.out (by simpa using fun x hx (e : x = q) => hqr (e ▸ hx))) HGG.out (Nat.le_trans hB HF1.out.size) (by show m.wk.length ≤ _; omega))
            clear g1 hM1 hk3 hk5 g2
            go_wp2_with fail
            refine H2.out.mono ?_
            rintro e w2 hA
            have HA := Lib.hid (aft_trans HF1.out hA)
            obtain ⟨a3, n3, c3, rfl, -⟩ := hA
            go_wp2
            go_end0
            exact HA.out
set_option maxRecDepth 1000000 in
set_option maxHeartbeats 4000000 in
theorem decide_any (h : MvAt w q T qe ql a n c m) (hR : Row .i64 3 B w a n c m.wk) (hg : Gd T m.s) (hW : Laid w) (hB : B ≤ w.heap.size) (hlw : m.wk.length ≤ 999) (hmd : m.k ≠ 1 → m.md = 1 ∨ m.md = 2 ∨ m.md = 3) (hk : m.k = 0 ∨ m.k = 1 ∨ m.k = 2) :
    Calls Tryz.prog 151 #[.pointer (some ⟨q, 0, none⟩)] w (AftM w q T qe ql a n c B m.decide) := by
  have hqr := row_ne h hR
  have htT := h.tT
  have T64 := h.t64
  obtain ⟨c0, c1, c2, c3, c4, c5, c6, c7, c8, c9, c10, c11, c12, c13, c14, c15, c16, c17, c18, c19, c20, c21⟩ := h.cells
  have hbl := h.lt
  rcases hk with e | e | e
  · have e0 : (m.k == 0) = true := by simp [e]
    have hk : m.k = 0 ∨ m.k = 1 ∨ m.k = 2 := .inl e
    have hE : m.decide = m.get := by unfold Mv.decide; rw [if_pos e]
    rw [hE]
    have H := Lib.hid (get_any h hR hg hW hB hlw hmd hk e)
    clear h hE hR hg hW hmd hk
    go_enter Tryz.func151, Tryz.ntmps151
    go_wp2_with fail
    refine H.out.mono ?_
    rintro e w2 hA
    have HA := Lib.hid hA
    obtain ⟨a3, n3, c3, rfl, -⟩ := hA
    go_wp2
    go_end0
    exact HA.out
  · have e0 : (m.k == 0) = false := by simp [e]
    have e1 : (m.k == 1) = true := by simp [e]
    have hk : m.k = 0 ∨ m.k = 1 ∨ m.k = 2 := .inr (.inl e)
    have hE : m.decide = m.giveBack := by unfold Mv.decide; rw [if_neg (by omega), if_pos e]
    rw [hE]
    have H := Lib.hid (giveBack_any h hR hg hW hB hlw hmd hk )
    clear h hE hR hg hW hmd hk
    go_enter Tryz.func151, Tryz.ntmps151
    go_wp2_with fail
    refine H.out.mono ?_
    rintro e w2 hA
    have HA := Lib.hid hA
    obtain ⟨a3, n3, c3, rfl, -⟩ := hA
    go_wp2
    go_end0
    exact HA.out
  · have e0 : (m.k == 0) = false := by simp [e]
    have e1 : (m.k == 1) = false := by simp [e]
    have e2 : (m.k == 2) = true := by simp [e]
    have hk : m.k = 0 ∨ m.k = 1 ∨ m.k = 2 := .inr (.inr e)
    have hE : m.decide = m.goOver := by unfold Mv.decide; rw [if_neg (by omega), if_neg (by omega)]
    rw [hE]
    have H := Lib.hid (goOver_any h hR hg hW hB hlw hmd hk e)
    clear h hE hR hg hW hmd hk
    go_enter Tryz.func151, Tryz.ntmps151
    go_wp2_with fail
    refine H.out.mono ?_
    rintro e w2 hA
    have HA := Lib.hid hA
    obtain ⟨a3, n3, c3, rfl, -⟩ := hA
    go_wp2
    go_end0
    exact HA.out
end
end Go.Proofs.YticbbfcachnkiaaGreatDoor
