/- Stage 13: the law TraceFits. (By gen_tsf.py.) -/
import Derived.Test.YtfkikaoojelddaaTsA
import Derived.Test.YtfkikaoojelddaaTrZ
namespace Go.Proofs.Ytfkikaoojelddaa
open Go.ChangeShapes Go.WideShapes Go.ChangeAt Go.RowKit
set_option linter.unusedVariables false
set_option linter.unusedSimpArgs false
theorem rdo_ix : ∀ (l : List Dd) (ws : List Int) (k : Nat) (i : Nat), (rdo ws k l).2 = some i → i < k + l.length
  | [], ws, k, i, h => by cases h
  | d :: r, ws, k, i, h => by
    unfold rdo at h
    rw [List.length_cons]
    split at h
    · have := rdo_ix r ws (k + 1) i h; omega
    · split at h
      · cases h; omega
      · have := rdo_ix r _ (k + 1) i h; omega
set_option maxRecDepth 100000 in
set_option maxHeartbeats 12800000 in
theorem walk_TraceFits (a' : Option Addr) (m c' : Nat) (zs : List Int) (a : Option Addr) (n c b o : Nat) (l : List Dd) (w : World) (hz : IsRow .u64 w a' m c' zs) (h0 : DL w a n c b o l ∧ (∀ y ∈ l, DdOk y) ∧ (0 < n → b < w.heap.size) ∧ n ≤ maxLen) :
    Calls Try.prog 4 #[.slice a' m c', .slice a n c] w (Ret (.bool true) (fun w' => Below w.heap.size w w')) := by
  obtain ⟨h, hok, _, hml⟩ := h0
  obtain ⟨b', o', hW, _, _⟩ := li_of_row hz
  generalize zs.take m = ws at hW
  have H := Lib.hid h
  have HL := Lib.hid h.len
  have HW0 := Lib.hid hW
  have HWL := Lib.hid hW.len
  clear h hok hml hz hW
  by_cases hl1 : 40 < m
  · have hb : decide ((40 : Int) < (m : Int)) = true := by simp; omega
    clear hl1
    go_enter Try.func4, Try.ntmps4
    go_wp2_with fail
    refine (known_true _).mono ?_
    rintro e9 w9 ⟨rfl, f9⟩
    go_wp2_with fail
    go_ret
    exact ⟨rfl, ((Frm.refl [] w).trans f9).below (Nat.le_refl _) (fun x hx => by simp at hx)⟩
  · have hb : decide ((40 : Int) < (m : Int)) = false := by simp; omega
    have HM := Lib.hid (show m ≤ 40 by omega)
    by_cases hlong : 60 < n
    · have hb1 : decide ((60 : Int) < (n : Int)) = true := by simp; omega
      clear hlong hl1
      go_enter Try.func4, Try.ntmps4
      go_wp2_with fail
      refine (known_true _).mono ?_
      rintro e9 w9 ⟨rfl, f9⟩
      go_wp2_with fail
      go_ret
      exact ⟨rfl, ((Frm.refl [] w).trans f9).below (Nat.le_refl _) (fun x hx => by simp at hx)⟩
    · have hb1 : decide ((60 : Int) < (n : Int)) = false := by simp; omega
      have HN := Lib.hid (show n ≤ 60 by omega)
      have hn2 : (n : Int) ≤ 60 := by omega
      have hm2 : (m : Int) ≤ 40 := by omega
      have HVE := Lib.hid (show vld l = vldT l by unfold vld; simp [HL.out]; omega)
      clear hlong hl1
      go_enter Try.func4, Try.ntmps4
      go_upto_region 4 with (at_builtin; first
        | (refine wpl_app Try.underlying31 info_u64 rfl (by decide) rfl (.const (.slice none 0 0)) (.tmp 18) rfl (B := w.heap.size) (a := none) (n := 0) (c := 0) (m := m) (l := []) (l2 := ws) (by simp [Act.eval]) (by simp [Act.eval]) (Row.nil _ _ _ _) HW0.out (by have := HM.out; simp; omega) (Nat.le_refl _) ?_; intro a3 c3 w3 hR3 hF3; have HR3 := Lib.hid (show Row .u64 30 w.heap.size w3 a3 m c3 ws by simpa using hR3); have HF3 := Lib.hid (show Frm [] w w3 by simpa [blk] using hF3); clear hR3 hF3)
        | (refine wpl_appD rfl (.const (.slice none 0 0)) (.tmp 20) rfl (B := w3.heap.size) (a := none) (n := 0) (c := 0) (m := n) (l := []) (l2 := l) (by simp [Act.eval]) (by simp [Act.eval]) (RowD.nil _ _) (H.out.frm0 HF3.out) (by have := HN.out; simp; omega) (Nat.le_refl _) ?_; intro a4 c4 w4 hR4 hF4; have HR4 := Lib.hid (show RowD w3.heap.size w4 a4 n c4 l by simpa using hR4); have HF4 := Lib.hid (show Frm [] w3 w4 by simpa [blk] using hF4); clear hR4 hF4))
      have hz1 : (0 : Nat) + m = m := Nat.zero_add m
      have hz2 : (0 : Nat) + n = n := Nat.zero_add n
      try rw [hz1]
      try rw [hz2]
      clear hz1 hz2
      obtain ⟨b3, hO⟩ := (HR3.out.frm0 HF4.out).li
      obtain ⟨b4, hLL⟩ := HR4.out.dl
      have HF := Lib.hid (HF3.out.trans HF4.out)
      have HV := Lib.hid (rValid_any (H.out.frm0 HF.out))
      have HO := Lib.hid hO
      have HLD := Lib.hid hLL
      clear hO hLL
      cases hv : vldT l
      · have HW := Lib.hid (show wro l = 2 by unfold wro; rw [if_neg (by rw [HL.out]; have := HN.out; omega), if_neg (by simp [hv])])
        have HVF := Lib.hid (HVE.out.trans hv)
        have HCK := Lib.hid (show chkR ws l = (0, 2) by unfold chkR wfo; rw [HW.out]; rfl)
        have HRP := Lib.hid (show repR ws l = ([], 2) by unfold repR wfo; rw [HW.out]; rfl)
        clear hv
        go_wp2_with fail
        refine HV.out.mono ?_
        rintro e5 w5 ⟨rfl, f5⟩
        rw [HVF.out]
        have HF5 := Lib.hid (HF.out.trans f5)
        have HOW := Lib.hid (And.intro True.intro (HO.out.frm0 f5))
        have HLI := Lib.hid (And.intro True.intro (HLD.out.frm0 f5))
        clear f5
        go_wp2_with fail
        refine (lchecks_any HOW.out.2 HLI.out.2 (x := 0) (e0 := 2) (by rw [HCK.out]) (by rw [HCK.out])).mono ?_
        rintro e6 w6 ⟨rfl, f6⟩
        have HLR := Lib.hid (lreplays_any (HOW.out.2.frm0 f6) (HLI.out.2.frm0 f6) (L := []) (e0 := 2) HRP.out rfl (by decide) (li64_nil _))
        go_wp2_with fail
        refine HLR.out.mono ?_
        rintro e7 w7 ⟨rfl, f7⟩
        have F7 := (HF5.out.trans f6).trans f7
        go_wp2_with fail
        refine (known_true _).mono ?_
        rintro e9 w9 ⟨rfl, f9⟩
        go_wp2_with fail
        go_ret
        exact ⟨rfl, (F7.trans f9).below (Nat.le_refl _) (fun x hx => by simp at hx)⟩
      · have HW := Lib.hid (show wro l = 0 by unfold wro; rw [if_neg (by rw [HL.out]; have := HN.out; omega), if_pos hv])
        have HVF := Lib.hid (HVE.out.trans hv)
        clear hv
        by_cases hm0 : m = 0
        · have hb2 : decide (m = 0) = true := by simpa using hm0
          have hb3 : ((m : Int) == 0) = true := by simp; omega
          have HWF := Lib.hid (show wfo m l = 2 by unfold wfo; rw [if_neg (by rw [HW.out]; simp), if_pos (.inl (by omega))])
          have HCK := Lib.hid (show chkR ws l = (0, 2) by unfold chkR; rw [HWL.out, HWF.out]; rfl)
          have HRP := Lib.hid (show repR ws l = ([], 2) by unfold repR; rw [HWL.out, HWF.out]; rfl)
          clear hm0
          go_wp2_with fail
          refine HV.out.mono ?_
          rintro e5 w5 ⟨rfl, f5⟩
          rw [HVF.out]
          have HF5 := Lib.hid (HF.out.trans f5)
          have HOW := Lib.hid (And.intro True.intro (HO.out.frm0 f5))
          have HLI := Lib.hid (And.intro True.intro (HLD.out.frm0 f5))
          clear f5
          go_wp2_with fail
          refine (lchecks_any HOW.out.2 HLI.out.2 (x := 0) (e0 := 2) (by rw [HCK.out]) (by rw [HCK.out])).mono ?_
          rintro e6 w6 ⟨rfl, f6⟩
          have HLR := Lib.hid (lreplays_any (HOW.out.2.frm0 f6) (HLI.out.2.frm0 f6) (L := []) (e0 := 2) HRP.out rfl (by decide) (li64_nil _))
          go_wp2_with fail
          refine HLR.out.mono ?_
          rintro e7 w7 ⟨rfl, f7⟩
          have F7 := (HF5.out.trans f6).trans f7
          go_wp2_with fail
          refine (known_true _).mono ?_
          rintro e9 w9 ⟨rfl, f9⟩
          go_wp2_with fail
          go_ret
          exact ⟨rfl, (F7.trans f9).below (Nat.le_refl _) (fun x hx => by simp at hx)⟩
        · have hb3 : ((m : Int) == 0) = false := by simp; omega
          have HM0 := Lib.hid (show 0 < m by omega)
          have HWF := Lib.hid (show wfo m l = 0 by unfold wfo; rw [if_neg (by rw [HW.out]; simp), if_neg (by have := HM.out; omega)])
          have HRL := Lib.hid (rdo_length l ws 0)
          have HCK := Lib.hid (show chkR ws l = (rdI (rdo ws 0 l).2, 0) by unfold chkR; rw [HWL.out, if_neg (by rw [HWF.out]; simp)])
          have HRP := Lib.hid (show repR ws l = match (rdo ws 0 l).2 with | some _ => ([], 10) | none => ((rdo ws 0 l).1, 0) by unfold repR; rw [HWL.out, if_neg (by rw [HWF.out]; simp)]; cases (rdo ws 0 l).2 <;> rfl)
          have HIX := Lib.hid (rdo_ix l ws 0)
          clear hm0
          go_wp2_with fail
          refine HV.out.mono ?_
          rintro e5 w5 ⟨rfl, f5⟩
          rw [HVF.out]
          have HF5 := Lib.hid (HF.out.trans f5)
          have HOW := Lib.hid (And.intro True.intro (HO.out.frm0 f5))
          have HLI := Lib.hid (And.intro True.intro (HLD.out.frm0 f5))
          have HRF := Lib.hid (rFits_any (HW0.out.frm0 HF5.out) (H.out.frm0 HF5.out) (by have := HN.out; omega) (by have := HM.out; omega) HM0.out (fun k d hd => may_of HW.out hd))
          clear f5
          generalize rdo ws 0 l = R at *
          obtain ⟨wk, ok⟩ := R
          cases ok with
          | some i =>
            have hin : (i : Int) < (n : Int) := by have := HIX.out i rfl; rw [HL.out] at this; omega
            go_wp2_with fail
            refine HRF.out.mono ?_
            rintro e6 w6 ⟨g6, c6, rfl, f6, _⟩
            dsimp only [fitN]
            have HLC := Lib.hid (lchecks_any (HOW.out.2.frm0 f6) (HLI.out.2.frm0 f6) (x := (i : Int)) (e0 := 0) (by rw [HCK.out]; rfl) (by rw [HCK.out]))
            have F6 := HF5.out.trans f6
            go_wp2_with fail
            refine HLC.out.mono ?_
            rintro e7 w7 ⟨rfl, f7⟩
            have HLR := Lib.hid (lreplays_any ((HOW.out.2.frm0 f6).frm0 f7) ((HLI.out.2.frm0 f6).frm0 f7) (L := []) (e0 := 10) (by rw [HRP.out]) rfl (by decide) (li64_nil _))
            have F7 := F6.trans f7
            go_wp2_with fail
            refine HLR.out.mono ?_
            rintro e8 w8 ⟨rfl, f8⟩
            have F8 := F7.trans f8
            go_wp2_with fail
            refine (known_true _).mono ?_
            rintro e9 w9 ⟨rfl, f9⟩
            go_wp2_with fail
            go_ret
            exact ⟨rfl, (F8.trans f9).below (Nat.le_refl _) (fun x hx => by simp at hx)⟩
          | none =>
            have hnn : ¬ ((n : Int) < (n : Int)) := by omega
            go_wp2_with fail
            refine HRF.out.mono ?_
            rintro e6 w6 ⟨g6, c6, rfl, f6, hR6⟩
            dsimp only [fitN] at hR6 ⊢
            obtain ⟨b6, hL6⟩ := hR6.li
            have HL6 := Lib.hid hL6
            have HLC := Lib.hid (lchecks_any (HOW.out.2.frm0 f6) (HLI.out.2.frm0 f6) (x := -1) (e0 := 0) (by rw [HCK.out]; rfl) (by rw [HCK.out]))
            have F6 := HF5.out.trans f6
            clear hL6 hR6
            go_wp2_with fail
            refine HLC.out.mono ?_
            rintro e7 w7 ⟨rfl, f7⟩
            have HLR := Lib.hid (lreplays_any ((HOW.out.2.frm0 f6).frm0 f7) ((HLI.out.2.frm0 f6).frm0 f7) (L := wk) (e0 := 0) (by rw [HRP.out]) (HRL.out.trans HWL.out) (by have := HM.out; omega) (HL6.out.frm0 f7))
            have F7 := F6.trans f7
            go_wp2_with fail
            refine HLR.out.mono ?_
            rintro e8 w8 ⟨rfl, f8⟩
            have F8 := F7.trans f8
            have HS1 := Lib.hid (same64_any (by have := HM.out; omega) (((HOW.out.2.frm0 f6).frm0 f7).frm0 f8) (HW0.out.frm0 F8))
            go_wp2_with fail
            refine HS1.out.mono ?_
            rintro e10 w10 ⟨rfl, f10⟩
            have F10 := F8.trans f10
            have HS2 := Lib.hid (same_did (by have := HN.out; omega) ((((HLI.out.2.frm0 f6).frm0 f7).frm0 f8).frm0 f10) (H.out.frm0 F10))
            go_wp2_with fail
            refine HS2.out.mono ?_
            rintro e11 w11 ⟨rfl, f11⟩
            have F11 := F10.trans f11
            go_wp2_with fail
            refine (known_true _).mono ?_
            rintro e9 w9 ⟨rfl, f9⟩
            go_wp2_with fail
            go_ret
            exact ⟨rfl, (F11.trans f9).below (Nat.le_refl _) (fun x hx => by simp at hx)⟩
end Go.Proofs.Ytfkikaoojelddaa
