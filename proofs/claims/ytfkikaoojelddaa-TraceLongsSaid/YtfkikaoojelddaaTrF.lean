/- Stage 13: wrong, wrongFor; the reference's Valid. -/
import Derived.Test.YtfkikaoojelddaaTrD
import Derived.Test.YtfkikaoojelddaaTrE
namespace Go.Proofs.Ytfkikaoojelddaa
open Go.ChangeShapes Go.WideShapes Go.ChangeAt Go.RowKit
set_option linter.unusedVariables false
set_option linter.unusedSimpArgs false
/-- Why things that were done are no trace. -/
def wro (l : List Dd) : Int := if 100000 < l.length then 5 else if vldT l = true then 0 else 2
def wfo (n : Nat) (l : List Dd) : Int := if wro l ≠ 0 then wro l else if n < 1 ∨ 65536 < n then 2 else 0
section
variable {w : World} {a : Option Addr} {n c b o : Nat} {l : List Dd}
set_option maxRecDepth 100000 in
set_option maxHeartbeats 1600000 in
theorem wrong_any (h : DL w a n c b o l) : Calls Try.prog 54 #[.slice a n c] w (Ret (.int .i64 (wro l)) (fun w' => Frm [] w w')) := by
  obtain ⟨r, hr⟩ : ∃ r, r = wro l := ⟨_, rfl⟩
  rw [← hr]
  have HR := Lib.hid hr
  clear hr
  have HV := Lib.hid (Valid_any h)
  have HL := Lib.hid h.len
  clear h
  by_cases hlong : 100000 < n
  · have hb : decide ((100000 : Int) < (n : Int)) = true := by simp; omega
    have HB := Lib.hid (show wro l = 5 by unfold wro; rw [if_pos (by rw [HL.out]; exact hlong)])
    clear hlong
    go_enter Try.func54, Try.ntmps54
    go_wp2_with fail
    go_ret
    exact ⟨by rw [HR.out, HB.out]; rfl, Frm.refl _ _⟩
  · have hb : decide ((100000 : Int) < (n : Int)) = false := by simp; omega
    have HE := Lib.hid (show vld l = vldT l by unfold vld; simp [HL.out]; omega)
    have HW := Lib.hid (show wro l = if vldT l = true then 0 else 2 by unfold wro; rw [if_neg (by rw [HL.out]; exact hlong)])
    clear hlong
    rw [HE.out] at HV
    cases hv : vldT l
    all_goals
      have HV2 := Lib.hid hv
      rw [hv] at HV
      clear hv
      go_enter Try.func54, Try.ntmps54
      go_wp2_with fail
      refine HV.out.mono ?_
      rintro e w1 ⟨rfl, hF⟩
      go_wp2_with fail
      go_ret
      exact ⟨by rw [HR.out, HW.out, HV2.out]; rfl, hF⟩
set_option maxRecDepth 100000 in
set_option maxHeartbeats 1600000 in
theorem wrongFor_any (h : DL w a n c b o l) (a' : Option Addr) (m c' : Nat) : Calls Try.prog 62 #[.slice a' m c', .slice a n c] w (Ret (.int .i64 (wfo m l)) (fun w' => Frm [] w w')) := by
  obtain ⟨r, hr⟩ : ∃ r, r = wfo m l := ⟨_, rfl⟩
  rw [← hr]
  have HR := Lib.hid hr
  clear hr
  have HV := Lib.hid (wrong_any h)
  clear h
  by_cases h0 : wro l = 0
  · have HW := Lib.hid (show wfo m l = if m < 1 ∨ 65536 < m then 2 else 0 by unfold wfo; rw [if_neg (by simp [h0])])
    rw [h0] at HV
    clear h0
    go_enter Try.func62, Try.ntmps62
    go_wp2_with fail
    refine HV.out.mono ?_
    rintro e w1 ⟨rfl, hF⟩
    by_cases hm : m < 1
    · have hb : decide ((m : Int) < 1) = true := by simp; omega
      have HX := Lib.hid (show wfo m l = 2 by rw [HW.out, if_pos (.inl hm)])
      clear hm
      go_wp2_with fail
      go_ret
      exact ⟨by rw [HR.out, HX.out]; rfl, hF⟩
    · have hb : decide ((m : Int) < 1) = false := by simp; omega
      by_cases hm2 : 65536 < m
      · have hb : decide ((65536 : Int) < (m : Int)) = true := by simp; omega
        have HX := Lib.hid (show wfo m l = 2 by rw [HW.out, if_pos (.inr hm2)])
        clear hm hm2
        go_wp2_with fail
        go_ret
        exact ⟨by rw [HR.out, HX.out]; rfl, hF⟩
      · have hb : decide ((65536 : Int) < (m : Int)) = false := by simp; omega
        have HX := Lib.hid (show wfo m l = 0 by rw [HW.out, if_neg (by omega)])
        clear hm hm2
        go_wp2_with fail
        go_ret
        exact ⟨by rw [HR.out, HX.out]; rfl, hF⟩
  · have hb : (wro l != 0) = true := by simpa using h0
    have HX := Lib.hid (show wfo m l = wro l by unfold wfo; rw [if_pos h0])
    clear h0
    go_enter Try.func62, Try.ntmps62
    go_wp2_with fail
    refine HV.out.mono ?_
    rintro e w1 ⟨rfl, hF⟩
    go_wp2_with fail
    go_ret
    exact ⟨by rw [HR.out, HX.out]; rfl, hF⟩
theorem endd_all {l : List Dd} {k : Nat} {t : Int} (h : ∀ (j : Nat) (e : Dd), j < k → l[j]? = some e → (e.en && e.i == t) = false) : endd (l.take k) t = false := by
  unfold endd
  rw [List.any_eq_false]
  intro e he
  obtain ⟨j, hj⟩ := List.getElem?_of_mem he
  rw [List.getElem?_take] at hj
  split at hj
  · rename_i hjk; rw [h j e hjk hj]; simp
  · cases hj
theorem endd_one {l : List Dd} {j k : Nat} {e : Dd} (hj : j < k) (he : l[j]? = some e) (t : Int) (h : (e.en && e.i == t) = true) : endd (l.take k) t = true := by
  unfold endd
  rw [List.any_eq_true]
  exact ⟨e, List.mem_of_getElem? (i := j) (by rw [List.getElem?_take, if_pos hj]; exact he), h⟩
set_option maxRecDepth 100000 in
set_option maxHeartbeats 3200000 in
/-- Valid of the reference. -/
theorem rValid_any (h : DL w a n c b o l) : Calls Try.prog 10 #[.slice a n c] w (Ret (.bool (vld l)) (fun w' => Frm [] w w')) := by
  obtain ⟨r, hr⟩ : ∃ r, r = vld l := ⟨_, rfl⟩
  rw [← hr]
  have HR := Lib.hid hr
  clear hr
  have HL := Lib.hid h.len
  have H := Lib.hid h
  clear h
  by_cases hlong : 100000 < n
  · have hb : decide ((100000 : Int) < (n : Int)) = true := by simp; omega
    have HB := Lib.hid (show vld l = false by unfold vld; simp [HL.out]; omega)
    clear hlong
    go_enter Try.func10, Try.ntmps10
    go_wp2_with fail
    go_ret
    exact ⟨by rw [HR.out, HB.out]; rfl, Frm.refl _ _⟩
  · have hb : decide ((100000 : Int) < (n : Int)) = false := by simp; omega
    have hn2 : (n : Int) ≤ 100000 := by omega
    have HV := Lib.hid (show vld l = vldT l by unfold vld; simp [HL.out]; omega)
    clear hlong
    go_enter Try.func10, Try.ntmps10
    go_wp2_with fail
    go_loopw [3] (fun i wr => ∃ k : Nat, k ≤ n ∧ i = .int .i64 k ∧ Frm [] w wr ∧ ∀ j, j < k → okAt l j = true) (fun i _ => n - (intOf i).toNat)
    case atStart => exact ⟨0, Nat.zero_le _, rfl, (Frm.refl _ _), fun j hj => by omega⟩
    case round =>
      obtain ⟨k, hk, rfl, hF, hok⟩ := hrel
      have HOK := Lib.hid hok
      clear hok
      by_cases hlt : k < n
      · obtain ⟨d, hd⟩ : ∃ d, l[k]? = some d := ⟨_, List.getElem?_eq_getElem (by rw [HL.out]; exact hlt)⟩
        have hL1 := H.out.frm0 hF
        have hi1 := ix_did (c := c) hL1.ad hlt
        have p0 := hL1.get hd 0 _ rfl
        have p1 := hL1.get hd 1 _ rfl
        have p2 := hL1.get hd 2 _ rfl
        have p3 := hL1.get hd 3 _ rfl
        have p4 := hL1.get hd 4 _ rfl
        have p5 := hL1.get hd 5 _ rfl
        have p6 := hL1.get hd 6 _ rfl
        rw [Nat.add_zero] at p0
        have HF := Lib.hid hF
        have hokk : okAt l k = (may d && !endd (l.take k) d.i) := by unfold okAt; rw [hd]
        have HOKK := Lib.hid hokk
        have HD := Lib.hid hd
        have HRA := Lib.hid (fun w => right_any d.i d.a.k d.a.w d.a.b d.a.a d.wt d.en w)
        clear hF hL1 hokk hd
        cases hm : may d
        · have HM := Lib.hid hm
          have HOF := Lib.hid (show vldT l = false from vldT_no (by rw [HL.out]; exact hlt) (by rw [HOKK.out, hm]; rfl))
          clear hm
          go_wp2_with ((with_reducible refine (HRA.out _).mono ?_); rintro e w1 ⟨rfl, hF1⟩; rw [show (⟨d.i, ⟨d.a.k, d.a.w, d.a.b, d.a.a⟩, d.wt, d.en⟩ : Dd) = d from rfl, HM.out])
          go_ret
          exact ⟨by rw [HR.out, HV.out, HOF.out]; rfl, HF.out.trans hF1⟩
        · have HM := Lib.hid hm
          clear hm
          go_wp2_with ((with_reducible refine (HRA.out _).mono ?_); rintro e w1 ⟨rfl, hF1⟩; rw [show (⟨d.i, ⟨d.a.k, d.a.w, d.a.b, d.a.a⟩, d.wt, d.en⟩ : Dd) = d from rfl, HM.out]; have HF1 := Lib.hid (HF.out.trans hF1); clear hF1)
          clear p0 p1 p2 p3 p4 p5 p6
          go_loopw [4] (fun i wr => ∃ m : Nat, m ≤ k ∧ i = .int .i64 m ∧ Frm [] w wr ∧ ∀ (j : Nat) (e : Dd), j < m → l[j]? = some e → (e.en && e.i == d.i) = false) (fun i _ => k - (intOf i).toNat)
          case atStart => exact ⟨0, Nat.zero_le _, rfl, HF1.out, fun j e hj => by omega⟩
          case round =>
            obtain ⟨m, hmk, rfl, hF2, hall⟩ := hrel
            have HALL := Lib.hid hall
            have HFF := Lib.hid hF2
            clear hall
            by_cases hmlt : m < k
            · obtain ⟨g, hg⟩ : ∃ g, l[m]? = some g := ⟨_, List.getElem?_eq_getElem (by rw [HL.out]; omega)⟩
              have hL1 := H.out.frm0 hF2
              have hi2 := ix_did (c := c) hL1.ad (show m < n by omega)
              have q0 := hL1.get hg 0 _ rfl
              have q6 := hL1.get hg 6 _ rfl
              have r0 := hL1.get HD.out 0 _ rfl
              rw [Nat.add_zero] at q0 r0
              have HG := Lib.hid hg
              clear hF2 hL1 hg
              cases hge : g.en
              · rw [hge] at q6
                have HNE := Lib.hid (show (g.en && g.i == d.i) = false by rw [hge]; rfl)
                clear hge
                go_wp2_with fail
                go_quiet (fail)
                go_wp2_with fail
                go_roundw
                case rel => exact ⟨m + 1, by omega, by go_num, HFF.out.trans ((Frm.refl [] _).drewN _), fun j e hj hje => by
                  rcases Nat.lt_or_ge j m with h1 | h1
                  · exact HALL.out j e h1 hje
                  · have : j = m := by omega
                    subst this; rw [HG.out] at hje; cases hje; exact HNE.out⟩
                case measure => simp [intOf]; omega
              · rw [hge] at q6
                by_cases hgi : g.i = d.i
                · have HNE := Lib.hid (show (g.en && g.i == d.i) = true by rw [hge, hgi]; simp)
                  have hgb : (g.i == d.i) = true := by simpa using hgi
                  have HOF := Lib.hid (show vldT l = false from vldT_no (by rw [HL.out]; exact hlt) (by rw [HOKK.out, HM.out, endd_one hmlt HG.out _ HNE.out]; rfl))
                  clear hge hgi
                  go_wp2_with fail
                  go_quiet (fail)
                  go_wp2_with fail
                  go_ret
                  exact ⟨by rw [HR.out, HV.out, HOF.out]; rfl, HFF.out.trans ((Frm.refl [] _).drewN _)⟩
                · have HNE := Lib.hid (show (g.en && g.i == d.i) = false by simp [hgi])
                  have hgb : (g.i == d.i) = false := by simpa using hgi
                  clear hge hgi
                  go_wp2_with fail
                  go_quiet (fail)
                  go_wp2_with fail
                  go_roundw
                  case rel => exact ⟨m + 1, by omega, by go_num, HFF.out.trans ((Frm.refl [] _).drewN _), fun j e hj hje => by
                    rcases Nat.lt_or_ge j m with h1 | h1
                    · exact HALL.out j e h1 hje
                    · have : j = m := by omega
                      subst this; rw [HG.out] at hje; cases hje; exact HNE.out⟩
                  case measure => simp [intOf]; omega
            · obtain rfl : m = k := by omega
              have HOKS := Lib.hid (show okAt l m = true by rw [HOKK.out, HM.out, endd_all HALL.out]; rfl)
              clear hF2
              go_wp2_with fail
              go_roundw
              case rel => exact ⟨m + 1, by omega, by go_num, HFF.out, fun j hj => by
                rcases Nat.lt_or_ge j m with h1 | h1
                · exact HOK.out j h1
                · have : j = m := by omega
                  subst this; exact HOKS.out⟩
              case measure => simp [intOf]; omega
      · have hkn : k = n := by omega
        subst hkn
        have HF := Lib.hid hF
        have HT := Lib.hid (show vldT l = true from vldT_iff.2 (fun j hj => HOK.out j (by rw [HL.out] at hj; exact hj)))
        clear hF
        go_wp2_with fail
        go_ret
        exact ⟨by rw [HR.out, HV.out, HT.out]; rfl, HF.out⟩
end
end Go.Proofs.Ytfkikaoojelddaa
