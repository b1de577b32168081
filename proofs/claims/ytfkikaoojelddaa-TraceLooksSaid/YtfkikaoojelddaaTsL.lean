/- Stage 13: the law TraceLooks. (By gen_tsl.py.) -/
import Derived.Test.YtfkikaoojelddaaTrZ
namespace Go.Proofs.Ytfkikaoojelddaa
open Go.ChangeShapes Go.WideShapes Go.ChangeAt Go.RowKit
set_option linter.unusedVariables false
set_option linter.unusedSimpArgs false
set_option maxRecDepth 100000 in
set_option maxHeartbeats 12800000 in
theorem walk_TraceLooks (a : Option Addr) (n c b o : Nat) (l : List Dd) (x : Int) (hxw : (Lit.int .i64 x).wf = true) (t : Int) (htw : (Lit.int .i64 t).wf = true) (w : World) (h0 : DL w a n c b o l ∧ (∀ y ∈ l, DdOk y) ∧ (0 < n → b < w.heap.size) ∧ n ≤ maxLen) :
    Calls Try.prog 3 #[.slice a n c, .int .i64 x, .int .i64 t] w (Ret (.bool true) (fun w' => Below w.heap.size w w')) := by
  obtain ⟨h, hok, _, hml⟩ := h0
  have H := Lib.hid h
  have HOK := Lib.hid hok
  have HL := Lib.hid h.len
  clear hxw htw h hok hml
  by_cases hlong : 60 < n
  · have hb : decide ((60 : Int) < (n : Int)) = true := by simp; omega
    clear hlong
    go_enter Try.func3, Try.ntmps3
    go_wp2_with fail
    refine (known_true _).mono ?_
    rintro e9 w9 ⟨rfl, f9⟩
    go_wp2_with fail
    go_ret
    exact ⟨rfl, ((Frm.refl [] w).trans f9).below (Nat.le_refl _) (fun x hx => by simp at hx)⟩
  · have hb : decide ((60 : Int) < (n : Int)) = false := by simp; omega
    have HN := Lib.hid (show n ≤ 60 by omega)
    have hn2 : (n : Int) ≤ 60 := by omega
    have HV := Lib.hid (Valid_any H.out)
    have HVE := Lib.hid (show vld l = vldT l by unfold vld; simp [HL.out]; omega)
    clear hlong
    cases hv : vldT l
    · have HW := Lib.hid (show wro l = 2 by unfold wro; rw [if_neg (by rw [HL.out]; have := HN.out; omega), if_neg (by simp [hv])])
      have HVF := Lib.hid (HVE.out.trans hv)
      have HWA := Lib.hid (show waR l = ([], 2) by unfold waR; rw [if_pos (by rw [HW.out]; simp), HW.out])
      have HCR := Lib.hid (show chR l x = ([], 2) by unfold chR; rw [if_pos (by rw [HW.out]; simp), HW.out])
      have HOF := Lib.hid (show ofR l t = ([], 2) by unfold ofR; rw [if_pos (by rw [HW.out]; simp), HW.out])
      have HCK := Lib.hid (show chkR [0] l = (0, 2) by unfold chkR wfo; rw [HW.out]; rfl)
      clear hv
      go_enter Try.func3, Try.ntmps3
      go_wp2_with fail
      refine HV.out.mono ?_
      rintro e1 w1 ⟨rfl, f1⟩
      rw [HVF.out]
      have HV2 := Lib.hid (rValid_any (H.out.frm0 f1))
      go_wp2_with fail
      refine HV2.out.mono ?_
      rintro e2 w2 ⟨rfl, f2⟩
      rw [HVF.out]
      have F2 := f1.trans f2
      go_wp2_with fail
      refine (lwaits_any (H.out.frm0 F2) HOK.out (L := []) (e0 := 2) (m := 0) HWA.out rfl (by decide) (Gr.nil _ _ 0 _ _)).mono ?_
      rintro e3 w3 ⟨rfl, f3⟩
      have F3 := F2.trans f3
      have hch := lchanges_any (H.out.frm0 F3) x (e0 := 2) (a' := none) (c' := 0) (b' := 0) (o' := 0) (by have := HN.out; omega) (by rw [HCR.out]; exact li_nil _) (by rw [HCR.out])
      rw [HCR.out] at hch
      have HCHC := Lib.hid hch
      clear hch
      go_wp2_with fail
      refine HCHC.out.mono ?_
      rintro e4 w4 ⟨rfl, f4⟩
      have F4 := F3.trans f4
      have hof := lof_any (H.out.frm0 F4) t (e0 := 2) (a' := none) (c' := 0) (b' := 0) (o' := 0) (by have := HN.out; omega) (by rw [HOF.out]; exact DL.nil _) (by rw [HOF.out])
      rw [HOF.out] at hof
      have HOFC := Lib.hid hof
      clear hof
      go_wp2_with fail
      refine HOFC.out.mono ?_
      rintro e5 w5 ⟨rfl, f5⟩
      have F5 := F4.trans f5
      have HCKC := Lib.hid (lchecks_any (ws := [0]) (li_new (t := 30) (n := 1) rfl (heap_alloc_new w5 (.cells #[.int .u64 0] 30))) (H.out.frm0 (F5.alloc (.cells #[.int .u64 0] 30))) (x := 0) (e0 := 2) (by rw [HCK.out]) (by rw [HCK.out]))
      go_wp2_with fail
      refine HCKC.out.mono ?_
      rintro e6 w6 ⟨rfl, f6⟩
      have F6 := (F5.alloc _).trans f6
      go_wp2_with fail
      refine (known_true _).mono ?_
      rintro e9 w9 ⟨rfl, f9⟩
      go_wp2_with fail
      go_ret
      exact ⟨rfl, (F6.trans f9).below (Nat.le_refl _) (fun x hx => by simp at hx)⟩
    · have HW := Lib.hid (show wro l = 0 by unfold wro; rw [if_neg (by rw [HL.out]; have := HN.out; omega), if_pos hv])
      have HVF := Lib.hid (HVE.out.trans hv)
      have HWA := Lib.hid (show waR l = (wts l, 0) by unfold waR; rw [if_neg (by rw [HW.out]; simp)])
      have HWL := Lib.hid (show (wts l).length ≤ 100000 by unfold wts; rw [List.length_map]; have := eag_length l l.length; rw [HL.out] at this ⊢; have := HN.out; omega)
      clear hv
      go_enter Try.func3, Try.ntmps3
      go_wp2_with fail
      refine HV.out.mono ?_
      rintro e1 w1 ⟨rfl, f1⟩
      rw [HVF.out]
      have HV2 := Lib.hid (rValid_any (H.out.frm0 f1))
      go_wp2_with fail
      refine HV2.out.mono ?_
      rintro e2 w2 ⟨rfl, f2⟩
      rw [HVF.out]
      have F2 := f1.trans f2
      have HRW := Lib.hid (rWaits_any (H.out.frm0 F2) (by have := HN.out; omega))
      go_wp2_with fail
      refine HRW.out.mono ?_
      rintro e3 w3 ⟨a3, c3, rfl, f3, hG3⟩
      have F3 := F2.trans f3
      have HLW := Lib.hid (lwaits_any (H.out.frm0 F3) HOK.out (L := wts l) (e0 := 0) HWA.out rfl HWL.out hG3)
      clear hG3
      go_wp2_with fail
      refine HLW.out.mono ?_
      rintro e4 w4 ⟨rfl, f4⟩
      have HF4 := Lib.hid (F3.trans f4)
      clear f1 f2 F2 f3 F3 f4
      by_cases hx : isWd x = true
      · have HCR := Lib.hid (show chR l x = (chs l x, 0) by unfold chR; rw [if_neg (by rw [HW.out]; simp), if_neg (by simp [hx])])
        obtain ⟨hx0, hx1⟩ : ¬ x < 0 ∧ ¬ 65536 ≤ x := by unfold isWd at hx; simp at hx; omega
        have hb0 : decide (x < 0) = false := by simpa using hx0
        have hb1 : decide (65536 ≤ x) = false := by simpa using hx1
        clear hx hx0 hx1
        go_wp2_with fail
        go_loopw [8, 59] (fun sl i wr => ∃ (k : Nat) (a1 : Option Addr) (c1 : Nat), k ≤ n ∧ i = .int .i64 k ∧ sl = .slice a1 (chs (l.take k) x).length c1 ∧ Frm [] w wr ∧ Gr 3 1 w.heap.size wr a1 (chs (l.take k) x).length c1 (inF (chs (l.take k) x))) (fun _ i _ => n - (intOf i).toNat)
        case atStart => exact ⟨0, none, 0, Nat.zero_le _, rfl, rfl, HF4.out, Gr.nil _ _ _ _ _⟩
        case round =>
          obtain ⟨k, a1, c1, hk, rfl, rfl, hF, hG⟩ := hrel
          by_cases hlt : k < n
          · obtain ⟨d, hd⟩ : ∃ d, l[k]? = some d := ⟨_, List.getElem?_eq_getElem (by rw [HL.out]; exact hlt)⟩
            have hL1 := H.out.frm0 hF
            have hi1 := ix_did (c := c) hL1.ad hlt
            have p0 := hL1.get hd 0 _ rfl
            have p1 := hL1.get hd 1 _ rfl
            have p2 := hL1.get hd 2 _ rfl
            have p3 := hL1.get hd 3 _ rfl
            have p4 := hL1.get hd 4 _ rfl
            have p5 := hL1.get hd 5 _ rfl
            have p6 := hL1.get hd 6 _ rfl
            rw [Nat.add_zero] at p0
            have HF := Lib.hid hF
            have HG := Lib.hid hG
            have HCH := Lib.hid (fun w => chW_any d.i d.a.k d.a.w d.a.b d.a.a x d.wt d.en w)
            have HLEN := Lib.hid (show (chs (l.take k) x).length ≤ 1000000 from by have := chs_length (l.take k) x; have : (l.take k).length ≤ k := List.length_take_le _ _; have := HN.out; omega)
            have HOT := Lib.hid (chs_take hd x)
            clear hF hG hL1 hd
            cases hi : chW d x
            · have HI := Lib.hid hi
              have HO := Lib.hid (show chs (l.take (k + 1)) x = chs (l.take k) x by rw [HOT.out, if_neg (by simp [hi])])
              clear hi
              generalize chs (l.take k) x = L at *
              go_wp2_with ((with_reducible refine (HCH.out _).mono ?_); rintro e w1 ⟨rfl, hF1⟩; rw [show (⟨d.i, ⟨d.a.k, d.a.w, d.a.b, d.a.a⟩, d.wt, d.en⟩ : Dd) = d from rfl, HI.out])
              go_roundw
              case rel => exact ⟨k + 1, a1, c1, by omega, by go_num, by rw [HO.out], HF.out.trans hF1, by rw [HO.out]; exact HG.out.frm0 hF1⟩
              case measure => simp [intOf]; omega
            · have HI := Lib.hid hi
              have HO := Lib.hid (show chs (l.take (k + 1)) x = chs (l.take k) x ++ [(k : Int)] by rw [HOT.out, if_pos hi])
              clear hi
              generalize chs (l.take k) x = L at *
              go_wp2_with (first | ((with_reducible refine (HCH.out _).mono ?_); rintro e w1 ⟨rfl, hF1⟩; rw [show (⟨d.i, ⟨d.a.k, d.a.w, d.a.b, d.a.a⟩, d.wt, d.en⟩ : Dd) = d from rfl, HI.out]; have HF1 := Lib.hid hF1; clear hF1; have HROW := Lib.hid (HG.out.frm0 (HF1.out.alloc (.cells #[.int .i64 (k : Int)] 3))); have HGG := Lib.hid (heap_alloc_new w1 (.cells #[.int .i64 (k : Int)] 3)); have HWW := Lib.hid (show w.heap.size ≤ (w1.alloc (.cells #[.int .i64 (k : Int)] 3)).heap.size by have := HF1.out.size; have := HF.out.size; simp; omega)) | (at_builtin; refine wpl_gr u_int i_int rfl (by decide) (by decide) rfl (.tmp 68) (.tmp 70) rfl (B := w.heap.size) (g2 := w1.heap.size) (l := [.int .i64 (k : Int)]) (by simp [Act.eval]) (by simp [Act.eval]) HROW.out rfl (by simp [Value.oneCell']) HGG.out HLEN.out HWW.out ?_; intro a2 c2 w3 hG3 hF3 hb3; have HG3 := Lib.hid hG3; have HF3 := Lib.hid hF3; clear hG3 hF3 hb3))
              go_roundw
              case rel =>
                refine ⟨k + 1, a2, c2, by omega, by go_num, by rw [HO.out]; simp, (HF.out.trans (HF1.out.alloc _)).trans_new HF3.out (fun x hx => .inr (HROW.out.from_ x hx).1), ?_⟩
                rw [HO.out, List.length_append, List.length_singleton]
                exact HG3.out.congr fun k hk => inF_app _ _ hk
              case measure => simp [intOf]; omega
          · have hkn : k = n := by omega
            have HT := Lib.hid (show l.take k = l from List.take_of_length_le (by rw [HL.out]; omega))
            obtain ⟨b1, hLi⟩ := hG.li rfl
            rw [HT.out] at hLi
            rw [HT.out]
            have hch := lchanges_any (H.out.frm0 hF) x (e0 := 0) (by have := HN.out; omega) (show Li .i64 wr a1 (chR l x).1.length c1 b1 0 (chR l x).1 by rw [HCR.out]; exact hLi) (by rw [HCR.out])
            rw [HCR.out] at hch
            have HCHC := Lib.hid hch
            have HF := Lib.hid hF
            clear hF hG hkn hLi hch
            go_wp2_with fail
            refine HCHC.out.mono ?_
            rintro e5 w5 ⟨rfl, f5⟩
            have F5 := HF.out.trans f5
            have HF5 := Lib.hid F5
            clear F5 f5
            by_cases ht : isTh t = true
            · have HOF := Lib.hid (show ofR l t = (ofs l t, 0) by unfold ofR; rw [if_neg (by rw [HW.out]; simp), if_neg (by simp [ht])])
              obtain ⟨ht0, ht1⟩ : ¬ t < 0 ∧ ¬ 64 ≤ t := by unfold isTh at ht; simp at ht; omega
              have hb0 : decide (t < 0) = false := by simpa using ht0
              have hb1 : decide (64 ≤ t) = false := by simpa using ht1
              clear ht ht0 ht1
              go_wp2_with fail
              refine (rOf_any (H.out.frm0 HF5.out) (by have := HN.out; omega) t).mono ?_
              rintro e6 w6 ⟨a6, c6, b6, rfl, f6, hD6, _⟩
              have F6 := HF5.out.trans f6
              have hof := lof_any (H.out.frm0 F6) t (e0 := 0) (by have := HN.out; omega) (show DL w6 a6 (ofR l t).1.length c6 b6 0 (ofR l t).1 by rw [HOF.out]; exact hD6) (by rw [HOF.out])
              rw [HOF.out] at hof
              have HOFC := Lib.hid hof
              clear hof hD6 f6
              go_wp2_with fail
              refine HOFC.out.mono ?_
              rintro e7 w7 ⟨rfl, f7⟩
              have F7 := F6.trans f7
              go_wp2_with fail
              refine (known_true _).mono ?_
              rintro e9 w9 ⟨rfl, f9⟩
              go_wp2_with fail
              go_ret
              exact ⟨rfl, (F7.trans f9).below (Nat.le_refl _) (fun x hx => by simp at hx)⟩
            · have HOF := Lib.hid (show ofR l t = ([], 2) by unfold ofR; rw [if_neg (by rw [HW.out]; simp), if_pos (by simpa using ht)])
              have hof := lof_any (H.out.frm0 HF5.out) t (e0 := 2) (a' := none) (c' := 0) (b' := 0) (o' := 0) (by have := HN.out; omega) (by rw [HOF.out]; exact DL.nil _) (by rw [HOF.out])
              rw [HOF.out] at hof
              have HOFC := Lib.hid hof
              by_cases ht0 : t < 0
              · have hb0 : decide (t < 0) = true := by simpa using ht0
                clear ht ht0 hof
                go_wp2_with fail
                refine HOFC.out.mono ?_
                rintro e7 w7 ⟨rfl, f7⟩
                have F7 := HF5.out.trans f7
                go_wp2_with fail
                refine (known_true _).mono ?_
                rintro e9 w9 ⟨rfl, f9⟩
                go_wp2_with fail
                go_ret
                exact ⟨rfl, (F7.trans f9).below (Nat.le_refl _) (fun x hx => by simp at hx)⟩
              · have hb0 : decide (t < 0) = false := by simpa using ht0
                have hb1 : decide (64 ≤ t) = true := by unfold isTh at ht; simp at ht; simp; omega
                clear ht ht0 hof
                go_wp2_with fail
                refine HOFC.out.mono ?_
                rintro e7 w7 ⟨rfl, f7⟩
                have F7 := HF5.out.trans f7
                go_wp2_with fail
                refine (known_true _).mono ?_
                rintro e9 w9 ⟨rfl, f9⟩
                go_wp2_with fail
                go_ret
                exact ⟨rfl, (F7.trans f9).below (Nat.le_refl _) (fun x hx => by simp at hx)⟩
      · have HCR := Lib.hid (show chR l x = ([], 2) by unfold chR; rw [if_neg (by rw [HW.out]; simp), if_pos (by simpa using hx)])
        have hch := lchanges_any (H.out.frm0 HF4.out) x (e0 := 2) (a' := none) (c' := 0) (b' := 0) (o' := 0) (by have := HN.out; omega) (by rw [HCR.out]; exact li_nil _) (by rw [HCR.out])
        rw [HCR.out] at hch
        have HCHC := Lib.hid hch
        by_cases hx0 : x < 0
        · have hb0 : decide (x < 0) = true := by simpa using hx0
          clear hx hx0 hch
          go_wp2_with fail
          refine HCHC.out.mono ?_
          rintro e5 w5 ⟨rfl, f5⟩
          have HF5 := Lib.hid (HF4.out.trans f5)
          clear f5
          by_cases ht : isTh t = true
          · have HOF := Lib.hid (show ofR l t = (ofs l t, 0) by unfold ofR; rw [if_neg (by rw [HW.out]; simp), if_neg (by simp [ht])])
            obtain ⟨ht0, ht1⟩ : ¬ t < 0 ∧ ¬ 64 ≤ t := by unfold isTh at ht; simp at ht; omega
            have hb0 : decide (t < 0) = false := by simpa using ht0
            have hb1 : decide (64 ≤ t) = false := by simpa using ht1
            clear ht ht0 ht1
            go_wp2_with fail
            refine (rOf_any (H.out.frm0 HF5.out) (by have := HN.out; omega) t).mono ?_
            rintro e6 w6 ⟨a6, c6, b6, rfl, f6, hD6, _⟩
            have F6 := HF5.out.trans f6
            have hof := lof_any (H.out.frm0 F6) t (e0 := 0) (by have := HN.out; omega) (show DL w6 a6 (ofR l t).1.length c6 b6 0 (ofR l t).1 by rw [HOF.out]; exact hD6) (by rw [HOF.out])
            rw [HOF.out] at hof
            have HOFC := Lib.hid hof
            clear hof hD6 f6
            go_wp2_with fail
            refine HOFC.out.mono ?_
            rintro e7 w7 ⟨rfl, f7⟩
            have F7 := F6.trans f7
            go_wp2_with fail
            refine (known_true _).mono ?_
            rintro e9 w9 ⟨rfl, f9⟩
            go_wp2_with fail
            go_ret
            exact ⟨rfl, (F7.trans f9).below (Nat.le_refl _) (fun x hx => by simp at hx)⟩
          · have HOF := Lib.hid (show ofR l t = ([], 2) by unfold ofR; rw [if_neg (by rw [HW.out]; simp), if_pos (by simpa using ht)])
            have hof := lof_any (H.out.frm0 HF5.out) t (e0 := 2) (a' := none) (c' := 0) (b' := 0) (o' := 0) (by have := HN.out; omega) (by rw [HOF.out]; exact DL.nil _) (by rw [HOF.out])
            rw [HOF.out] at hof
            have HOFC := Lib.hid hof
            by_cases ht0 : t < 0
            · have hb0 : decide (t < 0) = true := by simpa using ht0
              clear ht ht0 hof
              go_wp2_with fail
              refine HOFC.out.mono ?_
              rintro e7 w7 ⟨rfl, f7⟩
              have F7 := HF5.out.trans f7
              go_wp2_with fail
              refine (known_true _).mono ?_
              rintro e9 w9 ⟨rfl, f9⟩
              go_wp2_with fail
              go_ret
              exact ⟨rfl, (F7.trans f9).below (Nat.le_refl _) (fun x hx => by simp at hx)⟩
            · have hb0 : decide (t < 0) = false := by simpa using ht0
              have hb1 : decide (64 ≤ t) = true := by unfold isTh at ht; simp at ht; simp; omega
              clear ht ht0 hof
              go_wp2_with fail
              refine HOFC.out.mono ?_
              rintro e7 w7 ⟨rfl, f7⟩
              have F7 := HF5.out.trans f7
              go_wp2_with fail
              refine (known_true _).mono ?_
              rintro e9 w9 ⟨rfl, f9⟩
              go_wp2_with fail
              go_ret
              exact ⟨rfl, (F7.trans f9).below (Nat.le_refl _) (fun x hx => by simp at hx)⟩
        · have hb0 : decide (x < 0) = false := by simpa using hx0
          have hb1 : decide (65536 ≤ x) = true := by unfold isWd at hx; simp at hx; simp; omega
          clear hx hx0 hch
          go_wp2_with fail
          refine HCHC.out.mono ?_
          rintro e5 w5 ⟨rfl, f5⟩
          have HF5 := Lib.hid (HF4.out.trans f5)
          clear f5
          by_cases ht : isTh t = true
          · have HOF := Lib.hid (show ofR l t = (ofs l t, 0) by unfold ofR; rw [if_neg (by rw [HW.out]; simp), if_neg (by simp [ht])])
            obtain ⟨ht0, ht1⟩ : ¬ t < 0 ∧ ¬ 64 ≤ t := by unfold isTh at ht; simp at ht; omega
            have hb0 : decide (t < 0) = false := by simpa using ht0
            have hb1 : decide (64 ≤ t) = false := by simpa using ht1
            clear ht ht0 ht1
            go_wp2_with fail
            refine (rOf_any (H.out.frm0 HF5.out) (by have := HN.out; omega) t).mono ?_
            rintro e6 w6 ⟨a6, c6, b6, rfl, f6, hD6, _⟩
            have F6 := HF5.out.trans f6
            have hof := lof_any (H.out.frm0 F6) t (e0 := 0) (by have := HN.out; omega) (show DL w6 a6 (ofR l t).1.length c6 b6 0 (ofR l t).1 by rw [HOF.out]; exact hD6) (by rw [HOF.out])
            rw [HOF.out] at hof
            have HOFC := Lib.hid hof
            clear hof hD6 f6
            go_wp2_with fail
            refine HOFC.out.mono ?_
            rintro e7 w7 ⟨rfl, f7⟩
            have F7 := F6.trans f7
            go_wp2_with fail
            refine (known_true _).mono ?_
            rintro e9 w9 ⟨rfl, f9⟩
            go_wp2_with fail
            go_ret
            exact ⟨rfl, (F7.trans f9).below (Nat.le_refl _) (fun x hx => by simp at hx)⟩
          · have HOF := Lib.hid (show ofR l t = ([], 2) by unfold ofR; rw [if_neg (by rw [HW.out]; simp), if_pos (by simpa using ht)])
            have hof := lof_any (H.out.frm0 HF5.out) t (e0 := 2) (a' := none) (c' := 0) (b' := 0) (o' := 0) (by have := HN.out; omega) (by rw [HOF.out]; exact DL.nil _) (by rw [HOF.out])
            rw [HOF.out] at hof
            have HOFC := Lib.hid hof
            by_cases ht0 : t < 0
            · have hb0 : decide (t < 0) = true := by simpa using ht0
              clear ht ht0 hof
              go_wp2_with fail
              refine HOFC.out.mono ?_
              rintro e7 w7 ⟨rfl, f7⟩
              have F7 := HF5.out.trans f7
              go_wp2_with fail
              refine (known_true _).mono ?_
              rintro e9 w9 ⟨rfl, f9⟩
              go_wp2_with fail
              go_ret
              exact ⟨rfl, (F7.trans f9).below (Nat.le_refl _) (fun x hx => by simp at hx)⟩
            · have hb0 : decide (t < 0) = false := by simpa using ht0
              have hb1 : decide (64 ≤ t) = true := by unfold isTh at ht; simp at ht; simp; omega
              clear ht ht0 hof
              go_wp2_with fail
              refine HOFC.out.mono ?_
              rintro e7 w7 ⟨rfl, f7⟩
              have F7 := HF5.out.trans f7
              go_wp2_with fail
              refine (known_true _).mono ?_
              rintro e9 w9 ⟨rfl, f9⟩
              go_wp2_with fail
              go_ret
              exact ⟨rfl, (F7.trans f9).below (Nat.le_refl _) (fun x hx => by simp at hx)⟩
end Go.Proofs.Ytfkikaoojelddaa
