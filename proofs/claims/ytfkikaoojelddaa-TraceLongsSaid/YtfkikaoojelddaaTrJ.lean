/- Stage 13: Check, Replay and the law's checks and replays. -/
import Derived.Test.YtfkikaoojelddaaTrI
import Derived.Lib.AppendZerosOnto
namespace Go.Proofs.Ytfkikaoojelddaa
open Go.ChangeShapes Go.WideShapes Go.ChangeAt Go.RowKit
set_option linter.unusedVariables false
set_option linter.unusedSimpArgs false
def chkR (ws : List Int) (l : List Dd) : Int × Int := if wfo ws.length l ≠ 0 then (0, wfo ws.length l) else (rdI (rdo ws 0 l).2, 0)
def repR (ws : List Int) (l : List Dd) : List Int × Int := if wfo ws.length l ≠ 0 then ([], wfo ws.length l) else match (rdo ws 0 l).2 with | some _ => ([], 10) | none => ((rdo ws 0 l).1, 0)
section
variable {w : World} {a a' : Option Addr} {n c b o m c' b' o' : Nat} {l : List Dd} {ws : List Int}
def CloQ (w : World) (m : Nat) (ws : List Int) (e : Ending) (w' : World) : Prop :=
  ∃ g c1, Ret (.slice (some ⟨g, 0, none⟩) m c1) (fun w' => Frm [] w w' ∧ Row .u64 30 w.heap.size w' (some ⟨g, 0, none⟩) m c1 ws) e w'
set_option maxRecDepth 100000 in
set_option maxHeartbeats 1600000 in
theorem clone64_any (h : Li .u64 w a' m c' b' o' ws) (hm0 : 0 < m) (hm : m ≤ 10000000) : Calls Try.prog 53 #[.slice a' m c'] w (CloQ w m ws) := by
  obtain rfl := h.ad hm0
  have HL := Lib.hid (h.frm0 ((Frm.refl [] w).alloc (.cells #[] 30)))
  have HROW := Lib.hid (show Row .u64 30 w.heap.size (w.alloc (.cells #[] 30)) (some ⟨w.heap.size, 0, none⟩) 0 0 [] from row_new rfl (heap_alloc_new _ _) (Nat.le_refl _) (Nat.zero_le _))
  have HM := Lib.hid hm
  have HM0 := Lib.hid hm0
  have hnil := fun (w : World) => Lib.run_eql_slice_nil (P := Try.prog) w 31 30 (some ⟨b', o', none⟩) m c' 0 0 Try.underlying31
  have HNIL := Lib.hid hnil
  have hnil2 := hnil w
  clear h hm hm0 hnil
  go_enter Try.func53, Try.ntmps53
  go_wp2_with (at_builtin; refine wpl_app Try.underlying31 info_u64 rfl (by decide) rfl (.tmp 5) (.tmp 6) rfl (B := w.heap.size) (a := some ⟨w.heap.size, 0, none⟩) (n := 0) (c := 0) (m := m) (l := []) (l2 := ws) (by simp [Act.eval]) (by simp [Act.eval]) HROW.out HL.out (by have := HM.out; simp; omega) (by simp) ?_; intro a3 c3 w3 hR3 hF3; have HR3 := Lib.hid hR3; have HF3 := Lib.hid hF3; clear hR3 hF3)
  go_ret
  have hR := HR3.out
  simp only [Nat.zero_add, List.nil_append] at hR
  obtain ⟨g, cs, rfl, hgB, hgh, _, _⟩ := hR.block HM0.out
  have hFr : Frm [] w w3 := (((Frm.refl [] w).alloc (.cells #[] 30))).trans_new HF3.out (fun x hx => by simp [blk] at hx; subst hx; exact .inr (Nat.le_refl _))
  refine ⟨g, c3, ?_, hFr, hR⟩
  simp
set_option maxRecDepth 100000 in
set_option maxHeartbeats 3200000 in
theorem Check_any (hW : Li .u64 w a' m c' b' o' ws) (h : DL w a n c b o l) : Calls Try.prog 39 #[.slice a' m c', .slice a n c] w (Ret (.tuple #[.int .i64 (chkR ws l).1, .int .i64 (chkR ws l).2]) (fun w' => Frm [] w w')) := by
  obtain ⟨R, hRR⟩ : ∃ R, R = chkR ws l := ⟨_, rfl⟩
  rw [← hRR]
  have HR := Lib.hid hRR
  have HWF := Lib.hid (wrongFor_any h a' m c')
  have HWL := Lib.hid hW.len
  have HW := Lib.hid hW
  have H := Lib.hid h
  have HL := Lib.hid h.len
  clear hRR hW h
  by_cases h0 : wfo m l = 0
  · have hbm : 0 < m ∧ m ≤ 65536 ∧ wro l = 0 := by
      unfold wfo at h0
      split at h0
      · rename_i h; exact absurd h0 h
      · split at h0
        · cases h0
        · rename_i h1 h2; exact ⟨by omega, by omega, by simpa using h1⟩
    have HBM := Lib.hid hbm
    have HN := Lib.hid (show n ≤ 100000 by have := hbm.2.2; unfold wro at this; rw [HL.out] at this; split at this; cases this; omega)
    have HX := Lib.hid (show chkR ws l = (rdI (rdo ws 0 l).2, 0) by unfold chkR; rw [HWL.out, if_neg (by simp [h0])])
    rw [h0] at HWF
    clear hbm h0
    go_enter Try.func39, Try.ntmps39
    go_wp2_with fail
    refine HWF.out.mono ?_
    rintro e w1 ⟨rfl, hF⟩
    have HF := Lib.hid hF
    have HCL := Lib.hid (clone64_any (HW.out.frm0 hF) HBM.out.1 (by have := HBM.out; omega))
    clear hF
    go_wp2_with fail
    refine HCL.out.mono ?_
    rintro e w2 ⟨g, c1, rfl, hF2, hR2⟩
    have HRD := Lib.hid (redo_any hR2 (H.out.frm0 (HF.out.trans hF2)) (fun hp => by
      obtain ⟨g2, cs, e2, hg2, hh, _⟩ := hR2.block HBM.out.1
      cases e2
      have := dl_lt (H.out.frm0 HF.out) hp
      omega) HN.out HBM.out.2.1 HBM.out.1 (fun k d hd => may_of HBM.out.2.2 hd))
    have HF2 := Lib.hid (HF.out.trans hF2)
    have HGG := Lib.hid (show w.heap.size ≤ g by obtain ⟨g2, cs, e2, hg2, hh, _⟩ := hR2.block HBM.out.1; cases e2; have := HF.out.size; omega)
    clear hF2 hR2
    go_wp2_with fail
    refine HRD.out.mono ?_
    rintro e w3 ⟨rfl, hF3, _⟩
    go_wp2_with fail
    go_ret2
    rw [HR.out, HX.out]
    exact ⟨rfl, HF2.out.trans_new hF3 (fun x hx => by simp at hx; subst hx; exact .inr HGG.out)⟩
  · have hb : (wfo m l != 0) = true := by simpa using h0
    have HX := Lib.hid (show chkR ws l = (0, wfo m l) by unfold chkR; rw [HWL.out, if_pos h0])
    clear h0
    go_enter Try.func39, Try.ntmps39
    go_wp2_with fail
    refine HWF.out.mono ?_
    rintro e w1 ⟨rfl, hF⟩
    go_wp2_with fail
    go_ret2
    rw [HR.out, HX.out]
    exact ⟨rfl, hF⟩
def RepQ (w : World) (R : List Int × Int) (e : Ending) (w' : World) : Prop :=
  ∃ a c b, Ret (.tuple #[.slice a R.1.length c, .int .i64 R.2]) (fun w' => Frm [] w w' ∧ Li .u64 w' a R.1.length c b 0 R.1) e w'
theorem li64_nil (w : World) : Li .u64 w none 0 0 0 0 [] := ⟨rfl, fun h => by omega, fun i x hx => by simp at hx, Nat.le_refl _⟩
set_option maxRecDepth 100000 in
set_option maxHeartbeats 3200000 in
theorem Replay_any (hW : Li .u64 w a' m c' b' o' ws) (h : DL w a n c b o l) : Calls Try.prog 41 #[.slice a' m c', .slice a n c] w (RepQ w (repR ws l)) := by
  obtain ⟨R, hRR⟩ : ∃ R, R = repR ws l := ⟨_, rfl⟩
  rw [← hRR]
  have HR := Lib.hid hRR
  have HWF := Lib.hid (wrongFor_any h a' m c')
  have HWL := Lib.hid hW.len
  have HW := Lib.hid hW
  have H := Lib.hid h
  have HL := Lib.hid h.len
  clear hRR hW h
  by_cases h0 : wfo m l = 0
  · have hbm : 0 < m ∧ m ≤ 65536 ∧ wro l = 0 := by
      unfold wfo at h0
      split at h0
      · rename_i h; exact absurd h0 h
      · split at h0
        · cases h0
        · rename_i h1 h2; exact ⟨by omega, by omega, by simpa using h1⟩
    have HBM := Lib.hid hbm
    have HN := Lib.hid (show n ≤ 100000 by have := hbm.2.2; unfold wro at this; rw [HL.out] at this; split at this; cases this; omega)
    have HX := Lib.hid (show repR ws l = match (rdo ws 0 l).2 with | some _ => ([], 10) | none => ((rdo ws 0 l).1, 0) by unfold repR; rw [HWL.out, if_neg (by simp [h0])])
    have HRL := Lib.hid (rdo_length l ws 0)
    rw [h0] at HWF
    clear hbm h0
    go_enter Try.func41, Try.ntmps41
    go_wp2_with fail
    refine HWF.out.mono ?_
    rintro e w1 ⟨rfl, hF⟩
    have HF := Lib.hid hF
    have HCL := Lib.hid (clone64_any (HW.out.frm0 hF) HBM.out.1 (by have := HBM.out; omega))
    clear hF
    go_wp2_with fail
    refine HCL.out.mono ?_
    rintro e w2 ⟨g, c1, rfl, hF2, hR2⟩
    have HRD := Lib.hid (redo_any hR2 (H.out.frm0 (HF.out.trans hF2)) (fun hp => by
      obtain ⟨g2, cs, e2, hg2, hh, _⟩ := hR2.block HBM.out.1
      cases e2
      have := dl_lt (H.out.frm0 HF.out) hp
      omega) HN.out HBM.out.2.1 HBM.out.1 (fun k d hd => may_of HBM.out.2.2 hd))
    have HF2 := Lib.hid (HF.out.trans hF2)
    have HGG := Lib.hid (show w.heap.size ≤ g by obtain ⟨g2, cs, e2, hg2, hh, _⟩ := hR2.block HBM.out.1; cases e2; have := HF.out.size; omega)
    clear hF2 hR2
    generalize rdo ws 0 l = Q at *
    obtain ⟨wk, ok⟩ := Q
    cases ok with
    | some i =>
      have hi : (0 : Int) ≤ (i : Int) := by omega
      go_wp2_with fail
      refine HRD.out.mono ?_
      rintro e w3 ⟨rfl, hF3, _⟩
      dsimp only [rdI]
      go_wp2_with fail
      go_ret2
      rw [HR.out, HX.out]
      exact ⟨none, 0, 0, rfl, HF2.out.trans_new hF3 (fun x hx => by simp at hx; subst hx; exact .inr HGG.out), li64_nil _⟩
    | none =>
      go_wp2_with fail
      refine HRD.out.mono ?_
      rintro e w3 ⟨rfl, hF3, hR3⟩
      dsimp only [rdI]
      have HR3 := Lib.hid hR3
      have HF3 := Lib.hid hF3
      clear hR3 hF3
      go_wp2_with fail
      go_ret2
      rw [HR.out, HX.out]
      obtain ⟨b3, hL3⟩ := HR3.out.li
      have hml : wk.length = m := HRL.out.trans HWL.out
      refine ⟨some ⟨g, 0, none⟩, c1, b3, ?_, HF2.out.trans_new HF3.out (fun x hx => by simp at hx; subst hx; exact .inr HGG.out), ?_⟩
      · dsimp only; rw [hml]; rfl
      · dsimp only; rw [hml]; exact hL3
  · have hb : (wfo m l != 0) = true := by simpa using h0
    have HX := Lib.hid (show repR ws l = ([], wfo m l) by unfold repR; rw [HWL.out, if_pos h0])
    clear h0
    go_enter Try.func41, Try.ntmps41
    go_wp2_with fail
    refine HWF.out.mono ?_
    rintro e w1 ⟨rfl, hF⟩
    go_wp2_with fail
    go_ret2
    rw [HR.out, HX.out]
    exact ⟨none, 0, 0, rfl, hF, li64_nil _⟩
set_option maxRecDepth 100000 in
set_option maxHeartbeats 1600000 in
/-- Same of equal words. -/
theorem same64_any (hn : n ≤ 2147483647) (h1 : Li .u64 w a n c b o ws) (h2 : Li .u64 w a' n c' b' o' ws) : Calls Try.prog 20 #[.slice a n c, .slice a' n c'] w (Ret (.bool true) (fun w' => Frm [] w w')) := by
  have H1 := Lib.hid h1
  have H2 := Lib.hid h2
  have hn2 : (n : Int) ≤ 2147483647 := by omega
  clear h1 h2 hn
  go_enter Try.func20, Try.ntmps20
  go_wp2_with fail
  go_loopw [5] (fun i wr => ∃ k : Nat, k ≤ n ∧ i = .int .i64 k ∧ Frm [] w wr) (fun i _ => n - (intOf i).toNat)
  case atStart => exact ⟨0, Nat.zero_le _, rfl, Frm.refl _ _⟩
  case round =>
    obtain ⟨k, hk, rfl, hF⟩ := hrel
    by_cases hlt : k < n
    · have hA := H1.out.frm0 hF
      have hB := H2.out.frm0 hF
      have hi1 := ix_u64 (c := c) hA.ad hlt
      have hi2 := ix_u64 (c := c') hB.ad hlt
      obtain ⟨y, hy, _, hc1⟩ := hA.get hlt
      have hc2 := hB.cell k y hy
      have HFF := Lib.hid hF
      clear hF hA hB hy
      go_wp2_with fail
      go_quiet (fail)
      go_wp2_with fail
      go_roundw
      case rel => exact ⟨k + 1, by omega, by go_num, HFF.out.trans ((Frm.refl [] _).drewN _)⟩
      case measure => simp [intOf]; omega
    · have hkn : k = n := by omega
      subst hkn
      have HFF := Lib.hid hF
      clear hF
      go_wp2_with fail
      go_ret
      exact ⟨rfl, HFF.out⟩
set_option maxRecDepth 100000 in
set_option maxHeartbeats 3200000 in
/-- The law's checks. -/
theorem lchecks_any (hW : Li .u64 w a' m c' b' o' ws) (h : DL w a n c b o l) {x e0 : Int} (hx : x = (chkR ws l).1) (he : e0 = (chkR ws l).2) : Calls Try.prog 14 #[.slice a' m c', .slice a n c, .int .i64 x, .int .i64 e0] w (Ret (.bool true) (fun w' => Frm [] w w')) := by
  have HC := Lib.hid (Check_any hW h)
  rw [← hx, ← he] at HC
  clear hx he
  go_enter Try.func14, Try.ntmps14
  go_wp2_with fail
  refine HC.out.mono ?_
  rintro e w1 ⟨rfl, hF⟩
  go_wp2_with fail
  go_ret
  exact ⟨rfl, hF⟩
set_option maxRecDepth 100000 in
set_option maxHeartbeats 3200000 in
/-- The law's replays. -/
theorem lreplays_any {a3 : Option Addr} {c3 b3 o3 k : Nat} (hW : Li .u64 w a' m c' b' o' ws) (h : DL w a n c b o l) {L : List Int} {e0 : Int} (hR : repR ws l = (L, e0)) (hk : L.length = k) (hk2 : k ≤ 2147483647) (h3 : Li .u64 w a3 k c3 b3 o3 L) : Calls Try.prog 18 #[.slice a' m c', .slice a n c, .slice a3 k c3, .int .i64 e0] w (Ret (.bool true) (fun w' => Frm [] w w')) := by
  have HC := Lib.hid (Replay_any hW h)
  rw [hR] at HC
  have H3 := Lib.hid h3
  have HK := Lib.hid hk
  have HK2 := Lib.hid hk2
  clear hR hW h h3 hk hk2
  go_enter Try.func18, Try.ntmps18
  go_wp2_with fail
  refine HC.out.mono ?_
  rintro e w1 ⟨a1, c1, b1, rfl, hF, hL1⟩
  dsimp only at hL1 ⊢
  rw [HK.out] at hL1 ⊢
  have HF := Lib.hid hF
  have HSM := Lib.hid (same64_any HK2.out hL1 (H3.out.frm0 hF))
  clear hF hL1
  go_wp2_with fail
  refine HSM.out.mono ?_
  rintro e w2 ⟨rfl, hF2⟩
  go_wp2_with fail
  go_ret
  exact ⟨rfl, HF.out.trans hF2⟩
end
end Go.Proofs.Ytfkikaoojelddaa
