/- Stage 13: the reference's before; Same of waits; the law's waits. -/
import Derived.Test.YtfkikaoojelddaaTrT
namespace Go.Proofs.Ytfkikaoojelddaa
open Go.ChangeShapes Go.WideShapes Go.ChangeAt Go.RowKit
set_option linter.unusedVariables false
set_option linter.unusedSimpArgs false
def lastT (l : List Dd) (t : Int) : Nat → Int
  | 0 => -1
  | k + 1 => if (l.getD k dd0).i = t then (k : Int) else lastT l t k
theorem lastT_succ (l : List Dd) (t : Int) (k : Nat) : lastT l t (k + 1) = if (l.getD k dd0).i = t then (k : Int) else lastT l t k := rfl
theorem lastT_lt (l : List Dd) (t : Int) : ∀ k, -1 ≤ lastT l t k ∧ lastT l t k < k
  | 0 => by simp [lastT]
  | k + 1 => by
    unfold lastT
    split
    · omega
    · have := lastT_lt l t k; omega
theorem lastAt_T (l : List Dd) (t : Int) : ∀ k, lastAt l t k = if lastT l t k < 0 then -1 else atW (l.getD (lastT l t k).toNat dd0)
  | 0 => by simp [lastT, lastAt]
  | k + 1 => by
    unfold lastAt lastT
    split
    · rw [if_neg (by omega), Int.toNat_natCast]
    · exact lastAt_T l t k
section
variable {w : World} {a a' : Option Addr} {n c b o c' b' o' : Nat} {l : List Dd}
set_option maxRecDepth 100000 in
set_option maxHeartbeats 3200000 in
theorem before_any (h : DL w a n c b o l) (hn : n ≤ 100000) (i : Nat) (hi : i < n) : Calls Try.prog 40 #[.slice a n c, .int .i64 (i : Int)] w (Ret (.int .i64 (lastT l (l.getD i dd0).i i)) (fun w' => Frm [] w w')) := by
  obtain ⟨r, hr⟩ : ∃ r, r = lastT l (l.getD i dd0).i i := ⟨_, rfl⟩
  rw [← hr]
  have HR := Lib.hid hr
  have HL := Lib.hid h.len
  have H := Lib.hid h
  have hn2 : (i : Int) ≤ 100000 := by omega
  have hin : (i : Int) < (n : Int) := by omega
  obtain ⟨d, hd⟩ : ∃ d, l[i]? = some d := ⟨_, List.getElem?_eq_getElem (by rw [HL.out]; exact hi)⟩
  have HD := Lib.hid hd
  have HDD := Lib.hid (getD_of hd)
  have HI := Lib.hid hi
  clear hr h hn hi hd
  go_enter Try.func40, Try.ntmps40
  go_wp2_with fail
  go_loopw [5] (fun s wr => ∃ m : Nat, m ≤ i ∧ s = .int .i64 ((m : Int) - 1) ∧ Frm [] w wr ∧ lastT l d.i i = lastT l d.i m) (fun s _ => (intOf s + 1).toNat)
  case atStart => exact ⟨i, Nat.le_refl _, rfl, Frm.refl _ _, rfl⟩
  case round =>
    obtain ⟨m, hm, rfl, hF, hE⟩ := hrel
    have HE := Lib.hid hE
    clear hE
    rcases m with _ | m
    · have HF := Lib.hid hF
      clear hF
      rw [show (((0 : Nat) : Int) - 1) = -1 from rfl]
      go_wp2_with fail
      go_ret
      exact ⟨by rw [HR.out, HDD.out, HE.out]; rfl, HF.out⟩
    · obtain ⟨g, hg⟩ : ∃ g, l[m]? = some g := ⟨_, List.getElem?_eq_getElem (by rw [HL.out]; have := HI.out; omega)⟩
      have hL1 := H.out.frm0 hF
      have hi1 := ix_did (c := c) hL1.ad (show m < n by have := HI.out; omega)
      have hi2 := ix_did (c := c) hL1.ad HI.out
      have p0 := hL1.get hg 0 _ rfl
      have r0 := hL1.get HD.out 0 _ rfl
      rw [Nat.add_zero] at p0 r0
      have hmm : ((m + 1 : Nat) : Int) - 1 = (m : Int) := by omega
      rw [hmm]
      have hm0 : (0 : Int) ≤ (m : Int) := by omega
      have hml : (m : Int) ≤ 100000 := by omega
      have HF := Lib.hid hF
      have HG := Lib.hid (show lastT l d.i (m + 1) = if g.i = d.i then (m : Int) else lastT l d.i m by rw [lastT_succ, getD_of hg])
      clear hF hL1 hg hmm
      by_cases he : g.i = d.i
      · have hb : (g.i == d.i) = true := by simpa using he
        have HX := Lib.hid (show lastT l d.i (m + 1) = m by rw [HG.out, if_pos he])
        clear he
        go_wp2_with fail
        go_quiet (fail)
        go_wp2_with fail
        go_ret
        exact ⟨by rw [HR.out, HDD.out, HE.out, HX.out]; rfl, HF.out.trans ((Frm.refl [] _).drewN _)⟩
      · have hb : (g.i == d.i) = false := by simpa using he
        have HX := Lib.hid (show lastT l d.i (m + 1) = lastT l d.i m by rw [HG.out, if_neg he])
        clear he
        go_wp2_with fail
        go_quiet (fail)
        go_wp2_with fail
        go_roundw
        case rel => exact ⟨m, by omega, rfl, HF.out.trans ((Frm.refl [] _).drewN _), HE.out.trans HX.out⟩
        case measure => simp [intOf]
set_option maxRecDepth 100000 in
set_option maxHeartbeats 1600000 in
/-- Same says yes to equal ones. -/
theorem same_wd {B B' : Nat} {L : List Wd} (hn : n ≤ 100000) (h1 : Gr 52 5 B w a n c (wdF L)) (h2 : Gr 52 5 B' w a' n c' (wdF L)) : Calls Try.prog 36 #[.slice a n c, .slice a' n c'] w
    (Ret (.bool true) (fun w' => Frm [] w w')) := by
  have H1 := Lib.hid h1
  have H2 := Lib.hid h2
  have hn2 : (n : Int) ≤ 100000 := by omega
  have HNN := Lib.hid hn
  clear h1 h2 hn
  go_enter Try.func36, Try.ntmps36
  go_wp2_with fail
  go_loopw [5] (fun i wr => ∃ k : Nat, k ≤ n ∧ i = .int .i64 k ∧ Frm [] w wr) (fun i _ => n - (intOf i).toNat)
  case atStart => exact ⟨0, Nat.zero_le _, rfl, Frm.refl _ _⟩
  case round =>
    obtain ⟨k, hk, rfl, hF⟩ := hrel
    by_cases hlt : k < n
    · obtain ⟨g, rfl, _, _, _, hc1⟩ := (H1.out.frm0 hF).at_ hlt
      obtain ⟨g', rfl, _, _, _, hc2⟩ := (H2.out.frm0 hF).at_ hlt
      have hi1 := fun w => ix_wd (c := c) rfl hlt w (g := g)
      have hi2 := fun w => ix_wd (c := c') rfl hlt w (g := g')
      obtain ⟨x, hx⟩ : ∃ x, L.getD k wd0 = x := ⟨_, rfl⟩
      have p0 := hc1 k hlt 0 (.int .i64 x.t) (by unfold wdF; rw [hx]; rfl)
      have p1 := hc1 k hlt 1 (.int .i64 x.w) (by unfold wdF; rw [hx]; rfl)
      have p2 := hc1 k hlt 2 (.int .i64 x.f) (by unfold wdF; rw [hx]; rfl)
      have p3 := hc1 k hlt 3 (.int .i64 x.to) (by unfold wdF; rw [hx]; rfl)
      have p4 := hc1 k hlt 4 (.int .i64 x.by_) (by unfold wdF; rw [hx]; rfl)
      have q0 := hc2 k hlt 0 (.int .i64 x.t) (by unfold wdF; rw [hx]; rfl)
      have q1 := hc2 k hlt 1 (.int .i64 x.w) (by unfold wdF; rw [hx]; rfl)
      have q2 := hc2 k hlt 2 (.int .i64 x.f) (by unfold wdF; rw [hx]; rfl)
      have q3 := hc2 k hlt 3 (.int .i64 x.to) (by unfold wdF; rw [hx]; rfl)
      have q4 := hc2 k hlt 4 (.int .i64 x.by_) (by unfold wdF; rw [hx]; rfl)
      rw [Nat.add_zero] at p0 q0
      have HF := Lib.hid hF
      clear hF hc1 hc2 hx
      go_wp2_with fail
      go_quiet (fail)
      go_wp2_with fail
      go_roundw
      case rel => exact ⟨k + 1, by omega, by go_num, HF.out.trans ((Frm.refl [] _).drewN _)⟩
      case measure => simp [intOf]; omega
    · have hkn : k = n := by omega
      subst hkn
      have HF := Lib.hid hF
      clear hF
      go_wp2_with fail
      go_ret
      exact ⟨rfl, HF.out⟩
set_option maxRecDepth 100000 in
set_option maxHeartbeats 1600000 in
/-- The law's waits. -/
theorem lwaits_any {B' : Nat} (h : DL w a n c b o l) (hok : ∀ d ∈ l, DdOk d) {L : List Wd} {e0 : Int} {m : Nat} (hR : waR l = (L, e0)) (hm : L.length = m) (hm2 : m ≤ 100000) (h2 : Gr 52 5 B' w a' m c' (wdF L)) : Calls Try.prog 11 #[.slice a n c, .int .i64 e0, .slice a' m c'] w (Ret (.bool true) (fun w' => Frm [] w w')) := by
  have HC := Lib.hid (Waits_any h hok)
  rw [hR] at HC
  have H2 := Lib.hid h2
  have HM := Lib.hid hm
  have HM2 := Lib.hid hm2
  clear hR h hok hm hm2 h2
  go_enter Try.func11, Try.ntmps11
  go_wp2_with fail
  refine HC.out.mono ?_
  rintro e w1 ⟨a1, c1, rfl, hF, hG⟩
  dsimp only at hG ⊢
  rw [HM.out] at hG ⊢
  have HF := Lib.hid hF
  have HSM := Lib.hid (same_wd HM2.out hG (H2.out.frm0 hF))
  clear hF hG
  go_wp2_with fail
  refine HSM.out.mono ?_
  rintro e w2 ⟨rfl, hF2⟩
  go_wp2_with fail
  go_ret
  exact ⟨rfl, HF.out.trans hF2⟩
end
end Go.Proofs.Ytfkikaoojelddaa
