/- Stage 13: whether a trace fits some words; Check, Replay and the law's checks and replays. -/
import Derived.Test.YtfkikaoojelddaaTrH
import Derived.Test.YtfkikaoojelddaaRw
namespace Go.Proofs.Ytfkikaoojelddaa
open Go.ChangeShapes Go.WideShapes Go.ChangeAt Go.RowKit
set_option linter.unusedVariables false
set_option linter.unusedSimpArgs false
theorem info_u64 : (Try.prog.info? 30).map (fun i => (i.zero, i.size, i.bytes)) = some (some (.int .u64 0), 1, 8) := by kernel_rfl
theorem ix_u64 {a : Option Addr} {n c b o k : Nat} (ha : 0 < n → a = some ⟨b, o, none⟩) (hk : k < n) (w : World) : (Instr.indexAt 31 (.slice a n c) (.int .i64 (k : Int))).run Try.prog w = .ok (.pointer (some ⟨b, o + k, none⟩)) w := by
  obtain rfl := ha (by omega)
  have h1 : (k : Int) < (n : Int) := by omega
  simp [go_sem, h1]
/-- A thing does not find its word as it says. -/
def nofit (ws : List Int) (d : Dd) : Bool := decide ((ws.length : Int) ≤ d.a.w) || (ws.getD d.a.w.toNat 0 != d.a.b)
/-- The words behind the things that fit, and which is the first that does not. -/
def rdo (ws : List Int) : Nat → List Dd → List Int × Option Nat
  | _, [] => (ws, none)
  | i, d :: r => if d.a.k = 0 then rdo ws (i + 1) r else if nofit ws d = true then (ws, some i) else rdo (ws.set d.a.w.toNat d.a.a) (i + 1) r
theorem rdo_length : ∀ (l : List Dd) (ws : List Int) (i : Nat), (rdo ws i l).1.length = ws.length
  | [], ws, i => rfl
  | d :: r, ws, i => by
    unfold rdo
    split
    · exact rdo_length r ws (i + 1)
    · split
      · rfl
      · rw [rdo_length]; simp
theorem rdo_drop {l : List Dd} {k : Nat} {d : Dd} (hd : l[k]? = some d) (ws : List Int) : rdo ws k (l.drop k) = if d.a.k = 0 then rdo ws (k + 1) (l.drop (k + 1)) else if nofit ws d = true then (ws, some k) else rdo (ws.set d.a.w.toNat d.a.a) (k + 1) (l.drop (k + 1)) := by
  have hk := (List.getElem?_eq_some_iff.1 hd).1
  rw [List.drop_eq_getElem_cons hk]
  have : l[k] = d := (List.getElem?_eq_some_iff.1 hd).2
  rw [this]
  conv => lhs; unfold rdo
def rdI (o : Option Nat) : Int := match o with | some i => (i : Int) | none => -1
theorem may_word {d : Dd} (h : may d = true) (hk : d.a.k ≠ 0) : 0 ≤ d.a.w ∧ d.a.w < 65536 := by
  unfold may isAc isWd at h
  simp [hk] at h
  omega
section
variable {w : World} {a a' : Option Addr} {n c b o c' b' o' : Nat} {l : List Dd}
/-- The words after it, in a row of the call's own. -/
def RdQ (w : World) (g m c : Nat) (B : Nat) (R : List Int × Option Nat) (e : Ending) (w' : World) : Prop :=
  Ret (.int .i64 (rdI R.2)) (fun w' => Frm [g] w w' ∧ Row .u64 30 B w' (some ⟨g, 0, none⟩) m c R.1) e w'
set_option maxRecDepth 100000 in
set_option maxHeartbeats 3200000 in
theorem redo_any {B g m cm : Nat} {ws : List Int} (hR : Row .u64 30 B w (some ⟨g, 0, none⟩) m cm ws) (h : DL w a n c b o l) (hg : 0 < n → b ≠ g) (hn : n ≤ 100000) (hm : m ≤ 65536) (hm0 : 0 < m) (hall : ∀ (k : Nat) (d : Dd), l[k]? = some d → may d = true) :
    Calls Try.prog 63 #[.slice (some ⟨g, 0, none⟩) m cm, .slice a n c] w (RdQ w g m cm B (rdo ws 0 l)) := by
  obtain ⟨R, hRR⟩ : ∃ R, R = rdo ws 0 l := ⟨_, rfl⟩
  rw [← hRR]
  have HR := Lib.hid hRR
  have HL := Lib.hid h.len
  have H := Lib.hid h
  have HG := Lib.hid hg
  have HROW := Lib.hid hR
  have HALL := Lib.hid hall
  have hn2 : (n : Int) ≤ 100000 := by omega
  have hm2 : (m : Int) ≤ 65536 := by omega
  have HWL := Lib.hid hR.2
  clear hRR h hg hR hall hn hm
  go_enter Try.func63, Try.ntmps63
  go_wp2_with fail
  go_loopw [10] (fun i wr => ∃ (k : Nat) (wk : List Int), k ≤ n ∧ i = .int .i64 k ∧ Frm [g] w wr ∧ Row .u64 30 B wr (some ⟨g, 0, none⟩) m cm wk ∧ rdo ws 0 l = rdo wk k (l.drop k)) (fun i _ => n - (intOf i).toNat)
  case atStart => exact ⟨0, ws, Nat.zero_le _, rfl, Frm.refl _ _, HROW.out, rfl⟩
  case round =>
    obtain ⟨k, wk, hk, rfl, hF, hW, hE⟩ := hrel
    by_cases hlt : k < n
    · obtain ⟨d, hd⟩ : ∃ d, l[k]? = some d := ⟨_, List.getElem?_eq_getElem (by rw [HL.out]; exact hlt)⟩
      have hL1 := H.out.frmN hF (fun hp => by simpa using HG.out hp)
      have hi1 := ix_did (c := c) hL1.ad hlt
      have p0 := hL1.get hd 0 _ rfl
      have p1 := hL1.get hd 1 _ rfl
      have p2 := hL1.get hd 2 _ rfl
      have p3 := hL1.get hd 3 _ rfl
      have p4 := hL1.get hd 4 _ rfl
      have p5 := hL1.get hd 5 _ rfl
      have p6 := hL1.get hd 6 _ rfl
      rw [Nat.add_zero] at p0
      have HF := Lib.hid hF
      have HW := Lib.hid hW
      have hA2 : ∀ o1 o2, Frm [] wr ((wr.alloc o1).alloc o2) := fun o1 o2 => ((Frm.refl _ _).alloc _).alloc _
      have HA2 := Lib.hid hA2
      have HE := Lib.hid (hE.trans (rdo_drop hd wk))
      have HMAY := Lib.hid (HALL.out k d hd)
      clear hF hL1 hd hE hA2
      by_cases hk0 : d.a.k = 0
      · have hb : (d.a.k == 0) = true := by simpa using hk0
        have HX := Lib.hid (show rdo ws 0 l = rdo wk (k + 1) (l.drop (k + 1)) by rw [HE.out, if_pos hk0])
        clear hk0 hW
        go_wp2_with fail
        go_roundw
        case rel => exact ⟨k + 1, wk, by omega, by go_num, HF.out.trans (HA2.out _ _).nil, HW.out.frm0 (HA2.out _ _), HX.out⟩
        case measure => simp [intOf]; omega
      · have hb : (d.a.k == 0) = false := by simpa using hk0
        obtain ⟨hw0, hw1⟩ := may_word HMAY.out hk0
        have HK0 := Lib.hid hk0
        have hwl := hW.2
        by_cases hge : (m : Int) ≤ d.a.w
        · have hbg : decide ((m : Int) ≤ d.a.w) = true := by simpa using hge
          have HX := Lib.hid (show rdo ws 0 l = (wk, some k) by rw [HE.out, if_neg hk0, if_pos (by unfold nofit; rw [← hwl]; simp [hge])])
          clear hge hk0 hwl hW
          go_wp2_with fail
          go_quiet (fail)
          go_wp2_with fail
          go_ret
          refine ⟨by rw [HR.out, HX.out]; rfl, HF.out.trans (((HA2.out _ _).drewN _).nil), ?_⟩
          rw [HR.out, HX.out]
          exact HW.out.frm0 ((HA2.out _ _).drewN _)
        · have hbg : decide ((m : Int) ≤ d.a.w) = false := by simpa using hge
          have hlw : d.a.w < (m : Int) := by omega
          have htl : d.a.w.toNat < m := by omega
          obtain ⟨bb, hLi⟩ := hW.li
          have hbb : bb = g := by have := hLi.ad hm0; cases this; rfl
          subst hbb
          obtain ⟨y, hy, hyd, hyc⟩ := hLi.get htl
          have hcc : ∀ o1 o2 : Obj, ((wr.alloc o1).alloc o2).cell? ⟨bb, d.a.w.toNat, none⟩ = some (.int .u64 y) := fun o1 o2 => by
            rw [((((Frm.refl [] wr).alloc o1).alloc o2)).cell (World.block_lt_of_cell? wr _ hyc) (by simp)]
            rw [Nat.zero_add] at hyc; exact hyc
          have HYD := Lib.hid hyd
          by_cases hne : y = d.a.b
          · have hbn : (y != d.a.b) = false := by simpa using hne
            have HX := Lib.hid (show rdo ws 0 l = rdo (wk.set d.a.w.toNat d.a.a) (k + 1) (l.drop (k + 1)) by rw [HE.out, if_neg hk0, if_neg (by unfold nofit; rw [← hwl, hyd]; simp [hge, hne])])
            have HTL := Lib.hid htl
            have hfz : ∀ o1 o2 : Obj, ∀ nn, (((wr.alloc o1).alloc o2).drewN nn).frozen? ⟨bb, d.a.w.toNat, none⟩ = false := fun o1 o2 nn => by
              have := row_frozen (hW.frm0 (((Frm.refl [] wr).alloc o1).alloc o2)) hm0 d.a.w.toNat
              exact this
            clear hge hk0 hwl hW hLi hy hyd hyc hne htl
            go_wp2_with fail
            go_quiet (fail)
            go_wp2_with fail
            go_roundw
            case rel => exact ⟨k + 1, wk.set d.a.w.toNat d.a.a, by omega, by go_num, (HF.out.trans (((HA2.out _ _).drewN _).nil)).setCell _ _ (.inl (by simp)), row_set (HW.out.frm0 ((HA2.out _ _).drewN _)) _, HX.out⟩
            case measure => simp [intOf]; omega
          · have hbn : (y != d.a.b) = true := by simpa using hne
            have HX := Lib.hid (show rdo ws 0 l = (wk, some k) by rw [HE.out, if_neg hk0, if_pos (by unfold nofit; rw [← hwl, hyd]; simp [hne])])
            clear hge hk0 hwl hW hLi hy hyd hyc hne htl
            go_wp2_with fail
            go_quiet (fail)
            go_wp2_with fail
            go_ret
            refine ⟨by rw [HR.out, HX.out]; rfl, HF.out.trans (((HA2.out _ _).drewN _).nil), ?_⟩
            rw [HR.out, HX.out]
            exact HW.out.frm0 ((HA2.out _ _).drewN _)
    · have hkn : k = n := by omega
      have HX := Lib.hid (show rdo ws 0 l = (wk, none) by rw [hE, List.drop_eq_nil_of_le (by rw [HL.out]; omega)]; rfl)
      have HF := Lib.hid hF
      have HW := Lib.hid hW
      clear hF hW hkn hE
      go_wp2_with fail
      go_ret
      refine ⟨by rw [HR.out, HX.out]; rfl, HF.out, ?_⟩
      rw [HR.out, HX.out]
      exact HW.out
end
end Go.Proofs.Ytfkikaoojelddaa
