/- Stage 12: run and Run of a machine. -/
import Derived.Test.YtieccmmnfnpcoaaTie
namespace Go.Proofs.Ytieccmmnfnpcoaa
open Go.ChangeShapes Go.WideShapes Go.ChangeAt Go.RowKit
set_option linter.unusedVariables false
def runA : Md → List Dd → List Int → Md × List Dd × Int
  | M, l, [] => (M, l, 0)
  | M, l, i :: r =>
    match M.th i with
    | none => (M, [], 2)
    | some t => if t.P.en = true then runA M l r else if (M.go i.toNat t).2.2 ≠ 0 then (M, [], (M.go i.toNat t).2.2) else runA (M.go i.toNat t).1 (l ++ [(M.go i.toNat t).2.1]) r
def Md.Run (M : Md) (l : List Int) : Md × List Dd × Int :=
  if 100000 < l.length then (M, [], 5) else if l.any (noTh M.ts.length) = true then (M, [], 2)
  else if (runA M [] l).2.2 ≠ 0 then (M, [], (runA M [] l).2.2) else ((runA M [] l).1, (runA M [] l).2.1, 0)
def Dd.cells (d : Dd) : List Value := [.int .i64 d.i, .int .i64 d.a.k, .int .i64 d.a.w, .int .u64 d.a.b, .int .u64 d.a.a, .bool d.wt, .bool d.en]
def ddF (l : List Dd) (i : Nat) : List Value := (l.getD i dd0).cells
theorem u_did : Try.prog.underlying 79 = some (.slice 64) := by kernel_rfl
theorem i_did : (Try.prog.info? 64).map (fun i => (i.zero, i.size, i.bytes)) = some (some (.agg #[.int .i64 0, .int .i64 0, .int .i64 0, .int .u64 0, .int .u64 0, .bool false, .bool false]), 7, 48) := by kernel_rfl
theorem go_len (M : Md) (i : Nat) (t : Td) : (M.go i t).1.ts.length = M.ts.length := by
  unfold Md.go; split
  · rfl
  · simp
theorem go_few {M : Md} {n : Nat} (h : M.few n) {i : Nat} {t : Td} (ht : M.ts[i]? = some t) : (M.go i t).1.few (n + 1) := by
  unfold Md.go; split
  · intro j u hu; have := h j u hu; omega
  · intro j u hu
    dsimp only at hu
    rw [List.getElem?_set] at hu
    split at hu
    · split at hu
      · cases hu
        have := h i t ht
        dsimp only
        split <;> omega
      · cases hu
    · have := h j u hu; omega
theorem ddF_app (l : List Dd) (d : Dd) {k : Nat} (hk : k < l.length + 1) : ddF (l ++ [d]) k = upd (ddF l) l.length d.cells k := by
  unfold ddF
  by_cases e : k = l.length
  · subst e
    rw [upd_eq, List.getD_eq_getElem?_getD, List.getElem?_append_right (Nat.le_refl _), Nat.sub_self]; rfl
  · rw [upd_ne _ _ e, List.getD_eq_getElem?_getD, List.getElem?_append_left (by omega), List.getD_eq_getElem?_getD]
theorem th_nat {M : Md} {i : Nat} {t : Td} (h : M.ts[i]? = some t) : M.th i = some t := by unfold Md.th; rw [if_neg (by omega), Int.toNat_natCast]; exact h
theorem runA_end {M : Md} {l : List Dd} {i : Int} {r : List Int} {t : Td} (h : M.th i = some t) (he : t.P.en = true) : runA M l (i :: r) = runA M l r := by
  conv => lhs; unfold runA
  rw [h]; dsimp only; rw [if_pos he]
theorem runA_go {M : Md} {l : List Dd} {i : Nat} {r : List Int} {t : Td} (h : M.th i = some t) (he : t.P.en = false) : runA M l (i :: r) = if (M.go i t).2.2 ≠ 0 then (M, [], (M.go i t).2.2) else runA (M.go i t).1 (l ++ [(M.go i t).2.1]) r := by
  conv => lhs; unfold runA
  rw [h]; dsimp only; rw [if_neg (by rw [he]; simp), Int.toNat_natCast]
/-- What run leaves: the machine, and the row of what was done, which is new. -/
def RunQ (w : World) (F : List Nat) (q : Nat) (R : Md × List Dd × Int) (e : Ending) (w' : World) : Prop :=
  if R.2.2 = 0 then ∃ a c, Ret (.tuple #[.slice a R.2.1.length c, .int .i64 0]) (fun w' => Now w F q R.1 w' ∧ Gr 64 7 w.heap.size w' a R.2.1.length c (ddF R.2.1)) e w'
  else Ret (.tuple #[.slice none 0 0, .int .i64 R.2.2]) (fun w' => Go F w w') e w'
theorem RunQ.ok {w w' : World} {F : List Nat} {q : Nat} {M : Md} {r : List Dd} {e : Ending} (h : RunQ w F q (M, r, 0) e w') : ∃ a c, Ret (.tuple #[.slice a r.length c, .int .i64 0]) (fun w' => Now w F q M w' ∧ Gr 64 7 w.heap.size w' a r.length c (ddF r)) e w' := by
  unfold RunQ at h; rwa [if_pos rfl] at h
theorem RunQ.err {w w' : World} {F : List Nat} {q : Nat} {M : Md} {r : List Dd} {er : Int} (he : er ≠ 0) {e : Ending} (h : RunQ w F q (M, r, er) e w') : Ret (.tuple #[.slice none 0 0, .int .i64 er]) (fun w' => Go F w w') e w' := by
  unfold RunQ at h; rwa [if_neg he] at h
section
variable {w : World} {F : List Nat} {q : Nat} {M : Md} {a : Option Addr} {n c b o : Nat} {l : List Int}
set_option maxRecDepth 100000 in
set_option maxHeartbeats 4000000 in
theorem mat_run (h : MAt w F q M) {m : Nat} (hfew : M.few m) (hL : Li .i64 w a n c b o l) (hb : 0 < n → b ∉ F) (hn : n ≤ 100000) (hm : m < 900000000) (hall : ∀ p ∈ l, ∃ t, M.th p = some t) :
    Calls Try.prog 66 #[.pointer (some ⟨q, 0, none⟩), .slice a n c] w (RunQ w F q (runA M [] l)) := by
  have HFW := Lib.hid hfew
  have HL := Lib.hid hL
  have HB := Lib.hid hb
  have HA := Lib.hid hall
  have HH := Lib.hid h
  have HM := Lib.hid hm
  have HNN := Lib.hid hn
  have hn2 : (n : Int) ≤ 100000 := by omega
  clear h hfew hL hb hall hm hn
  go_enter Try.func66, Try.ntmps66
  go_wp2_with fail
  go_loopw [6, 13] (fun sl i wr => ∃ (k : Nat) (M1 : Md) (r : List Dd) (a1 : Option Addr) (c1 : Nat), k ≤ n ∧ i = .int .i64 k ∧ sl = .slice a1 r.length c1 ∧ r.length ≤ k ∧ Now w F q M1 wr ∧ M1.ts.length = M.ts.length ∧ M1.few (m + k) ∧ Gr 64 7 w.heap.size wr a1 r.length c1 (ddF r) ∧ runA M [] l = runA M1 r (l.drop k)) (fun _ i _ => n - (intOf i).toNat)
  case atStart => exact ⟨0, M, [], none, 0, Nat.zero_le _, rfl, rfl, Nat.le_refl _, ⟨Go.of (Frm.refl _ _), HH.out⟩, rfl, HFW.out, Gr.nil _ _ _ _ _, rfl⟩
  case round =>
    obtain ⟨k, M1, r, a1, c1, hk, rfl, rfl, hrk, hnow, hml, hfw, hG, hrun⟩ := hrel
    by_cases hlt : k < n
    · obtain ⟨hgo, hmat⟩ := hnow
      have hLw := HL.out.frm hgo.frm HB.out
      obtain ⟨p, hp, _, hcp⟩ := hLw.get hlt
      have hix := ix_pick (c := c) hLw.ad hlt
      obtain ⟨t0, ht0⟩ := HA.out p (List.mem_of_getElem? hp)
      obtain ⟨i, rfl, hi0⟩ := Md.th_some ht0
      have hil : i < M1.ts.length := by rw [hml]; exact (List.getElem?_eq_some_iff.1 hi0).1
      obtain ⟨t, ht⟩ : ∃ t, M1.ts[i]? = some t := ⟨_, List.getElem?_eq_getElem hil⟩
      have hth := th_nat ht
      have hdrop : l.drop k = (i : Int) :: l.drop (k + 1) := by
        rw [List.drop_eq_getElem_cons (by rw [HL.out.len]; exact hlt)]; congr 1
        have := List.getElem?_eq_getElem (show k < l.length by rw [HL.out.len]; exact hlt)
        rw [hp] at this; exact (Option.some.inj this).symm
      have hD := mat_Done hmat i
      have hd : M1.done i = t.P.en := by unfold Md.done; rw [hth]
      rw [hd] at hD
      have HD := Lib.hid hD
      have HR := Lib.hid hrun
      have HG := Lib.hid hG
      have HGO := Lib.hid hgo
      have HMT := Lib.hid hmat
      have HFE := Lib.hid hfw
      have HML := Lib.hid hml
      have HDR := Lib.hid hdrop
      have HTH := Lib.hid hth
      have HT := Lib.hid ht
      have HRK := Lib.hid hrk
      clear hD hd hrun hG hgo hmat hfw hml hdrop hth ht hp ht0 hi0 hLw hil hrk
      cases hen : t.P.en with
      | true =>
        rw [hen] at HD
        have HEN := Lib.hid hen
        clear hen
        go_wp2_with fail
        refine HD.out.mono ?_
        rintro e w1 ⟨rfl, hF⟩
        have HF := Lib.hid hF
        clear hF
        go_wp2
        go_roundw
        case rel => exact ⟨k + 1, M1, r, a1, c1, by omega, by go_num, rfl, by have := HRK.out; omega, ⟨HGO.out.trans (Go.of HF.out), HMT.out.quiet HF.out⟩, HML.out, fun j u hu => by have := HFE.out j u hu; omega, HG.out.frm0 HF.out, by rw [HR.out, HDR.out, runA_end HTH.out HEN.out]⟩
        case measure => simp [intOf]; omega
      | false =>
        rw [hen] at HD
        have HEN := Lib.hid hen
        clear hen
        go_wp2_with fail
        refine HD.out.mono ?_
        rintro e w1 ⟨rfl, hF⟩
        have hs := mat_step (HMT.out.quiet hF) HT.out HEN.out (by have := HFE.out i t HT.out; have := HM.out; have := HNN.out; omega) (by have := HFE.out i t HT.out; have := HM.out; have := HNN.out; omega)
        have hlen := go_len M1 i t
        have hfe := go_few HFE.out HT.out
        have hr2 : runA M [] l = if (M1.go i t).2.2 ≠ 0 then (M1, [], (M1.go i t).2.2) else runA (M1.go i t).1 (r ++ [(M1.go i t).2.1]) (l.drop (k + 1)) := by
          rw [HR.out, HDR.out, runA_go HTH.out HEN.out]
        generalize M1.go i t = R at hs hlen hfe hr2
        obtain ⟨M2, ⟨di, ⟨ak, aw, ab, aa⟩, dw, de⟩, er⟩ := R
        have HS := Lib.hid (show Calls Try.prog 60 #[.pointer (some ⟨q, 0, none⟩), .int .i64 (i : Int)] w1 (Ret (.tuple #[.agg #[.int .i64 di, .int .i64 ak, .int .i64 aw, .int .u64 ab, .int .u64 aa, .bool dw, .bool de], .int .i64 er]) (Now w1 F q M2)) from hs)
        have HF := Lib.hid (HGO.out.trans (Go.of hF))
        have HG1 := Lib.hid (HG.out.frm0 hF)
        have HR2 := Lib.hid hr2
        have HLEN := Lib.hid hlen
        have HFE2 := Lib.hid hfe
        clear hF hs hr2 hlen hfe HG HGO HD HR
        go_wp2_with fail
        refine HS.out.mono ?_
        rintro e w2 ⟨rfl, hg2, hm2⟩
        have hFlt := HMT.out.lt
        have hws := HF.out.frm.size
        have hFw : ∀ x ∈ F, x < w.heap.size := HH.out.lt
        have hG2 := HG1.out.frm hg2.frm (fun x hx hx2 => by have := (HG1.out.from_ x hx).1; have := hFw x hx2; omega)
        have HG2 := Lib.hid hG2
        have HM2 := Lib.hid hm2
        have HF2 := Lib.hid (HF.out.trans hg2)
        clear hG2 hm2 hg2 hFlt HG1 HF HS
        by_cases he : er = 0
        · subst he
          have hal : Frm [] w2 (w2.alloc (.cells #[.int .i64 di, .int .i64 ak, .int .i64 aw, .int .u64 ab, .int .u64 aa, .bool dw, .bool de] 64)) := (Frm.refl _ _).alloc _
          have hal2 : Frm [] w2 ((w2.alloc (.cells #[.int .i64 di, .int .i64 ak, .int .i64 aw, .int .u64 ab, .int .u64 aa, .bool dw, .bool de] 64)).alloc (.cells #[.int .i64 di, .int .i64 ak, .int .i64 aw, .int .u64 ab, .int .u64 aa, .bool dw, .bool de] 64)) := hal.alloc _
          have HROW := Lib.hid (HG2.out.frm0 hal2)
          have hnew := heap_alloc_new (w2.alloc (.cells #[.int .i64 di, .int .i64 ak, .int .i64 aw, .int .u64 ab, .int .u64 aa, .bool dw, .bool de] 64)) (.cells #[.int .i64 di, .int .i64 ak, .int .i64 aw, .int .u64 ab, .int .u64 aa, .bool dw, .bool de] 64)
          have HGG := Lib.hid hnew
          have HAL := Lib.hid hal2
          have hrl : r.length ≤ 100000 := by have := HRK.out; have := HNN.out; omega
          have hwz := HF2.out.frm.size
          have hww : w.heap.size ≤ ((w2.alloc (.cells #[.int .i64 di, .int .i64 ak, .int .i64 aw, .int .u64 ab, .int .u64 aa, .bool dw, .bool de] 64)).alloc (.cells #[.int .i64 di, .int .i64 ak, .int .i64 aw, .int .u64 ab, .int .u64 aa, .bool dw, .bool de] 64)).heap.size := by have := hal2.size; omega
          have HWW := Lib.hid hww
          have HRL := Lib.hid hrl
          clear hal hal2 hnew hrl hww
          go_wp2_with (at_builtin; refine wpl_gr u_did i_did (by decide) (by decide) (by decide) rfl (.tmp 29) (.tmp 31) rfl (B := w.heap.size) (g2 := (w2.alloc (.cells #[.int .i64 di, .int .i64 ak, .int .i64 aw, .int .u64 ab, .int .u64 aa, .bool dw, .bool de] 64)).heap.size) (l := [.int .i64 di, .int .i64 ak, .int .i64 aw, .int .u64 ab, .int .u64 aa, .bool dw, .bool de]) (by simp [Act.eval]) (by simp [Act.eval]) HROW.out rfl (by simp [Value.oneCell']) HGG.out (by have := HRL.out; omega) HWW.out ?_; intro a2 c2 w3 hG3 hF3 hb3; have HG3 := Lib.hid hG3; have HF3 := Lib.hid hF3; clear hG3 hF3 hb3)
          go_roundw
          case rel =>
            have hFa := HAL.out
            have hgn : ∀ x ∈ bkG a1, NI ((w2.alloc (.cells #[.int .i64 di, .int .i64 ak, .int .i64 aw, .int .u64 ab, .int .u64 aa, .bool dw, .bool de] 64)).alloc (.cells #[.int .i64 di, .int .i64 ak, .int .i64 aw, .int .u64 ab, .int .u64 aa, .bool dw, .bool de] 64)) x := fun x hx => by
              obtain ⟨_, _, ⟨hh, _⟩ | ⟨g2, cs, hg2, _, hb, _⟩⟩ := HROW.out
              · rw [hh] at hx; simp [bkG] at hx
              · rw [hg2] at hx; simp [bkG] at hx; subst hx; exact ni_of hb (by decide)
            have hdis : ∀ x ∈ F, x ∉ bkG a1 := fun x hx hx2 => by have := (HROW.out.from_ x hx2).1; have := HH.out.lt x hx; omega
            have hM3 := (HM2.out.quiet hFa).other ⟨_, HF3.out, fun x hx => ⟨hx, hgn x hx⟩⟩ hdis
            have hG4 : Go F w w3 := by
              obtain ⟨D, hf, hD⟩ := HF2.out.trans (Go.of hFa)
              exact ⟨D, hf.trans_new HF3.out (fun x hx => .inr (HROW.out.from_ x hx).1), hD⟩
            refine ⟨k + 1, M2, r ++ [⟨di, ⟨ak, aw, ab, aa⟩, dw, de⟩], a2, c2, by omega, by go_num, by simp, by have := HRK.out; simp; omega, ⟨hG4, hM3⟩, by rw [HLEN.out]; exact HML.out, HFE2.out, ?_, by rw [HR2.out, if_neg (by simp)]⟩
            rw [List.length_append, List.length_singleton]
            exact HG3.out.congr fun k hk => ddF_app _ _ hk
          case measure => simp [intOf]; omega
        · have hb0 : (er != 0) = true := by simp [he]
          have HE := Lib.hid he
          clear he
          go_wp2
          go_ret2
          unfold RunQ
          rw [HR2.out, if_pos HE.out, if_neg HE.out]
          exact ⟨rfl, HF2.out.trans (Go.of ((Frm.refl _ _).alloc _))⟩
    · have hkn : k = n := by omega
      have hdr : l.drop k = [] := List.drop_eq_nil_of_le (by rw [HL.out.len]; omega)
      rw [hdr] at hrun
      have HR := Lib.hid hrun
      have HG := Lib.hid hG
      have HNOW := Lib.hid hnow
      clear hkn hdr hrun hG hnow hfw hml hrk
      go_wp2
      go_ret2
      unfold RunQ
      rw [HR.out]
      unfold runA
      rw [if_pos rfl]
      exact ⟨a1, c1, rfl, HNOW.out, HG.out⟩
end
end Go.Proofs.Ytieccmmnfnpcoaa
