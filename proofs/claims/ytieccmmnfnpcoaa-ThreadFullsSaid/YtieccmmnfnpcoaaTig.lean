/- Stage 12: Run of a machine. -/
import Derived.Test.YtieccmmnfnpcoaaTif
namespace Go.Proofs.Ytieccmmnfnpcoaa
open Go.ChangeShapes Go.WideShapes Go.ChangeAt Go.RowKit
set_option linter.unusedVariables false
/-- What Run leaves. -/
def RunR (w : World) (F : List Nat) (q : Nat) (R : Md × List Dd × Int) (e : Ending) (w' : World) : Prop :=
  if R.2.2 = 0 then ∃ a c F', Ret (.tuple #[.slice a R.2.1.length c, .int .i64 0]) (fun w' => Go F w w' ∧ MAt w' F' q R.1 ∧ (∀ x ∈ F', x ∈ F ∨ w.heap.size ≤ x) ∧ Gr 64 7 w.heap.size w' a R.2.1.length c (ddF R.2.1) ∧ ∀ x ∈ bkG a, x ∉ F') e w'
  else Ret (.tuple #[.slice none 0 0, .int .i64 R.2.2]) (fun w' => Frm [] w w') e w'
section
variable {w : World} {F : List Nat} {q : Nat} {M : Md} {a : Option Addr} {n c b o : Nat} {l : List Int}
set_option maxRecDepth 100000 in
set_option maxHeartbeats 4000000 in
theorem mat_Run (h : MAt w F q M) {m : Nat} (hfew : M.few m) (hL : Li .i64 w a n c b o l) (hn : n ≤ 2147483647) (hm : m < 900000000) (hbl : 0 < n → b < w.heap.size) :
    Calls Try.prog 27 #[.pointer (some ⟨q, 0, none⟩), .slice a n c] w (RunR w F q (M.Run l)) := by
  have hmf : ∀ (fn : Fn) (first cap : Array Value) (w : World), (Instr.makeFunc fn first cap).run Try.prog w = .ok (.func fn first cap) w := fun _ _ _ _ => rfl
  have HN0 := Lib.hid (mat_none h)
  have hlen := hL.len
  by_cases hlong : 100000 < n
  · have hb1 : decide ((100000 : Int) < (n : Int)) = true := by simp; omega
    have hR : M.Run l = (M, [], 5) := by unfold Md.Run; rw [if_pos (by omega)]
    rw [hR]
    clear h hfew hL hn hm hbl hlen hlong hR
    go_enter Try.func27, Try.ntmps27
    go_wp2_with fail
    refine HN0.out.mono ?_
    rintro e w' ⟨rfl, rfl⟩
    go_wp2
    go_ret2
    exact ⟨rfl, Frm.refl _ _⟩
  have hb1 : decide ((100000 : Int) < (n : Int)) = false := by simp; omega
  have HCT := Lib.hid (contains_any h hL (by omega))
  cases hany : l.any (noTh M.ts.length) with
  | true =>
    have hR : M.Run l = (M, [], 2) := by unfold Md.Run; rw [if_neg (by omega), if_pos hany]
    rw [hR]
    rw [hany] at HCT
    clear h hfew hL hn hm hbl hlen hlong hR hany
    go_enter Try.func27, Try.ntmps27
    go_wp2_with fail
    refine HN0.out.mono ?_
    rintro e w' ⟨rfl, rfl⟩
    go_wp2_with fail
    refine HCT.out.mono ?_
    rintro e w' ⟨rfl, rfl⟩
    go_wp2
    go_ret2
    exact ⟨rfl, Frm.refl _ _⟩
  | false =>
    rw [hany] at HCT
    have hall : ∀ p ∈ l, ∃ t, M.th p = some t := fun p hp => by
      cases ht : M.th p with
      | some t => exact ⟨t, rfl⟩
      | none =>
        have := Md.th_none ht
        have h2 : l.any (noTh M.ts.length) = true := List.any_eq_true.2 ⟨p, hp, this⟩
        rw [hany] at h2; cases h2
    have hRR : M.Run l = if (runA M [] l).2.2 ≠ 0 then (M, [], (runA M [] l).2.2) else ((runA M [] l).1, (runA M [] l).2.1, 0) := by
      unfold Md.Run; rw [if_neg (by omega), if_neg (by rw [hany]; simp)]
    have HCP := Lib.hid (mat_Copy h)
    have HH := Lib.hid h
    have HFW := Lib.hid hfew
    have HL := Lib.hid hL
    have HBL := Lib.hid hbl
    have HM := Lib.hid hm
    have HALL := Lib.hid hall
    have HRR := Lib.hid hRR
    have HLONG := Lib.hid hlong
    clear h hfew hL hn hm hbl hlen hlong hRR hany hall
    go_enter Try.func27, Try.ntmps27
    go_wp2_with fail
    refine HN0.out.mono ?_
    rintro e w' ⟨rfl, rfl⟩
    go_wp2_with fail
    refine HCT.out.mono ?_
    rintro e w' ⟨rfl, rfl⟩
    go_wp2_with fail
    refine HCP.out.mono ?_
    rintro e w1 ⟨qc, Fc, rfl, hF1, hm1, hFc⟩
    have hrun := mat_run hm1 HFW.out (HL.out.frm0 hF1) (fun hp hx => by have := HBL.out hp; have := hFc b hx; omega) (by have := HLONG.out; omega) HM.out HALL.out
    have HRUN := Lib.hid hrun
    have HF1 := Lib.hid hF1
    have HFC := Lib.hid hFc
    have HM1 := Lib.hid hm1
    have HM0 := Lib.hid hm1
    clear hrun hF1 hFc hm1
    generalize runA M [] l = R at HRUN HRR
    obtain ⟨M2, r, er⟩ := R
    dsimp only at HRR
    by_cases he : er = 0
    · subst he
      have hRun : M.Run l = (M2, r, 0) := by rw [HRR.out, if_neg (by simp)]
      have HRN := Lib.hid hRun
      clear hRun
      go_wp2_with fail
      refine HRUN.out.mono ?_
      intro e w2 hQQ
      obtain ⟨a2, c2, rfl, ⟨hg2, hm2⟩, hG2⟩ := hQQ.ok
      clear hQQ
      have hs1 := HF1.out.size
      have hF2 : Frm [] w w2 := HF1.out.trans_new hg2.frm (fun x hx => .inr (HFC.out x hx))
      obtain ⟨X, ts, rfl, hX, hXM⟩ := hm2
      have hc0 := hX.b.c0
      have hc1 := hX.b.c1
      obtain ⟨X1, ts1, hq1, hX1, hXM1⟩ := HH.out.quiet hF2
      subst hq1
      have ho := hX1.b.obj
      have z0 := hX1.b.frz 0
      have z1 := hX1.b.frz 1
      have hql := hX1.b.lt
      have o0 := hX1.b.c0
      have o1 := hX1.b.c1
      have hqw : X1.q < w.heap.size := by obtain ⟨X3, ts3, hq3, hX3, _⟩ := HH.out; rw [← hq3]; exact hX3.b.lt
      have hqF : X1.q ∈ F := by
        obtain ⟨X3, ts3, hq3, hX3, _⟩ := HH.out; rw [← hq3]; exact hX3.fq
      have HX := Lib.hid hX
      have HO := Lib.hid ho
      have HF2 := Lib.hid hF2
      have HG2 := Lib.hid hG2
      have HXM := Lib.hid hXM
      have HQ := Lib.hid (And.intro hqw hqF)
      clear hg2 hG2 hF2 hX hX1 ho hXM1 hqw hqF hXM hs1 HM1
      go_wp2
      go_ret2
      unfold RunR
      rw [HRN.out, if_pos rfl]
      obtain ⟨hqw, hqF⟩ := HQ.out
      have hF3 : Frm [X1.q] w2 ((w2.setCell ⟨X1.q, 0, none⟩ (.pointer (some ⟨X.p, 0, none⟩))).setCell ⟨X1.q, 1, none⟩ (.slice X.ta X.tv.length X.tc)) :=
        ((Frm.refl [X1.q] w2).setCell ⟨X1.q, 0, none⟩ _ (.inl (by simp))).setCell ⟨X1.q, 1, none⟩ _ (.inl (by simp))
      have hni : NI w X1.q := by obtain ⟨X3, ts3, hq3, hX3, _⟩ := HH.out; rw [← hq3]; exact hX3.b.ni.1
      have hni2 : NI w2 X1.q := ni_of HO.out (by decide)
      have hFq : ∀ x ∈ Fc, x ∉ [X1.q] := fun x hx => by have := HFC.out x hx; simp; omega
      have hob := heap_setCell_at (i := 1) (.slice X.ta X.tv.length X.tc) (heap_setCell_at (i := 0) (.pointer (some ⟨X.p, 0, none⟩)) HO.out)
      have hX3 := HX.out.other (G := [X1.q]) ⟨_, hF3, fun x hx => ⟨hx, by simp at hx; subst hx; exact hni2⟩⟩ hFq
      have hgr : ∀ x ∈ bkG a2, w1.heap.size ≤ x := fun x hx => (HG2.out.from_ x hx).1
      have hs1 := HF1.out.size
      refine ⟨a2, c2, X1.q :: Fc, rfl, ⟨[X1.q], HF2.out.nil.trans hF3, fun x hx => by simp at hx; subst hx; exact ⟨hqF, hni⟩⟩, ⟨{ X with q := X1.q }, ts, rfl, ⟨⟨?_, hX3.b.mem, hX3.b.row, hX3.b.le⟩, hX3.tv, ?_, by simp, List.mem_cons_of_mem _ hX3.fp, List.mem_cons_of_mem _ hX3.fd, fun y hy => List.mem_cons_of_mem _ (hX3.ft y hy), fun y hy => ?_⟩, HXM.out⟩, fun x hx => ?_, ?_, fun x hx hx2 => ?_⟩
      · rw [hob]; simp
      · obtain ⟨Bf, h1, h2⟩ := hX3.pg
        exact ⟨Bf, fun i x hx => ⟨(h1 i x hx).1, fun y hy => List.mem_cons_of_mem _ ((h1 i x hx).2 y hy)⟩, h2⟩
      · simp only [List.mem_cons] at hy
        rcases hy with rfl | hy
        · exact Nat.lt_of_lt_of_le hqw (Nat.le_trans HF2.out.size hF3.size)
        · exact hX3.lt y hy
      · simp only [List.mem_cons] at hx
        rcases hx with rfl | hx
        · exact .inl hqF
        · exact .inr (HFC.out x hx)
      · have hG3 := HG2.out.frm hF3 (fun x hx => by have := hgr x hx; simp; omega)
        obtain ⟨m1, m2, m3 | ⟨g', cs', hg', hB', r'⟩⟩ := hG3
        · exact ⟨m1, m2, .inl m3⟩
        · exact ⟨m1, m2, .inr ⟨g', cs', hg', by omega, r'⟩⟩
      · simp only [List.mem_cons] at hx2
        rcases hx2 with h3 | h3
        · have := hgr x hx; omega
        · obtain ⟨X4, ts4, _, hX4, _⟩ := HM0.out
          have := hX4.lt x h3; have := hgr x hx; omega
    · have hRun : M.Run l = (M, [], er) := by rw [HRR.out, if_pos he]
      have hb0 : (er != 0) = true := by simp [he]
      have HRN := Lib.hid hRun
      have HE := Lib.hid he
      clear hRun he
      go_wp2_with fail
      refine HRUN.out.mono ?_
      intro e w2 hQQ
      obtain ⟨rfl, hg2⟩ := hQQ.err HE.out
      clear hQQ
      have HF2 := Lib.hid (HF1.out.trans_new hg2.frm (fun x hx => .inr (HFC.out x hx)))
      clear hg2
      go_wp2
      go_ret2
      unfold RunR
      rw [HRN.out, if_neg HE.out]
      exact ⟨rfl, HF2.out⟩
end
#print axioms mat_Run
end Go.Proofs.Ytieccmmnfnpcoaa
