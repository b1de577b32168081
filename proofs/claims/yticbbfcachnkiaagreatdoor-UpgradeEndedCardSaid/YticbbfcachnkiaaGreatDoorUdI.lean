/- The law's ends, of a move and of a decision (by gen_udi.py). -/
import Derived.Test.YticbbfcachnkiaaGreatDoorUdE
namespace Go.Proofs.YticbbfcachnkiaaGreatDoor
open Go.ChangeShapes Go.WideShapes Go.ChangeAt Go.RowKit
set_option linter.unusedVariables false
set_option linter.unusedSimpArgs false
theorem step_now {T : Nat} {ws ws' : List Int} {s s' : Ds} {wait : Bool} (hl : s.ps.length = 5) (h : s.step T ws = some (s', ws', wait)) : s.now < 5 := by
  rcases Nat.lt_or_ge s.now 5 with h1 | h1
  · exact h1
  · exfalso
    have hn : s.ps[s.now]? = none := List.getElem?_eq_none (by omega)
    have hg : s.goOn = s := by unfold Ds.goOn; rw [hn]
    unfold Ds.step at h
    rw [hg, hn] at h
    cases h
/-- The law's copy of its world is no block of a part. -/
theorem hxn {w wr : World} {B T N k : Nat} {P : Part} {x0 x1 x2 : Value} (h0 : w.heap[k]? = some (.cells #[x0, x1, x2] 27 (0, 0))) (h : wr.heap[k]? = some (.cells #[x0, x1, x2] 27 (0, 0))) (hP : PartAt wr B T N P) : k ∉ P.bl := by
  intro hx
  simp only [Part.bl, List.mem_cons] at hx
  rcases hx with rfl | rfl | rfl | hx
  · have := hP.mv.obj.symm.trans h; simp at this
  · obtain ⟨m, hp, _⟩ := hP.en
    have := hp.obj.symm.trans h
    simp at this
  · obtain ⟨m, hp, _⟩ := hP.le
    have := hp.obj.symm.trans h
    simp at this
  · obtain ⟨_, cs, hc⟩ := hP.wk.own k hx
    have := hc.symm.trans h
    simp at this
section
variable {w : World} {B T N np p d cc : Nat} {ws ws' : List Int} {r : Int} {P : Part} {m' : Mv} {g' : Gs}
set_option maxRecDepth 1000000 in
set_option maxHeartbeats 4000000 in
theorem ends_mv (h : Sc T w B np p d cc ws) (o : Int) (hP : PartAt w B T N P) (hN : N ≤ 800) (hE : endsM T 60 ws P.m P.g = some (ws', m', g')) (hr : m'.res = r) :
    Calls Tryz.prog 19 #[.agg #[.pointer (some ⟨p, 0, none⟩), .pointer (some ⟨np, 0, none⟩), .int .i64 o], .iface 76 (.pointer (some ⟨P.q, 0, none⟩)), .int .u64 r] w (fun e w' => ∃ P', Ret (.bool true) (fun w' => Frm (d :: P.bl) w w' ∧ Sc T w' B np p d cc ws' ∧ PartAt w' B T (N + 120) P' ∧ P'.q = P.q ∧ P'.m = m' ∧ P'.g = g' ∧ ∀ x ∈ P'.bl, x ∈ P.bl ∨ w.heap.size ≤ x) e w') := by
  obtain ⟨X, hX⟩ : ∃ X, X = w.alloc (.cells #[.pointer (some ⟨p, 0, none⟩), .pointer (some ⟨np, 0, none⟩), .int .i64 o] 27) := ⟨_, rfl⟩
  have hFX : Frm [] w X := by rw [hX]; exact (Frm.refl _ _).alloc _
  have hb0 : X.heap[w.heap.size]? = some (.cells #[.pointer (some ⟨p, 0, none⟩), .pointer (some ⟨np, 0, none⟩), .int .i64 o] 27 (0, 0)) := by rw [hX]; exact heap_alloc_new _ _
  have HFX := Lib.hid hFX
  have HB0 := Lib.hid hb0
  have HS := Lib.hid h
  have HP := Lib.hid hP
  have HE := Lib.hid hE
  have HRR := Lib.hid hr
  have hsX := hFX.size
  have hsX1 : X.heap.size = w.heap.size + 1 := by rw [hX]; simp
  have hnin : w.heap.size ∉ d :: P.bl := by
    intro hx
    rcases List.mem_cons.1 hx with hx | hx
    · have := h.mem.dlt; omega
    · have := hP.lt _ hx; omega
  clear h hP hE hr hFX hb0
  go_enter Tryz.func19, Tryz.ntmps19
  go_wp2_with fail
  rw [← hX]
  clear hX
  go_loopw [7] (fun i wr => ∃ j : Nat, j ≤ 60 ∧ i = .int .i64 (j : Int) ∧ ∃ ws1 P1, Frm (d :: P.bl) X wr ∧ Hid (Sc T wr B np p d cc ws1 ∧ PartAt wr B T (N + 2 * j) P1 ∧ P1.q = P.q ∧ (∀ x ∈ P1.bl, x ∈ P.bl ∨ w.heap.size ≤ x)) ∧ endsM T (60 - j) ws1 P1.m P1.g = some (ws', m', g')) (fun i _ => 60 - (intOf i).toNat)
  case atStart => exact ⟨0, Nat.zero_le _, rfl, ws, P, Frm.refl _ _, Lib.hid ⟨HS.out.frm0 HFX.out, HP.out.frm0 HFX.out, rfl, fun x hx => .inl hx⟩, HE.out⟩
  case round =>
    obtain ⟨j, hj, rfl, ws1, P1, hF, HI, hE⟩ := hrel
    have HF := Lib.hid hF
    have HE1 := Lib.hid hE
    have hgb := hF.heap HB0.out hnin
    obtain ⟨c0, c1, c2⟩ := cells3 hgb
    have hgl := lt_of_heap hgb
    clear hF hE hgb
    by_cases hz : P1.m.nx = 0
    · have hE2 : (ws1, P1.m, P1.g) = (ws', m', g') := by
        have := HE1.out
        unfold endsM at this
        split at this
        · rw [if_pos hz] at this; exact Option.some.inj this
        · rw [if_pos hz] at this; exact Option.some.inj this
      simp only [Prod.mk.injEq] at hE2
      obtain ⟨rfl, e1, e2⟩ := hE2
      have HE1e := Lib.hid e1
      have HE2e := Lib.hid e2
      have hdn : (P1.m.nx == 0) = true := by simp [hz]
      have hre : P1.m.res = r := by rw [e1]; exact HRR.out
      have HD := Lib.hid (Done_mv HI.out.2.1.mv)
      have HR := Lib.hid (Result_mv HI.out.2.1.mv)
      rw [HI.out.2.2.1] at HD HR
      rw [hre] at HR
      rw [hdn] at HD
      have hrr : (r == r) = true := by simp
      clear e1 e2 hdn hre hz
      by_cases hlt : j < 60
      · have hle : decide ((j : Int) < 60) = true := by simp; omega
        go_wp2_with fail
        refine HD.out.mono ?_
        rintro e w2 ⟨rfl, rfl⟩
        go_wp2_with fail
        refine HD.out.mono ?_
        rintro e w2 ⟨rfl, rfl⟩
        go_wp2_with fail
        refine HR.out.mono ?_
        rintro e w2 ⟨rfl, rfl⟩
        go_wp2
        go_ret
        exact ⟨P1, rfl, HFX.out.nil.trans HF.out, HI.out.1, HI.out.2.1.more (by omega), HI.out.2.2.1, HE1e.out, HE2e.out, HI.out.2.2.2⟩
      · have hle : decide ((j : Int) < 60) = false := by simp; omega
        go_wp2_with fail
        refine HD.out.mono ?_
        rintro e w2 ⟨rfl, rfl⟩
        go_wp2_with fail
        refine HR.out.mono ?_
        rintro e w2 ⟨rfl, rfl⟩
        go_wp2
        go_ret
        exact ⟨P1, rfl, HFX.out.nil.trans HF.out, HI.out.1, HI.out.2.1.more (by omega), HI.out.2.2.1, HE1e.out, HE2e.out, HI.out.2.2.2⟩
    · obtain ⟨f, ws2, m2, g2, hf, hmo, hE3⟩ : ∃ f ws2 m2 g2, 60 - j = f + 1 ∧ mstpO T ws1 P1.m P1.g = some (m2, g2, ws2, false, 0) ∧ endsM T f ws2 m2 g2 = some (ws', m', g') := by
        have := HE1.out
        cases hk : 60 - j with
        | zero => rw [hk] at this; unfold endsM at this; rw [if_neg hz] at this; cases this
        | succ f =>
          rw [hk] at this
          unfold endsM at this
          rw [if_neg hz] at this
          split at this
          · rename_i m2 g2 ws2 wait no hmo
            split at this
            · rename_i hwn
              obtain ⟨rfl, rfl⟩ := hwn
              exact ⟨f, ws2, m2, g2, rfl, hmo, this⟩
            · cases this
          · cases this
      have hle : decide ((j : Int) < 60) = true := by simp; omega
      have HD := Lib.hid (Done_mv HI.out.2.1.mv)
      rw [HI.out.2.2.1, show (P1.m.nx == 0) = false by simp [hz]] at HD
      have hB := HI.out.1.hi
      have hlo := HI.out.1.lo
      have HST := Lib.hid (part_step (N := N + 2 * j) HI.out.1.mem HI.out.2.1 HI.out.1.laid HI.out.1.bnd (by omega) (by omega) hlo.1 hB.2.2.2 hmo)
      rw [HI.out.2.2.1] at HST
      have HE3 := Lib.hid hE3
      have HFf := Lib.hid hf
      have hj60 : j < 60 := by omega
      clear hmo hE3 hf hz
      go_wp2_with fail
      refine HD.out.mono ?_
      rintro e w2 ⟨rfl, rfl⟩
      go_wp2_with fail
      refine HST.out.mono ?_
      rintro e w3 ⟨rfl, P2, hS⟩
      have HSt := Lib.hid hS
      clear hS
      go_wp2
      go_roundw
      case rel =>
        have hS := HSt.out
        have hsw := HFX.out.size
        have hsf := HF.out.size
        have hbl2 : ∀ x ∈ P2.bl, x ∈ P.bl ∨ w.heap.size ≤ x := fun x hx => by
          rcases hS.bl x hx with h1 | h1
          · exact HI.out.2.2.2 x h1
          · exact .inr (by omega)
        refine ⟨j + 1, by omega, by go_num, ws2, P2, HF.out.trans_new hS.frm (fun x hx => ?_), Lib.hid ⟨HI.out.1.step hS.frm (fun x hx => HI.out.2.1.lo x hx) hS.mem hS.laid hS.bnd hS.len, by rw [show N + 2 * (j + 1) = N + 2 * j + 2 by omega]; exact hS.at_, hS.q.trans HI.out.2.2.1, hbl2⟩, ?_⟩
        · rcases List.mem_cons.1 hx with rfl | hx
          · exact .inl (by simp)
          · rcases HI.out.2.2.2 x hx with h1 | h1
            · exact .inl (.tail _ h1)
            · by_cases h2 : X.heap.size ≤ x
              · exact .inr h2
              · exfalso
                have hx2 : x = w.heap.size := by have := lt_of_heap HB0.out; omega
                exact hxn HB0.out (HF.out.heap HB0.out hnin) HI.out.2.1 (hx2 ▸ hx)
        · rw [show 60 - (j + 1) = f by have := HFf.out; omega, hS.m, hS.g]; exact HE3.out
      case measure => simp [intOf]; omega
end
section
variable {w : World} {B T N np p d cc : Nat} {ws ws' : List Int} {r : Int} {P : Nat → Part} {D n0 : Nat} {s s' : Ds}
set_option maxRecDepth 1000000 in
set_option maxHeartbeats 4000000 in
theorem ends_d (h : Sc T w B np p d cc ws) (o : Int) (hP : DAt w B T N D P s) (hDB : B ≤ D) (hN : N ≤ 800) (hE : endsD T 60 0 ws s = some (n0, ws', s')) (hr : s'.res = r) :
    Calls Tryz.prog 19 #[.agg #[.pointer (some ⟨p, 0, none⟩), .pointer (some ⟨np, 0, none⟩), .int .i64 o], .iface 57 (.pointer (some ⟨D, 0, none⟩)), .int .u64 r] w (fun e w' => ∃ P', Ret (.bool true) (fun w' => Frm (d :: D :: bls P) w w' ∧ Sc T w' B np p d cc ws' ∧ DAt w' B T (N + 120) D P' s' ∧ ∀ i, i < 5 → ∀ x ∈ (P' i).bl, x ∈ (P i).bl ∨ w.heap.size ≤ x) e w') := by
  obtain ⟨X, hX⟩ : ∃ X, X = w.alloc (.cells #[.pointer (some ⟨p, 0, none⟩), .pointer (some ⟨np, 0, none⟩), .int .i64 o] 27) := ⟨_, rfl⟩
  have hFX : Frm [] w X := by rw [hX]; exact (Frm.refl _ _).alloc _
  have hb0 : X.heap[w.heap.size]? = some (.cells #[.pointer (some ⟨p, 0, none⟩), .pointer (some ⟨np, 0, none⟩), .int .i64 o] 27 (0, 0)) := by rw [hX]; exact heap_alloc_new _ _
  have HFX := Lib.hid hFX
  have HB0 := Lib.hid hb0
  have HS := Lib.hid h
  have HP := Lib.hid hP
  have HE := Lib.hid hE
  have HRR := Lib.hid hr
  have hsX := hFX.size
  have hsX1 : X.heap.size = w.heap.size + 1 := by rw [hX]; simp
  have hnin : w.heap.size ∉ d :: D :: bls P := by
    intro hx
    rcases List.mem_cons.1 hx with hx | hx
    · have := h.mem.dlt; omega
    rcases List.mem_cons.1 hx with hx | hx
    · have := hP.obj.lt; omega
    · obtain ⟨i, hi, hx⟩ := mem_bls.1 hx
      have := (hP.at_ i hi).lt _ hx; omega
  clear h hP hE hr hFX hb0
  go_enter Tryz.func19, Tryz.ntmps19
  go_wp2_with fail
  rw [← hX]
  clear hX
  go_loopw [7] (fun i wr => ∃ j : Nat, j ≤ 60 ∧ i = .int .i64 (j : Int) ∧ ∃ ws1 s1 P1, Frm (d :: D :: bls P) X wr ∧ Hid (Sc T wr B np p d cc ws1 ∧ DAt wr B T (N + 2 * j) D P1 s1 ∧ (∀ i, i < 5 → ∀ x ∈ (P1 i).bl, x ∈ (P i).bl ∨ w.heap.size ≤ x)) ∧ endsD T (60 - j) j ws1 s1 = some (n0, ws', s')) (fun i _ => 60 - (intOf i).toNat)
  case atStart => exact ⟨0, Nat.zero_le _, rfl, ws, s, P, Frm.refl _ _, Lib.hid ⟨HS.out.frm0 HFX.out, HP.out.frm0 HFX.out, fun i hi x hx => .inl hx⟩, HE.out⟩
  case round =>
    obtain ⟨j, hj, rfl, ws1, s1, P1, hF, HI, hE⟩ := hrel
    have HF := Lib.hid hF
    have HE1 := Lib.hid hE
    have hgb := hF.heap HB0.out hnin
    obtain ⟨c0, c1, c2⟩ := cells3 hgb
    have hgl := lt_of_heap hgb
    clear hF hE hgb
    by_cases hz : s1.now = 5
    · have hE2 : (j, ws1, s1) = (n0, ws', s') := by
        have := HE1.out
        unfold endsD at this
        split at this
        · rw [if_pos hz] at this; exact Option.some.inj this
        · rw [if_pos hz] at this; exact Option.some.inj this
      simp only [Prod.mk.injEq] at hE2
      obtain ⟨e0, rfl, rfl⟩ := hE2
      have HD := Lib.hid (Done_d HI.out.2.1.obj)
      have HR := Lib.hid (Result_d HI.out.2.1.obj)
      rw [if_pos hz, HRR.out] at HR
      rw [show (s1.now == 5) = true by simp [hz]] at HD
      have hrr : (r == r) = true := by simp
      clear e0 hz
      by_cases hlt : j < 60
      · have hle : decide ((j : Int) < 60) = true := by simp; omega
        go_wp2_with fail
        refine HD.out.mono ?_
        rintro e w2 ⟨rfl, rfl⟩
        go_wp2_with fail
        refine HD.out.mono ?_
        rintro e w2 ⟨rfl, rfl⟩
        go_wp2_with fail
        refine HR.out.mono ?_
        rintro e w2 ⟨rfl, rfl⟩
        go_wp2
        go_ret
        exact ⟨P1, rfl, HFX.out.nil.trans HF.out, HI.out.1, ⟨HI.out.2.1.obj, HI.out.2.1.ps, HI.out.2.1.len, fun i hi => (HI.out.2.1.at_ i hi).more (by omega), HI.out.2.1.dis, HI.out.2.1.dn, HI.out.2.1.lo⟩, HI.out.2.2⟩
      · have hle : decide ((j : Int) < 60) = false := by simp; omega
        go_wp2_with fail
        refine HD.out.mono ?_
        rintro e w2 ⟨rfl, rfl⟩
        go_wp2_with fail
        refine HR.out.mono ?_
        rintro e w2 ⟨rfl, rfl⟩
        go_wp2
        go_ret
        exact ⟨P1, rfl, HFX.out.nil.trans HF.out, HI.out.1, ⟨HI.out.2.1.obj, HI.out.2.1.ps, HI.out.2.1.len, fun i hi => (HI.out.2.1.at_ i hi).more (by omega), HI.out.2.1.dis, HI.out.2.1.dn, HI.out.2.1.lo⟩, HI.out.2.2⟩
    · obtain ⟨f, ws2, s2, hf, hmo, hE3⟩ : ∃ f ws2 s2, 60 - j = f + 1 ∧ s1.step T ws1 = some (s2, ws2, false) ∧ endsD T f (j + 1) ws2 s2 = some (n0, ws', s') := by
        have := HE1.out
        cases hk : 60 - j with
        | zero => rw [hk] at this; unfold endsD at this; rw [if_neg hz] at this; cases this
        | succ f =>
          rw [hk] at this
          unfold endsD at this
          rw [if_neg hz] at this
          split at this
          · rename_i s2 ws2 wait hmo
            split at this
            · rename_i hwn
              subst hwn
              exact ⟨f, ws2, s2, rfl, hmo, this⟩
            · cases this
          · cases this
      have hle : decide ((j : Int) < 60) = true := by simp; omega
      have HD := Lib.hid (Done_d HI.out.2.1.obj)
      rw [show (s1.now == 5) = false by simp [hz]] at HD
      have hB := HI.out.1.hi
      have hlo := HI.out.1.lo
      have hn5 : s1.now < 5 := step_now HI.out.2.1.len hmo
      have HST := Lib.hid (Step_dec (N := N + 2 * j) HI.out.1.mem HI.out.2.1 HI.out.1.laid HI.out.1.bnd (by omega) (by omega) hlo.1 hB.2.2.2 hn5 hmo)
      have HE3 := Lib.hid hE3
      have HFf := Lib.hid hf
      have hj60 : j < 60 := by omega
      clear hmo hE3 hf hz
      go_wp2_with fail
      refine HD.out.mono ?_
      rintro e w2 ⟨rfl, rfl⟩
      go_wp2_with fail
      refine HST.out.mono ?_
      rintro e w3 ⟨rfl, P2, hS⟩
      have HSt := Lib.hid hS
      clear hS
      go_wp2
      go_roundw
      case rel =>
        have hS := HSt.out
        have hsw := HFX.out.size
        have hsf := HF.out.size
        have hbl2 : ∀ i, i < 5 → ∀ x ∈ (P2 i).bl, x ∈ (P i).bl ∨ w.heap.size ≤ x := fun i hi x hx => by
          rcases hS.bl i hi x hx with h1 | h1
          · exact HI.out.2.2 i hi x h1
          · exact .inr (by omega)
        refine ⟨j + 1, by omega, by go_num, ws2, s2, P2, HF.out.trans_new hS.frm (fun x hx => ?_), Lib.hid ⟨HI.out.1.step hS.frm (fun x hx => ?_) hS.mem hS.laid hS.bnd hS.len, by rw [show N + 2 * (j + 1) = N + 2 * j + 2 by omega]; exact hS.at_, hbl2⟩, ?_⟩
        · rcases List.mem_cons.1 hx with rfl | hx
          · exact .inl (by simp)
          rcases List.mem_cons.1 hx with rfl | hx
          · exact .inl (by simp)
          · obtain ⟨i, hi, hx⟩ := mem_bls.1 hx
            rcases HI.out.2.2 i hi x hx with h1 | h1
            · exact .inl (.tail _ (.tail _ (mem_bls.2 ⟨i, hi, h1⟩)))
            · by_cases h2 : X.heap.size ≤ x
              · exact .inr h2
              · exfalso
                have hx2 : x = w.heap.size := by have := lt_of_heap HB0.out; omega
                exact hxn HB0.out (HF.out.heap HB0.out hnin) (HI.out.2.1.at_ i hi) (hx2 ▸ hx)
        · rcases List.mem_cons.1 hx with rfl | hx
          · exact HI.out.2.1.lo
          · obtain ⟨i, hi, hx⟩ := mem_bls.1 hx
            exact (HI.out.2.1.at_ i hi).lo x hx
        · rw [show 60 - (j + 1) = f by have := HFf.out; omega]; exact HE3.out
      case measure => simp [intOf]; omega
end
end Go.Proofs.YticbbfcachnkiaaGreatDoor
