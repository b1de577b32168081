/- UpgradeEnded: the walk (by gen_udo.py). -/
import Derived.Test.YticbbfcachnkiaaGreatDoorUdO
namespace Go.Proofs.YticbbfcachnkiaaGreatDoor
open Go.ChangeShapes Go.WideShapes Go.ChangeAt Go.RowKit Go.Maps Go.ChangeMaps
set_option linter.unusedVariables false
set_option linter.unusedSimpArgs false
set_option maxRecDepth 1000000 in
set_option maxHeartbeats 4000000 in
theorem ueA {w Y : World} {B np p d g : Nat} {lk ch : Bool} (v2 v3 v4 v6 v7 v8 v9 v10 v11 v12 v13 v14 v15 v16 v17 v18 v19 v20 v21 v22 v23 v24 v25 v26 v27 v28 v29 v30 v31 v32 v33 v34 v35 v36 v37 v38 v39 v40 v41 v42 v43 v44 v45 v46 v47 v48 v49 v50 v51 v52 v53 v54 v55 v56 v57 v58 v59 v60 v61 v62 v63 v64 v65 v66 v67 v68 v69 v70 v71 v72 v73 v74 v75 v76 v77 v78 v79 v80 v81 v82 v83 v84 v85 v86 v87 v88 v89 v90 v91 v92 v93 v94 v95 v96 v97 v98 v99 v100 v101 v102 v103 v104 : Value) (hK0 : Ke w Y B np p d g z13) :
    Code.wp Tryz.prog (ueT 3) (bodyPost Tryz.prog Tryz.f4 (Ret (.bool true) (fun w' => Frm [] w w'))) ⟨List.toArray (.bool lk :: .bool ch :: v2 :: v3 :: v4 :: .pointer (some ⟨g, 0, none⟩) :: v6 :: v7 :: v8 :: v9 :: v10 :: v11 :: v12 :: v13 :: v14 :: v15 :: v16 :: v17 :: v18 :: v19 :: v20 :: v21 :: v22 :: v23 :: v24 :: v25 :: v26 :: v27 :: v28 :: v29 :: v30 :: v31 :: v32 :: v33 :: v34 :: v35 :: v36 :: v37 :: v38 :: v39 :: v40 :: v41 :: v42 :: v43 :: v44 :: v45 :: v46 :: v47 :: v48 :: v49 :: v50 :: v51 :: v52 :: v53 :: v54 :: v55 :: v56 :: v57 :: v58 :: v59 :: v60 :: v61 :: v62 :: v63 :: v64 :: v65 :: v66 :: v67 :: v68 :: v69 :: v70 :: v71 :: v72 :: v73 :: v74 :: v75 :: v76 :: v77 :: v78 :: v79 :: v80 :: v81 :: v82 :: v83 :: v84 :: v85 :: v86 :: v87 :: v88 :: v89 :: v90 :: v91 :: v92 :: v93 :: v94 :: v95 :: v96 :: v97 :: v98 :: v99 :: v100 :: v101 :: v102 :: v103 :: v104 :: []), []⟩ Y := by
  have HK := Lib.hid hK0
  clear hK0
  conv => arg 2; whnf
  refine wp_seq_k ?_
  intro K0 hK0
  have HK0 := Lib.hid hK0
  clear hK0
  go_wp2_with fail
  refine wp_region_noPanic ?_
  refine wp_region_held_drew (S := fun w' => Frm [] Y w') (by kernel_rfl) ((Frm.refl _ _).drew) (fun hHeld => ?_)
  refine take_in (i := 0) (d := 22) (v := .agg #[.pointer (some ⟨p, 0, none⟩), .pointer (some ⟨np, 0, none⟩), .int .i64 10]) rfl rfl (by kernel_rfl) (by kernel_rfl) (by kernel_rfl) (fun _ _ _ h => h) (by kernel_rfl) (fun w' hS => by have hS' : Frm [] Y w' := hS; obtain ⟨c0, c1, c2⟩ := cells3 (hS'.heap HK.out.at_ (by simp)); clear hS hS'; go_simp) (by assumption) ?_
  try simp only [Act.put, List.setIfInBounds_toArray, List.set_cons_zero, List.set_cons_succ]
  refine take_in (i := 1) (d := 23) (v := .pointer (some ⟨g, 2, none⟩)) rfl rfl (by kernel_rfl) (by kernel_rfl) (by kernel_rfl) (fun _ _ _ h => h) (by kernel_rfl) (fun _ _ => rfl) (by assumption) ?_
  try simp only [Act.put, List.setIfInBounds_toArray, List.set_cons_zero, List.set_cons_succ]
  refine take_in (i := 2) (d := 24) (v := .int .i64 10) rfl rfl (by kernel_rfl) (by kernel_rfl) (by kernel_rfl) (fun _ _ _ h => h) (by kernel_rfl) (fun w' hS => by have hS' : Frm [] Y w' := hS; obtain ⟨c0, c1, c2⟩ := cells3 (hS'.heap HK.out.at_ (by simp)); clear hS hS'; go_simp) (by assumption) ?_
  try simp only [Act.put, List.setIfInBounds_toArray, List.set_cons_zero, List.set_cons_succ]
  refine take_in (i := 4) (d := 26) (v := .agg #[.pointer (some ⟨p, 0, none⟩), .pointer (some ⟨np, 0, none⟩), .int .i64 10]) rfl rfl (by kernel_rfl) (by kernel_rfl) (by kernel_rfl) (fun _ _ _ h => h) (by kernel_rfl) (fun w' hS => by have hS' : Frm [] Y w' := hS; obtain ⟨c0, c1, c2⟩ := cells3 (hS'.heap HK.out.at_ (by simp)); clear hS hS'; go_simp) (by assumption) ?_
  try simp only [Act.put, List.setIfInBounds_toArray, List.set_cons_zero, List.set_cons_succ]
  refine take_in (i := 5) (d := 27) (v := .pointer (some ⟨g, 2, none⟩)) rfl rfl (by kernel_rfl) (by kernel_rfl) (by kernel_rfl) (fun _ _ _ h => h) (by kernel_rfl) (fun _ _ => rfl) (by assumption) ?_
  try simp only [Act.put, List.setIfInBounds_toArray, List.set_cons_zero, List.set_cons_succ]
  refine take_in (i := 6) (d := 28) (v := .int .i64 10) rfl rfl (by kernel_rfl) (by kernel_rfl) (by kernel_rfl) (fun _ _ _ h => h) (by kernel_rfl) (fun w' hS => by have hS' : Frm [] Y w' := hS; obtain ⟨c0, c1, c2⟩ := cells3 (hS'.heap HK.out.at_ (by simp)); clear hS hS'; go_simp) (by assumption) ?_
  try simp only [Act.put, List.setIfInBounds_toArray, List.set_cons_zero, List.set_cons_succ]
  refine wpAnyH_ready (rs := [3]) (by kernel_rfl) (by simp) ?_
  refine AllReadyH.cons rfl (fun K hK => ?_) AllReadyH.nil
  go_simp
  go_at_call 11
  refine (move_any (B := B) (HK.out.sc.nd.frm (by (repeat' (first | assumption | exact Frm.refl _ _ | apply Frm.drew | apply Frm.drewN)))) 10 (by have := HK.out.sc.hi; show B ≤ Y.heap.size; omega) (wd := 10) (by decide) (by decide) 0 (by decide) 1 1 (by decide) (by decide)).mono ?_
  rintro e wa1 ⟨P1, rfl, g1, hP1, hm1, hg1, hf1⟩
  have s1 : Frm [] Y wa1 := Frm.trans (by (repeat' (first | assumption | exact Frm.refl _ _ | apply Frm.drew | apply Frm.drewN))) g1
  have HP1 := Lib.hid hP1
  have HM1 := Lib.hid hm1
  have HG1 := Lib.hid hg1
  have HF1 := Lib.hid hf1
  clear g1 hP1 hm1 hg1 hf1
  refine hK.out _ _ (by exact s1) (fun hHeld => ?_)
  clear hK K
  try change wpAnyH _ _ _ _ _ _ _ (Act.put _ (some 25) _) _
  try simp only [Act.put, List.setIfInBounds_toArray, List.set_cons_zero, List.set_cons_succ]
  refine wpAnyH_ready (rs := [7]) (by kernel_rfl) (by simp) ?_
  refine AllReadyH.cons rfl (fun K hK => ?_) AllReadyH.nil
  go_simp
  go_at_call 11
  refine (move_any (B := B) (HK.out.sc.nd.frm s1) 10 (by have := HK.out.sc.hi; have := s1.size; omega) (wd := 10) (by decide) (by decide) 0 (by decide) 1 1 (by decide) (by decide)).mono ?_
  rintro e wa2 ⟨P2, rfl, g2, hP2, hm2, hg2, hf2⟩
  have s2 : Frm [] Y wa2 := Frm.trans s1 g2
  have HP2 := Lib.hid hP2
  have HM2 := Lib.hid hm2
  have HG2 := Lib.hid hg2
  have HF2 := Lib.hid hf2
  have HQ2 := Lib.hid (HP1.out.frm0 g2)
  have HLt : Hid (∀ x ∈ P1.bl, x < wa1.heap.size) := Lib.hid (fun x hx => HP1.out.lt x hx)
  clear g2 hP2 hm2 hg2 hf2
  refine hK.out _ _ (by exact s2) (fun hHeld => ?_)
  clear hK K
  try change wpAnyH _ _ _ _ _ _ _ (Act.put _ (some 29) _) _
  try simp only [Act.put, List.setIfInBounds_toArray, List.set_cons_zero, List.set_cons_succ]
  refine take_in (i := 8) (d := 7) (v := .iface 76 (.pointer (some ⟨P1.q, 0, none⟩))) rfl rfl (by kernel_rfl) (by kernel_rfl) (by kernel_rfl) (fun _ _ _ h => h) (by kernel_rfl) (fun _ _ => rfl) (by assumption) ?_
  try simp only [Act.put, List.setIfInBounds_toArray, List.set_cons_zero, List.set_cons_succ]
  refine take_in (i := 9) (d := 8) (v := .iface 76 (.pointer (some ⟨P2.q, 0, none⟩))) rfl rfl (by kernel_rfl) (by kernel_rfl) (by kernel_rfl) (fun _ _ _ h => h) (by kernel_rfl) (fun _ _ => rfl) (by assumption) ?_
  try simp only [Act.put, List.setIfInBounds_toArray, List.set_cons_zero, List.set_cons_succ]
  refine wpAnyH_done (by kernel_rfl) ?_ _
  refine NoPanic.normal ?_
  go_wp2_with fail
  refine HK0.out _ _ ?_
  clear HK0 K0
  have HKa := Lib.hid (HK.out.frm0 s2)
  have H1 := Lib.hid (ends_mv HKa.out.sc 10 HQ2.out (by decide) (by rw [HM1.out, HG1.out]; exact runEA) resA)
  obtain ⟨c0, c1, c2⟩ := cells3 HKa.out.at_
  have hgl := HKa.out.lt
  refine wp_seq_k ?_
  intro K1 hK1
  have HK1 := Lib.hid hK1
  clear hK1
  go_wp2_with fail
  refine H1.out.mono ?_
  rintro e wb ⟨Q1, rfl, hF, hSc, hQ1, hq1, hm1, hg1, hb1⟩
  have hYB := HK.out.sc.hi
  have hd2 := HKa.out.sc.mem
  have HFd : Hid (Frm [d] Y wb) := Lib.hid (s2.nil.trans_new hF (fun x hx => by
    rcases List.mem_cons.1 hx with rfl | hx
    · exact .inl (by simp)
    · exact .inr (HF1.out x hx)))
  have HKb := Lib.hid (HK.out.next HFd.out hSc)
  have HP2b : Hid (PartAt wb B 1 0 P2) := Lib.hid (HP2.out.frm hF (fun x hx hx2 => by
    rcases List.mem_cons.1 hx2 with rfl | hx2
    · exact (HP2.out.nem hd2).2 hx
    · have := HF2.out x hx; have := HLt.out x hx2; omega))
  have H2 := Lib.hid (ends_mv HKb.out.sc 10 HP2b.out (by decide) (by rw [HM2.out, HG2.out]; exact runEB) resB)
  have HQ1 := Lib.hid hQ1
  have HQm1 := Lib.hid hm1
  have HQg1 := Lib.hid hg1
  have HQq1 := Lib.hid hq1
  have HQb1 := Lib.hid hb1
  have hsb := hF.size
  clear hF hSc hQ1 hq1 hm1 hg1 hb1 c0 c1 c2 hgl hd2
  obtain ⟨c0, c1, c2⟩ := cells3 HKb.out.at_
  have hgl := HKb.out.lt
  go_wp2_with fail
  refine H2.out.mono ?_
  rintro e wc ⟨Q2, rfl, hF, hSc, hQ2, hq2, hm2, hg2, hb2⟩
  have HFd2 : Hid (Frm [d] Y wc) := Lib.hid (HFd.out.trans_new hF (fun x hx => by
    rcases List.mem_cons.1 hx with rfl | hx
    · exact .inl (by simp)
    · exact .inr (by have := HF2.out x hx; have := s1.size; omega)))
  have HKc := Lib.hid (HK.out.next HFd2.out hSc)
  have hdm := HKb.out.sc.mem
  have HR1 : Hid (PartAt wc B 1 120 Q1) := Lib.hid (HQ1.out.frm hF (fun x hx hx2 => by
    rcases List.mem_cons.1 hx2 with rfl | hx2
    · exact (HQ1.out.nem hdm).2 hx
    · rcases HQb1.out x hx with h1 | h1
      · have := HF2.out x hx2; have := HLt.out x h1; omega
      · have := HP2.out.lt x hx2; omega))
  have HR2 := Lib.hid hQ2
  have HQm2 := Lib.hid hm2
  have HQg2 := Lib.hid hg2
  have HQq2 := Lib.hid hq2
  clear hF hSc hQ2 hq2 hm2 hg2 hb2 c0 c1 c2 hgl hdm
  go_wp2_with fail
  refine HK1.out _ _ ?_
  clear HK1 K1
  rw [← HQq1.out, ← HQq2.out]
  have hmm := @run_makeMap Tryz.prog
  obtain ⟨x1, x2, hp1, hp2, hFx, hMx⟩ := map_puts wc (.iface 76 (.pointer (some ⟨Q1.q, 0, none⟩))) (.iface 76 (.pointer (some ⟨Q2.q, 0, none⟩)))
  have HMx := Lib.hid hMx
  have HFx := Lib.hid hFx
  have HKx := Lib.hid (HKc.out.frm0 hFx)
  have hl1 := HMx.out.look lk
  have hl2 := HMx.out.look ch
  have e1 : (if lk then (Value.iface 76 (.pointer (some ⟨Q1.q, 0, none⟩))) else .iface 76 (.pointer (some ⟨Q2.q, 0, none⟩))) = .iface 76 (.pointer (some ⟨(if lk then Q1 else Q2).q, 0, none⟩)) := by cases lk <;> rfl
  have e2 : (if ch then (Value.iface 76 (.pointer (some ⟨Q1.q, 0, none⟩))) else .iface 76 (.pointer (some ⟨Q2.q, 0, none⟩))) = .iface 76 (.pointer (some ⟨(if ch then Q1 else Q2).q, 0, none⟩)) := by cases ch <;> rfl
  rw [e1] at hl1
  rw [e2] at hl2
  have HL : Hid (∀ b : Bool, PartAt x2 B 1 120 (if b then Q1 else Q2) ∧ (if b then Q1 else Q2).m.wk = [] ∧ ((if b then Q1 else Q2).m, (if b then Q1 else Q2).g) = (if b then (eA.2.1, eA.2.2) else (eB.2.1, eB.2.2))) := Lib.hid (fun b => by
    cases b
    · exact ⟨HR2.out.frm0 hFx, by show Q2.m.wk = []; rw [HQm2.out]; exact wkB, by show (Q2.m, Q2.g) = (eB.2.1, eB.2.2); rw [HQm2.out, HQg2.out]⟩
    · exact ⟨HR1.out.frm0 hFx, by show Q1.m.wk = []; rw [HQm1.out]; exact wkA, by show (Q1.m, Q1.g) = (eA.2.1, eA.2.2); rw [HQm1.out, HQg1.out]⟩)
  have HDc : Hid (Calls Tryz.prog 13 #[.agg #[.pointer (some ⟨p, 0, none⟩), .pointer (some ⟨np, 0, none⟩), .int .i64 10], .int .i64 0, .iface 76 (.pointer (some ⟨(if lk then Q1 else Q2).q, 0, none⟩)), .iface 76 (.pointer (some ⟨(if ch then Q1 else Q2).q, 0, none⟩))] x2 (fun e w' => ∃ D P, Ret (.pointer (some ⟨D, 0, none⟩)) (fun w' => Frm [] x2 w' ∧ DAt w' B 1 120 D P (dE lk ch) ∧ x2.heap.size ≤ D ∧ ∀ i, i < 5 → ∀ x ∈ (P i).bl, x2.heap.size ≤ x) e w')) := Lib.hid (by
    have := ldecide (p := p) (B := B) HKx.out.sc.nd 10 0 (by decide) (HL.out lk).1 (HL.out ch).1 (HL.out lk).2.1 (HL.out ch).2.1 (by have := HKx.out.sc.hi; omega)
    rw [(HL.out lk).2.2, (HL.out ch).2.2] at this
    exact this)
  generalize (if lk then Q1 else Q2) = La at hl1 HDc
  generalize (if ch then Q1 else Q2) = Ca at hl2 HDc
  clear e1 e2 hFx hMx
  obtain ⟨c0, c1, c2⟩ := cells3 HKx.out.at_
  have hgl := HKx.out.lt
  refine wp_seq_k ?_
  intro K2 hK2
  have HK2 := Lib.hid hK2
  clear hK2
  go_wp2_with fail
  refine HK2.out _ _ ?_
  clear HK2 K2 hmm hp1 hp2
  refine wp_seq_k ?_
  intro K3 hK3
  have HK3 := Lib.hid hK3
  clear hK3
  go_wp2_with fail
  refine HDc.out.mono ?_
  rintro e wd ⟨D, P, rfl, hF, hD, hDl, hPl⟩
  have HKd := Lib.hid (HKx.out.frm0 hF)
  have HD := Lib.hid hD
  have hxY : Y.heap.size ≤ x2.heap.size := (HFd2.out.trans HFx.out.nil).size
  have HDl : Hid (Y.heap.size ≤ D) := Lib.hid (Nat.le_trans hxY hDl)
  have HPl : Hid (∀ i, i < 5 → ∀ x ∈ (P i).bl, Y.heap.size ≤ x) := Lib.hid (fun i hi x hx => Nat.le_trans hxY (hPl i hi x hx))
  clear hF hD hDl hPl c0 c1 c2 hgl hl1 hl2
  go_wp2_with fail
  refine HK3.out _ _ ?_
  clear HK3 K3
  exact ueC _ _ _ _ _ _ _ _ _ _ _ _ _ _ _ _ _ _ _ _ _ _ _ _ _ _ _ _ _ _ _ _ _ _ _ _ _ _ _ _ _ _ _ _ _ _ _ _ _ _ _ _ _ _ _ _ _ _ _ _ _ _ _ _ _ _ _ _ _ _ _ _ _ _ _ _ _ _ _ _ _ _ _ _ _ _ _ _ _ _ _ _ _ _ _ _ _ _ _ _ _ HKd.out HD.out (by have := HKd.out.lt; have := HDl.out; have := HK.out.lt; omega) (fun i hi x hx => by have := HPl.out i hi x hx; have := HK.out.lt; omega)
set_option maxRecDepth 1000000 in
set_option maxHeartbeats 4000000 in
theorem walk_UpgradeEnded (lk : Bool) (ch : Bool) (W : World) (hW : Laid W) :
    Calls Tryz.prog 4 #[.bool lk, .bool ch] W (Ret (.bool true) (fun w' => Below W.heap.size W w')) := by
  have hb : ∀ e w', Ret (.bool true) (fun w' => Frm [] W w') e w' → Ret (.bool true) (fun w' => Below W.heap.size W w') e w' := fun e w' h => ⟨h.1, h.2.below (Nat.le_refl _) (by simp)⟩
  refine Calls.mono ?_ hb
  have H := Lib.hid (made_1 hW)
  clear hW hb
  go_enter Tryz.func4, Tryz.ntmps4
  refine wp_seq_k ?_
  intro Ka hKa
  have HKa := Lib.hid hKa
  clear hKa
  go_wp2_with fail
  refine HKa.out _ _ ?_
  clear HKa Ka
  refine wp_seq_k ?_
  intro Ka hKa
  have HKa := Lib.hid hKa
  clear hKa
  go_wp2_with fail
  refine H.out.mono ?_
  rintro e w1 ⟨np, p, d, rfl, hF, hSc, hd⟩
  have hf1 : Frm [] w1 (w1.alloc (.cells #[.pointer (some ⟨p, 0, none⟩), .pointer (some ⟨np, 0, none⟩), .int .i64 10] 27)) := (Frm.refl _ _).alloc _
  have HK : Hid (Ke W (w1.alloc (.cells #[.pointer (some ⟨p, 0, none⟩), .pointer (some ⟨np, 0, none⟩), .int .i64 10] 27)) w1.heap.size np p d w1.heap.size z13) := Lib.hid ⟨hSc.frm0 hf1, heap_alloc_new _ _, Nat.le_refl _, hF.trans hf1, Nat.le_trans (Nat.le_refl _) hd⟩
  obtain ⟨c0, c1, c2⟩ := cells3 HK.out.at_
  have hgl := HK.out.lt
  clear hF hSc hd hf1 H
  go_wp2_with fail
  refine HKa.out _ _ ?_
  clear HKa Ka
  refine wp_seq_k ?_
  intro Ka hKa
  have HKa := Lib.hid hKa
  clear hKa
  go_wp2_with fail
  refine HKa.out _ _ ?_
  clear HKa Ka
  exact ueA _ _ _ _ _ _ _ _ _ _ _ _ _ _ _ _ _ _ _ _ _ _ _ _ _ _ _ _ _ _ _ _ _ _ _ _ _ _ _ _ _ _ _ _ _ _ _ _ _ _ _ _ _ _ _ _ _ _ _ _ _ _ _ _ _ _ _ _ _ _ _ _ _ _ _ _ _ _ _ _ _ _ _ _ _ _ _ _ _ _ _ _ _ _ _ _ _ _ _ _ _ _ HK.out
#print axioms walk_UpgradeEnded
end Go.Proofs.YticbbfcachnkiaaGreatDoor
