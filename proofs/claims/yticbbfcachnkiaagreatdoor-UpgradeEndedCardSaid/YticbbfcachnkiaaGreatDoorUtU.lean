/- Package latch, the state: may, in pieces (by gen_ltu.py). -/
import Derived.Test.YticbbfcachnkiaaGreatDoorUtT
namespace Go.Proofs.YticbbfcachnkiaaGreatDoor
open Go.ChangeShapes Go.WideShapes Go.ChangeAt Go.RowKit
set_option linter.unusedVariables false

/-- A call that leaves the world, but for draws. -/
def Qt (f : FuncId) (args : Array Value) (v : Value) (w : World) : Prop := ∀ n, Calls Tryz.prog f args (w.drewN n) fun e w'' => e = .returned v ∧ ∃ m, w'' = w.drewN m
theorem Qt.at_ {f : FuncId} {args : Array Value} {v : Value} {w : World} (h : Qt f args v w) (n : Nat) : Calls Tryz.prog f args (w.drewN n) fun e w'' => e = .returned v ∧ ∃ m, w'' = w.drewN m := h n
theorem Qt.of {f : FuncId} {args : Array Value} {v : Value} {w : World} (h : ∀ w', Frm [] w w' → Calls Tryz.prog f args w' (Ret v (fun x => w' = x))) : Qt f args v w :=
  fun n => Calls.quiet_of_same ((h (w.drewN n) ((Frm.refl _ _).drewN n)).mono fun _ _ hh => ⟨hh.1, hh.2.symm⟩)
/-- What is behind the first statements of a body. -/
def dropS : Nat → Code → Code
  | 0, c => c
  | n + 1, .seq _ b => dropS n b
  | _ + 1, c => c
def fstS : Code → Code
  | .seq a _ => a
  | c => c
noncomputable def mayT (k : Nat) : Code := dropS k (Tryz.f107.body.getD .skip)
namespace LS
def mayD (s : LS) (T : Nat) : Bool := s.fi == -1 && s.la == -1 || isL T s.fi && isL T s.la
def mayC (s : LS) (T : Nat) : Bool := decide (0 ≤ s.gr) && decide (s.gr ≤ 4) && !(decide (0 < s.gr) && s.sh == 0) && s.mayD T
def mayB (s : LS) (T : Nat) : Bool := !s.has s.up && allM s.held && s.mayC T
def may (s : LS) (T : Nat) : Bool := decide (s.sh < 2 ^ T) && isT T s.up && isT T s.ex && (s.wa == -1 || s.wa == s.up) && s.mayB T
end LS
set_option maxRecDepth 1000000 in
set_option maxHeartbeats 4000000 in
theorem may5 {w W : World} {b o p nb T g : Nat} {s : LS} (hF : Frm [] w W) (h : StAt W b o s) (hN : Nd W p nb T) (hg : W.cell? ⟨g, 0, none⟩ = some (.pointer (some ⟨p, 0, none⟩))) (v1 v2 v5 v6 v7 v8 v9 v10 v11 v12 v13 v14 v15 v16 v17 v18 v19 v20 v21 v22 v23 v24 v25 v26 v27 v28 v29 v30 v31 v32 v33 v34 v35 v36 v37 v38 v39 v40 v41 v42 v43 v44 v45 v46 v47 v48 v49 v50 v51 v52 v53 v54 v55 v56 v57 v58 v59 v60 v61 v62 v63 v64 v65 v66 v67 v68 v69 v70 v71 v72 v73 v74 v75 v76 v77 v78 v79 v80 v81 v82 v83 v84 v85 v86 v87 v88 v89 v90 v91 v92 v93 v94 v95 v96 v97 v98 v99 v100 v101 v102 v103 v104 v105 v106 v107 v108 v109 v110 v111 v112 v113 v114 v115 v116 : Value) :
    Code.wp Tryz.prog (mayT 5) (bodyPost Tryz.prog Tryz.f107 (Ret (.bool (s.mayD T)) (fun w' => Frm [] w w'))) ⟨List.toArray (.pointer (some ⟨b, o, none⟩) :: v1 :: v2 :: .pointer (some ⟨g, 0, none⟩) :: .bool false :: v5 :: v6 :: v7 :: v8 :: v9 :: v10 :: v11 :: v12 :: v13 :: v14 :: v15 :: v16 :: v17 :: v18 :: v19 :: v20 :: v21 :: v22 :: v23 :: v24 :: v25 :: v26 :: v27 :: v28 :: v29 :: v30 :: v31 :: v32 :: v33 :: v34 :: v35 :: v36 :: v37 :: v38 :: v39 :: v40 :: v41 :: v42 :: v43 :: v44 :: v45 :: v46 :: v47 :: v48 :: v49 :: v50 :: v51 :: v52 :: v53 :: v54 :: v55 :: v56 :: v57 :: v58 :: v59 :: v60 :: v61 :: v62 :: v63 :: v64 :: v65 :: v66 :: v67 :: v68 :: v69 :: v70 :: v71 :: v72 :: v73 :: v74 :: v75 :: v76 :: v77 :: v78 :: v79 :: v80 :: v81 :: v82 :: v83 :: v84 :: v85 :: v86 :: v87 :: v88 :: v89 :: v90 :: v91 :: v92 :: v93 :: v94 :: v95 :: v96 :: v97 :: v98 :: v99 :: v100 :: v101 :: v102 :: v103 :: v104 :: v105 :: v106 :: v107 :: v108 :: v109 :: v110 :: v111 :: v112 :: v113 :: v114 :: v115 :: v116 :: []), []⟩ W := by
  have HF := Lib.hid hF
  have HS := Lib.hid h
  have HN := Lib.hid hN
  have HG := Lib.hid hg
  have hbl := h.lt
  obtain ⟨c0, c1, c2, c3, c4, c5, c6⟩ := h
  have H1 : Hid (Qt 118 #[.pointer (some ⟨p, 0, none⟩), .int .i64 s.fi] (.bool (isL T s.fi)) W) := Lib.hid (Qt.of fun w' hf => queues_any (hN.frm hf) _)
  have H2 : Hid (Qt 118 #[.pointer (some ⟨p, 0, none⟩), .int .i64 s.la] (.bool (isL T s.la)) W) := Lib.hid (Qt.of fun w' hf => queues_any (hN.frm hf) _)
  clear hN hF
  unfold LS.mayD
  conv => arg 2; whnf
  cases e1 : (s.fi == -1) with
  | true =>
    cases e2 : (s.la == -1) with
    | true =>
      go_wp2_with fail
      go_quiet (fail)
      go_wp2
      go_ret
      exact ⟨rfl, HF.out.drewN _⟩
    | false =>
      have e3 : isL T s.fi = false := by have : s.fi = -1 := by simpa using e1
                                         rw [this]; rfl
      rw [e3]
      rw [e3] at H1
      clear e3 H2
      go_wp2_with fail
      go_quiet ((go_at_call 118; with_reducible exact H1.out.at_ _))
      go_wp2
      go_ret
      exact ⟨rfl, HF.out.drewN _⟩
  | false =>
    cases e3 : isL T s.fi with
    | true => rw [e3] at H1; cases e4 : isL T s.la with
      | true =>
        rw [e4] at H2
        clear e3 e4
        go_wp2_with fail
        go_quiet (first | (go_at_call 118; with_reducible exact H1.out.at_ _) | (go_at_call 118; with_reducible exact H2.out.at_ _))
        go_wp2
        go_ret
        exact ⟨rfl, HF.out.drewN _⟩
      | false =>
        rw [e4] at H2
        clear e3 e4
        go_wp2_with fail
        go_quiet (first | (go_at_call 118; with_reducible exact H1.out.at_ _) | (go_at_call 118; with_reducible exact H2.out.at_ _))
        go_wp2
        go_ret
        exact ⟨rfl, HF.out.drewN _⟩
    | false =>
      rw [e3] at H1
      clear e3
      go_wp2_with fail
      go_quiet (first | (go_at_call 118; with_reducible exact H1.out.at_ _) | (go_at_call 118; with_reducible exact H2.out.at_ _))
      go_wp2
      go_ret
      exact ⟨rfl, HF.out.drewN _⟩
set_option maxRecDepth 1000000 in
set_option maxHeartbeats 4000000 in
theorem may4 {w W : World} {b o p nb T g : Nat} {s : LS} (hF : Frm [] w W) (h : StAt W b o s) (hN : Nd W p nb T) (hg : W.cell? ⟨g, 0, none⟩ = some (.pointer (some ⟨p, 0, none⟩))) (v1 v2 v5 v6 v7 v8 v9 v10 v11 v12 v13 v14 v15 v16 v17 v18 v19 v20 v21 v22 v23 v24 v25 v26 v27 v28 v29 v30 v31 v32 v33 v34 v35 v36 v37 v38 v39 v40 v41 v42 v43 v44 v45 v46 v47 v48 v49 v50 v51 v52 v53 v54 v55 v56 v57 v58 v59 v60 v61 v62 v63 v64 v65 v66 v67 v68 v69 v70 v71 v72 v73 v74 v75 v76 v77 v78 v79 v80 v81 v82 v83 v84 v85 v86 v87 v88 v89 v90 v91 v92 v93 v94 v95 v96 v97 v98 v99 v100 v101 v102 v103 v104 v105 v106 v107 v108 v109 v110 v111 v112 v113 v114 v115 v116 : Value) :
    Code.wp Tryz.prog (mayT 4) (bodyPost Tryz.prog Tryz.f107 (Ret (.bool (s.mayC T)) (fun w' => Frm [] w w'))) ⟨List.toArray (.pointer (some ⟨b, o, none⟩) :: v1 :: v2 :: .pointer (some ⟨g, 0, none⟩) :: .bool false :: v5 :: v6 :: v7 :: v8 :: v9 :: v10 :: v11 :: v12 :: v13 :: v14 :: v15 :: v16 :: v17 :: v18 :: v19 :: v20 :: v21 :: v22 :: v23 :: v24 :: v25 :: v26 :: v27 :: v28 :: v29 :: v30 :: v31 :: v32 :: v33 :: v34 :: v35 :: v36 :: v37 :: v38 :: v39 :: v40 :: v41 :: v42 :: v43 :: v44 :: v45 :: v46 :: v47 :: v48 :: v49 :: v50 :: v51 :: v52 :: v53 :: v54 :: v55 :: v56 :: v57 :: v58 :: v59 :: v60 :: v61 :: v62 :: v63 :: v64 :: v65 :: v66 :: v67 :: v68 :: v69 :: v70 :: v71 :: v72 :: v73 :: v74 :: v75 :: v76 :: v77 :: v78 :: v79 :: v80 :: v81 :: v82 :: v83 :: v84 :: v85 :: v86 :: v87 :: v88 :: v89 :: v90 :: v91 :: v92 :: v93 :: v94 :: v95 :: v96 :: v97 :: v98 :: v99 :: v100 :: v101 :: v102 :: v103 :: v104 :: v105 :: v106 :: v107 :: v108 :: v109 :: v110 :: v111 :: v112 :: v113 :: v114 :: v115 :: v116 :: []), []⟩ W := by
  have HF := Lib.hid hF
  have HS := Lib.hid h
  have HN := Lib.hid hN
  have HG := Lib.hid hg
  have hbl := h.lt
  obtain ⟨c0, c1, c2, c3, c4, c5, c6⟩ := h
  clear hN hF
  by_cases h0 : s.gr < 0
  · have e0 : decide (s.gr < 0) = true := by simpa using h0
    have hr : s.mayC T = false := by simp [LS.mayC]; omega
    rw [hr]
    clear hr
    conv => arg 2; whnf
    go_wp2
    go_ret
    exact ⟨rfl, HF.out⟩
  · have e0 : decide (s.gr < 0) = false := by simpa using h0
    by_cases h4 : 4 < s.gr
    · have e4 : decide (4 < s.gr) = true := by simpa using h4
      have hr : s.mayC T = false := by simp [LS.mayC]; omega
      rw [hr]
      clear hr
      conv => arg 2; whnf
      go_wp2
      go_ret
      exact ⟨rfl, HF.out⟩
    · have e4 : decide (4 < s.gr) = false := by simpa using h4
      by_cases hp : 0 < s.gr
      · have ep : decide (0 < s.gr) = true := by simpa using hp
        by_cases hz : s.sh = 0
        · have ez : ((s.sh : Int) == 0) = true := by simp [hz]
          have hr : s.mayC T = false := by simp [LS.mayC, hz, hp]
          rw [hr]
          clear hr
          conv => arg 2; whnf
          go_wp2
          go_ret
          exact ⟨rfl, HF.out⟩
        · have ez : ((s.sh : Int) == 0) = false := by simpa using hz
          have hr : s.mayC T = s.mayD T := by simp [LS.mayC, hz]; intro; omega
          rw [hr]
          clear hr
          rw [show mayT 4 = .seq (fstS (mayT 4)) (mayT 5) from by kernel_rfl]
          refine wp_seq_k ?_
          intro K hK
          have HK := Lib.hid hK
          clear hK
          conv => arg 2; whnf
          go_wp2_with fail
          refine HK.out _ _ ?_
          exact may5 HF.out HS.out HN.out HG.out _ _ _ _ _ _ _ _ _ _ _ _ _ _ _ _ _ _ _ _ _ _ _ _ _ _ _ _ _ _ _ _ _ _ _ _ _ _ _ _ _ _ _ _ _ _ _ _ _ _ _ _ _ _ _ _ _ _ _ _ _ _ _ _ _ _ _ _ _ _ _ _ _ _ _ _ _ _ _ _ _ _ _ _ _ _ _ _ _ _ _ _ _ _ _ _ _ _ _ _ _ _ _ _ _ _ _ _ _ _ _ _ _ _
      · have ep : decide (0 < s.gr) = false := by simpa using hp
        have hr : s.mayC T = s.mayD T := by simp [LS.mayC, hp]; intro; omega
        rw [hr]
        clear hr
        rw [show mayT 4 = .seq (fstS (mayT 4)) (mayT 5) from by kernel_rfl]
        refine wp_seq_k ?_
        intro K hK
        have HK := Lib.hid hK
        clear hK
        conv => arg 2; whnf
        go_wp2_with fail
        refine HK.out _ _ ?_
        exact may5 HF.out HS.out HN.out HG.out _ _ _ _ _ _ _ _ _ _ _ _ _ _ _ _ _ _ _ _ _ _ _ _ _ _ _ _ _ _ _ _ _ _ _ _ _ _ _ _ _ _ _ _ _ _ _ _ _ _ _ _ _ _ _ _ _ _ _ _ _ _ _ _ _ _ _ _ _ _ _ _ _ _ _ _ _ _ _ _ _ _ _ _ _ _ _ _ _ _ _ _ _ _ _ _ _ _ _ _ _ _ _ _ _ _ _ _ _ _ _ _ _ _
set_option maxRecDepth 1000000 in
set_option maxHeartbeats 4000000 in
theorem may3 {w W : World} {b o p nb T g : Nat} {s : LS} (hF : Frm [] w W) (h : StAt W b o s) (hN : Nd W p nb T) (hg : W.cell? ⟨g, 0, none⟩ = some (.pointer (some ⟨p, 0, none⟩))) (hu1 : -1 ≤ s.up) (hu2 : s.up < 64) (hsh : s.sh < 18446744073709551616) (hW : Laid W) (v1 v2 v5 v6 v7 v8 v9 v10 v11 v12 v13 v14 v15 v16 v17 v18 v19 v20 v21 v22 v23 v24 v25 v26 v27 v28 v29 v30 v31 v32 v33 v34 v35 v36 v37 v38 v39 v40 v41 v42 v43 v44 v45 v46 v47 v48 v49 v50 v51 v52 v53 v54 v55 v56 v57 v58 v59 v60 v61 v62 v63 v64 v65 v66 v67 v68 v69 v70 v71 v72 v73 v74 v75 v76 v77 v78 v79 v80 v81 v82 v83 v84 v85 v86 v87 v88 v89 v90 v91 v92 v93 v94 v95 v96 v97 v98 v99 v100 v101 v102 v103 v104 v105 v106 v107 v108 v109 v110 v111 v112 v113 v114 v115 v116 : Value) :
    Code.wp Tryz.prog (mayT 3) (bodyPost Tryz.prog Tryz.f107 (Ret (.bool (s.mayB T)) (fun w' => Frm [] w w'))) ⟨List.toArray (.pointer (some ⟨b, o, none⟩) :: v1 :: v2 :: .pointer (some ⟨g, 0, none⟩) :: .bool false :: v5 :: v6 :: v7 :: v8 :: v9 :: v10 :: v11 :: v12 :: v13 :: v14 :: v15 :: v16 :: v17 :: v18 :: v19 :: v20 :: v21 :: v22 :: v23 :: v24 :: v25 :: v26 :: v27 :: v28 :: v29 :: v30 :: v31 :: v32 :: v33 :: v34 :: v35 :: v36 :: v37 :: v38 :: v39 :: v40 :: v41 :: v42 :: v43 :: v44 :: v45 :: v46 :: v47 :: v48 :: v49 :: v50 :: v51 :: v52 :: v53 :: v54 :: v55 :: v56 :: v57 :: v58 :: v59 :: v60 :: v61 :: v62 :: v63 :: v64 :: v65 :: v66 :: v67 :: v68 :: v69 :: v70 :: v71 :: v72 :: v73 :: v74 :: v75 :: v76 :: v77 :: v78 :: v79 :: v80 :: v81 :: v82 :: v83 :: v84 :: v85 :: v86 :: v87 :: v88 :: v89 :: v90 :: v91 :: v92 :: v93 :: v94 :: v95 :: v96 :: v97 :: v98 :: v99 :: v100 :: v101 :: v102 :: v103 :: v104 :: v105 :: v106 :: v107 :: v108 :: v109 :: v110 :: v111 :: v112 :: v113 :: v114 :: v115 :: v116 :: []), []⟩ W := by
  have HF := Lib.hid hF
  have HS := Lib.hid h
  have HN := Lib.hid hN
  have HG := Lib.hid hg
  have hbl := h.lt
  have hgl := World.block_lt_of_cell? W _ hg
  have h' := h
  obtain ⟨c0, c1, c2, c3, c4, c5, c6⟩ := h
  have HL := Lib.hid hW
  have HH := Lib.hid (has_any h' s.up hu1 hu2 hsh)
  clear hN hF hW h'
  cases hh : s.has s.up with
  | true =>
    have hr : s.mayB T = false := by simp [LS.mayB, hh]
    rw [hr]
    rw [hh] at HH
    clear hr hh
    conv => arg 2; whnf
    go_wp2_with fail
    refine HH.out.mono ?_
    rintro e w1 ⟨rfl, rfl⟩
    go_wp2
    go_ret
    exact ⟨rfl, HF.out⟩
  | false =>
    rw [hh] at HH
    cases ha : allM s.held with
    | false =>
      have hr : s.mayB T = false := by simp [LS.mayB, ha]
      rw [hr]
      clear hr hh
      conv => arg 2; whnf
      go_wp2_with fail
      refine HH.out.mono ?_
      rintro e w1 ⟨rfl, rfl⟩
      go_wp2_with fail
      refine (held_any HS.out).mono ?_
      rintro e w1 ⟨a, n, c, rfl, g1, hR⟩
      obtain ⟨lb, hLi⟩ := hR.li
      have hn : n ≤ 1000 := by have := hR.2; have := s.held_len; omega
      have H2 := Lib.hid (All_any (HL.out.frm0 g1) hLi hn)
      rw [ha] at H2
      clear ha hR hLi
      have HF1 := Lib.hid (HF.out.trans g1)
      clear g1
      go_wp2_with fail
      refine H2.out.mono ?_
      rintro e w2 ⟨rfl, g1⟩
      have HF2 := Lib.hid (HF1.out.trans g1)
      clear g1
      go_wp2
      go_ret
      exact ⟨rfl, HF2.out⟩
    | true =>
      have hr : s.mayB T = s.mayC T := by simp [LS.mayB, ha, hh]
      rw [hr]
      clear hr hh
      rw [show mayT 3 = .seq (fstS (mayT 3)) (mayT 4) from by kernel_rfl]
      refine wp_seq_k ?_
      intro K hK
      have HK := Lib.hid hK
      clear hK
      conv => arg 2; whnf
      go_wp2_with fail
      refine HH.out.mono ?_
      rintro e w1 ⟨rfl, rfl⟩
      go_wp2_with fail
      refine (held_any HS.out).mono ?_
      rintro e w1 ⟨a, n, c, rfl, g1, hR⟩
      obtain ⟨lb, hLi⟩ := hR.li
      have hn : n ≤ 1000 := by have := hR.2; have := s.held_len; omega
      have H2 := Lib.hid (All_any (HL.out.frm0 g1) hLi hn)
      rw [ha] at H2
      clear ha hR hLi
      have HF1 := Lib.hid (HF.out.trans g1)
      have HS1 := Lib.hid (HS.out.frm g1 (by simp))
      have HN1 := Lib.hid (HN.out.frm g1)
      have HG1 := Lib.hid ((g1.cell hgl (by simp)).trans HG.out)
      have hgl1 := Nat.lt_of_lt_of_le hgl g1.size
      clear g1
      go_wp2_with fail
      refine H2.out.mono ?_
      rintro e w2 ⟨rfl, g1⟩
      have HF2 := Lib.hid (HF1.out.trans g1)
      have HS2 := Lib.hid (HS1.out.frm g1 (by simp))
      have HN2 := Lib.hid (HN1.out.frm g1)
      have HG2 := Lib.hid ((g1.cell hgl1 (by simp)).trans HG1.out)
      clear g1
      go_wp2_with fail
      refine HK.out _ _ ?_
      exact may4 HF2.out HS2.out HN2.out HG2.out _ _ _ _ _ _ _ _ _ _ _ _ _ _ _ _ _ _ _ _ _ _ _ _ _ _ _ _ _ _ _ _ _ _ _ _ _ _ _ _ _ _ _ _ _ _ _ _ _ _ _ _ _ _ _ _ _ _ _ _ _ _ _ _ _ _ _ _ _ _ _ _ _ _ _ _ _ _ _ _ _ _ _ _ _ _ _ _ _ _ _ _ _ _ _ _ _ _ _ _ _ _ _ _ _ _ _ _ _ _ _ _ _ _
theorem u64_shr0 (x T : Nat) : ((x : Int) / 2 ^ T != 0) = !decide (x < 2 ^ T) := by
  have h0 : ((x : Int) / 2 ^ T) = ((x / 2 ^ T : Nat) : Int) := by simp
  rw [h0]
  by_cases h : x < 2 ^ T
  · rw [Nat.div_eq_of_lt h]; simp [h]
  · have : 0 < x / 2 ^ T := Nat.div_pos (by omega) (Nat.two_pow_pos _)
    simp only [h, decide_false, Bool.not_false, bne_iff_ne]; omega
set_option maxRecDepth 1000000 in
set_option maxHeartbeats 4000000 in
theorem may2 {w W : World} {b o p nb T g : Nat} {s : LS} (hF : Frm [] w W) (h : StAt W b o s) (hN : Nd W p nb T) (hg : W.cell? ⟨g, 0, none⟩ = some (.pointer (some ⟨p, 0, none⟩))) (hsh : s.sh < 18446744073709551616) (hW : Laid W) (v1 v2 v6 v7 v8 v9 v10 v11 v12 v13 v14 v15 v16 v17 v18 v19 v20 v21 v22 v23 v24 v25 v26 v27 v28 v29 v30 v31 v32 v33 v34 v35 v36 v37 v38 v39 v40 v41 v42 v43 v44 v45 v46 v47 v48 v49 v50 v51 v52 v53 v54 v55 v56 v57 v58 v59 v60 v61 v62 v63 v64 v65 v66 v67 v68 v69 v70 v71 v72 v73 v74 v75 v76 v77 v78 v79 v80 v81 v82 v83 v84 v85 v86 v87 v88 v89 v90 v91 v92 v93 v94 v95 v96 v97 v98 v99 v100 v101 v102 v103 v104 v105 v106 v107 v108 v109 v110 v111 v112 v113 v114 v115 v116 : Value) :
    Code.wp Tryz.prog (mayT 2) (bodyPost Tryz.prog Tryz.f107 (Ret (.bool (s.may T)) (fun w' => Frm [] w w'))) ⟨List.toArray (.pointer (some ⟨b, o, none⟩) :: v1 :: v2 :: .pointer (some ⟨g, 0, none⟩) :: .bool false :: .func (Fn.func 114) #[] #[.pointer (some ⟨g, 0, none⟩)] :: v6 :: v7 :: v8 :: v9 :: v10 :: v11 :: v12 :: v13 :: v14 :: v15 :: v16 :: v17 :: v18 :: v19 :: v20 :: v21 :: v22 :: v23 :: v24 :: v25 :: v26 :: v27 :: v28 :: v29 :: v30 :: v31 :: v32 :: v33 :: v34 :: v35 :: v36 :: v37 :: v38 :: v39 :: v40 :: v41 :: v42 :: v43 :: v44 :: v45 :: v46 :: v47 :: v48 :: v49 :: v50 :: v51 :: v52 :: v53 :: v54 :: v55 :: v56 :: v57 :: v58 :: v59 :: v60 :: v61 :: v62 :: v63 :: v64 :: v65 :: v66 :: v67 :: v68 :: v69 :: v70 :: v71 :: v72 :: v73 :: v74 :: v75 :: v76 :: v77 :: v78 :: v79 :: v80 :: v81 :: v82 :: v83 :: v84 :: v85 :: v86 :: v87 :: v88 :: v89 :: v90 :: v91 :: v92 :: v93 :: v94 :: v95 :: v96 :: v97 :: v98 :: v99 :: v100 :: v101 :: v102 :: v103 :: v104 :: v105 :: v106 :: v107 :: v108 :: v109 :: v110 :: v111 :: v112 :: v113 :: v114 :: v115 :: v116 :: []), []⟩ W := by
  have HF := Lib.hid hF
  have HS := Lib.hid h
  have HN := Lib.hid hN
  have HG := Lib.hid hg
  have hbl := h.lt
  have hgl := World.block_lt_of_cell? W _ hg
  obtain ⟨c0, c1, c2, c3, c4, c5, c6⟩ := h
  have T64 := hN.t64
  have HL := Lib.hid hW
  have HT : Hid (Qt 62 #[.pointer (some ⟨p, 0, none⟩)] (.int .i64 T) W) := Lib.hid (Qt.of fun w' hf => threads_nd (hN.frm hf))
  have HU : Hid (Qt 114 #[.int .i64 s.up, .pointer (some ⟨g, 0, none⟩)] (.bool (isT T s.up)) W) := Lib.hid (Qt.of fun w' hf => mayt_any (hN.frm hf) g ((hf.cell hgl (by simp)).trans hg) _)
  have HE : Hid (Qt 114 #[.int .i64 s.ex, .pointer (some ⟨g, 0, none⟩)] (.bool (isT T s.ex)) W) := Lib.hid (Qt.of fun w' hf => mayt_any (hN.frm hf) g ((hf.cell hgl (by simp)).trans hg) _)
  have hx := u64_shr0 s.sh T
  clear hN hF hW
  cases e1 : decide (s.sh < 2 ^ T) with
  | false =>
    rw [e1] at hx
    have hr : s.may T = false := by simp only [LS.may, e1, Bool.false_and]
    rw [hr]
    clear hr
    conv => arg 2; whnf
    go_wp2_with fail
    go_quiet (first | (go_at_call 62; with_reducible exact HT.out.at_ _) | (go_at_call 114; with_reducible exact HU.out.at_ _) | (go_at_call 114; with_reducible exact HE.out.at_ _))
    go_wp2
    go_ret
    exact ⟨rfl, HF.out.drewN _⟩
  | true =>
    rw [e1] at hx
    cases e2 : isT T s.up with
    | false =>
      rw [e2] at HU
      have hr : s.may T = false := by simp only [LS.may, e1, e2, Bool.false_and, Bool.and_false]
      rw [hr]
      clear hr
      conv => arg 2; whnf
      go_wp2_with fail
      go_quiet (first | (go_at_call 62; with_reducible exact HT.out.at_ _) | (go_at_call 114; with_reducible exact HU.out.at_ _) | (go_at_call 114; with_reducible exact HE.out.at_ _))
      go_wp2
      go_ret
      exact ⟨rfl, HF.out.drewN _⟩
    | true =>
      rw [e2] at HU
      obtain ⟨hu1, hu2⟩ : -1 ≤ s.up ∧ s.up < 64 := by simp [isT] at e2; omega
      cases e3 : isT T s.ex with
      | false =>
        rw [e3] at HE
        have hr : s.may T = false := by simp only [LS.may, e1, e2, e3, Bool.false_and, Bool.and_false]
        rw [hr]
        clear hr
        conv => arg 2; whnf
        go_wp2_with fail
        go_quiet (first | (go_at_call 62; with_reducible exact HT.out.at_ _) | (go_at_call 114; with_reducible exact HU.out.at_ _) | (go_at_call 114; with_reducible exact HE.out.at_ _))
        go_wp2
        go_ret
        exact ⟨rfl, HF.out.drewN _⟩
      | true =>
        rw [e3] at HE
        by_cases h1 : s.wa = -1
        · have hw : (s.wa == -1 || s.wa == s.up) = true := by simp [h1]
          have e4 : (s.wa != -1) = false := by simp [h1]
          clear h1
          have hr : s.may T = s.mayB T := by simp [LS.may, e1, e2, e3, hw]
          rw [hr]
          clear hr hw
          rw [show mayT 2 = .seq (fstS (mayT 2)) (mayT 3) from by kernel_rfl]
          refine wp_seq_k ?_
          intro K hK
          have HK := Lib.hid hK
          clear hK
          conv => arg 2; whnf
          go_wp2_with fail
          go_quiet (first | (go_at_call 62; with_reducible exact HT.out.at_ _) | (go_at_call 114; with_reducible exact HU.out.at_ _) | (go_at_call 114; with_reducible exact HE.out.at_ _))
          go_wp2_with fail
          refine HK.out _ _ ?_
          exact may3 (HF.out.drewN _) (HS.out.frm ((Frm.refl [] _).drewN _) (by simp)) (HN.out.frm ((Frm.refl [] _).drewN _)) HG.out hu1 hu2 hsh (HL.out.drewN _) _ _ _ _ _ _ _ _ _ _ _ _ _ _ _ _ _ _ _ _ _ _ _ _ _ _ _ _ _ _ _ _ _ _ _ _ _ _ _ _ _ _ _ _ _ _ _ _ _ _ _ _ _ _ _ _ _ _ _ _ _ _ _ _ _ _ _ _ _ _ _ _ _ _ _ _ _ _ _ _ _ _ _ _ _ _ _ _ _ _ _ _ _ _ _ _ _ _ _ _ _ _ _ _ _ _ _ _ _ _ _ _ _ _
        · have e4 : (s.wa != -1) = true := by simp [h1]
          by_cases h2 : s.wa = s.up
          · have hw : (s.wa == -1 || s.wa == s.up) = true := by simp [h2]
            have e5 : (s.wa != s.up) = false := by simp [h2]
            clear h1 h2
            have hr : s.may T = s.mayB T := by simp [LS.may, e1, e2, e3, hw]
            rw [hr]
            clear hr hw
            rw [show mayT 2 = .seq (fstS (mayT 2)) (mayT 3) from by kernel_rfl]
            refine wp_seq_k ?_
            intro K hK
            have HK := Lib.hid hK
            clear hK
            conv => arg 2; whnf
            go_wp2_with fail
            go_quiet (first | (go_at_call 62; with_reducible exact HT.out.at_ _) | (go_at_call 114; with_reducible exact HU.out.at_ _) | (go_at_call 114; with_reducible exact HE.out.at_ _))
            go_wp2_with fail
            refine HK.out _ _ ?_
            exact may3 (HF.out.drewN _) (HS.out.frm ((Frm.refl [] _).drewN _) (by simp)) (HN.out.frm ((Frm.refl [] _).drewN _)) HG.out hu1 hu2 hsh (HL.out.drewN _) _ _ _ _ _ _ _ _ _ _ _ _ _ _ _ _ _ _ _ _ _ _ _ _ _ _ _ _ _ _ _ _ _ _ _ _ _ _ _ _ _ _ _ _ _ _ _ _ _ _ _ _ _ _ _ _ _ _ _ _ _ _ _ _ _ _ _ _ _ _ _ _ _ _ _ _ _ _ _ _ _ _ _ _ _ _ _ _ _ _ _ _ _ _ _ _ _ _ _ _ _ _ _ _ _ _ _ _ _ _ _ _ _ _
          · have e5 : (s.wa != s.up) = true := by simp [h2]
            have hw : (s.wa == -1 || s.wa == s.up) = false := by simp [h1, h2]
            have hr : s.may T = false := by simp only [LS.may, hw, Bool.false_and, Bool.and_false]
            rw [hr]
            clear hr
            conv => arg 2; whnf
            go_wp2_with fail
            go_quiet (first | (go_at_call 62; with_reducible exact HT.out.at_ _) | (go_at_call 114; with_reducible exact HU.out.at_ _) | (go_at_call 114; with_reducible exact HE.out.at_ _))
            go_wp2
            go_ret
            exact ⟨rfl, HF.out.drewN _⟩
set_option maxRecDepth 1000000 in
set_option maxHeartbeats 4000000 in
theorem may_any {w : World} {b o p nb T : Nat} {s : LS} (h : StAt w b o s) (hN : Nd w p nb T) (hW : Laid w) (hsh : s.sh < 18446744073709551616) :
    Calls Tryz.prog 107 #[.pointer (some ⟨b, o, none⟩), .pointer (some ⟨p, 0, none⟩)] w (Ret (.bool (s.may T)) (fun w' => Frm [] w w')) := by
  go_enter Tryz.func107, Tryz.ntmps107
  refine wp_seq_k ?_
  intro K hK
  have HK := Lib.hid hK
  clear hK
  go_wp2_with fail
  refine HK.out _ _ ?_
  clear HK K
  refine wp_seq_k ?_
  intro K hK
  have HK := Lib.hid hK
  clear hK
  go_wp2_with fail
  refine HK.out _ _ ?_
  clear HK K
  have hf : Frm [] w (w.alloc (.cells #[.pointer (some ⟨p, 0, none⟩)] 25)) := (Frm.refl _ _).alloc _
  exact may2 hf (h.frm hf (by simp)) (hN.frm hf) (by rw [cell_of_heap (heap_alloc_new _ _)]; rfl) hsh (hW.frm0 hf) _ _ _ _ _ _ _ _ _ _ _ _ _ _ _ _ _ _ _ _ _ _ _ _ _ _ _ _ _ _ _ _ _ _ _ _ _ _ _ _ _ _ _ _ _ _ _ _ _ _ _ _ _ _ _ _ _ _ _ _ _ _ _ _ _ _ _ _ _ _ _ _ _ _ _ _ _ _ _ _ _ _ _ _ _ _ _ _ _ _ _ _ _ _ _ _ _ _ _ _ _ _ _ _ _ _ _ _ _ _ _ _ _
#print axioms may_any
end Go.Proofs.YticbbfcachnkiaaGreatDoor
