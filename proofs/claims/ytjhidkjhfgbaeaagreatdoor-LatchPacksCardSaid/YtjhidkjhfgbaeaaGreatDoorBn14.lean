/- LxA, LxB in one text (by mkbundle.py). -/
import Derived.Deep.MidRow
import Derived.Test.YtjhidkjhfgbaeaaGreatDoorLvC
/- The reference's State as a block of seventy cells: anybody, Right. -/
namespace Go.Proofs.YtjhidkjhfgbaeaaGreatDoor
open Go.ChangeShapes Go.WideShapes Go.ChangeAt Go.RowKit
set_option linter.unusedVariables false
set_option linter.unusedSimpArgs false
/-- The six numbers; all the cells. -/
def rsN (s : LS) : List Value := [.int .i64 (s.up + 1), .int .i64 (s.ex + 1), .int .i64 (s.wa + 1), .int .i64 (s.fi + 1), .int .i64 (s.la + 1), .int .i64 s.gr]
def rsC (s : LS) : List Value := (List.range 64).map (fun t => Value.bool (s.sh.testBit t)) ++ rsN s
theorem rsC_len (s : LS) : (rsC s).length = 70 := by simp [rsC, rsN]
theorem rsC_bit (s : LS) {t : Nat} (h : t < 64) : (rsC s)[t]? = some (.bool (s.sh.testBit t)) := by
  rw [rsC, List.getElem?_append_left (by simpa using h), List.getElem?_map, List.getElem?_range h]; rfl
theorem rsC_num (s : LS) (i : Nat) : (rsC s)[64 + i]? = (rsN s)[i]? := by
  rw [rsC, List.getElem?_append_right (by simp)]; simp
/-- A block holds a State. -/
def RsAt (w : World) (b : Nat) (s : LS) : Prop := w.heap[b]? = some (.cells (rsC s).toArray 31 (0, 0))
theorem RsAt.frm {D : List Nat} {w w' : World} {g : Nat} {s : LS} (h : RsAt w g s) (hf : Frm D w w') (hd : g ∉ D) : RsAt w' g s := hf.heap h hd
theorem RsAt.cell {w : World} {b i : Nat} {s : LS} {v : Value} (h : RsAt w b s) (hv : (rsC s)[i]? = some v) : w.cell? ⟨b, i, none⟩ = some v := by
  rw [cell_of_heap h]; simpa using hv
theorem RsAt.bit {w : World} {b t : Nat} {s : LS} (h : RsAt w b s) (ht : t < 64) : w.cell? ⟨b, t, none⟩ = some (.bool (s.sh.testBit t)) := h.cell (rsC_bit s ht)
theorem RsAt.nums {w : World} {b : Nat} {s : LS} (h : RsAt w b s) : w.cell? ⟨b, 64, none⟩ = some (.int .i64 (s.up + 1)) ∧ w.cell? ⟨b, 65, none⟩ = some (.int .i64 (s.ex + 1)) ∧ w.cell? ⟨b, 66, none⟩ = some (.int .i64 (s.wa + 1))
    ∧ w.cell? ⟨b, 67, none⟩ = some (.int .i64 (s.fi + 1)) ∧ w.cell? ⟨b, 68, none⟩ = some (.int .i64 (s.la + 1)) ∧ w.cell? ⟨b, 69, none⟩ = some (.int .i64 s.gr) :=
  ⟨h.cell (rsC_num s 0), h.cell (rsC_num s 1), h.cell (rsC_num s 2), h.cell (rsC_num s 3), h.cell (rsC_num s 4), h.cell (rsC_num s 5)⟩
theorem rs_new (w : World) (s : LS) : RsAt (w.alloc (.cells (rsC s).toArray 31)) w.heap.size s := heap_alloc_new _ _
/-- A load of the whole State, as one thing. -/
def ldS (a : Addr) : Sem Value := loadVar 31 a
theorem ldS_eq (a : Addr) : loadVar 31 a = ldS a := rfl
theorem RsAt.load {w : World} {b : Nat} {s : LS} (h : RsAt w b s) : (ldS ⟨b, 0, none⟩).run Tryz.prog w = .ok (.agg (rsC s).toArray) w :=
  run_loadVar_mid w b 0 _ (rsC s) (Tryz.prog.underlying 31).get! (fun j v hv => by rw [Nat.zero_add]; exact h.cell hv) (by kernel_rfl) (by kernel_rfl) (by rw [rsC_len]; kernel_rfl)
theorem no_bits {x : Nat} (hx : x < 18446744073709551616) (h : ∀ j, j < 64 → x.testBit j = false) : x = 0 := by
  apply Nat.eq_of_testBit_eq
  intro j
  by_cases hj : j < 64
  · rw [h j hj]; simp
  · rw [Nat.testBit_lt_two_pow (Nat.lt_of_lt_of_le hx (Nat.pow_le_pow_right (n := 2) (i := 64) (j := j) (by decide) (by omega)))]; simp
section
variable {w : World}
set_option maxRecDepth 100000 in
set_option maxHeartbeats 1000000 in
theorem anybody_any {s : LS} (hs : s.sh < 18446744073709551616) :
    Calls Tryz.prog 73 #[.agg (rsC s).toArray] w (Ret (.bool (s.sh != 0)) (fun w' => Frm [] w w')) := by
  obtain ⟨X, hX⟩ : ∃ X, X = w.alloc (.cells (rsC s).toArray 31) := ⟨_, rfl⟩
  have hFX : Frm [] w X := by rw [hX]; exact (Frm.refl _ _).alloc _
  have hR : RsAt X w.heap.size s := by rw [hX]; exact rs_new w s
  have hl := lt_of_heap hR
  have HR := Lib.hid hR
  have HFX := Lib.hid hFX
  clear hR hFX
  go_enter Tryz.func73, Tryz.ntmps73
  go_wp2_with fail
  rw [← hX]
  clear hX
  go_loopw [3] (fun i wr => ∃ k : Nat, k ≤ 64 ∧ i = .int .i64 (k : Int) ∧ (∀ j, j < k → s.sh.testBit j = false) ∧ wr = X) (fun i _ => 64 - (intOf i).toNat)
  case atStart => exact ⟨0, by decide, rfl, by intro j h; omega, rfl⟩
  case round =>
    obtain ⟨k, hk, rfl, hj, rfl⟩ := hrel
    by_cases hlt : k < 64
    · have c := HR.out.bit hlt
      cases hb : s.sh.testBit k with
      | true =>
        rw [hb] at c
        have hne : (s.sh != 0) = true := by
          rw [bne_iff_ne]
          intro e
          rw [e] at hb
          simp at hb
        go_wp2
        go_ret
        exact ⟨by rw [hne]; rfl, HFX.out⟩
      | false =>
        rw [hb] at c
        have HJ := Lib.hid hj
        clear hj
        go_wp2
        go_roundw
        case rel => exact ⟨k + 1, by omega, by go_num, fun j h => by rcases Nat.lt_or_eq_of_le (Nat.le_of_lt_succ h) with h | rfl; exact HJ.out j h; exact hb, by first | rfl | trivial⟩
        case measure => simp [intOf]; omega
    · obtain rfl : k = 64 := by omega
      have hz : (s.sh != 0) = false := by rw [no_bits hs hj]; rfl
      clear hj
      go_wp2
      go_ret
      exact ⟨by rw [hz]; rfl, HFX.out⟩
end
end Go.Proofs.YtjhidkjhfgbaeaaGreatDoor

/- The reference's Right, in pieces (by gen_lxb.py). -/
namespace Go.Proofs.YtjhidkjhfgbaeaaGreatDoor
open Go.ChangeShapes Go.WideShapes Go.ChangeAt Go.RowKit
set_option linter.unusedVariables false
set_option linter.unusedSimpArgs false
noncomputable def rgT (k : Nat) : Code := dropS k (Tryz.f44.body.getD .skip)
def LS.r5 (s : LS) : Bool := !(s.ex != -1 && (s.up != -1 || s.sh != 0)) && !(s.has s.up) && !(s.gr != 0 && s.sh == 0)
def LS.r3 (s : LS) : Bool := (s.fi == -1 && s.la == -1 || isL 64 s.fi && isL 64 s.la) && s.r5
def LS.r1 (s : LS) : Bool := isT 64 s.up && isT 64 s.ex && (s.wa == -1 || s.wa == s.up) && decide (0 ≤ s.gr) && decide (s.gr ≤ 4) && s.r3
attribute [local go_sem ↓] ldS_eq
set_option maxRecDepth 1000000 in
set_option maxHeartbeats 4000000 in
theorem right5 {w W : World} {b : Nat} {s : LS} (hF : Frm [] w W) (h : RsAt W b s) (hsh : s.sh < 18446744073709551616) (hu : -1 ≤ s.up ∧ s.up < 64) (v0 v3 v4 v5 v6 v7 v8 v9 v10 v11 v12 v13 v14 v15 v16 v17 v18 v19 v20 v21 v22 v23 v24 v25 v26 v27 v28 v29 v30 v31 v32 v33 v34 v35 v36 v37 v38 v39 v40 v41 v42 v43 v44 v45 v46 v47 v48 v49 v50 v51 v52 v53 v54 v55 v56 v57 v58 v59 v60 v61 v62 v63 v64 v65 v66 v67 v68 v69 v70 v71 v72 v73 v74 v75 v76 v77 v78 v79 v80 v81 v82 v83 v84 v85 v86 v87 v88 v89 v90 v91 v92 v93 v94 v95 v96 v97 v98 v99 v100 v101 v102 v103 v104 v105 v106 v107 v108 v109 v110 v111 v112 v113 v114 v115 v116 : Value) :
    Code.wp Tryz.prog (rgT 3) (bodyPost Tryz.prog Tryz.f44 (Ret (.bool (s.r5)) (fun w' => Frm [] w w'))) ⟨List.toArray (v0 :: .pointer (some ⟨b, 0, none⟩) :: .bool false :: v3 :: v4 :: v5 :: v6 :: v7 :: v8 :: v9 :: v10 :: v11 :: v12 :: v13 :: v14 :: v15 :: v16 :: v17 :: v18 :: v19 :: v20 :: v21 :: v22 :: v23 :: v24 :: v25 :: v26 :: v27 :: v28 :: v29 :: v30 :: v31 :: v32 :: v33 :: v34 :: v35 :: v36 :: v37 :: v38 :: v39 :: v40 :: v41 :: v42 :: v43 :: v44 :: v45 :: v46 :: v47 :: v48 :: v49 :: v50 :: v51 :: v52 :: v53 :: v54 :: v55 :: v56 :: v57 :: v58 :: v59 :: v60 :: v61 :: v62 :: v63 :: v64 :: v65 :: v66 :: v67 :: v68 :: v69 :: v70 :: v71 :: v72 :: v73 :: v74 :: v75 :: v76 :: v77 :: v78 :: v79 :: v80 :: v81 :: v82 :: v83 :: v84 :: v85 :: v86 :: v87 :: v88 :: v89 :: v90 :: v91 :: v92 :: v93 :: v94 :: v95 :: v96 :: v97 :: v98 :: v99 :: v100 :: v101 :: v102 :: v103 :: v104 :: v105 :: v106 :: v107 :: v108 :: v109 :: v110 :: v111 :: v112 :: v113 :: v114 :: v115 :: v116 :: []), []⟩ W := by
  have HF := Lib.hid hF
  have HS := Lib.hid h
  have hbl := lt_of_heap h
  obtain ⟨c0, c1, c2, c3, c4, c5⟩ := h.nums
  have hld := h.load
  have HA := Lib.hid (anybody_any (w := W) hsh)
  obtain ⟨U, hU⟩ : ∃ U, U = s.up + 1 := ⟨_, rfl⟩
  obtain ⟨X, hX⟩ : ∃ X, X = s.ex + 1 := ⟨_, rfl⟩
  obtain ⟨V, hV⟩ : ∃ V, V = s.wa + 1 := ⟨_, rfl⟩
  obtain ⟨A, hA⟩ : ∃ A, A = s.fi + 1 := ⟨_, rfl⟩
  obtain ⟨B, hB⟩ : ∃ B, B = s.la + 1 := ⟨_, rfl⟩
  obtain ⟨G, hG⟩ : ∃ G, G = s.gr := ⟨_, rfl⟩
  rw [← hU] at c0
  rw [← hX] at c1
  rw [← hV] at c2
  rw [← hA] at c3
  rw [← hB] at c4
  rw [← hG] at c5
  clear hF h
  have HSH := Lib.hid hsh
  by_cases hx : X = 0
  · have x1 : (X != 0) = false := by simp [hx]
    have x2 : (s.ex != -1) = false := by simp; omega
    by_cases hu0 : U = 0
    · have u1 : (U != 0) = false := by simp [hu0]
      have u2 : s.has s.up = false := by have : s.up = -1 := by omega
                                         rw [this]; rfl
      by_cases hg : G = 0
      · have g1 : (G != 0) = false := by simp [hg]
        have g2 : (s.gr != 0) = false := by simp [← hG, hg]
        have hr : s.r5 = true := by simp [LS.r5, x2, u2, g2]
        clear hU hX hV hA hB hG
        conv => arg 2; whnf
        go_wp2_with fail
        go_ret
        exact ⟨by rw [hr]; rfl, HF.out⟩
      · have g1 : (G != 0) = true := by simp [hg]
        have g2 : (s.gr != 0) = true := by simp [← hG, hg]
        cases hb : (s.sh != 0) with
        | true =>
          have hz : (s.sh == 0) = false := by simpa using hb
          have hr : s.r5 = true := by simp [LS.r5, x2, u2, g2, hz]
          clear hU hX hV hA hB hG
          conv => arg 2; whnf
          go_wp2_with fail
          refine (anybody_any HSH.out).mono ?_
          rintro e w1 ⟨rfl, hF1⟩
          have HF1 := Lib.hid (HF.out.trans hF1)
          have hl1 := Nat.lt_of_lt_of_le hbl hF1.size
          have d51 := (hF1.cell (i := 69) hbl (by simp)).trans c5
          have d01 := (hF1.cell (i := 64) hbl (by simp)).trans c0
          have hld1 := (HS.out.frm hF1 (by simp)).load
          have HS1 := Lib.hid (HS.out.frm hF1 (by simp))
          clear hF1
          go_wp2_with fail
          go_ret
          exact ⟨by rw [hr]; rfl, HF1.out⟩
        | false =>
          have hz : (s.sh == 0) = true := by simpa using hb
          have hr : s.r5 = false := by simp [LS.r5, x2, u2, g2, hz]
          clear hU hX hV hA hB hG
          conv => arg 2; whnf
          go_wp2_with fail
          refine (anybody_any HSH.out).mono ?_
          rintro e w1 ⟨rfl, hF1⟩
          have HF1 := Lib.hid (HF.out.trans hF1)
          have hl1 := Nat.lt_of_lt_of_le hbl hF1.size
          have d51 := (hF1.cell (i := 69) hbl (by simp)).trans c5
          have d01 := (hF1.cell (i := 64) hbl (by simp)).trans c0
          have hld1 := (HS.out.frm hF1 (by simp)).load
          have HS1 := Lib.hid (HS.out.frm hF1 (by simp))
          clear hF1
          go_wp2_with fail
          go_ret
          exact ⟨by rw [hr]; rfl, HF1.out⟩
    · have u1 : (U != 0) = true := by simp [hu0]
      obtain ⟨j, hj⟩ := Int.eq_ofNat_of_zero_le (show 0 ≤ s.up by omega)
      obtain rfl : U = (j : Int) + 1 := by omega
      have hc := HS.out.bit (show j < 64 by omega)
      have hj64 : j < 64 := by omega
      cases hbj : s.sh.testBit j with
      | true =>
        rw [hbj] at hc
        have u2 : s.has s.up = true := by rw [hj]; simp [LS.has, hbj]
        have hr : s.r5 = false := by simp [LS.r5, x2, u2]
        clear hU hX hV hA hB hG
        conv => arg 2; whnf
        go_wp2_with fail
        go_ret
        exact ⟨by rw [hr]; rfl, HF.out⟩
      | false =>
        rw [hbj] at hc
        have u2 : s.has s.up = false := by rw [hj]; simp [LS.has, hbj]
        by_cases hg : G = 0
        · have g1 : (G != 0) = false := by simp [hg]
          have g2 : (s.gr != 0) = false := by simp [← hG, hg]
          have hr : s.r5 = true := by simp [LS.r5, x2, u2, g2]
          clear hU hX hV hA hB hG
          conv => arg 2; whnf
          go_wp2_with fail
          go_ret
          exact ⟨by rw [hr]; rfl, HF.out⟩
        · have g1 : (G != 0) = true := by simp [hg]
          have g2 : (s.gr != 0) = true := by simp [← hG, hg]
          cases hb : (s.sh != 0) with
          | true =>
            have hz : (s.sh == 0) = false := by simpa using hb
            have hr : s.r5 = true := by simp [LS.r5, x2, u2, g2, hz]
            clear hU hX hV hA hB hG
            conv => arg 2; whnf
            go_wp2_with fail
            refine (anybody_any HSH.out).mono ?_
            rintro e w1 ⟨rfl, hF1⟩
            have HF1 := Lib.hid (HF.out.trans hF1)
            have hl1 := Nat.lt_of_lt_of_le hbl hF1.size
            have d51 := (hF1.cell (i := 69) hbl (by simp)).trans c5
            have d01 := (hF1.cell (i := 64) hbl (by simp)).trans c0
            have hld1 := (HS.out.frm hF1 (by simp)).load
            have HS1 := Lib.hid (HS.out.frm hF1 (by simp))
            clear hF1
            go_wp2_with fail
            go_ret
            exact ⟨by rw [hr]; rfl, HF1.out⟩
          | false =>
            have hz : (s.sh == 0) = true := by simpa using hb
            have hr : s.r5 = false := by simp [LS.r5, x2, u2, g2, hz]
            clear hU hX hV hA hB hG
            conv => arg 2; whnf
            go_wp2_with fail
            refine (anybody_any HSH.out).mono ?_
            rintro e w1 ⟨rfl, hF1⟩
            have HF1 := Lib.hid (HF.out.trans hF1)
            have hl1 := Nat.lt_of_lt_of_le hbl hF1.size
            have d51 := (hF1.cell (i := 69) hbl (by simp)).trans c5
            have d01 := (hF1.cell (i := 64) hbl (by simp)).trans c0
            have hld1 := (HS.out.frm hF1 (by simp)).load
            have HS1 := Lib.hid (HS.out.frm hF1 (by simp))
            clear hF1
            go_wp2_with fail
            go_ret
            exact ⟨by rw [hr]; rfl, HF1.out⟩
  · have x1 : (X != 0) = true := by simp [hx]
    have x2 : (s.ex != -1) = true := by simp; omega
    by_cases hu0 : U = 0
    · have u1 : (U != 0) = false := by simp [hu0]
      have u3 : (s.up != -1) = false := by simp; omega
      have u2 : s.has s.up = false := by have : s.up = -1 := by omega
                                         rw [this]; rfl
      cases hb : (s.sh != 0) with
      | true =>
        have hr : s.r5 = false := by simp [LS.r5, x2, u3, hb]
        clear hU hX hV hA hB hG
        conv => arg 2; whnf
        go_wp2_with fail
        refine (anybody_any HSH.out).mono ?_
        rintro e w1 ⟨rfl, hF1⟩
        have HF1 := Lib.hid (HF.out.trans hF1)
        have hl1 := Nat.lt_of_lt_of_le hbl hF1.size
        have d51 := (hF1.cell (i := 69) hbl (by simp)).trans c5
        have d01 := (hF1.cell (i := 64) hbl (by simp)).trans c0
        have hld1 := (HS.out.frm hF1 (by simp)).load
        have HS1 := Lib.hid (HS.out.frm hF1 (by simp))
        clear hF1
        go_wp2_with fail
        go_ret
        exact ⟨by rw [hr]; rfl, HF1.out⟩
      | false =>
        have hz : (s.sh == 0) = true := by simpa using hb
        by_cases hg : G = 0
        · have g1 : (G != 0) = false := by simp [hg]
          have g2 : (s.gr != 0) = false := by simp [← hG, hg]
          have hr : s.r5 = true := by simp [LS.r5, x2, u3, u2, hb, g2]
          clear hU hX hV hA hB hG
          conv => arg 2; whnf
          go_wp2_with fail
          refine (anybody_any HSH.out).mono ?_
          rintro e w1 ⟨rfl, hF1⟩
          have HF1 := Lib.hid (HF.out.trans hF1)
          have hl1 := Nat.lt_of_lt_of_le hbl hF1.size
          have d51 := (hF1.cell (i := 69) hbl (by simp)).trans c5
          have d01 := (hF1.cell (i := 64) hbl (by simp)).trans c0
          have hld1 := (HS.out.frm hF1 (by simp)).load
          have HS1 := Lib.hid (HS.out.frm hF1 (by simp))
          clear hF1
          go_wp2_with fail
          go_ret
          exact ⟨by rw [hr]; rfl, HF1.out⟩
        · have g1 : (G != 0) = true := by simp [hg]
          have g2 : (s.gr != 0) = true := by simp [← hG, hg]
          have hr : s.r5 = false := by simp [LS.r5, x2, u3, u2, hb, g2, hz]
          clear hU hX hV hA hB hG
          conv => arg 2; whnf
          go_wp2_with fail
          refine (anybody_any HSH.out).mono ?_
          rintro e w1 ⟨rfl, hF1⟩
          have HF1 := Lib.hid (HF.out.trans hF1)
          have hl1 := Nat.lt_of_lt_of_le hbl hF1.size
          have d51 := (hF1.cell (i := 69) hbl (by simp)).trans c5
          have d01 := (hF1.cell (i := 64) hbl (by simp)).trans c0
          have hld1 := (HS.out.frm hF1 (by simp)).load
          have HS1 := Lib.hid (HS.out.frm hF1 (by simp))
          clear hF1
          go_wp2_with fail
          refine (anybody_any HSH.out).mono ?_
          rintro e w2 ⟨rfl, hF2⟩
          have HF2 := Lib.hid (HF1.out.trans hF2)
          have hl2 := Nat.lt_of_lt_of_le hl1 hF2.size
          have d52 := (hF2.cell (i := 69) hl1 (by simp)).trans d51
          have d02 := (hF2.cell (i := 64) hl1 (by simp)).trans d01
          have hld2 := (HS1.out.frm hF2 (by simp)).load
          have HS2 := Lib.hid (HS1.out.frm hF2 (by simp))
          clear hF2
          go_wp2_with fail
          go_ret
          exact ⟨by rw [hr]; rfl, HF2.out⟩
    · have u1 : (U != 0) = true := by simp [hu0]
      have u3 : (s.up != -1) = true := by simp; omega
      have hr : s.r5 = false := by simp [LS.r5, x2, u3]
      clear hU hX hV hA hB hG
      conv => arg 2; whnf
      go_wp2_with fail
      go_ret
      exact ⟨by rw [hr]; rfl, HF.out⟩
end Go.Proofs.YtjhidkjhfgbaeaaGreatDoor
