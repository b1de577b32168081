/- Stage 13: Waits of the reference. (By gen_trv.py.) -/
import Derived.Test.YtfkikaoojelddaaTrU
import Derived.Deep.CutBlock
namespace Go.Proofs.Ytfkikaoojelddaa
open Go.ChangeShapes Go.WideShapes Go.ChangeAt Go.RowKit
set_option linter.unusedVariables false
set_option linter.unusedSimpArgs false
attribute [local go_sem ↓] Go.wp_at_zero Go.wp_at_succ
theorem rwt_succ (l : List Dd) (k : Nat) : rwt l (k + 1) = rwt l k ++ if strt l k = true then [(ent l k l.length).1] else [] := by
  unfold rwt
  rw [List.range_succ, List.filter_append, List.map_append]
  congr 1
  by_cases h : strt l k = true
  · rw [if_pos h, List.filter_cons_of_pos h]; rfl
  · rw [if_neg h, List.filter_cons_of_neg h]; rfl
theorem rwt_length (l : List Dd) : ∀ k, (rwt l k).length ≤ k
  | 0 => Nat.le_refl _
  | k + 1 => by
    have := rwt_length l k
    rw [rwt_succ, List.length_append]
    split <;> simp <;> omega
/-- What the reference asks of a wait's beginning. -/
theorem strt_T (l : List Dd) (k : Nat) {d : Dd} (hd : l.getD k dd0 = d) : strt l k = (decide (0 ≤ atW d) && !(decide (0 ≤ lastT l d.i k) && decide (atW (l.getD (lastT l d.i k).toNat dd0) = atW d))) := by
  unfold strt
  rw [hd, lastAt_T]
  by_cases h0 : 0 ≤ atW d
  · by_cases h1 : lastT l d.i k < 0
    · rw [if_pos h1]
      have : ¬ (0 ≤ lastT l d.i k) := by omega
      have h2 : ¬ ((-1 : Int) = atW d) := by omega
      simp [h0, this, h2]
    · rw [if_neg h1]
      have : 0 ≤ lastT l d.i k := by omega
      simp [h0, this]
  · simp [h0]
theorem cells5 {w : World} {b : Nat} {x0 x1 x2 x3 x4 : Value} {t : TypeId} (h : w.heap[b]? = some (.cells #[x0, x1, x2, x3, x4] t (0, 0))) : w.cell? ⟨b, 0, none⟩ = some x0 ∧ w.cell? ⟨b, 1, none⟩ = some x1 ∧ w.cell? ⟨b, 2, none⟩ = some x2 ∧ w.cell? ⟨b, 3, none⟩ = some x3 ∧ w.cell? ⟨b, 4, none⟩ = some x4 := by
  refine ⟨?_, ?_, ?_, ?_, ?_⟩ <;> rw [cell_of_heap h] <;> rfl
def headIs (r : Nat) : Code → Bool
  | .seq x _ => headIs r x
  | .region i _ _ => i == r
  | _ => false
def seqAt (r : Nat) : Code → Option Code
  | .seq x y => if headIs r x then some (.seq x y) else match seqAt r x with
    | some z => some z
    | none => seqAt r y
  | .cond _ x y => match seqAt r x with
    | some z => some z
    | none => seqAt r y
  | .block _ x => seqAt r x
  | .loop x => seqAt r x
  | .scope x => seqAt r x
  | _ => none
noncomputable def pieceW (r : Nat) : Code := ((Try.f15.body.bind (seqAt r)).getD .skip)
section
variable {w : World} {a : Option Addr} {n c b o : Nat} {l : List Dd}
set_option maxRecDepth 100000 in
set_option maxHeartbeats 6400000 in
/-- One wait of the reference: from where it begins on. -/
theorem rw_tail (h : DL w a n c b o l) (hn : n ≤ 100000) {w3 : World} (hF : Frm [] w w3) {k : Nat} {d : Dd} (hd : l[k]? = some d) (hlt : k < n) {a1 : Option Addr} {c1 : Nat} (hG : Gr 52 5 w.heap.size w3 a1 (rwt l k).length c1 (wdF (rwt l k)))
    {Q : Exit → Act → World → Prop} (v1 v2 v6 v7 v8 v9 v10 v11 v12 v13 v14 v15 v16 v17 v18 v19 v20 v21 v22 v23 v24 v25 v26 v27 v28 v29 v30 v31 v32 v33 v34 v35 v36 v37 v38 v39 v40 v41 v42 v43 v44 v45 v46 v47 v48 v49 v50 v51 v52 v53 v54 v55 v56 v57 v58 v59 v60 v61 v62 v63 v64 v65 v66 v67 v68 v69 v70 v71 v72 v73 v74 v75 v76 v77 v78 v79 v80 v81 v82 v83 v84 v85 v86 v87 v88 v89 v90 v91 v92 v93 v94 v95 v96 v97 v98 v99 v100 v101 v102 v103 v104 v105 : Value)
    (hQ : ∀ (u7 u8 u38 u39 u40 u41 u42 u43 u44 u45 u46 u47 u48 u49 u50 u51 u52 u53 u54 u55 u56 u57 u58 u59 u60 u61 u62 u63 u64 u65 u66 u67 u68 u69 u70 u71 u72 u73 u74 u75 u76 u77 u78 u79 u80 u81 u82 u83 u84 u85 u86 u87 u88 u89 u90 u91 u92 u93 u94 u95 u96 u97 u98 u99 u100 u101 u102 u103 u104 : Value) (a5 : Option Addr) (c5 : Nat) (w5 : World), Frm [] w w5 → Gr 52 5 w.heap.size w5 a5 ((rwt l k).length + 1) c5 (wdF (rwt l k ++ [(ent l k l.length).1])) →
      Q .normal ⟨List.toArray (.slice a n c :: v1 :: v2 :: .slice a5 ((rwt l k).length + 1) c5 :: .int .i64 (k : Int) :: .int .i64 (atW d) :: v6 :: u7 :: u8 :: v9 :: v10 :: v11 :: v12 :: v13 :: v14 :: v15 :: v16 :: v17 :: v18 :: v19 :: v20 :: v21 :: v22 :: v23 :: v24 :: v25 :: v26 :: v27 :: v28 :: v29 :: v30 :: v31 :: v32 :: v33 :: v34 :: v35 :: v36 :: v37 :: u38 :: u39 :: u40 :: u41 :: u42 :: u43 :: u44 :: u45 :: u46 :: u47 :: u48 :: u49 :: u50 :: u51 :: u52 :: u53 :: u54 :: u55 :: u56 :: u57 :: u58 :: u59 :: u60 :: u61 :: u62 :: u63 :: u64 :: u65 :: u66 :: u67 :: u68 :: u69 :: u70 :: u71 :: u72 :: u73 :: u74 :: u75 :: u76 :: u77 :: u78 :: u79 :: u80 :: u81 :: u82 :: u83 :: u84 :: u85 :: u86 :: u87 :: u88 :: u89 :: u90 :: u91 :: u92 :: u93 :: u94 :: u95 :: u96 :: u97 :: u98 :: u99 :: u100 :: u101 :: u102 :: u103 :: u104 :: v105 :: []), []⟩ w5) :
    Code.wp Try.prog (pieceW 8) Q ⟨List.toArray (.slice a n c :: v1 :: v2 :: .slice a1 (rwt l k).length c1 :: .int .i64 (k : Int) :: .int .i64 (atW d) :: v6 :: v7 :: v8 :: v9 :: v10 :: v11 :: v12 :: v13 :: v14 :: v15 :: v16 :: v17 :: v18 :: v19 :: v20 :: v21 :: v22 :: v23 :: v24 :: v25 :: v26 :: v27 :: v28 :: v29 :: v30 :: v31 :: v32 :: v33 :: v34 :: v35 :: v36 :: v37 :: v38 :: v39 :: v40 :: v41 :: v42 :: v43 :: v44 :: v45 :: v46 :: v47 :: v48 :: v49 :: v50 :: v51 :: v52 :: v53 :: v54 :: v55 :: v56 :: v57 :: v58 :: v59 :: v60 :: v61 :: v62 :: v63 :: v64 :: v65 :: v66 :: v67 :: v68 :: v69 :: v70 :: v71 :: v72 :: v73 :: v74 :: v75 :: v76 :: v77 :: v78 :: v79 :: v80 :: v81 :: v82 :: v83 :: v84 :: v85 :: v86 :: v87 :: v88 :: v89 :: v90 :: v91 :: v92 :: v93 :: v94 :: v95 :: v96 :: v97 :: v98 :: v99 :: v100 :: v101 :: v102 :: v103 :: v104 :: v105 :: []), []⟩ w3 := by
  have HQ := Lib.hid hQ
  have HL := Lib.hid h.len
  have H := Lib.hid h
  have HN := Lib.hid hn
  have hn2 : (n : Int) ≤ 100000 := by omega
  have HF3 := Lib.hid hF
  have HG3 := Lib.hid hG
  have HD := Lib.hid hd
  have HDD := Lib.hid (getD_of hd)
  have HLT := Lib.hid hlt
  have hltz : (k : Int) < (n : Int) := by omega
  have HRL := Lib.hid (rwt_length l k)
  have hL3 := H.out.frm0 HF3.out
  have hi1 := ix_did (c := c) hL3.ad hlt
  have p0 := hL3.get HD.out 0 _ rfl
  rw [Nat.add_zero] at p0
  clear hQ h hn hF hG hd hL3 hlt
  conv => arg 2; whnf
  try dsimp only
  go_wp2_with fail
  have hB0 : (w3.alloc (.cells #[.int .i64 d.i, .int .i64 (atW d), .int .i64 (k : Int), .int .i64 (-1), .int .i64 (-1)] 52)).heap[w3.heap.size]? = some (.cells #[.int .i64 d.i, .int .i64 (atW d), .int .i64 (k : Int), .int .i64 (-1), .int .i64 (-1)] 52 (0, 0)) := heap_alloc_new w3 _
  have HB0 := Lib.hid hB0
  clear hB0 p0
  go_loopw [8] (fun s wr => ∃ (m : Nat) (x : Wd), k + 1 ≤ m ∧ m ≤ n ∧ s = .int .i64 m ∧ Frm [] w3 wr ∧ wr.heap[w3.heap.size]? = some (.cells #[.int .i64 x.t, .int .i64 x.w, .int .i64 x.f, .int .i64 x.to, .int .i64 x.by_] 52 (0, 0)) ∧ ent l k m = (x, true)) (fun s _ => n - (intOf s).toNat)
  case atStart => exact ⟨k + 1, ⟨d.i, atW d, k, -1, -1⟩, Nat.le_refl _, by have := HLT.out; omega, by go_num, (Frm.refl [] w3).alloc _, HB0.out, by rw [ent_base, HDD.out]⟩
  case round =>
    obtain ⟨m, x, hkm, hmn, rfl, hFB, hXB, hE⟩ := hrel
    have HFB := Lib.hid hFB
    have HXBW := Lib.hid hXB
    have hxt := ent_t l k m
    rw [hE, HDD.out] at hxt
    have HXT := Lib.hid (show x.t = d.i ∧ x.w = atW d from ⟨hxt.1, hxt.2.1⟩)
    have hmk : k < m := by omega
    clear hFB hXB hxt
    by_cases hml : m < n
    · obtain ⟨g, hg⟩ : ∃ g, l[m]? = some g := ⟨_, List.getElem?_eq_getElem (by rw [HL.out]; exact hml)⟩
      have HGM := Lib.hid hg
      have HES := Lib.hid (show ent l k (m + 1) = ext m g (x, true) by rw [ent_step hmk, getD_of hg, hE])
      have HI1 := Lib.hid (ix_did (c := c) (H.out.frm0 HF3.out).ad hml)
      have HI2 := Lib.hid (ix_did (c := c) (H.out.frm0 HF3.out).ad HLT.out)
      have HML := Lib.hid hml
      have hmlt : (m : Int) < (n : Int) := by omega
      clear hg hE hi1
      by_cases hgi : g.i = d.i
      · go_wp2_with fail
        by_cases ha : ¬ atW g = atW d
        · have ha : ¬ atW g = atW d := ha
          have HNE := Lib.hid (show (atW g != atW d) = true by simpa using ha)
          have HNEXT := Lib.hid (show ent l k (m + 1) = (x, false) by rw [HES.out]; unfold ext; rw [if_pos rfl, if_pos (show g.i = x.t by rw [HXT.out.1]; exact hgi), if_neg (show ¬ atW g = x.w by rw [HXT.out.2]; exact ha)])
          have HEQ := Lib.hid (show (g.i == d.i) = true by simpa using hgi)
          have HEQ2 := Lib.hid (show (g.i != d.i) = false by simpa using hgi)
          obtain ⟨X, hX⟩ : ∃ X, X = wr := ⟨_, rfl⟩
          have HFX := Lib.hid (show Frm [] w X by rw [hX]; exact HF3.out.trans HFB.out)
          have HXBR := Lib.hid (show X.heap[w3.heap.size]? = some (.cells #[.int .i64 x.t, .int .i64 x.w, .int .i64 x.f, .int .i64 x.to, .int .i64 x.by_] 52 (0, 0)) by rw [hX]; exact HXBW.out)
          rw [← hX] at HFB ⊢
          clear ha hX hgi
          have HC := Lib.hid (show ∀ w', Frm [] X w' → w'.cell? ⟨b, o + m * 7, none⟩ = some (.int .i64 g.i) ∧ w'.cell? ⟨b, o + m * 7 + 1, none⟩ = some (.int .i64 g.a.k) ∧ w'.cell? ⟨b, o + m * 7 + 2, none⟩ = some (.int .i64 g.a.w) ∧ w'.cell? ⟨b, o + m * 7 + 3, none⟩ = some (.int .u64 g.a.b) ∧ w'.cell? ⟨b, o + m * 7 + 4, none⟩ = some (.int .u64 g.a.a) ∧ w'.cell? ⟨b, o + m * 7 + 5, none⟩ = some (.bool g.wt) ∧ w'.cell? ⟨b, o + m * 7 + 6, none⟩ = some (.bool g.en) ∧ w'.cell? ⟨b, o + k * 7, none⟩ = some (.int .i64 d.i) from fun w' hw => by
            have hL := H.out.frm0 (HFX.out.trans hw)
            have z0 := hL.get HGM.out 0 _ rfl
            have z1 := hL.get HD.out 0 _ rfl
            rw [Nat.add_zero] at z0 z1
            exact ⟨z0, hL.get HGM.out 1 _ rfl, hL.get HGM.out 2 _ rfl, hL.get HGM.out 3 _ rfl, hL.get HGM.out 4 _ rfl, hL.get HGM.out 5 _ rfl, hL.get HGM.out 6 _ rfl, z1⟩)
          refine wp_region_noPanic ?_
          refine wp_region_held_drew (S := fun w' => Frm [] X w') (by kernel_rfl) ((Frm.refl _ _).drew) (fun hHeld => ?_)
          refine take_in (i := 0) (d := 54) (v := .slice a n c) rfl rfl (by kernel_rfl) (by kernel_rfl) (by kernel_rfl) (fun _ _ _ h => h) (by kernel_rfl) (fun _ _ => rfl) (by assumption) ?_
          try simp only [Act.put, List.setIfInBounds_toArray, List.set_cons_zero, List.set_cons_succ]
          refine take_in (i := 1) (d := 55) (v := .int .i64 (m : Int)) rfl rfl (by kernel_rfl) (by kernel_rfl) (by kernel_rfl) (fun _ _ _ h => h) (by kernel_rfl) (fun _ _ => rfl) (by assumption) ?_
          try simp only [Act.put, List.setIfInBounds_toArray, List.set_cons_zero, List.set_cons_succ]
          refine take_in (i := 2) (d := 56) (v := .pointer (some ⟨b, o + m * 7, none⟩)) rfl rfl (by kernel_rfl) (by kernel_rfl) (by kernel_rfl) (fun _ _ _ h => h) (by kernel_rfl) (fun w' hS => by have h1 := HI1.out w'; go_simp) (by assumption) ?_
          try simp only [Act.put, List.setIfInBounds_toArray, List.set_cons_zero, List.set_cons_succ]
          refine take_in (i := 3) (d := 57) (v := .pointer (some ⟨b, o + m * 7, none⟩)) rfl rfl (by kernel_rfl) (by kernel_rfl) (by kernel_rfl) (fun _ _ _ h => h) (by kernel_rfl) (fun _ _ => rfl) (by assumption) ?_
          try simp only [Act.put, List.setIfInBounds_toArray, List.set_cons_zero, List.set_cons_succ]
          refine take_in (i := 4) (d := 58) (v := .int .i64 g.i) rfl rfl (by kernel_rfl) (by kernel_rfl) (by kernel_rfl) (fun _ _ _ h => h) (by kernel_rfl) (fun w' hS => by have hh := HC.out w' hS; obtain ⟨b0, b1, b2, b3, b4, b5, b6, d0⟩ := hh; go_simp) (by assumption) ?_
          try simp only [Act.put, List.setIfInBounds_toArray, List.set_cons_zero, List.set_cons_succ]
          refine take_in (i := 5) (d := 59) (v := .slice a n c) rfl rfl (by kernel_rfl) (by kernel_rfl) (by kernel_rfl) (fun _ _ _ h => h) (by kernel_rfl) (fun _ _ => rfl) (by assumption) ?_
          try simp only [Act.put, List.setIfInBounds_toArray, List.set_cons_zero, List.set_cons_succ]
          refine take_in (i := 6) (d := 60) (v := .int .i64 (k : Int)) rfl rfl (by kernel_rfl) (by kernel_rfl) (by kernel_rfl) (fun _ _ _ h => h) (by kernel_rfl) (fun _ _ => rfl) (by assumption) ?_
          try simp only [Act.put, List.setIfInBounds_toArray, List.set_cons_zero, List.set_cons_succ]
          refine take_in (i := 7) (d := 61) (v := .pointer (some ⟨b, o + k * 7, none⟩)) rfl rfl (by kernel_rfl) (by kernel_rfl) (by kernel_rfl) (fun _ _ _ h => h) (by kernel_rfl) (fun w' hS => by have h1 := HI2.out w'; go_simp) (by assumption) ?_
          try simp only [Act.put, List.setIfInBounds_toArray, List.set_cons_zero, List.set_cons_succ]
          refine take_in (i := 8) (d := 62) (v := .pointer (some ⟨b, o + k * 7, none⟩)) rfl rfl (by kernel_rfl) (by kernel_rfl) (by kernel_rfl) (fun _ _ _ h => h) (by kernel_rfl) (fun _ _ => rfl) (by assumption) ?_
          try simp only [Act.put, List.setIfInBounds_toArray, List.set_cons_zero, List.set_cons_succ]
          refine take_in (i := 9) (d := 63) (v := .int .i64 d.i) rfl rfl (by kernel_rfl) (by kernel_rfl) (by kernel_rfl) (fun _ _ _ h => h) (by kernel_rfl) (fun w' hS => by have hh := HC.out w' hS; obtain ⟨b0, b1, b2, b3, b4, b5, b6, d0⟩ := hh; go_simp) (by assumption) ?_
          try simp only [Act.put, List.setIfInBounds_toArray, List.set_cons_zero, List.set_cons_succ]
          refine take_in (i := 10) (d := 64) (v := .bool true) rfl rfl (by kernel_rfl) (by kernel_rfl) (by kernel_rfl) (fun _ _ _ h => h) (by kernel_rfl) (fun w' hS => by have h1 := HEQ.out; go_simp) (by assumption) ?_
          try simp only [Act.put, List.setIfInBounds_toArray, List.set_cons_zero, List.set_cons_succ]
          refine take_in (i := 11) (d := 65) (v := .bool true) rfl rfl (by kernel_rfl) (by kernel_rfl) (by kernel_rfl) (fun _ _ _ h => h) (by kernel_rfl) (fun _ _ => rfl) (by assumption) ?_
          try simp only [Act.put, List.setIfInBounds_toArray, List.set_cons_zero, List.set_cons_succ]
          refine take_in (i := 12) (d := 66) (v := .slice a n c) rfl rfl (by kernel_rfl) (by kernel_rfl) (by kernel_rfl) (fun _ _ _ h => h) (by kernel_rfl) (fun _ _ => rfl) (by assumption) ?_
          try simp only [Act.put, List.setIfInBounds_toArray, List.set_cons_zero, List.set_cons_succ]
          refine take_in (i := 13) (d := 67) (v := .int .i64 (m : Int)) rfl rfl (by kernel_rfl) (by kernel_rfl) (by kernel_rfl) (fun _ _ _ h => h) (by kernel_rfl) (fun _ _ => rfl) (by assumption) ?_
          try simp only [Act.put, List.setIfInBounds_toArray, List.set_cons_zero, List.set_cons_succ]
          refine take_in (i := 14) (d := 68) (v := .pointer (some ⟨b, o + m * 7, none⟩)) rfl rfl (by kernel_rfl) (by kernel_rfl) (by kernel_rfl) (fun _ _ _ h => h) (by kernel_rfl) (fun w' hS => by have h1 := HI1.out w'; go_simp) (by assumption) ?_
          try simp only [Act.put, List.setIfInBounds_toArray, List.set_cons_zero, List.set_cons_succ]
          refine take_in (i := 15) (d := 69) (v := (.agg #[.int .i64 g.i, .int .i64 g.a.k, .int .i64 g.a.w, .int .u64 g.a.b, .int .u64 g.a.a, .bool g.wt, .bool g.en])) rfl rfl (by kernel_rfl) (by kernel_rfl) (by kernel_rfl) (fun _ _ _ h => h) (by kernel_rfl) (fun w' hS => by have hh := HC.out w' hS; obtain ⟨b0, b1, b2, b3, b4, b5, b6, d0⟩ := hh; go_simp) (by assumption) ?_
          try simp only [Act.put, List.setIfInBounds_toArray, List.set_cons_zero, List.set_cons_succ]
          refine take_in (i := 17) (d := 71) (v := .int .i64 (atW d)) rfl rfl (by kernel_rfl) (by kernel_rfl) (by kernel_rfl) (fun _ _ _ h => h) (by kernel_rfl) (fun _ _ => rfl) (by assumption) ?_
          try simp only [Act.put, List.setIfInBounds_toArray, List.set_cons_zero, List.set_cons_succ]
          refine wpAnyH_ready (rs := [16]) (by kernel_rfl) (by simp) ?_
          refine AllReadyH.cons rfl (fun K hK => ?_) AllReadyH.nil
          go_simp
          go_at_call 32
          refine (at_any g.i g.a.k g.a.w g.a.b g.a.a g.wt g.en _).mono ?_
          rintro e1 x1 ⟨rfl, hF1⟩
          have s1 : Frm [] X x1 := (Frm.refl [] X).drew.trans hF1
          rw [show (⟨g.i, ⟨g.a.k, g.a.w, g.a.b, g.a.a⟩, g.wt, g.en⟩ : Dd) = g from rfl]
          refine hK.out _ _ (by exact s1) (fun hHeld => ?_)
          clear hK K
          try change wpAnyH _ _ _ _ _ _ _ (Act.put _ (some 70) _) _
          try simp only [Act.put, List.setIfInBounds_toArray, List.set_cons_zero, List.set_cons_succ]
          refine take_in (i := 18) (d := 72) (v := .bool true) rfl rfl (by kernel_rfl) (by kernel_rfl) (by kernel_rfl) (fun _ _ _ h => h) (by kernel_rfl) (fun w' hS => by have h1 := HNE.out; go_simp) (by assumption) ?_
          try simp only [Act.put, List.setIfInBounds_toArray, List.set_cons_zero, List.set_cons_succ]
          refine take_in (i := 19) (d := 73) (v := .bool true) rfl rfl (by kernel_rfl) (by kernel_rfl) (by kernel_rfl) (fun _ _ _ h => h) (by kernel_rfl) (fun _ _ => rfl) (by assumption) ?_
          try simp only [Act.put, List.setIfInBounds_toArray, List.set_cons_zero, List.set_cons_succ]
          refine wpAnyH_done (by kernel_rfl) ?_ _
          refine NoPanic.normal ?_
          have HFC := Lib.hid (HFB.out.trans s1)
          have HXB := Lib.hid (s1.heap HXBR.out (by simp))
          have HENT := Lib.hid (show (ent l k l.length).1 = x by rw [ent_over (k := m + 1) (m := l.length) (by omega) (by rw [HNEXT.out]) (by rw [HL.out]; have := HML.out; omega), HNEXT.out])
          clear hmk
          obtain ⟨y0, y1, y2, y3, y4⟩ := cells5 HXB.out
          have HROW := Lib.hid ((HG3.out.frm0 HFC.out).frm0 ((Frm.refl [] x1).alloc (.cells #[.int .i64 x.t, .int .i64 x.w, .int .i64 x.f, .int .i64 x.to, .int .i64 x.by_] 52)))
          have HGG := Lib.hid (heap_alloc_new x1 (.cells #[.int .i64 x.t, .int .i64 x.w, .int .i64 x.f, .int .i64 x.to, .int .i64 x.by_] 52))
          have HSZ := Lib.hid (show w.heap.size ≤ (x1.alloc (.cells #[.int .i64 x.t, .int .i64 x.w, .int .i64 x.f, .int .i64 x.to, .int .i64 x.by_] 52)).heap.size by have := HF3.out.size; have := HFC.out.size; simp; omega)
          go_wp2_with (at_builtin; refine wpl_gr u_wd i_wd (by decide) (by decide) (by decide) rfl (.tmp 101) (.tmp 103) rfl (B := w.heap.size) (g2 := x1.heap.size) (l := [.int .i64 x.t, .int .i64 x.w, .int .i64 x.f, .int .i64 x.to, .int .i64 x.by_]) (by simp [Act.eval]) (by simp [Act.eval]) HROW.out rfl (by simp [Value.oneCell']) HGG.out (by have := HRL.out; have := HLT.out; have := HN.out; omega) HSZ.out ?_; intro a5 c5 w5 hG5 hF5 hb5; have HG5 := Lib.hid hG5; have HF5 := Lib.hid hF5; clear hG5 hF5 hb5)
          refine HQ.out _ _ _ _ _ _ _ _ _ _ _ _ _ _ _ _ _ _ _ _ _ _ _ _ _ _ _ _ _ _ _ _ _ _ _ _ _ _ _ _ _ _ _ _ _ _ _ _ _ _ _ _ _ _ _ _ _ _ _ _ _ _ _ _ _ _ _ _ _ a5 c5 w5 (((HF3.out.trans HFC.out).alloc _).trans_new HF5.out (fun y hy => .inr (HROW.out.from_ y hy).1)) ?_
          rw [HENT.out]
          exact HG5.out.congr fun j hj => wdF_app _ x hj
        · have ha : atW g = atW d := by simpa using ha
          have HNE := Lib.hid (show (atW g != atW d) = false by simpa using ha)
          have HNEXT := Lib.hid (show ent l k (m + 1) = (x, true) by rw [HES.out]; unfold ext; rw [if_pos rfl, if_pos (show g.i = x.t by rw [HXT.out.1]; exact hgi), if_pos (show atW g = x.w by rw [HXT.out.2]; exact ha)])
          have HEQ := Lib.hid (show (g.i == d.i) = true by simpa using hgi)
          have HEQ2 := Lib.hid (show (g.i != d.i) = false by simpa using hgi)
          obtain ⟨X, hX⟩ : ∃ X, X = wr := ⟨_, rfl⟩
          have HFX := Lib.hid (show Frm [] w X by rw [hX]; exact HF3.out.trans HFB.out)
          have HXBR := Lib.hid (show X.heap[w3.heap.size]? = some (.cells #[.int .i64 x.t, .int .i64 x.w, .int .i64 x.f, .int .i64 x.to, .int .i64 x.by_] 52 (0, 0)) by rw [hX]; exact HXBW.out)
          rw [← hX] at HFB ⊢
          clear ha hX hgi
          have HC := Lib.hid (show ∀ w', Frm [] X w' → w'.cell? ⟨b, o + m * 7, none⟩ = some (.int .i64 g.i) ∧ w'.cell? ⟨b, o + m * 7 + 1, none⟩ = some (.int .i64 g.a.k) ∧ w'.cell? ⟨b, o + m * 7 + 2, none⟩ = some (.int .i64 g.a.w) ∧ w'.cell? ⟨b, o + m * 7 + 3, none⟩ = some (.int .u64 g.a.b) ∧ w'.cell? ⟨b, o + m * 7 + 4, none⟩ = some (.int .u64 g.a.a) ∧ w'.cell? ⟨b, o + m * 7 + 5, none⟩ = some (.bool g.wt) ∧ w'.cell? ⟨b, o + m * 7 + 6, none⟩ = some (.bool g.en) ∧ w'.cell? ⟨b, o + k * 7, none⟩ = some (.int .i64 d.i) from fun w' hw => by
            have hL := H.out.frm0 (HFX.out.trans hw)
            have z0 := hL.get HGM.out 0 _ rfl
            have z1 := hL.get HD.out 0 _ rfl
            rw [Nat.add_zero] at z0 z1
            exact ⟨z0, hL.get HGM.out 1 _ rfl, hL.get HGM.out 2 _ rfl, hL.get HGM.out 3 _ rfl, hL.get HGM.out 4 _ rfl, hL.get HGM.out 5 _ rfl, hL.get HGM.out 6 _ rfl, z1⟩)
          refine wp_region_noPanic ?_
          refine wp_region_held_drew (S := fun w' => Frm [] X w') (by kernel_rfl) ((Frm.refl _ _).drew) (fun hHeld => ?_)
          refine take_in (i := 0) (d := 54) (v := .slice a n c) rfl rfl (by kernel_rfl) (by kernel_rfl) (by kernel_rfl) (fun _ _ _ h => h) (by kernel_rfl) (fun _ _ => rfl) (by assumption) ?_
          try simp only [Act.put, List.setIfInBounds_toArray, List.set_cons_zero, List.set_cons_succ]
          refine take_in (i := 1) (d := 55) (v := .int .i64 (m : Int)) rfl rfl (by kernel_rfl) (by kernel_rfl) (by kernel_rfl) (fun _ _ _ h => h) (by kernel_rfl) (fun _ _ => rfl) (by assumption) ?_
          try simp only [Act.put, List.setIfInBounds_toArray, List.set_cons_zero, List.set_cons_succ]
          refine take_in (i := 2) (d := 56) (v := .pointer (some ⟨b, o + m * 7, none⟩)) rfl rfl (by kernel_rfl) (by kernel_rfl) (by kernel_rfl) (fun _ _ _ h => h) (by kernel_rfl) (fun w' hS => by have h1 := HI1.out w'; go_simp) (by assumption) ?_
          try simp only [Act.put, List.setIfInBounds_toArray, List.set_cons_zero, List.set_cons_succ]
          refine take_in (i := 3) (d := 57) (v := .pointer (some ⟨b, o + m * 7, none⟩)) rfl rfl (by kernel_rfl) (by kernel_rfl) (by kernel_rfl) (fun _ _ _ h => h) (by kernel_rfl) (fun _ _ => rfl) (by assumption) ?_
          try simp only [Act.put, List.setIfInBounds_toArray, List.set_cons_zero, List.set_cons_succ]
          refine take_in (i := 4) (d := 58) (v := .int .i64 g.i) rfl rfl (by kernel_rfl) (by kernel_rfl) (by kernel_rfl) (fun _ _ _ h => h) (by kernel_rfl) (fun w' hS => by have hh := HC.out w' hS; obtain ⟨b0, b1, b2, b3, b4, b5, b6, d0⟩ := hh; go_simp) (by assumption) ?_
          try simp only [Act.put, List.setIfInBounds_toArray, List.set_cons_zero, List.set_cons_succ]
          refine take_in (i := 5) (d := 59) (v := .slice a n c) rfl rfl (by kernel_rfl) (by kernel_rfl) (by kernel_rfl) (fun _ _ _ h => h) (by kernel_rfl) (fun _ _ => rfl) (by assumption) ?_
          try simp only [Act.put, List.setIfInBounds_toArray, List.set_cons_zero, List.set_cons_succ]
          refine take_in (i := 6) (d := 60) (v := .int .i64 (k : Int)) rfl rfl (by kernel_rfl) (by kernel_rfl) (by kernel_rfl) (fun _ _ _ h => h) (by kernel_rfl) (fun _ _ => rfl) (by assumption) ?_
          try simp only [Act.put, List.setIfInBounds_toArray, List.set_cons_zero, List.set_cons_succ]
          refine take_in (i := 7) (d := 61) (v := .pointer (some ⟨b, o + k * 7, none⟩)) rfl rfl (by kernel_rfl) (by kernel_rfl) (by kernel_rfl) (fun _ _ _ h => h) (by kernel_rfl) (fun w' hS => by have h1 := HI2.out w'; go_simp) (by assumption) ?_
          try simp only [Act.put, List.setIfInBounds_toArray, List.set_cons_zero, List.set_cons_succ]
          refine take_in (i := 8) (d := 62) (v := .pointer (some ⟨b, o + k * 7, none⟩)) rfl rfl (by kernel_rfl) (by kernel_rfl) (by kernel_rfl) (fun _ _ _ h => h) (by kernel_rfl) (fun _ _ => rfl) (by assumption) ?_
          try simp only [Act.put, List.setIfInBounds_toArray, List.set_cons_zero, List.set_cons_succ]
          refine take_in (i := 9) (d := 63) (v := .int .i64 d.i) rfl rfl (by kernel_rfl) (by kernel_rfl) (by kernel_rfl) (fun _ _ _ h => h) (by kernel_rfl) (fun w' hS => by have hh := HC.out w' hS; obtain ⟨b0, b1, b2, b3, b4, b5, b6, d0⟩ := hh; go_simp) (by assumption) ?_
          try simp only [Act.put, List.setIfInBounds_toArray, List.set_cons_zero, List.set_cons_succ]
          refine take_in (i := 10) (d := 64) (v := .bool true) rfl rfl (by kernel_rfl) (by kernel_rfl) (by kernel_rfl) (fun _ _ _ h => h) (by kernel_rfl) (fun w' hS => by have h1 := HEQ.out; go_simp) (by assumption) ?_
          try simp only [Act.put, List.setIfInBounds_toArray, List.set_cons_zero, List.set_cons_succ]
          refine take_in (i := 11) (d := 65) (v := .bool true) rfl rfl (by kernel_rfl) (by kernel_rfl) (by kernel_rfl) (fun _ _ _ h => h) (by kernel_rfl) (fun _ _ => rfl) (by assumption) ?_
          try simp only [Act.put, List.setIfInBounds_toArray, List.set_cons_zero, List.set_cons_succ]
          refine take_in (i := 12) (d := 66) (v := .slice a n c) rfl rfl (by kernel_rfl) (by kernel_rfl) (by kernel_rfl) (fun _ _ _ h => h) (by kernel_rfl) (fun _ _ => rfl) (by assumption) ?_
          try simp only [Act.put, List.setIfInBounds_toArray, List.set_cons_zero, List.set_cons_succ]
          refine take_in (i := 13) (d := 67) (v := .int .i64 (m : Int)) rfl rfl (by kernel_rfl) (by kernel_rfl) (by kernel_rfl) (fun _ _ _ h => h) (by kernel_rfl) (fun _ _ => rfl) (by assumption) ?_
          try simp only [Act.put, List.setIfInBounds_toArray, List.set_cons_zero, List.set_cons_succ]
          refine take_in (i := 14) (d := 68) (v := .pointer (some ⟨b, o + m * 7, none⟩)) rfl rfl (by kernel_rfl) (by kernel_rfl) (by kernel_rfl) (fun _ _ _ h => h) (by kernel_rfl) (fun w' hS => by have h1 := HI1.out w'; go_simp) (by assumption) ?_
          try simp only [Act.put, List.setIfInBounds_toArray, List.set_cons_zero, List.set_cons_succ]
          refine take_in (i := 15) (d := 69) (v := (.agg #[.int .i64 g.i, .int .i64 g.a.k, .int .i64 g.a.w, .int .u64 g.a.b, .int .u64 g.a.a, .bool g.wt, .bool g.en])) rfl rfl (by kernel_rfl) (by kernel_rfl) (by kernel_rfl) (fun _ _ _ h => h) (by kernel_rfl) (fun w' hS => by have hh := HC.out w' hS; obtain ⟨b0, b1, b2, b3, b4, b5, b6, d0⟩ := hh; go_simp) (by assumption) ?_
          try simp only [Act.put, List.setIfInBounds_toArray, List.set_cons_zero, List.set_cons_succ]
          refine take_in (i := 17) (d := 71) (v := .int .i64 (atW d)) rfl rfl (by kernel_rfl) (by kernel_rfl) (by kernel_rfl) (fun _ _ _ h => h) (by kernel_rfl) (fun _ _ => rfl) (by assumption) ?_
          try simp only [Act.put, List.setIfInBounds_toArray, List.set_cons_zero, List.set_cons_succ]
          refine wpAnyH_ready (rs := [16]) (by kernel_rfl) (by simp) ?_
          refine AllReadyH.cons rfl (fun K hK => ?_) AllReadyH.nil
          go_simp
          go_at_call 32
          refine (at_any g.i g.a.k g.a.w g.a.b g.a.a g.wt g.en _).mono ?_
          rintro e1 x1 ⟨rfl, hF1⟩
          have s1 : Frm [] X x1 := (Frm.refl [] X).drew.trans hF1
          rw [show (⟨g.i, ⟨g.a.k, g.a.w, g.a.b, g.a.a⟩, g.wt, g.en⟩ : Dd) = g from rfl]
          refine hK.out _ _ (by exact s1) (fun hHeld => ?_)
          clear hK K
          try change wpAnyH _ _ _ _ _ _ _ (Act.put _ (some 70) _) _
          try simp only [Act.put, List.setIfInBounds_toArray, List.set_cons_zero, List.set_cons_succ]
          refine take_in (i := 18) (d := 72) (v := .bool false) rfl rfl (by kernel_rfl) (by kernel_rfl) (by kernel_rfl) (fun _ _ _ h => h) (by kernel_rfl) (fun w' hS => by have h1 := HNE.out; go_simp) (by assumption) ?_
          try simp only [Act.put, List.setIfInBounds_toArray, List.set_cons_zero, List.set_cons_succ]
          refine take_in (i := 19) (d := 73) (v := .bool false) rfl rfl (by kernel_rfl) (by kernel_rfl) (by kernel_rfl) (fun _ _ _ h => h) (by kernel_rfl) (fun _ _ => rfl) (by assumption) ?_
          try simp only [Act.put, List.setIfInBounds_toArray, List.set_cons_zero, List.set_cons_succ]
          refine wpAnyH_done (by kernel_rfl) ?_ _
          refine NoPanic.normal ?_
          have HFC := Lib.hid (HFB.out.trans s1)
          have HXB := Lib.hid (s1.heap HXBR.out (by simp))
          have hLX := H.out.frm0 (HF3.out.trans HFC.out)
          have g0 := hLX.get HGM.out 0 _ rfl
          have g1 := hLX.get HD.out 0 _ rfl
          have hm1 := HI1.out
          have hm2 := HI2.out
          have hq1 := HEQ2.out
          rw [Nat.add_zero] at g0 g1
          clear hLX
          go_wp2_with fail
          go_quiet (fail)
          go_wp2_with fail
          go_roundw
          case rel => exact ⟨m + 1, x, by omega, by have := HML.out; omega, by go_num, HFC.out.trans ((Frm.refl [] _).drewN _), ((Frm.refl [] _).drewN _).heap HXB.out (by simp), HNEXT.out⟩
          case measure => have := HML.out; simp [intOf]; omega
      · by_cases hc : chW g (atW d) = true
        · have HCW := Lib.hid (show chW g (atW d) = true by exact hc)
          have HNEXT := Lib.hid (show ent l k (m + 1) = (⟨x.t, x.w, x.f, (m : Int), g.i⟩, true) by rw [HES.out]; unfold ext; rw [if_pos rfl, if_neg (show ¬ g.i = x.t by rw [HXT.out.1]; exact hgi), if_pos (show chW g x.w = true by rw [HXT.out.2]; exact hc)])
          have hq1 : (g.i == d.i) = false := by simpa using hgi
          have HEQ := Lib.hid (show (g.i != d.i) = true by simpa using hgi)
          have hLB := H.out.frm0 (HF3.out.trans HFB.out)
          have g0 := hLB.get HGM.out 0 _ rfl
          have g1 := hLB.get HD.out 0 _ rfl
          have hm1 := HI1.out
          have hm2 := HI2.out
          rw [Nat.add_zero] at g0 g1
          clear hc hLB hgi
          go_wp2_with fail
          go_quiet (fail)
          go_wp2_with fail
          clear g0 g1 hm1 hm2 hq1
          obtain ⟨X, hX⟩ : ∃ X, X = wr.drewN nq := ⟨_, rfl⟩
          have HFX := Lib.hid (show Frm [] w X by rw [hX]; exact (HF3.out.trans HFB.out).trans ((Frm.refl [] _).drewN _))
          have HXBX := Lib.hid (show X.heap[w3.heap.size]? = some (.cells #[.int .i64 x.t, .int .i64 x.w, .int .i64 x.f, .int .i64 x.to, .int .i64 x.by_] 52 (0, 0)) by rw [hX]; exact HXBW.out)
          have HXE := Lib.hid hX
          rw [← hX]
          clear hX
          have HC := Lib.hid (show ∀ w', Frm [] X w' → w'.cell? ⟨b, o + m * 7, none⟩ = some (.int .i64 g.i) ∧ w'.cell? ⟨b, o + m * 7 + 1, none⟩ = some (.int .i64 g.a.k) ∧ w'.cell? ⟨b, o + m * 7 + 2, none⟩ = some (.int .i64 g.a.w) ∧ w'.cell? ⟨b, o + m * 7 + 3, none⟩ = some (.int .u64 g.a.b) ∧ w'.cell? ⟨b, o + m * 7 + 4, none⟩ = some (.int .u64 g.a.a) ∧ w'.cell? ⟨b, o + m * 7 + 5, none⟩ = some (.bool g.wt) ∧ w'.cell? ⟨b, o + m * 7 + 6, none⟩ = some (.bool g.en) ∧ w'.cell? ⟨b, o + k * 7, none⟩ = some (.int .i64 d.i) from fun w' hw => by
            have hL := H.out.frm0 (HFX.out.trans hw)
            have z0 := hL.get HGM.out 0 _ rfl
            have z1 := hL.get HD.out 0 _ rfl
            rw [Nat.add_zero] at z0 z1
            exact ⟨z0, hL.get HGM.out 1 _ rfl, hL.get HGM.out 2 _ rfl, hL.get HGM.out 3 _ rfl, hL.get HGM.out 4 _ rfl, hL.get HGM.out 5 _ rfl, hL.get HGM.out 6 _ rfl, z1⟩)
          refine wp_region_noPanic ?_
          refine wp_region_held_drew (S := fun w' => Frm [] X w') (by kernel_rfl) ((Frm.refl _ _).drew) (fun hHeld => ?_)
          refine take_in (i := 0) (d := 74) (v := .slice a n c) rfl rfl (by kernel_rfl) (by kernel_rfl) (by kernel_rfl) (fun _ _ _ h => h) (by kernel_rfl) (fun _ _ => rfl) (by assumption) ?_
          try simp only [Act.put, List.setIfInBounds_toArray, List.set_cons_zero, List.set_cons_succ]
          refine take_in (i := 1) (d := 75) (v := .int .i64 (m : Int)) rfl rfl (by kernel_rfl) (by kernel_rfl) (by kernel_rfl) (fun _ _ _ h => h) (by kernel_rfl) (fun _ _ => rfl) (by assumption) ?_
          try simp only [Act.put, List.setIfInBounds_toArray, List.set_cons_zero, List.set_cons_succ]
          refine take_in (i := 2) (d := 76) (v := .pointer (some ⟨b, o + m * 7, none⟩)) rfl rfl (by kernel_rfl) (by kernel_rfl) (by kernel_rfl) (fun _ _ _ h => h) (by kernel_rfl) (fun w' hS => by have h1 := HI1.out w'; go_simp) (by assumption) ?_
          try simp only [Act.put, List.setIfInBounds_toArray, List.set_cons_zero, List.set_cons_succ]
          refine take_in (i := 3) (d := 77) (v := .pointer (some ⟨b, o + m * 7, none⟩)) rfl rfl (by kernel_rfl) (by kernel_rfl) (by kernel_rfl) (fun _ _ _ h => h) (by kernel_rfl) (fun _ _ => rfl) (by assumption) ?_
          try simp only [Act.put, List.setIfInBounds_toArray, List.set_cons_zero, List.set_cons_succ]
          refine take_in (i := 4) (d := 78) (v := .int .i64 g.i) rfl rfl (by kernel_rfl) (by kernel_rfl) (by kernel_rfl) (fun _ _ _ h => h) (by kernel_rfl) (fun w' hS => by have hh := HC.out w' hS; obtain ⟨b0, b1, b2, b3, b4, b5, b6, d0⟩ := hh; go_simp) (by assumption) ?_
          try simp only [Act.put, List.setIfInBounds_toArray, List.set_cons_zero, List.set_cons_succ]
          refine take_in (i := 5) (d := 79) (v := .slice a n c) rfl rfl (by kernel_rfl) (by kernel_rfl) (by kernel_rfl) (fun _ _ _ h => h) (by kernel_rfl) (fun _ _ => rfl) (by assumption) ?_
          try simp only [Act.put, List.setIfInBounds_toArray, List.set_cons_zero, List.set_cons_succ]
          refine take_in (i := 6) (d := 80) (v := .int .i64 (k : Int)) rfl rfl (by kernel_rfl) (by kernel_rfl) (by kernel_rfl) (fun _ _ _ h => h) (by kernel_rfl) (fun _ _ => rfl) (by assumption) ?_
          try simp only [Act.put, List.setIfInBounds_toArray, List.set_cons_zero, List.set_cons_succ]
          refine take_in (i := 7) (d := 81) (v := .pointer (some ⟨b, o + k * 7, none⟩)) rfl rfl (by kernel_rfl) (by kernel_rfl) (by kernel_rfl) (fun _ _ _ h => h) (by kernel_rfl) (fun w' hS => by have h1 := HI2.out w'; go_simp) (by assumption) ?_
          try simp only [Act.put, List.setIfInBounds_toArray, List.set_cons_zero, List.set_cons_succ]
          refine take_in (i := 8) (d := 82) (v := .pointer (some ⟨b, o + k * 7, none⟩)) rfl rfl (by kernel_rfl) (by kernel_rfl) (by kernel_rfl) (fun _ _ _ h => h) (by kernel_rfl) (fun _ _ => rfl) (by assumption) ?_
          try simp only [Act.put, List.setIfInBounds_toArray, List.set_cons_zero, List.set_cons_succ]
          refine take_in (i := 9) (d := 83) (v := .int .i64 d.i) rfl rfl (by kernel_rfl) (by kernel_rfl) (by kernel_rfl) (fun _ _ _ h => h) (by kernel_rfl) (fun w' hS => by have hh := HC.out w' hS; obtain ⟨b0, b1, b2, b3, b4, b5, b6, d0⟩ := hh; go_simp) (by assumption) ?_
          try simp only [Act.put, List.setIfInBounds_toArray, List.set_cons_zero, List.set_cons_succ]
          refine take_in (i := 10) (d := 84) (v := .bool true) rfl rfl (by kernel_rfl) (by kernel_rfl) (by kernel_rfl) (fun _ _ _ h => h) (by kernel_rfl) (fun w' hS => by have h1 := HEQ.out; go_simp) (by assumption) ?_
          try simp only [Act.put, List.setIfInBounds_toArray, List.set_cons_zero, List.set_cons_succ]
          refine take_in (i := 11) (d := 85) (v := .bool true) rfl rfl (by kernel_rfl) (by kernel_rfl) (by kernel_rfl) (fun _ _ _ h => h) (by kernel_rfl) (fun _ _ => rfl) (by assumption) ?_
          try simp only [Act.put, List.setIfInBounds_toArray, List.set_cons_zero, List.set_cons_succ]
          refine take_in (i := 12) (d := 86) (v := .slice a n c) rfl rfl (by kernel_rfl) (by kernel_rfl) (by kernel_rfl) (fun _ _ _ h => h) (by kernel_rfl) (fun _ _ => rfl) (by assumption) ?_
          try simp only [Act.put, List.setIfInBounds_toArray, List.set_cons_zero, List.set_cons_succ]
          refine take_in (i := 13) (d := 87) (v := .int .i64 (m : Int)) rfl rfl (by kernel_rfl) (by kernel_rfl) (by kernel_rfl) (fun _ _ _ h => h) (by kernel_rfl) (fun _ _ => rfl) (by assumption) ?_
          try simp only [Act.put, List.setIfInBounds_toArray, List.set_cons_zero, List.set_cons_succ]
          refine take_in (i := 14) (d := 88) (v := .pointer (some ⟨b, o + m * 7, none⟩)) rfl rfl (by kernel_rfl) (by kernel_rfl) (by kernel_rfl) (fun _ _ _ h => h) (by kernel_rfl) (fun w' hS => by have h1 := HI1.out w'; go_simp) (by assumption) ?_
          try simp only [Act.put, List.setIfInBounds_toArray, List.set_cons_zero, List.set_cons_succ]
          refine take_in (i := 15) (d := 89) (v := (.agg #[.int .i64 g.i, .int .i64 g.a.k, .int .i64 g.a.w, .int .u64 g.a.b, .int .u64 g.a.a, .bool g.wt, .bool g.en])) rfl rfl (by kernel_rfl) (by kernel_rfl) (by kernel_rfl) (fun _ _ _ h => h) (by kernel_rfl) (fun w' hS => by have hh := HC.out w' hS; obtain ⟨b0, b1, b2, b3, b4, b5, b6, d0⟩ := hh; go_simp) (by assumption) ?_
          try simp only [Act.put, List.setIfInBounds_toArray, List.set_cons_zero, List.set_cons_succ]
          refine take_in (i := 16) (d := 90) (v := .int .i64 (atW d)) rfl rfl (by kernel_rfl) (by kernel_rfl) (by kernel_rfl) (fun _ _ _ h => h) (by kernel_rfl) (fun _ _ => rfl) (by assumption) ?_
          try simp only [Act.put, List.setIfInBounds_toArray, List.set_cons_zero, List.set_cons_succ]
          refine wpAnyH_ready (rs := [17]) (by kernel_rfl) (by simp) ?_
          refine AllReadyH.cons rfl (fun K hK => ?_) AllReadyH.nil
          go_simp
          go_at_call 16
          refine (chW_any g.i g.a.k g.a.w g.a.b g.a.a (atW d) g.wt g.en _).mono ?_
          rintro e1 x1 ⟨rfl, hF1⟩
          have s1 : Frm [] X x1 := (Frm.refl [] X).drew.trans hF1
          rw [show (⟨g.i, ⟨g.a.k, g.a.w, g.a.b, g.a.a⟩, g.wt, g.en⟩ : Dd) = g from rfl, HCW.out]
          refine hK.out _ _ (by exact s1) (fun hHeld => ?_)
          clear hK K
          try change wpAnyH _ _ _ _ _ _ _ (Act.put _ (some 91) _) _
          try simp only [Act.put, List.setIfInBounds_toArray, List.set_cons_zero, List.set_cons_succ]
          refine take_in (i := 18) (d := 92) (v := .bool true) rfl rfl (by kernel_rfl) (by kernel_rfl) (by kernel_rfl) (fun _ _ _ h => h) (by kernel_rfl) (fun _ _ => rfl) (by assumption) ?_
          try simp only [Act.put, List.setIfInBounds_toArray, List.set_cons_zero, List.set_cons_succ]
          refine wpAnyH_done (by kernel_rfl) ?_ _
          refine NoPanic.normal ?_
          have HFC := Lib.hid (HFB.out.trans ((Frm.refl [] wr).drewN nq |>.trans (by rw [← HXE.out]; exact s1)))
          have HXB := Lib.hid (s1.heap HXBX.out (by simp))
          have hLX := H.out.frm0 (HF3.out.trans HFC.out)
          have g0 := hLX.get HGM.out 0 _ rfl
          rw [Nat.add_zero] at g0
          have hm1 := HI1.out
          obtain ⟨y0, y1, y2, y3, y4⟩ := cells5 HXB.out
          have yz3 := frozen_of_heap (i := 3) HXB.out
          have yz4 := frozen_of_heap (i := 4) HXB.out
          have hbl : b ≠ w3.heap.size := fun e => by
            have h1 := dl_lt (H.out.frm0 HF3.out) (show 0 < n by have := HLT.out; omega)
            omega
          have hlx1 := lt_of_heap HXB.out
          clear hLX
          go_wp2_with fail
          go_region
          have hset := heap_setCell_at (i := 4) (.int .i64 g.i) (heap_setCell_at (i := 3) (.int .i64 (m : Int)) HXB.out)
          have hfr : Frm [] w3 ((x1.setCell ⟨w3.heap.size, 3, none⟩ (.int .i64 (m : Int))).setCell ⟨w3.heap.size, 4, none⟩ (.int .i64 g.i)) := (HFC.out.setCell _ _ (.inr (Nat.le_refl _))).setCell _ _ (.inr (Nat.le_refl _))
          have HSET := Lib.hid hset
          have HFR := Lib.hid hfr
          clear hset hfr
          go_wp2_with fail
          go_roundw
          case rel => exact ⟨m + 1, ⟨x.t, x.w, x.f, (m : Int), g.i⟩, by omega, by have := HML.out; omega, by go_num, HFR.out.drew, by have hs := HSET.out; simp only [List.setIfInBounds_toArray, List.set_cons_succ, List.set_cons_zero] at hs; exact hs, HNEXT.out⟩
          case measure => have := HML.out; simp [intOf]; omega
        · have HCW := Lib.hid (show chW g (atW d) = false by simpa using hc)
          have HNEXT := Lib.hid (show ent l k (m + 1) = (x, true) by rw [HES.out]; unfold ext; rw [if_pos rfl, if_neg (show ¬ g.i = x.t by rw [HXT.out.1]; exact hgi), if_neg (show ¬ chW g x.w = true by rw [HXT.out.2]; exact hc)])
          have hq1 : (g.i == d.i) = false := by simpa using hgi
          have HEQ := Lib.hid (show (g.i != d.i) = true by simpa using hgi)
          have hLB := H.out.frm0 (HF3.out.trans HFB.out)
          have g0 := hLB.get HGM.out 0 _ rfl
          have g1 := hLB.get HD.out 0 _ rfl
          have hm1 := HI1.out
          have hm2 := HI2.out
          rw [Nat.add_zero] at g0 g1
          clear hc hLB hgi
          go_wp2_with fail
          go_quiet (fail)
          go_wp2_with fail
          clear g0 g1 hm1 hm2 hq1
          obtain ⟨X, hX⟩ : ∃ X, X = wr.drewN nq := ⟨_, rfl⟩
          have HFX := Lib.hid (show Frm [] w X by rw [hX]; exact (HF3.out.trans HFB.out).trans ((Frm.refl [] _).drewN _))
          have HXBX := Lib.hid (show X.heap[w3.heap.size]? = some (.cells #[.int .i64 x.t, .int .i64 x.w, .int .i64 x.f, .int .i64 x.to, .int .i64 x.by_] 52 (0, 0)) by rw [hX]; exact HXBW.out)
          have HXE := Lib.hid hX
          rw [← hX]
          clear hX
          have HC := Lib.hid (show ∀ w', Frm [] X w' → w'.cell? ⟨b, o + m * 7, none⟩ = some (.int .i64 g.i) ∧ w'.cell? ⟨b, o + m * 7 + 1, none⟩ = some (.int .i64 g.a.k) ∧ w'.cell? ⟨b, o + m * 7 + 2, none⟩ = some (.int .i64 g.a.w) ∧ w'.cell? ⟨b, o + m * 7 + 3, none⟩ = some (.int .u64 g.a.b) ∧ w'.cell? ⟨b, o + m * 7 + 4, none⟩ = some (.int .u64 g.a.a) ∧ w'.cell? ⟨b, o + m * 7 + 5, none⟩ = some (.bool g.wt) ∧ w'.cell? ⟨b, o + m * 7 + 6, none⟩ = some (.bool g.en) ∧ w'.cell? ⟨b, o + k * 7, none⟩ = some (.int .i64 d.i) from fun w' hw => by
            have hL := H.out.frm0 (HFX.out.trans hw)
            have z0 := hL.get HGM.out 0 _ rfl
            have z1 := hL.get HD.out 0 _ rfl
            rw [Nat.add_zero] at z0 z1
            exact ⟨z0, hL.get HGM.out 1 _ rfl, hL.get HGM.out 2 _ rfl, hL.get HGM.out 3 _ rfl, hL.get HGM.out 4 _ rfl, hL.get HGM.out 5 _ rfl, hL.get HGM.out 6 _ rfl, z1⟩)
          refine wp_region_noPanic ?_
          refine wp_region_held_drew (S := fun w' => Frm [] X w') (by kernel_rfl) ((Frm.refl _ _).drew) (fun hHeld => ?_)
          refine take_in (i := 0) (d := 74) (v := .slice a n c) rfl rfl (by kernel_rfl) (by kernel_rfl) (by kernel_rfl) (fun _ _ _ h => h) (by kernel_rfl) (fun _ _ => rfl) (by assumption) ?_
          try simp only [Act.put, List.setIfInBounds_toArray, List.set_cons_zero, List.set_cons_succ]
          refine take_in (i := 1) (d := 75) (v := .int .i64 (m : Int)) rfl rfl (by kernel_rfl) (by kernel_rfl) (by kernel_rfl) (fun _ _ _ h => h) (by kernel_rfl) (fun _ _ => rfl) (by assumption) ?_
          try simp only [Act.put, List.setIfInBounds_toArray, List.set_cons_zero, List.set_cons_succ]
          refine take_in (i := 2) (d := 76) (v := .pointer (some ⟨b, o + m * 7, none⟩)) rfl rfl (by kernel_rfl) (by kernel_rfl) (by kernel_rfl) (fun _ _ _ h => h) (by kernel_rfl) (fun w' hS => by have h1 := HI1.out w'; go_simp) (by assumption) ?_
          try simp only [Act.put, List.setIfInBounds_toArray, List.set_cons_zero, List.set_cons_succ]
          refine take_in (i := 3) (d := 77) (v := .pointer (some ⟨b, o + m * 7, none⟩)) rfl rfl (by kernel_rfl) (by kernel_rfl) (by kernel_rfl) (fun _ _ _ h => h) (by kernel_rfl) (fun _ _ => rfl) (by assumption) ?_
          try simp only [Act.put, List.setIfInBounds_toArray, List.set_cons_zero, List.set_cons_succ]
          refine take_in (i := 4) (d := 78) (v := .int .i64 g.i) rfl rfl (by kernel_rfl) (by kernel_rfl) (by kernel_rfl) (fun _ _ _ h => h) (by kernel_rfl) (fun w' hS => by have hh := HC.out w' hS; obtain ⟨b0, b1, b2, b3, b4, b5, b6, d0⟩ := hh; go_simp) (by assumption) ?_
          try simp only [Act.put, List.setIfInBounds_toArray, List.set_cons_zero, List.set_cons_succ]
          refine take_in (i := 5) (d := 79) (v := .slice a n c) rfl rfl (by kernel_rfl) (by kernel_rfl) (by kernel_rfl) (fun _ _ _ h => h) (by kernel_rfl) (fun _ _ => rfl) (by assumption) ?_
          try simp only [Act.put, List.setIfInBounds_toArray, List.set_cons_zero, List.set_cons_succ]
          refine take_in (i := 6) (d := 80) (v := .int .i64 (k : Int)) rfl rfl (by kernel_rfl) (by kernel_rfl) (by kernel_rfl) (fun _ _ _ h => h) (by kernel_rfl) (fun _ _ => rfl) (by assumption) ?_
          try simp only [Act.put, List.setIfInBounds_toArray, List.set_cons_zero, List.set_cons_succ]
          refine take_in (i := 7) (d := 81) (v := .pointer (some ⟨b, o + k * 7, none⟩)) rfl rfl (by kernel_rfl) (by kernel_rfl) (by kernel_rfl) (fun _ _ _ h => h) (by kernel_rfl) (fun w' hS => by have h1 := HI2.out w'; go_simp) (by assumption) ?_
          try simp only [Act.put, List.setIfInBounds_toArray, List.set_cons_zero, List.set_cons_succ]
          refine take_in (i := 8) (d := 82) (v := .pointer (some ⟨b, o + k * 7, none⟩)) rfl rfl (by kernel_rfl) (by kernel_rfl) (by kernel_rfl) (fun _ _ _ h => h) (by kernel_rfl) (fun _ _ => rfl) (by assumption) ?_
          try simp only [Act.put, List.setIfInBounds_toArray, List.set_cons_zero, List.set_cons_succ]
          refine take_in (i := 9) (d := 83) (v := .int .i64 d.i) rfl rfl (by kernel_rfl) (by kernel_rfl) (by kernel_rfl) (fun _ _ _ h => h) (by kernel_rfl) (fun w' hS => by have hh := HC.out w' hS; obtain ⟨b0, b1, b2, b3, b4, b5, b6, d0⟩ := hh; go_simp) (by assumption) ?_
          try simp only [Act.put, List.setIfInBounds_toArray, List.set_cons_zero, List.set_cons_succ]
          refine take_in (i := 10) (d := 84) (v := .bool true) rfl rfl (by kernel_rfl) (by kernel_rfl) (by kernel_rfl) (fun _ _ _ h => h) (by kernel_rfl) (fun w' hS => by have h1 := HEQ.out; go_simp) (by assumption) ?_
          try simp only [Act.put, List.setIfInBounds_toArray, List.set_cons_zero, List.set_cons_succ]
          refine take_in (i := 11) (d := 85) (v := .bool true) rfl rfl (by kernel_rfl) (by kernel_rfl) (by kernel_rfl) (fun _ _ _ h => h) (by kernel_rfl) (fun _ _ => rfl) (by assumption) ?_
          try simp only [Act.put, List.setIfInBounds_toArray, List.set_cons_zero, List.set_cons_succ]
          refine take_in (i := 12) (d := 86) (v := .slice a n c) rfl rfl (by kernel_rfl) (by kernel_rfl) (by kernel_rfl) (fun _ _ _ h => h) (by kernel_rfl) (fun _ _ => rfl) (by assumption) ?_
          try simp only [Act.put, List.setIfInBounds_toArray, List.set_cons_zero, List.set_cons_succ]
          refine take_in (i := 13) (d := 87) (v := .int .i64 (m : Int)) rfl rfl (by kernel_rfl) (by kernel_rfl) (by kernel_rfl) (fun _ _ _ h => h) (by kernel_rfl) (fun _ _ => rfl) (by assumption) ?_
          try simp only [Act.put, List.setIfInBounds_toArray, List.set_cons_zero, List.set_cons_succ]
          refine take_in (i := 14) (d := 88) (v := .pointer (some ⟨b, o + m * 7, none⟩)) rfl rfl (by kernel_rfl) (by kernel_rfl) (by kernel_rfl) (fun _ _ _ h => h) (by kernel_rfl) (fun w' hS => by have h1 := HI1.out w'; go_simp) (by assumption) ?_
          try simp only [Act.put, List.setIfInBounds_toArray, List.set_cons_zero, List.set_cons_succ]
          refine take_in (i := 15) (d := 89) (v := (.agg #[.int .i64 g.i, .int .i64 g.a.k, .int .i64 g.a.w, .int .u64 g.a.b, .int .u64 g.a.a, .bool g.wt, .bool g.en])) rfl rfl (by kernel_rfl) (by kernel_rfl) (by kernel_rfl) (fun _ _ _ h => h) (by kernel_rfl) (fun w' hS => by have hh := HC.out w' hS; obtain ⟨b0, b1, b2, b3, b4, b5, b6, d0⟩ := hh; go_simp) (by assumption) ?_
          try simp only [Act.put, List.setIfInBounds_toArray, List.set_cons_zero, List.set_cons_succ]
          refine take_in (i := 16) (d := 90) (v := .int .i64 (atW d)) rfl rfl (by kernel_rfl) (by kernel_rfl) (by kernel_rfl) (fun _ _ _ h => h) (by kernel_rfl) (fun _ _ => rfl) (by assumption) ?_
          try simp only [Act.put, List.setIfInBounds_toArray, List.set_cons_zero, List.set_cons_succ]
          refine wpAnyH_ready (rs := [17]) (by kernel_rfl) (by simp) ?_
          refine AllReadyH.cons rfl (fun K hK => ?_) AllReadyH.nil
          go_simp
          go_at_call 16
          refine (chW_any g.i g.a.k g.a.w g.a.b g.a.a (atW d) g.wt g.en _).mono ?_
          rintro e1 x1 ⟨rfl, hF1⟩
          have s1 : Frm [] X x1 := (Frm.refl [] X).drew.trans hF1
          rw [show (⟨g.i, ⟨g.a.k, g.a.w, g.a.b, g.a.a⟩, g.wt, g.en⟩ : Dd) = g from rfl, HCW.out]
          refine hK.out _ _ (by exact s1) (fun hHeld => ?_)
          clear hK K
          try change wpAnyH _ _ _ _ _ _ _ (Act.put _ (some 91) _) _
          try simp only [Act.put, List.setIfInBounds_toArray, List.set_cons_zero, List.set_cons_succ]
          refine take_in (i := 18) (d := 92) (v := .bool false) rfl rfl (by kernel_rfl) (by kernel_rfl) (by kernel_rfl) (fun _ _ _ h => h) (by kernel_rfl) (fun _ _ => rfl) (by assumption) ?_
          try simp only [Act.put, List.setIfInBounds_toArray, List.set_cons_zero, List.set_cons_succ]
          refine wpAnyH_done (by kernel_rfl) ?_ _
          refine NoPanic.normal ?_
          have HFC := Lib.hid (HFB.out.trans ((Frm.refl [] wr).drewN nq |>.trans (by rw [← HXE.out]; exact s1)))
          have HXB := Lib.hid (s1.heap HXBX.out (by simp))
          go_wp2_with fail
          go_roundw
          case rel => exact ⟨m + 1, x, by omega, by have := HML.out; omega, by go_num, HFC.out, HXB.out, HNEXT.out⟩
          case measure => have := HML.out; simp [intOf]; omega
    · have hmn2 : m = n := by omega
      subst hmn2
      have HENT := Lib.hid (show (ent l k l.length).1 = x by rw [HL.out, hE])
      have HFC := HFB
      have HXB := HXBW
      clear hE hmk
      obtain ⟨y0, y1, y2, y3, y4⟩ := cells5 HXB.out
      have HROW := Lib.hid ((HG3.out.frm0 HFC.out).frm0 ((Frm.refl [] wr).alloc (.cells #[.int .i64 x.t, .int .i64 x.w, .int .i64 x.f, .int .i64 x.to, .int .i64 x.by_] 52)))
      have HGG := Lib.hid (heap_alloc_new wr (.cells #[.int .i64 x.t, .int .i64 x.w, .int .i64 x.f, .int .i64 x.to, .int .i64 x.by_] 52))
      have HSZ := Lib.hid (show w.heap.size ≤ (wr.alloc (.cells #[.int .i64 x.t, .int .i64 x.w, .int .i64 x.f, .int .i64 x.to, .int .i64 x.by_] 52)).heap.size by have := HF3.out.size; have := HFC.out.size; simp; omega)
      go_wp2_with (at_builtin; refine wpl_gr u_wd i_wd (by decide) (by decide) (by decide) rfl (.tmp 101) (.tmp 103) rfl (B := w.heap.size) (g2 := wr.heap.size) (l := [.int .i64 x.t, .int .i64 x.w, .int .i64 x.f, .int .i64 x.to, .int .i64 x.by_]) (by simp [Act.eval]) (by simp [Act.eval]) HROW.out rfl (by simp [Value.oneCell']) HGG.out (by have := HRL.out; have := HLT.out; have := HN.out; omega) HSZ.out ?_; intro a5 c5 w5 hG5 hF5 hb5; have HG5 := Lib.hid hG5; have HF5 := Lib.hid hF5; clear hG5 hF5 hb5)
      refine HQ.out _ _ _ _ _ _ _ _ _ _ _ _ _ _ _ _ _ _ _ _ _ _ _ _ _ _ _ _ _ _ _ _ _ _ _ _ _ _ _ _ _ _ _ _ _ _ _ _ _ _ _ _ _ _ _ _ _ _ _ _ _ _ _ _ _ _ _ _ _ a5 c5 w5 (((HF3.out.trans HFC.out).alloc _).trans_new HF5.out (fun y hy => .inr (HROW.out.from_ y hy).1)) ?_
      rw [HENT.out]
      exact HG5.out.congr fun j hj => wdF_app _ x hj
end
def rWaQ (w : World) (L : List Wd) (e : Ending) (w' : World) : Prop :=
  ∃ a c, Ret (.slice a L.length c) (fun w' => Frm [] w w' ∧ Gr 52 5 w.heap.size w' a L.length c (wdF L)) e w'
section
variable {w : World} {a : Option Addr} {n c b o : Nat} {l : List Dd}
set_option maxRecDepth 100000 in
set_option maxHeartbeats 3200000 in
theorem rWaits_any (h : DL w a n c b o l) (hn : n ≤ 100000) : Calls Try.prog 15 #[.slice a n c] w (rWaQ w (wts l)) := by
  obtain ⟨R, hR⟩ : ∃ R, R = wts l := ⟨_, rfl⟩
  rw [← hR]
  have HR := Lib.hid hR
  have HL := Lib.hid h.len
  have H := Lib.hid h
  have HN := Lib.hid hn
  have hn2 : (n : Int) ≤ 100000 := by omega
  clear hR h hn
  go_enter Try.func15, Try.ntmps15
  go_wp2_with fail
  go_loopw [3, 4] (fun sl i wr => ∃ (k : Nat) (a1 : Option Addr) (c1 : Nat), k ≤ n ∧ i = .int .i64 k ∧ sl = .slice a1 (rwt l k).length c1 ∧ Frm [] w wr ∧ Gr 52 5 w.heap.size wr a1 (rwt l k).length c1 (wdF (rwt l k))) (fun _ i _ => n - (intOf i).toNat)
  case atStart => exact ⟨0, none, 0, Nat.zero_le _, rfl, rfl, Frm.refl _ _, Gr.nil _ _ _ _ _⟩
  case round =>
    obtain ⟨k, a1, c1, hk, rfl, rfl, hF, hG⟩ := hrel
    by_cases hlt : k < n
    · obtain ⟨d, hd⟩ : ∃ d, l[k]? = some d := ⟨_, List.getElem?_eq_getElem (by rw [HL.out]; exact hlt)⟩
      have hL1 := H.out.frm0 hF
      have hi1 := ix_did (c := c) hL1.ad hlt
      have p0 := hL1.get hd 0 _ rfl
      have p1 := hL1.get hd 1 _ rfl
      have p2 := hL1.get hd 2 _ rfl
      have p3 := hL1.get hd 3 _ rfl
      have p4 := hL1.get hd 4 _ rfl
      have p5 := hL1.get hd 5 _ rfl
      have p6 := hL1.get hd 6 _ rfl
      rw [Nat.add_zero] at p0
      have HF := Lib.hid hF
      have HGR := Lib.hid hG
      have HD := Lib.hid hd
      have HDD := Lib.hid (getD_of hd)
      have HAT := Lib.hid (fun w => at_any d.i d.a.k d.a.w d.a.b d.a.a d.wt d.en w)
      have HST := Lib.hid (strt_T l k (getD_of hd))
      have HTL := Lib.hid (lastT_lt l d.i k)
      have HSU := Lib.hid (rwt_succ l k)
      have HLT := Lib.hid hlt
      have HRL := Lib.hid (rwt_length l k)
      clear hF hG hL1 hd hlt
      go_upto_block 1 with (fail)
      refine wp_block ?_
      refine wp_seq_k ?_
      intro K5 hK5
      have HK5 := Lib.hid hK5
      clear hK5
      go_wp2_with fail
      refine (HAT.out _).mono ?_
      rintro e w1 ⟨rfl, hF1⟩
      rw [show (⟨d.i, ⟨d.a.k, d.a.w, d.a.b, d.a.a⟩, d.wt, d.en⟩ : Dd) = d from rfl]
      have HF1 := Lib.hid (HF.out.trans hF1)
      have HG1 := Lib.hid (HGR.out.frm0 hF1)
      have HBE := Lib.hid (before_any (H.out.frm0 HF1.out) HN.out k HLT.out)
      clear hF1 p0 p1 p2 p3 p4 p5 p6
      go_wp2_with fail
      refine HK5.out _ _ ?_
      refine wp_seq_k ?_
      intro K6 hK6
      have HK6 := Lib.hid hK6
      clear hK6
      go_wp2_with fail
      refine HBE.out.mono ?_
      rintro e w2 ⟨rfl, hF2⟩
      rw [HDD.out]
      have HF2 := Lib.hid (HF1.out.trans hF2)
      have HG2 := Lib.hid (HG1.out.frm0 hF2)
      clear hF2
      go_wp2_with fail
      refine HK6.out _ _ ?_
      refine wp_seq_k ?_
      intro K7 hK7
      have HK7 := Lib.hid hK7
      clear hK7
      by_cases ha0 : 0 ≤ atW d
      · have hb0 : decide (atW d < 0) = false := by simp; omega
        by_cases hl0 : 0 ≤ lastT l d.i k
        · have hb1 : decide (0 ≤ lastT l d.i k) = true := by simpa using hl0
          obtain ⟨T, hT⟩ : ∃ T : Nat, (T : Int) = lastT l d.i k := ⟨(lastT l d.i k).toNat, by omega⟩
          have hTn : T < n := by have := HTL.out.2; have := HLT.out; omega
          obtain ⟨g, hg⟩ : ∃ g, l[T]? = some g := ⟨_, List.getElem?_eq_getElem (by rw [HL.out]; exact hTn)⟩
          have hL2 := H.out.frm0 HF2.out
          have hiT := ix_did (c := c) hL2.ad hTn
          have q0 := hL2.get hg 0 _ rfl
          have q1 := hL2.get hg 1 _ rfl
          have q2 := hL2.get hg 2 _ rfl
          have q3 := hL2.get hg 3 _ rfl
          have q4 := hL2.get hg 4 _ rfl
          have q5 := hL2.get hg 5 _ rfl
          have q6 := hL2.get hg 6 _ rfl
          rw [Nat.add_zero] at q0
          have HATG := Lib.hid (fun w => at_any g.i g.a.k g.a.w g.a.b g.a.a g.wt g.en w)
          have HST2 := Lib.hid (show strt l k = !decide (atW g = atW d) by rw [HST.out, ← hT, Int.toNat_natCast, getD_of hg]; simp [ha0])
          rw [← hT] at hb1 ⊢
          clear hL2 hg hl0 ha0 hT
          by_cases hE : atW g = atW d
          · have hbe : (atW g == atW d) = true := by simpa using hE
            have HX := Lib.hid (show rwt l (k + 1) = rwt l k by rw [HSU.out, HST2.out, if_neg (by simp [hE]), List.append_nil])
            clear hE
            go_wp2_with ((with_reducible refine (HATG.out _).mono ?_); rintro e w3 ⟨rfl, hF3⟩; rw [show (⟨g.i, ⟨g.a.k, g.a.w, g.a.b, g.a.a⟩, g.wt, g.en⟩ : Dd) = g from rfl])
            go_roundw
            case rel => exact ⟨k + 1, a1, c1, by have := HLT.out; omega, by go_num, by rw [HX.out], HF2.out.trans hF3, by rw [HX.out]; exact HG2.out.frm0 hF3⟩
            case measure => have := HLT.out; simp [intOf]; omega
          · have hbe : (atW g == atW d) = false := by simpa using hE
            have HX := Lib.hid (show rwt l (k + 1) = rwt l k ++ [(ent l k l.length).1] by rw [HSU.out, HST2.out, if_pos (by simp [hE])])
            clear hE
            go_wp2_with ((with_reducible refine (HATG.out _).mono ?_); rintro e w3 ⟨rfl, hF3⟩; rw [show (⟨g.i, ⟨g.a.k, g.a.w, g.a.b, g.a.a⟩, g.wt, g.en⟩ : Dd) = g from rfl]; have HF3 := Lib.hid (HF2.out.trans hF3); have HG3 := Lib.hid (HG2.out.frm0 hF3); clear hF3 q0 q1 q2 q3 q4 q5 q6)
            refine HK7.out _ _ ?_
            refine rw_tail H.out HN.out HF3.out HD.out HLT.out HG3.out _ _ _ _ _ _ _ _ _ _ _ _ _ _ _ _ _ _ _ _ _ _ _ _ _ _ _ _ _ _ _ _ _ _ _ _ _ _ _ _ _ _ _ _ _ _ _ _ _ _ _ _ _ _ _ _ _ _ _ _ _ _ _ _ _ _ _ _ _ _ _ _ _ _ _ _ _ _ _ _ _ _ _ _ _ _ _ _ _ _ _ _ _ _ _ _ _ _ _ _ _ _ ?_
            intro u7 u8 u38 u39 u40 u41 u42 u43 u44 u45 u46 u47 u48 u49 u50 u51 u52 u53 u54 u55 u56 u57 u58 u59 u60 u61 u62 u63 u64 u65 u66 u67 u68 u69 u70 u71 u72 u73 u74 u75 u76 u77 u78 u79 u80 u81 u82 u83 u84 u85 u86 u87 u88 u89 u90 u91 u92 u93 u94 u95 u96 u97 u98 u99 u100 u101 u102 u103 u104 a5 c5 w5 hF5 hG5
            have HF5 := Lib.hid hF5
            have HG5 := Lib.hid hG5
            clear hF5 hG5
            go_wp2_with fail
            go_roundw
            case rel => exact ⟨k + 1, a5, c5, by have := HLT.out; omega, by go_num, by rw [HX.out, List.length_append, List.length_singleton], HF5.out, by rw [HX.out, List.length_append, List.length_singleton]; exact HG5.out⟩
            case measure => have := HLT.out; simp [intOf]; omega
        · have hb1 : decide (0 ≤ lastT l d.i k) = false := by simpa using hl0
          have HX := Lib.hid (show rwt l (k + 1) = rwt l k ++ [(ent l k l.length).1] by rw [HSU.out, HST.out, if_pos (by simp [ha0, hl0])])
          clear ha0 hl0
          obtain ⟨w3, rfl⟩ : ∃ w3, w3 = w2 := ⟨_, rfl⟩
          have HF3 := HF2
          have HG3 := HG2
          go_wp2_with fail
          refine HK7.out _ _ ?_
          refine rw_tail H.out HN.out HF3.out HD.out HLT.out HG3.out _ _ _ _ _ _ _ _ _ _ _ _ _ _ _ _ _ _ _ _ _ _ _ _ _ _ _ _ _ _ _ _ _ _ _ _ _ _ _ _ _ _ _ _ _ _ _ _ _ _ _ _ _ _ _ _ _ _ _ _ _ _ _ _ _ _ _ _ _ _ _ _ _ _ _ _ _ _ _ _ _ _ _ _ _ _ _ _ _ _ _ _ _ _ _ _ _ _ _ _ _ _ ?_
          intro u7 u8 u38 u39 u40 u41 u42 u43 u44 u45 u46 u47 u48 u49 u50 u51 u52 u53 u54 u55 u56 u57 u58 u59 u60 u61 u62 u63 u64 u65 u66 u67 u68 u69 u70 u71 u72 u73 u74 u75 u76 u77 u78 u79 u80 u81 u82 u83 u84 u85 u86 u87 u88 u89 u90 u91 u92 u93 u94 u95 u96 u97 u98 u99 u100 u101 u102 u103 u104 a5 c5 w5 hF5 hG5
          have HF5 := Lib.hid hF5
          have HG5 := Lib.hid hG5
          clear hF5 hG5
          go_wp2_with fail
          go_roundw
          case rel => exact ⟨k + 1, a5, c5, by have := HLT.out; omega, by go_num, by rw [HX.out, List.length_append, List.length_singleton], HF5.out, by rw [HX.out, List.length_append, List.length_singleton]; exact HG5.out⟩
          case measure => have := HLT.out; simp [intOf]; omega
      · have hb0 : decide (atW d < 0) = true := by simp; omega
        have HX := Lib.hid (show rwt l (k + 1) = rwt l k by rw [HSU.out, HST.out, if_neg (by simp [ha0]), List.append_nil])
        clear ha0
        go_wp2_with fail
        go_roundw
        case rel => exact ⟨k + 1, a1, c1, by have := HLT.out; omega, by go_num, by rw [HX.out], HF2.out, by rw [HX.out]; exact HG2.out⟩
        case measure => have := HLT.out; simp [intOf]; omega
    · have hkn : k = n := by omega
      have HF := Lib.hid hF
      have HG := Lib.hid hG
      have HW := Lib.hid (show wts l = rwt l k by rw [wts_rwt, HL.out, hkn])
      clear hF hG hkn
      go_wp2_with fail
      go_ret
      rw [HR.out, HW.out]
      exact ⟨a1, c1, rfl, HF.out, HG.out⟩
end
end Go.Proofs.Ytfkikaoojelddaa
