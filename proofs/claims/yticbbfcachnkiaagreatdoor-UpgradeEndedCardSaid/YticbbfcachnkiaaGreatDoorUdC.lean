/- Package upgrade: a decision's step. -/
import Derived.Test.YticbbfcachnkiaaGreatDoorUdB
namespace Go.Proofs.YticbbfcachnkiaaGreatDoor
open Go.ChangeShapes Go.WideShapes Go.ChangeAt Go.RowKit
set_option linter.unusedVariables false
set_option linter.unusedSimpArgs false
/-- A decision with its parts. -/
structure DAt (w : World) (B T N D : Nat) (P : Nat → Part) (s : Ds) : Prop where
  obj : DObj w D (P 0).q (P 1).q (P 2).q (P 3).q (P 4).q s.now s.res
  ps : ∀ i, i < 5 → s.ps[i]? = some ((P i).m, (P i).g)
  len : s.ps.length = 5
  at_ : ∀ i, i < 5 → PartAt w B T N (P i)
  dis : ∀ i j, i < 5 → j < 5 → i ≠ j → ∀ x ∈ (P i).bl, x ∉ (P j).bl
  dn : ∀ i, i < 5 → D ∉ (P i).bl
  lo : B ≤ D
def bls (P : Nat → Part) : List Nat := (P 0).bl ++ ((P 1).bl ++ ((P 2).bl ++ ((P 3).bl ++ (P 4).bl)))
theorem mem_bls {P : Nat → Part} {x : Nat} : x ∈ bls P ↔ ∃ i, i < 5 ∧ x ∈ (P i).bl := by
  simp only [bls, List.mem_append]
  constructor
  · rintro (h | h | h | h | h)
    · exact ⟨0, by decide, h⟩
    · exact ⟨1, by decide, h⟩
    · exact ⟨2, by decide, h⟩
    · exact ⟨3, by decide, h⟩
    · exact ⟨4, by decide, h⟩
  · rintro ⟨i, hi, h⟩
    have : i = 0 ∨ i = 1 ∨ i = 2 ∨ i = 3 ∨ i = 4 := by omega
    rcases this with rfl | rfl | rfl | rfl | rfl <;> simp [h]
theorem pick_q (P : Nat → Part) {i : Nat} (h : i < 5) : pickQ (P 0).q (P 1).q (P 2).q (P 3).q (P 4).q i = (P i).q := by
  have : i = 0 ∨ i = 1 ∨ i = 2 ∨ i = 3 ∨ i = 4 := by omega
  rcases this with rfl | rfl | rfl | rfl | rfl <;> rfl
/-- A decision's parts with another one at i. -/
def updP (P : Nat → Part) (i : Nat) (p : Part) : Nat → Part := fun j => if j = i then p else P j
theorem updP_q (P : Nat → Part) {i : Nat} {p : Part} (h : p.q = (P i).q) (j : Nat) : (updP P i p j).q = (P j).q := by
  unfold updP; split
  · rename_i e; subst e; exact h
  · rfl
section
variable {w w' : World} {B T N D p d cc : Nat} {P : Nat → Part} {s s' : Ds} {ws ws' : List Int}
theorem DAt.frm {L : List Nat} (h : DAt w B T N D P s) (hf : Frm L w w') (hD : D ∉ L) (hl : ∀ i, i < 5 → ∀ x ∈ (P i).bl, x ∉ L) : DAt w' B T N D P s :=
  ⟨h.obj.frm hf hD, h.ps, h.len, fun i hi => (h.at_ i hi).frm hf (hl i hi), h.dis, h.dn, h.lo⟩
theorem DAt.frm0 (h : DAt w B T N D P s) (hf : Frm [] w w') : DAt w' B T N D P s := h.frm hf (by simp) (by simp)
theorem DAt.ne (h : DAt w B T N D P s) (hM : MemAt w p d cc ws) : D ≠ p ∧ D ≠ d := by
  constructor
  · rintro rfl
    have := h.obj.obj.symm.trans hM.obj
    simp at this
  · rintro rfl
    obtain ⟨cs, hc, _⟩ := hM.arr
    have := h.obj.obj.symm.trans hc
    simp at this
theorem goOn_now (h : DAt w B T N D P s) (hn : s.now < 5) : s.goOn.now = (if (P s.now).m.nx = 0 then dThen s.now (P s.now).m.res else s.now) ∧ s.goOn.res = (if (P s.now).m.nx = 0 ∧ s.now = 3 then (P s.now).m.res else s.res) ∧ s.goOn.ps = s.ps := by
  unfold Ds.goOn
  rw [h.ps s.now hn]
  by_cases h0 : (P s.now).m.nx = 0
  · simp [h0]
  · simp [h0]
/-- What is true behind a step of a decision. -/
structure DStep (w : World) (B T N p d cc D : Nat) (P : Nat → Part) (ws : List Int) (s' : Ds) (ws' : List Int) (P' : Nat → Part) (w' : World) : Prop where
  frm : Frm (d :: D :: bls P) w w'
  mem : MemAt w' p d cc ws'
  at_ : DAt w' B T (N + 2) D P' s'
  bl : ∀ i, i < 5 → ∀ x ∈ (P' i).bl, x ∈ (P i).bl ∨ w.heap.size ≤ x
  laid : Laid w'
  bnd : Bnd ws'
  len : ws'.length = ws.length
theorem goOn_of {s : Ds} {m : Mv} {g : Gs} (h : s.ps[s.now]? = some (m, g)) : s.goOn.now = (if m.nx = 0 then dThen s.now m.res else s.now) ∧ s.goOn.res = (if m.nx = 0 ∧ s.now = 3 then m.res else s.res) ∧ s.goOn.ps = s.ps := by
  unfold Ds.goOn
  rw [h]
  by_cases h0 : m.nx = 0
  · simp [h0]
  · simp [h0]
theorem set7 {w : World} {b : Nat} {x0 x1 x2 x3 x4 x5 x6 : Value} {t : TypeId} {f : Nat × Nat} (h : w.heap[b]? = some (.cells #[x0, x1, x2, x3, x4, x5, x6] t f)) (y0 y1 y2 y3 y4 y5 y6 : Value) :
    (((((((w.setCell ⟨b, 0, none⟩ y0).setCell ⟨b, 1, none⟩ y1).setCell ⟨b, 2, none⟩ y2).setCell ⟨b, 3, none⟩ y3).setCell ⟨b, 4, none⟩ y4).setCell ⟨b, 5, none⟩ y5).setCell ⟨b, 6, none⟩ y6).heap[b]? = some (.cells #[y0, y1, y2, y3, y4, y5, y6] t f) := by
  have := heap_setCell_at (i := 6) y6 (heap_setCell_at (i := 5) y5 (heap_setCell_at (i := 4) y4 (heap_setCell_at (i := 3) y3 (heap_setCell_at (i := 2) y2 (heap_setCell_at (i := 1) y1 (heap_setCell_at (i := 0) y0 h))))))
  simpa using this
theorem frm_set7 {D : List Nat} {a b : World} {q : Nat} (h : Frm D a b) (hq : q ∈ D) (v0 v1 v2 v3 v4 v5 v6 : Value) :
    Frm D a (((((((b.setCell ⟨q, 0, none⟩ v0).setCell ⟨q, 1, none⟩ v1).setCell ⟨q, 2, none⟩ v2).setCell ⟨q, 3, none⟩ v3).setCell ⟨q, 4, none⟩ v4).setCell ⟨q, 5, none⟩ v5).setCell ⟨q, 6, none⟩ v6) :=
  ((((((h.setCell _ _ (.inl hq)).setCell _ _ (.inl hq)).setCell _ _ (.inl hq)).setCell _ _ (.inl hq)).setCell _ _ (.inl hq)).setCell _ _ (.inl hq)).setCell _ _ (.inl hq)
/-- The end of a step: what is true of the parts, whatever the object says. -/
theorem dstep_end {s1 : Ds} {i C : Nat} {m' : Mv} {g' : Gs} {w3 w4 : World} {P' : Part} (h : DAt w B T N D P s) (hM : MemAt w p d cc ws) (hw : Frm [C] w w3) (hC : C = w.heap.size) (hCl : C < w3.heap.size) (hi : i < 5) (hps : s1.ps = s.ps) (hS : PStep (ws := ws) w3 B T N p d cc (P i) m' g' ws' P' w4)
    {w5 : World} (hf : Frm [D, C] w4 w5) (h2 : 2 ≤ B) (hB : B ≤ w.heap.size) {now : Nat} {res : Int} (hO : DObj w5 D (P 0).q (P 1).q (P 2).q (P 3).q (P 4).q now res) :
    DStep w B T N p d cc D P ws ⟨s1.ps.set i (m', g'), now, res⟩ ws' (updP P i P') w5 := by
  have hlo := h.lo
  have hDl := h.obj.lt
  have hpl := hM.plt
  have hdl := hM.dlt
  obtain ⟨hDp, hDd⟩ := h.ne hM
  have hsz := hw.size
  have hnC : ∀ j, j < 5 → C ∉ (P j).bl := fun j hj hx => by have := (h.at_ j hj).lt C hx; omega
  have hnd : ∀ j, j < 5 → d ∉ (P j).bl := fun j hj => ((h.at_ j hj).nem hM).2
  refine ⟨?_, hS.mem.frm hf (by simp; omega) (by simp; omega), ⟨?_, ?_, ?_, ?_, ?_, ?_, hlo⟩, ?_, hS.laid.frm hf (by intro x hx; simp at hx; omega), hS.bnd, hS.len⟩
  · have h1 : Frm (d :: D :: C :: bls P) w w5 := by
      refine ((hw.weak ?_).trans (hS.frm.weak ?_)).trans (hf.weak ?_)
      · intro x hx; simp at hx; subst hx; simp
      · intro x hx
        rcases List.mem_cons.1 hx with rfl | hx
        · simp
        · exact .tail _ (.tail _ (.tail _ (mem_bls.2 ⟨i, hi, hx⟩)))
      · intro x hx; simp at hx; rcases hx with rfl | rfl <;> simp
    refine (Frm.refl (d :: D :: bls P) w).trans_new h1 ?_
    intro x hx
    simp only [List.mem_cons] at hx ⊢
    rcases hx with rfl | rfl | rfl | hx
    · simp
    · simp
    · right; omega
    · simp [hx]
  · simp only [updP_q P hS.q]; exact hO
  · intro j hj
    show (s1.ps.set i (m', g'))[j]? = _
    rw [hps]
    unfold updP
    by_cases e : j = i
    · subst e
      rw [if_pos rfl, List.getElem?_set_self (by rw [h.len]; exact hj), hS.m, hS.g]
    · rw [if_neg e, List.getElem?_set_ne (fun h => e h.symm)]; exact h.ps j hj
  · show (s1.ps.set i (m', g')).length = 5
    rw [List.length_set, hps]; exact h.len
  · intro j hj
    unfold updP
    by_cases e : j = i
    · subst e
      rw [if_pos rfl]
      refine hS.at_.frm hf ?_
      intro x hx
      simp only [List.mem_cons, List.not_mem_nil, or_false]
      rcases hS.bl x hx with hx | hx
      · rintro (rfl | rfl)
        · exact h.dn j hj hx
        · exact hnC j hj hx
      · rintro (rfl | rfl) <;> omega
    · rw [if_neg e]
      have hPj := ((h.at_ j hj).more (show N ≤ N + 2 by omega))
      refine ((hPj.frm hw (by intro x hx hx2; simp at hx2; subst hx2; exact hnC j hj hx)).frm hS.frm ?_).frm hf ?_
      · intro x hx hx2
        rcases List.mem_cons.1 hx2 with rfl | hx2
        · exact hnd j hj hx
        · exact h.dis j i hj hi e x hx hx2
      · intro x hx
        simp only [List.mem_cons, List.not_mem_nil, or_false]
        rintro (rfl | rfl)
        · exact h.dn j hj hx
        · exact hnC j hj hx
  · intro a b ha hb hab x hx
    unfold updP at hx ⊢
    by_cases ea : a = i
    · subst ea
      rw [if_pos rfl] at hx
      rw [if_neg (fun e => hab e.symm)]
      rcases hS.bl x hx with hx | hx
      · exact h.dis a b ha hb hab x hx
      · intro hx2; have := (h.at_ b hb).lt x hx2; omega
    · rw [if_neg ea] at hx
      by_cases eb : b = i
      · subst eb
        rw [if_pos rfl]
        intro hx2
        rcases hS.bl x hx2 with hx2 | hx2
        · exact h.dis a b ha hb hab x hx hx2
        · have := (h.at_ a ha).lt x hx; omega
      · rw [if_neg eb]; exact h.dis a b ha hb hab x hx
  · intro j hj
    unfold updP
    by_cases e : j = i
    · subst e
      rw [if_pos rfl]
      intro hx
      rcases hS.bl D hx with hx | hx
      · exact h.dn j hj hx
      · omega
    · rw [if_neg e]; exact h.dn j hj
  · intro j hj x hx
    unfold updP at hx
    by_cases e : j = i
    · subst e
      rw [if_pos rfl] at hx
      exact (hS.bl x hx).imp id (fun h => by omega)
    · rw [if_neg e] at hx; exact .inl hx
set_option maxRecDepth 1000000 in
set_option maxHeartbeats 4000000 in
theorem step_dec {wait : Bool} (hM : MemAt w p d cc ws) (h : DAt w B T N D P s) (hL : Laid w) (hb : Bnd ws) (hN : N ≤ 997) (h2 : 2 ≤ B) (hd : 2 ≤ d) (hB : B ≤ w.heap.size) (hn : s.now < 5) (hs : s.step T ws = some (s', ws', wait)) :
    Calls Tryz.prog 46 #[.pointer (some ⟨D, 0, none⟩), .iface 24 (.pointer (some ⟨p, 0, none⟩))] w (fun e w' => e = .returned (.tuple #[.bool wait, .int .i64 0]) ∧ ∃ P', DStep w B T N p d cc D P ws s' ws' P' w') := by
  obtain ⟨c0, c1, c2, c3, c4, c5, c6⟩ := h.obj.cells
  have hbl := h.obj.lt
  have HNE := Lib.hid (h.ne hM)
  have HD := Lib.hid h
  have HM := Lib.hid hM
  have HL := Lib.hid hL
  -- the function's ways
  obtain ⟨g1, g2, g3⟩ := goOn_of (h.ps s.now hn)
  obtain ⟨s1, hs1⟩ : ∃ s1, s1 = s.goOn := ⟨_, rfl⟩
  unfold Ds.step at hs
  rw [← hs1] at hs g1 g2 g3
  clear hs1
  have hn1 : s1.now < 5 := by
    rcases Nat.lt_or_ge s1.now 5 with h1 | h1
    · exact h1
    · rw [g3, List.getElem?_eq_none (by rw [h.len]; exact h1)] at hs; cases hs
  have hp1 := h.ps s1.now hn1
  rw [g3, hp1] at hs
  simp only at hs
  obtain ⟨m', g', ws1, wait1, hmo, hs'⟩ : ∃ m' g' ws1 wait1, mstpO T ws (P s1.now).m (P s1.now).g = some (m', g', ws1, wait1, 0) ∧ some ((if s1.now = 1 ∨ s1.now = 3 then { s1 with ps := s1.ps.set s1.now (m', g') } else ({ s1 with ps := s1.ps.set s1.now (m', g') } : Ds).goOn), ws1, wait1) = some (s', ws', wait) := by
    split at hs
    · rename_i m' g' ws1 wait1 no hmo
      split at hs
      · rename_i h0; subst h0; exact ⟨m', g', ws1, wait1, hmo, by rw [g3]; exact hs⟩
      · cases hs
    · cases hs
  clear hs
  simp only [Option.some.injEq, Prod.mk.injEq] at hs'
  obtain ⟨hs', rfl, rfl⟩ := hs'
  have hmv := (h.at_ s.now hn).mv
  have hqlt := hmv.lt
  have HG1 := Lib.hid g1
  have HG2 := Lib.hid g2
  have HG3 := Lib.hid g3
  have HMO := Lib.hid hmo
  have HS' := Lib.hid hs'
  clear h hM hL hp1 hmo hs' hmv g1 g2 g3
  go_enter Tryz.func46, Tryz.ntmps46
  go_wp2_with fail
  have hF0 : Frm [] w (w.alloc (.cells #[.iface 76 (.pointer (some ⟨(P 0).q, 0, none⟩)), .iface 76 (.pointer (some ⟨(P 1).q, 0, none⟩)), .iface 76 (.pointer (some ⟨(P 2).q, 0, none⟩)), .iface 76 (.pointer (some ⟨(P 3).q, 0, none⟩)), .iface 76 (.pointer (some ⟨(P 4).q, 0, none⟩)), .int .i64 (s.now : Int), .int .u64 s.res] 85)) := (Frm.refl _ _).alloc _
  have hC0 : DObj (w.alloc (.cells #[.iface 76 (.pointer (some ⟨(P 0).q, 0, none⟩)), .iface 76 (.pointer (some ⟨(P 1).q, 0, none⟩)), .iface 76 (.pointer (some ⟨(P 2).q, 0, none⟩)), .iface 76 (.pointer (some ⟨(P 3).q, 0, none⟩)), .iface 76 (.pointer (some ⟨(P 4).q, 0, none⟩)), .int .i64 (s.now : Int), .int .u64 s.res] 85)) w.heap.size (P 0).q (P 1).q (P 2).q (P 3).q (P 4).q s.now s.res := ⟨heap_alloc_new _ _⟩
  generalize (w.alloc (.cells #[.iface 76 (.pointer (some ⟨(P 0).q, 0, none⟩)), .iface 76 (.pointer (some ⟨(P 1).q, 0, none⟩)), .iface 76 (.pointer (some ⟨(P 2).q, 0, none⟩)), .iface 76 (.pointer (some ⟨(P 3).q, 0, none⟩)), .iface 76 (.pointer (some ⟨(P 4).q, 0, none⟩)), .int .i64 (s.now : Int), .int .u64 s.res] 85)) = W0 at hF0 hC0 ⊢
  have HF0 := Lib.hid hF0
  clear c0 c1 c2 c3 c4 c5 c6
  refine (goOn_any hC0 hn (by rw [pick_q P hn]; exact ((HD.out.frm0 hF0).at_ s.now hn).mv) (by rw [pick_q P hn]; omega)).mono ?_
  rintro e w1 ⟨rfl, hF1, hC1⟩
  rw [← HG1.out, ← HG2.out] at hC1
  have HF1 := Lib.hid hF1
  have HC1 := Lib.hid hC1
  have hw1 : Frm [w.heap.size] w w1 := HF0.out.nil.trans hF1
  have HW1 := Lib.hid hw1
  clear hC0 hF0 hF1 hC1 hw1
  have HR := Lib.hid (running_any HC1.out hn1)
  rw [pick_q P hn1] at HR
  go_wp2_with fail
  refine HR.out.mono ?_
  rintro e w2 ⟨rfl, hF2⟩
  have HC2 := Lib.hid (HC1.out.frm0 hF2)
  have HW2 := Lib.hid (HW1.out.trans hF2.nil)
  clear hF2 HR
  go_wp2_with fail
  refine (keeps_mv _).mono ?_
  rintro e w2' ⟨rfl, rfl⟩
  have HR := Lib.hid (running_any HC2.out hn1)
  rw [pick_q P hn1] at HR
  go_wp2_with fail
  refine HR.out.mono ?_
  rintro e w3 ⟨rfl, hF3⟩
  have HC3 := Lib.hid (HC2.out.frm0 hF3)
  have HW3 := Lib.hid (HW2.out.trans hF3.nil)
  clear hF3 HR
  go_wp2_with fail
  have hsz3 := HW3.out.size
  have hDl := HD.out.obj.lt
  have hnC : ∀ j, j < 5 → w.heap.size ∉ (P j).bl := fun j hj hx => by have := (HD.out.at_ j hj).lt _ hx; omega
  have hD3 : DAt w3 B T N D P s := HD.out.frm HW3.out (by simp; omega) (fun j hj x hx hx2 => by simp at hx2; subst hx2; exact hnC j hj hx)
  have hpl := HM.out.plt
  have hdl := HM.out.dlt
  have HM3 := Lib.hid (HM.out.frm HW3.out (by simp; omega) (by simp; omega))
  have HL3 := Lib.hid (HL.out.frm HW3.out (by intro x hx; simp at hx; omega))
  have HD3 := Lib.hid hD3
  refine (part_step HM3.out (hD3.at_ s1.now hn1) HL3.out hb hN h2 hd (by omega) HMO.out).mono ?_
  rintro e w4 ⟨rfl, P1, hS⟩
  clear hD3
  have HS := Lib.hid hS
  have hDnd : D ∉ d :: (P s1.now).bl := by
    intro hx
    rcases List.mem_cons.1 hx with hx | hx
    · exact HNE.out.2 hx
    · exact HD.out.dn s1.now hn1 hx
  have HC4 : Hid (DObj w4 w.heap.size (P 0).q (P 1).q (P 2).q (P 3).q (P 4).q s1.now s1.res) := Lib.hid (HC3.out.frm hS.frm (by
    intro hx
    rcases List.mem_cons.1 hx with hx | hx
    · omega
    · exact hnC s1.now hn1 hx))
  have HD4 : Hid (DObj w4 D (P 0).q (P 1).q (P 2).q (P 3).q (P 4).q s.now s.res) := Lib.hid (HD3.out.obj.frm hS.frm hDnd)
  have hCl : w.heap.size < w3.heap.size := HC3.out.lt
  have HMV := Lib.hid (moves_any HC4.out)
  have HNC := Lib.hid hnC
  clear hS hDnd hnC
  by_cases hmv : s1.now = 1 ∨ s1.now = 3
  · have eb : (!(decide (s1.now = 1 ∨ s1.now = 3))) = false := by simp [hmv]
    rw [eb] at HMV
    have hS'' := HS'.out
    rw [if_pos hmv] at hS''
    have HS2 := Lib.hid hS''
    clear eb hmv hS''
    go_wp2_with fail
    refine HMV.out.mono ?_
    rintro e w4' ⟨rfl, rfl⟩
    obtain ⟨k0, k1, k2, k3, k4, k5, k6⟩ := HC4.out.cells
    obtain ⟨l0, l1, l2, l3, l4, l5, l6⟩ := HD4.out.cells
    have hkl := HC4.out.lt
    have hdl4 := HD4.out.lt
    have z0 := HD4.out.frz 0
    have z1 := HD4.out.frz 1
    have z2 := HD4.out.frz 2
    have z3 := HD4.out.frz 3
    have z4 := HD4.out.frz 4
    have z5 := HD4.out.frz 5
    have z6 := HD4.out.frz 6
    go_wp2
    go_ret2
    refine ⟨rfl, updP P s1.now P1, ?_⟩
    rw [← HS2.out]
    exact dstep_end HD.out HM.out HW3.out rfl hCl hn1 HG3.out HS.out (frm_set7 (Frm.refl _ _) (by simp) _ _ _ _ _ _ _) h2 hB ⟨set7 HD4.out.obj _ _ _ _ _ _ _⟩
  · have eb : (!(decide (s1.now = 1 ∨ s1.now = 3))) = true := by simp [hmv]
    rw [eb] at HMV
    have hS'' := HS'.out
    rw [if_neg hmv] at hS''
    have HS2 := Lib.hid hS''
    have HGO := Lib.hid (goOn_any HC4.out hn1 (T := T) (qe := P1.qe) (ql := P1.ql) (a := P1.a) (n := P1.n) (c := P1.c) (m := m') (by rw [pick_q P hn1, ← HS.out.q, ← HS.out.m]; exact HS.out.at_.mv) (by rw [pick_q P hn1]; intro e; exact HNC.out s1.now hn1 (by rw [← e]; simp [Part.bl])))
    clear eb hmv hS''
    go_wp2_with fail
    refine HMV.out.mono ?_
    rintro e w4' ⟨rfl, rfl⟩
    obtain ⟨n9, hn9⟩ : ∃ n9, n9 = (if m'.nx = 0 then dThen s1.now m'.res else s1.now) := ⟨_, rfl⟩
    obtain ⟨r9, hr9⟩ : ∃ r9, r9 = (if m'.nx = 0 ∧ s1.now = 3 then m'.res else s1.res) := ⟨_, rfl⟩
    rw [← hn9, ← hr9] at HGO
    have HN9 := Lib.hid hn9
    have HR9 := Lib.hid hr9
    clear hn9 hr9
    go_wp2_with fail
    refine HGO.out.mono ?_
    rintro e w5 ⟨rfl, hF5, hC5⟩
    have HF5 := Lib.hid hF5
    have HC5 := Lib.hid hC5
    have HD5 := Lib.hid (HD4.out.frm hF5 (by simp; omega))
    clear hF5 hC5
    obtain ⟨k0, k1, k2, k3, k4, k5, k6⟩ := HC5.out.cells
    obtain ⟨l0, l1, l2, l3, l4, l5, l6⟩ := HD5.out.cells
    have hkl := HC5.out.lt
    have hdl4 := HD5.out.lt
    have z0 := HD5.out.frz 0
    have z1 := HD5.out.frz 1
    have z2 := HD5.out.frz 2
    have z3 := HD5.out.frz 3
    have z4 := HD5.out.frz 4
    have z5 := HD5.out.frz 5
    have z6 := HD5.out.frz 6
    go_wp2
    go_ret2
    refine ⟨rfl, updP P s1.now P1, ?_⟩
    have hp2 : (⟨s1.ps.set s1.now (m', g'), s1.now, s1.res⟩ : Ds).ps[s1.now]? = some (m', g') := by
      show (s1.ps.set s1.now (m', g'))[s1.now]? = _
      rw [List.getElem?_set_self (by rw [HG3.out, HD.out.len]; exact hn1)]
    obtain ⟨t1, t2, t3⟩ := goOn_of (s := ⟨s1.ps.set s1.now (m', g'), s1.now, s1.res⟩) hp2
    rw [HS2.out] at t1 t2 t3
    have he : s' = ⟨s1.ps.set s1.now (m', g'), n9, r9⟩ := by
      obtain ⟨a1, a2, a3⟩ := s'
      simp only at t1 t2 t3
      rw [t3, t1, t2, HN9.out, HR9.out]
    rw [he]
    exact dstep_end HD.out HM.out HW3.out rfl hCl hn1 HG3.out HS.out (frm_set7 (HF5.out.weak (by simp)) (by simp) _ _ _ _ _ _ _) h2 hB ⟨set7 HD5.out.obj _ _ _ _ _ _ _⟩
end
end Go.Proofs.YticbbfcachnkiaaGreatDoor
