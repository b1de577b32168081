/- Stage 13: close. -/
import Derived.Test.YtfkikaoojelddaaTrP
namespace Go.Proofs.Ytfkikaoojelddaa
open Go.ChangeShapes Go.WideShapes Go.ChangeAt Go.RowKit
set_option linter.unusedVariables false
set_option linter.unusedSimpArgs false
attribute [local go_sem ↓] Go.wp_at_zero Go.wp_at_succ
def CloQ2 (w : World) (B p q1 q2 : Nat) (a : Option Addr) (c : Nat) (S : WS) (t : Int) (e : Ending) (w' : World) : Prop :=
  Ret (.tuple #[]) (fun w' => WtAt w' B p q1 q2 a c (cls S t) ∧ Frm (wtD p q1 q2 a) w w' ∧ ∀ n, S.op t = some n → MpDel w w' q1 t) e w'
theorem cls_length (S : WS) (t : Int) : (cls S t).ws.length = S.ws.length := by
  unfold cls
  cases S.op t with
  | none => rfl
  | some n =>
    show (clw S n).length = _
    unfold clw
    split
    · split <;> simp
    · rfl
/-- One cell of an element is put down. -/
theorem Gr.set1 {T : TypeId} {s B : Nat} {w : World} {n c g i j : Nat} {f : Nat → List Value} (h : Gr T s B w (some ⟨g, 0, none⟩) n c f) (hi : i < n) (hj : j < s) (v : Value) : Gr T s B (w.setCell ⟨g, i * s + j, none⟩ v) (some ⟨g, 0, none⟩) n c (upd f i ((f i).set j v)) := by
  obtain ⟨h1, h2, ⟨hn, _⟩ | ⟨g', cs, hg, hB, hh, hs, hq⟩⟩ := h
  · cases hn
  · cases hg
    have his : i * s + s ≤ c * s := by have := Nat.mul_le_mul_right s (show i + 1 ≤ c by omega); rw [Nat.add_mul, Nat.one_mul] at this; exact this
    refine ⟨fun k hk => ?_, h2, .inr ⟨g, cs.setIfInBounds (i * s + j) v, rfl, hB, heap_setCell_at v hh, by simpa using hs, fun k hk m u hu => ?_⟩⟩
    · by_cases e : k = i
      · subst e; rw [upd_eq, List.length_set]; exact h1 k hk
      · rw [upd_ne _ _ e]; exact h1 k hk
    · by_cases e : k = i
      · subst e
        rw [upd_eq, List.getElem?_set] at hu
        rw [Array.getElem?_setIfInBounds]
        by_cases em : j = m
        · subst em
          rw [if_pos rfl, if_pos (by rw [h1 k hk]; exact hj)] at hu
          rw [if_pos rfl, if_pos (by omega)]; exact hu
        · rw [if_neg em] at hu
          rw [if_neg (by omega)]; exact hq k hk m u hu
      · rw [upd_ne _ _ e] at hu
        have hm : m < s := by have := (List.getElem?_eq_some_iff.1 hu).1; have := h1 k hk; omega
        rw [Array.getElem?_setIfInBounds, if_neg ?_]
        · exact hq k hk m u hu
        · intro e2
          rcases Nat.lt_or_gt_of_ne e with e | e
          · have := Nat.mul_le_mul_right s (show k + 1 ≤ i by omega); rw [Nat.add_mul, Nat.one_mul] at this; omega
          · have := Nat.mul_le_mul_right s (show i + 1 ≤ k by omega); rw [Nat.add_mul, Nat.one_mul] at this; omega
section
variable {w : World} {B p q1 q2 : Nat} {a : Option Addr} {c : Nat} {S : WS}
set_option maxRecDepth 100000 in
set_option maxHeartbeats 3200000 in
theorem close_any (h : WtAt w B p q1 q2 a c S) (t : Int) (ht : (Lit.int .i64 t).wf = true) (hwf : ∀ x ∈ S.ws, (Lit.int .i64 x.w).wf = true) : Calls Try.prog 56 #[.pointer (some ⟨p, 0, none⟩), .int .i64 t] w (CloQ2 w B p q1 q2 a c S t) := by
  have H := Lib.hid h
  have HT := Lib.hid ht
  obtain ⟨c0, c1, c2⟩ := cells3 h.P
  cases ho : S.op t with
  | none =>
    have HX := Lib.hid (show cls S t = S by unfold cls; rw [ho])
    have hl := h.look1 ht (Frm.refl [] w)
    rw [ho] at hl
    dsimp only at hl
    have HO := Lib.hid ho
    clear h ht hwf ho
    go_enter Try.func56, Try.ntmps56
    go_wp2_with fail
    go_end0
    refine ⟨rfl, ?_, Frm.refl _ _, fun n hn => by rw [HO.out] at hn; cases hn⟩
    rw [HX.out]; exact H.out
  | some n =>
    have hnl := h.ix t n ho
    obtain ⟨g, rfl, hgB, hgl, hgf, hgc⟩ := h.G.at_ hnl
    have hxm : S.ws[n]? = some (S.ws.getD n wd0) := by rw [List.getD_eq_getElem?_getD, List.getElem?_eq_getElem hnl]; rfl
    have HWF := Lib.hid (hwf _ (List.mem_of_getElem? hxm))
    have hix := fun w => ix_wd (c := c) rfl hnl w (g := g)
    have hl := h.look1 ht (Frm.refl [] w)
    rw [ho] at hl
    dsimp only at hl
    have hlts := h.lts
    have hg1 := hlts.2.2.2 g (by simp [bkG])
    have HLT := Lib.hid hlts
    have HG1 := Lib.hid hg1
    have HGC := Lib.hid (show ∀ (j : Nat) (v : Value), (S.ws.getD n wd0).cells[j]? = some v → w.cell? ⟨g, n * 5 + j, none⟩ = some v from hgc n hnl)
    have HGF := Lib.hid hgf
    have HCLS := Lib.hid (show cls S t = ⟨clw S n, updI S.op t none, S.la⟩ by unfold cls; rw [ho])
    obtain ⟨x, hx⟩ : ∃ x, x = S.ws.getD n wd0 := ⟨_, rfl⟩
    rw [← hx] at HWF HGC
    have HXX := Lib.hid hx
    clear h ht hwf ho hlts hg1 hgc hgf hxm hx
    go_enter Try.func56, Try.ntmps56
    go_wp2_with (refine wpl_mdel rfl (.tmp 23) (.tmp 24) rfl Try.underlying113 H.out.M1 HT.out (by rfl) (by rfl) ?_; intro w1 hM1 hF1 hD1; have hP1 := hF1.heap H.out.P (by simpa using HLT.out.2.1); obtain ⟨e0, e1, e2⟩ := cells3 hP1; have HM1 := Lib.hid hM1; have HF1 := Lib.hid hF1; have HD1 := Lib.hid hD1; have HP1 := Lib.hid hP1; clear hM1 hF1 hD1 hP1)
    have hq : ∀ o, w1.cell? ⟨g, o, none⟩ = w.cell? ⟨g, o, none⟩ := fun o => HF1.out.cell hgl (by simpa using HG1.out.2.1)
    have r1 := (hq _).trans (HGC.out 1 _ rfl)
    have r2 := (hq _).trans (HGC.out 2 _ rfl)
    have hz : ∀ k, w1.frozen? ⟨g, k, none⟩ = false := fun k => (HF1.out.frozen hgl (by simpa using HG1.out.2.1)).trans (HGF.out k)
    have hgl1 : g < w1.heap.size := Nat.lt_of_lt_of_le hgl HF1.out.size
    have hpl1 := lt_of_heap HP1.out
    have hz3 := hz (n * 5 + 3)
    have hz4 := hz (n * 5 + 4)
    have HM2 := Lib.hid (H.out.M2.frm HF1.out (by simpa using Ne.symm H.out.ne))
    have hlk : ∀ w', Frm [] w1 w' → (Instr.lookup 114 (.map (some q2)) (.int .i64 x.w) true).run Try.prog w' = .ok (match S.la x.w with | some y => .tuple #[.agg #[.int .i64 (y.1 : Int), .int .i64 y.2], .bool true] | none => .tuple #[.agg #[.int .i64 0, .int .i64 0], .bool false]) w' := fun w' hf => by
      rw [(HM2.out.frm hf (by simp)).look Try.underlying114 (z_chg w') HWF.out]
      unfold laF
      cases S.la x.w <;> rfl
    clear hl hq hz c0 c1 c2 hgl hgB
    cases hla : S.la x.w with
    | none =>
      have HCL := Lib.hid (show clw S n = S.ws by unfold clw; rw [← HXX.out, hla])
      rw [hla] at hlk
      dsimp only at hlk
      have k1 := hlk w1.drew (Frm.refl [] w1).drew
      have k2 := fun o => hlk (w1.alloc o).drew ((Frm.refl [] w1).alloc _).drew
      clear hlk hla
      go_region
      go_wp2_with fail
      go_quiet (fail)
      go_wp2_with fail
      go_end0
      have hF2 : Frm [] w1 (((w1.alloc (Obj.cells #[Value.int IntKind.i64 0, Value.int IntKind.i64 0] 135)).drew).drewN nq) := (((Frm.refl [] w1).alloc _).drew).drewN _
      have hF3 := HF1.out.trans (hF2.nil (D := [q1]))
      refine ⟨rfl, ?_, hF3.weak (by simp [wtD]), fun n' hn' => HD1.out.frm hF2 (by simp)⟩
      rw [HCLS.out, HCL.out]
      refine ⟨hF2.heap HP1.out (by simp), (H.out.G.frm HF1.out (fun x hx => by simpa using (HLT.out.2.2.2 x hx).2.1)).frm0 hF2, ?_, HM2.out.frm hF2 (by simp), H.out.ne, fun t' n' hn' => ?_, H.out.bp, H.out.b1, H.out.b2⟩
      · rw [← opF_del]; exact HM1.out.frm hF2 (by simp)
      · have hn' : updI S.op t none t' = some n' := hn'
        by_cases e : t' = t
        · rw [e, updI_eq] at hn'; cases hn'
        · rw [updI_ne _ _ e] at hn'; exact H.out.ix t' n' hn'
    | some y =>
      rw [hla] at hlk
      dsimp only at hlk
      have k1 := hlk w1.drew (Frm.refl [] w1).drew
      have k2 := fun o => hlk (w1.alloc o).drew ((Frm.refl [] w1).alloc _).drew
      obtain ⟨ya, yb⟩ := y
      dsimp only at k1 k2
      clear hlk
      by_cases hlt : x.f < (ya : Int)
      · have HCL := Lib.hid (show clw S n = S.ws.set n { x with to := ya, by_ := yb } by unfold clw; rw [← HXX.out, hla]; dsimp only; rw [if_pos hlt])
        have hb : decide (x.f < (ya : Int)) = true := by simpa using hlt
        clear hla hlt
        go_region
        have hF2 : Frm [] w1 ((w1.alloc (Obj.cells #[Value.int IntKind.i64 (ya : Int), Value.int IntKind.i64 yb] 135)).drew) := ((Frm.refl [] w1).alloc _).drew
        have hC2 : ((w1.alloc (Obj.cells #[Value.int IntKind.i64 (ya : Int), Value.int IntKind.i64 yb] 135)).drew).heap[w1.heap.size]? = some (.cells #[.int .i64 (ya : Int), .int .i64 yb] 135 (0, 0)) := heap_alloc_new w1 _
        have hs2 : w1.heap.size < ((w1.alloc (Obj.cells #[Value.int IntKind.i64 (ya : Int), Value.int IntKind.i64 yb] 135)).drew).heap.size := lt_of_heap hC2
        generalize hX : (w1.alloc (Obj.cells #[Value.int IntKind.i64 (ya : Int), Value.int IntKind.i64 yb] 135)).drew = X at hF2 hC2 hs2 ⊢
        have u3 : X.frozen? ⟨g, n * 5 + 3, none⟩ = false := (hF2.frozen hgl1 (by simp)).trans hz3
        have u4 : X.frozen? ⟨g, n * 5 + 4, none⟩ = false := (hF2.frozen hgl1 (by simp)).trans hz4
        have u2 : X.cell? ⟨g, n * 5 + 2, none⟩ = _ := (hF2.cell hgl1 (by simp)).trans r2
        have t3 : X.cell? ⟨g, n * 5 + 3, none⟩ = some (.int .i64 x.to) := (hF2.cell hgl1 (by simp)).trans ((HF1.out.cell (by have := (HLT.out.1 g (by simp [wtD, bkG])).2; exact this) (by simpa using HG1.out.2.1)).trans (HGC.out 3 _ rfl))
        have t4 : X.cell? ⟨g, n * 5 + 4, none⟩ = some (.int .i64 x.by_) := (hF2.cell hgl1 (by simp)).trans ((HF1.out.cell (by have := (HLT.out.1 g (by simp [wtD, bkG])).2; exact this) (by simpa using HG1.out.2.1)).trans (HGC.out 4 _ rfl))
        have v0 : X.cell? ⟨w1.heap.size, 0, none⟩ = some (.int .i64 (ya : Int)) := by rw [cell_of_heap hC2]; rfl
        have v1 : X.cell? ⟨w1.heap.size, 1, none⟩ = some (.int .i64 yb) := by rw [cell_of_heap hC2]; rfl
        have hneg : w1.heap.size ≠ g := by omega
        have hneg2 : g ≠ w1.heap.size := by omega
        have HF2 := Lib.hid hF2
        clear hX hF2 hC2 k1 k2 r1 r2 hz3 hz4 e0 e1 e2 hs2
        go_wp2_with fail
        go_quiet (fail)
        go_wp2_with fail
        go_region
        go_end0
        have hF2 := HF2.out
        have hglw : g < w.heap.size := (HLT.out.1 g (by simp [wtD, bkG])).2
        have hS1 : Frm [g] X ((X.setCell ⟨g, n * 5 + 3, none⟩ (.int .i64 (ya : Int))).setCell ⟨g, n * 5 + 4, none⟩ (.int .i64 yb)) := ((Frm.refl [g] X).setCell _ _ (.inl (by simp))).setCell _ _ (.inl (by simp))
        have hG0 : Gr 52 5 B X (some ⟨g, 0, none⟩) S.ws.length c (wdF S.ws) := (H.out.G.frm HF1.out (fun x hx => by simpa using (HLT.out.2.2.2 x hx).2.1)).frm0 hF2
        have hG1 := hG0.set1 hnl (show 3 < 5 by omega) (.int .i64 (ya : Int))
        have hG2 := hG1.set1 hnl (show 4 < 5 by omega) (.int .i64 yb)
        have hG3 : Gr 52 5 B ((X.setCell ⟨g, n * 5 + 3, none⟩ (.int .i64 (ya : Int))).setCell ⟨g, n * 5 + 4, none⟩ (.int .i64 yb)) (some ⟨g, 0, none⟩) S.ws.length c (wdF (S.ws.set n { x with to := ya, by_ := yb })) := hG2.congr (fun k hk => by
          by_cases e : k = n
          · subst e
            rw [upd_eq, upd_eq]
            unfold wdF
            rw [List.getD_eq_getElem?_getD, List.getElem?_set, if_pos rfl, if_pos hnl, ← HXX.out]; rfl
          · rw [upd_ne _ _ e, upd_ne _ _ e]
            unfold wdF
            rw [List.getD_eq_getElem?_getD, List.getElem?_set, if_neg (Ne.symm e), ← List.getD_eq_getElem?_getD])
        have hZ := hS1.trans ((Frm.refl [] _).drewN (nq + 1)).nil
        have hWZ : Frm [q1, g] w _ := (HF1.out.weak (by simp)).trans ((hF2.nil (D := [q1, g])).trans (hZ.weak (by simp)))
        have hp1 : p ≠ g := Ne.symm HG1.out.1
        have hq1 : q1 ≠ g := Ne.symm HG1.out.2.1
        have hq2 : q2 ≠ g := Ne.symm HG1.out.2.2
        refine ⟨rfl, ?_, hWZ.weak (by simp [wtD, bkG]), fun n' hn' => HD1.out.frm (hF2.nil.trans hZ) (by simpa using hq1)⟩
        rw [HCLS.out, HCL.out]
        refine ⟨?_, ?_, ?_, (HM2.out.frm hF2 (by simp)).frm hZ (by simpa using hq2), H.out.ne, fun t' n' hn' => ?_, H.out.bp, H.out.b1, H.out.b2⟩
        · rw [List.length_set]; exact (hF2.heap HP1.out (by simp)) |> fun h => hZ.heap h (by simpa using hp1)
        · rw [List.length_set]; exact hG3.frm0 ((Frm.refl [] _).drewN (nq + 1))
        · rw [← opF_del]; exact (HM1.out.frm hF2 (by simp)).frm hZ (by simpa using hq1)
        · rw [List.length_set]
          have hn' : updI S.op t none t' = some n' := hn'
          by_cases e : t' = t
          · rw [e, updI_eq] at hn'; cases hn'
          · rw [updI_ne _ _ e] at hn'; exact H.out.ix t' n' hn'
      · have HCL := Lib.hid (show clw S n = S.ws by unfold clw; rw [← HXX.out, hla]; dsimp only; rw [if_neg hlt])
        have hb : decide (x.f < (ya : Int)) = false := by simpa using hlt
        clear hla hlt
        go_region
        have hF2 : Frm [] w1 ((w1.alloc (Obj.cells #[Value.int IntKind.i64 (ya : Int), Value.int IntKind.i64 yb] 135)).drew) := ((Frm.refl [] w1).alloc _).drew
        have hC2 : ((w1.alloc (Obj.cells #[Value.int IntKind.i64 (ya : Int), Value.int IntKind.i64 yb] 135)).drew).heap[w1.heap.size]? = some (.cells #[.int .i64 (ya : Int), .int .i64 yb] 135 (0, 0)) := heap_alloc_new w1 _
        generalize hX : (w1.alloc (Obj.cells #[Value.int IntKind.i64 (ya : Int), Value.int IntKind.i64 yb] 135)).drew = X at hF2 hC2 ⊢
        have u2 : X.cell? ⟨g, n * 5 + 2, none⟩ = _ := (hF2.cell hgl1 (by simp)).trans r2
        have v0 : X.cell? ⟨w1.heap.size, 0, none⟩ = some (.int .i64 (ya : Int)) := by rw [cell_of_heap hC2]; rfl
        have HF2 := Lib.hid hF2
        clear hX hF2 hC2 k1 k2 r1 r2 hz3 hz4 e0 e1 e2
        go_wp2_with fail
        go_quiet (fail)
        go_wp2_with fail
        go_end0
        have hF2 := HF2.out.drewN nq
        have hF3 := HF1.out.trans (hF2.nil (D := [q1]))
        refine ⟨rfl, ?_, hF3.weak (by simp [wtD]), fun n' hn' => HD1.out.frm hF2 (by simp)⟩
        rw [HCLS.out, HCL.out]
        refine ⟨hF2.heap HP1.out (by simp), (H.out.G.frm HF1.out (fun x hx => by simpa using (HLT.out.2.2.2 x hx).2.1)).frm0 hF2, ?_, HM2.out.frm hF2 (by simp), H.out.ne, fun t' n' hn' => ?_, H.out.bp, H.out.b1, H.out.b2⟩
        · rw [← opF_del]; exact HM1.out.frm hF2 (by simp)
        · have hn' : updI S.op t none t' = some n' := hn'
          by_cases e : t' = t
          · rw [e, updI_eq] at hn'; cases hn'
          · rw [updI_ne _ _ e] at hn'; exact H.out.ix t' n' hn'
end
end Go.Proofs.Ytfkikaoojelddaa
