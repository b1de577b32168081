/- Stage 13: begin. -/
import Derived.Test.YtfkikaoojelddaaTrO
import Derived.Deep.RegionLaw
import Derived.Deep.DrawnRows
namespace Go.Proofs.Ytfkikaoojelddaa
open Go.ChangeShapes Go.WideShapes Go.ChangeAt Go.RowKit
set_option linter.unusedVariables false
set_option linter.unusedSimpArgs false
/-- What a method of it leaves. -/
def WtQ (w : World) (B p q1 q2 : Nat) (a : Option Addr) (S' : WS) (e : Ending) (w' : World) : Prop :=
  ∃ a' c', Ret (.tuple #[]) (fun w' => WtAt w' B p q1 q2 a' c' S' ∧ Frm (wtD p q1 q2 a) w w' ∧ ∀ x ∈ bkG a', x ∈ bkG a ∨ w.heap.size ≤ x) e w'
theorem opF_upd (S : WS) (t : Int) (n : Nat) (ws : List Wd) : updI (opF S) t (some (.int .i64 (n : Int))) = opF ⟨ws, updI S.op t (some n), S.la⟩ := by
  funext x; unfold opF updI; dsimp only; split <;> rfl
theorem opF_del (S : WS) (t : Int) (ws : List Wd) : updI (opF S) t none = opF ⟨ws, updI S.op t none, S.la⟩ := by
  funext x; unfold opF updI; dsimp only; split <;> rfl
theorem laF_upd (S : WS) (x : Int) (y : Nat × Int) : updI (laF S) x (some (.agg #[.int .i64 (y.1 : Int), .int .i64 y.2])) = laF ⟨S.ws, S.op, updI S.la x (some y)⟩ := by
  funext z; unfold laF updI; dsimp only; split <;> rfl
attribute [local go_sem ↓] Go.wp_at_zero Go.wp_at_succ
section
variable {w : World} {B p q1 q2 : Nat} {a : Option Addr} {c : Nat} {S : WS}
set_option maxRecDepth 100000 in
set_option maxHeartbeats 3200000 in
theorem begin_any (h : WtAt w B p q1 q2 a c S) (i : Nat) (d : Dd) (hi : (Lit.int .i64 d.i).wf = true) (hn : S.ws.length ≤ 100000) (hB : B ≤ w.heap.size) : Calls Try.prog 71 #[.pointer (some ⟨p, 0, none⟩), .int .i64 (i : Int), .agg #[.int .i64 d.i, .int .i64 d.a.k, .int .i64 d.a.w, .int .u64 d.a.b, .int .u64 d.a.a, .bool d.wt, .bool d.en]] w (WtQ w B p q1 q2 a (bgn S i d)) := by
  obtain ⟨S', hS'⟩ : ∃ S', S' = bgn S i d := ⟨_, rfl⟩
  rw [← hS']
  have HS' := Lib.hid hS'
  have H := Lib.hid h
  have HI := Lib.hid hi
  have HN := Lib.hid hn
  have HB := Lib.hid hB
  have hn2 : (S.ws.length : Int) ≤ 100000 := by omega
  clear hS' h hi hn hB
  have HWA := Lib.hid (fun w => waw_any d.i d.a.k d.a.w d.a.b d.a.a d.wt d.en w)
  have HBX := Lib.hid (heap_alloc_new w (.cells #[.int .i64 d.i, .int .i64 d.a.k, .int .i64 d.a.w, .int .u64 d.a.b, .int .u64 d.a.a, .bool d.wt, .bool d.en] 40))
  have HAL := Lib.hid ((Frm.refl [] w).alloc (.cells #[.int .i64 d.i, .int .i64 d.a.k, .int .i64 d.a.w, .int .u64 d.a.b, .int .u64 d.a.a, .bool d.wt, .bool d.en] 40))
  cases hw : waw d
  · have HW := Lib.hid hw
    have HX := Lib.hid (show bgn S i d = S by unfold bgn; rw [hw]; rfl)
    clear hw
    go_enter Try.func71, Try.ntmps71
    go_wp2_with ((with_reducible refine (HWA.out _).mono ?_); rintro e w1 ⟨rfl, hF1⟩; rw [show (⟨d.i, ⟨d.a.k, d.a.w, d.a.b, d.a.a⟩, d.wt, d.en⟩ : Dd) = d from rfl, HW.out])
    go_end0
    rw [HS'.out, HX.out]
    exact ⟨a, c, rfl, H.out.frm0 (HAL.out.trans hF1), (HAL.out.trans hF1).nil, fun x hx => .inl hx⟩
  · have HW := Lib.hid hw
    have HX := Lib.hid (show bgn S i d = ⟨S.ws ++ [⟨d.i, d.a.w, i, -1, -1⟩], updI S.op d.i (some S.ws.length), S.la⟩ by unfold bgn; rw [hw]; rfl)
    clear hw
    go_enter Try.func71, Try.ntmps71
    go_wp2_with ((with_reducible refine (HWA.out _).mono ?_); rintro e w1 ⟨rfl, hF1⟩; rw [show (⟨d.i, ⟨d.a.k, d.a.w, d.a.b, d.a.a⟩, d.wt, d.en⟩ : Dd) = d from rfl, HW.out])
    have hF := HAL.out.trans hF1
    have H1 := Lib.hid (H.out.frm0 hF)
    have HB1 := Lib.hid (hF1.heap HBX.out (by simp))
    obtain ⟨b0, b1, b2, b3, b4, b5, b6⟩ := cells7 HB1.out
    obtain ⟨c0, c1, c2⟩ := cells3 H1.out.P
    have HF := Lib.hid hF
    clear hF hF1
    go_still_tail 11, (by kernel_rfl)
    change wpList _ _ _ _ _ w1.drew
    have hA2 := H1.out.frm0 ((Frm.refl [] w1).drew)
    have hF2 := HF.out.drew
    have hB2 : w1.drew.heap[w.heap.size]? = _ := HB1.out
    generalize w1.drew = w2 at hA2 hF2 hB2 ⊢
    have H2 := Lib.hid hA2
    have HF2 := Lib.hid hF2
    have HB2 := Lib.hid hB2
    clear hA2 hF2 hB2 b0 b1 b2 b3 b4 b5 b6 c0 c1 c2 H1 HF HB1
    refine wpl_mput rfl (.tmp 12) (.tmp 14) (.tmp 19) rfl Try.underlying113 H2.out.M1 HI.out (by rfl) (by rfl) (V := .int .i64 (S.ws.length : Int)) (by rfl) ?_
    intro w3 hM3 hF3
    have hlts := H2.out.lts
    have hP3 := hF3.heap H2.out.P (by simpa using hlts.2.1)
    have hB3 := hF3.heap HB2.out (by
      have := HF2.out.size
      have := (H.out.lts.1 q1 (by simp [wtD])).2
      simp; omega)
    have hG3 := H2.out.G.frm hF3 (fun x hx => by simpa using (hlts.2.2.2 x hx).2.1)
    have hM23 := H2.out.M2.frm hF3 (by simpa using Ne.symm H2.out.ne)
    obtain ⟨b0, b1, b2, b3, b4, b5, b6⟩ := cells7 hB3
    obtain ⟨c0, c1, c2⟩ := cells3 hP3
    have hz0 : w3.frozen? ⟨p, 0, none⟩ = false := frozen_of_heap hP3
    have HF3 := Lib.hid hF3
    have HP3 := Lib.hid hP3
    have hlp3 := lt_of_heap hP3
    have hlb3 := lt_of_heap hB3
    have HG3 := Lib.hid hG3
    have HM3 := Lib.hid hM3
    have HM23 := Lib.hid hM23
    have HLT := Lib.hid hlts
    clear hF3 hP3 hG3 hM3 hM23 hlts hB3
    go_wp2_with fail
    try simp only [Act.put]
    have HSZ := Lib.hid (show B ≤ w3.heap.size by have := HF2.out.size; have := HF3.out.size; have := HB.out; omega)
    go_region_law (refine step_gr u_wd i_wd (by decide) (by decide) (by decide) rfl (.tmp 24) (.tmp 32) rfl (B := B) (g2 := w3.heap.size) (l := [.int .i64 d.i, .int .i64 d.a.w, .int .i64 (i : Int), .int .i64 (-1), .int .i64 (-1)]) (by simp [Act.eval]) (by simp [Act.eval]) (HG3.out.frm0 (by (repeat' (first | exact Frm.refl _ _ | apply Frm.drew | apply Frm.drewN | apply Frm.alloc)))) rfl (by simp [Value.oneCell']) (by first | exact heap_alloc_new w3 _ | exact heap_alloc_new w3.drew _) (by have := HN.out; omega) (by have := HSZ.out; simp; omega) ?_; intro a5 c5 w5 hG5 hF5 hb5; have HG5 := Lib.hid hG5; have F5 : Frm (bkG a) w3 w5 := Frm.trans (Frm.nil (by (repeat' (first | exact Frm.refl _ _ | apply Frm.drew | apply Frm.drewN | apply Frm.alloc)))) hF5; have HF5 := Lib.hid F5; have HB5 := Lib.hid (show ∀ x ∈ bkG a5, x ∈ bkG a ∨ w3.heap.size ≤ x from fun x hx => (hb5 x hx).imp id (fun h => by simp at h; omega)); have hP5 := F5.heap HP3.out (fun hx => (HLT.out.2.2.2 _ hx).1 rfl); have HP5 := Lib.hid hP5; have hz5 := frozen_of_heap (i := 0) hP5; obtain ⟨d0, d1, d2⟩ := cells3 hP5; have hlp := lt_of_heap hP5; clear hG5 hF5 hb5 hP5 F5)
    all_goals
      go_wp2_with fail
      go_end0
      rw [HS'.out, HX.out]
      have hlts := HLT.out
      have hF35 := HF5.out
      have hset := heap_setCell_at (i := 0) (.slice a5 (S.ws.length + 1) c5) HP5.out
      have hst : Frm [p] w5 (w5.setCell ⟨p, 0, none⟩ (.slice a5 (S.ws.length + 1) c5)) := (Frm.refl [p] _).setCell _ _ (.inl (by simp))
      have hpa : ∀ x ∈ bkG a5, x ≠ p ∧ x ≠ q1 ∧ x ≠ q2 := fun x hx => by
        rcases HB5.out x hx with h | h
        · exact hlts.2.2.2 x h
        · have h1 := HF3.out.size
          have := (hlts.1 q1 (by simp [wtD])).2
          have := (hlts.1 q2 (by simp [wtD])).2
          have := (hlts.1 p (by simp [wtD])).2
          omega
      refine ⟨a5, c5, rfl, ⟨?_, ?_, ?_, ?_, H2.out.ne, ?_, H2.out.bp, H2.out.b1, H2.out.b2⟩, ?_, ?_⟩
      · rw [List.length_append, List.length_singleton]; simpa using hset
      · rw [List.length_append, List.length_singleton]
        exact (HG5.out.frm hst (fun x hx => by simpa using (hpa x hx).1)).congr fun k hk => wdF_app _ _ hk
      · rw [← opF_upd]
        exact (HM3.out.frm hF35 (fun hx => (hlts.2.2.2 _ hx).2.1 rfl)).frm hst (by simpa using Ne.symm hlts.2.1)
      · exact (HM23.out.frm hF35 (fun hx => (hlts.2.2.2 _ hx).2.2 rfl)).frm hst (by simpa using Ne.symm hlts.2.2.1)
      · intro t n hn
        show n < (S.ws ++ [_]).length
        rw [List.length_append, List.length_singleton]
        have hn : updI S.op d.i (some S.ws.length) t = some n := hn
        by_cases e : t = d.i
        · rw [e, updI_eq] at hn; cases hn; omega
        · rw [updI_ne _ _ e] at hn; have := H2.out.ix t n hn; omega
      · exact (((HF2.out.nil (D := wtD p q1 q2 a)).trans (HF3.out.weak (by simp [wtD]))).trans (hF35.weak (by simp [wtD]; intro x hx; exact .inr (.inr (.inr hx))))).trans (hst.weak (by simp [wtD]))
      · intro x hx
        rcases HB5.out x hx with h | h
        · exact .inl h
        · have h1 := HF3.out.size; have h2 := HF2.out.size; exact .inr (by omega)
end
end Go.Proofs.Ytfkikaoojelddaa
