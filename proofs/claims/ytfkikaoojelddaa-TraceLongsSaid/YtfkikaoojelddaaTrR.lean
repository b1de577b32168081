/- Stage 13: see. (By gen_trr.py.) -/
import Derived.Test.YtfkikaoojelddaaTrQ
namespace Go.Proofs.Ytfkikaoojelddaa
open Go.ChangeShapes Go.WideShapes Go.ChangeAt Go.RowKit
set_option linter.unusedVariables false
set_option linter.unusedSimpArgs false
section
variable {w : World} {B p q1 q2 : Nat} {a : Option Addr} {c : Nat} {S : WS}
set_option maxRecDepth 100000 in
set_option maxHeartbeats 3200000 in
theorem see_any (h : WtAt w B p q1 q2 a c S) (i : Nat) (d : Dd) (hok : DdOk d) (hn : S.ws.length ≤ 100000) (hB : B ≤ w.heap.size) (hwf : ∀ x ∈ S.ws, (Lit.int .i64 x.w).wf = true) : Calls Try.prog 55 #[.pointer (some ⟨p, 0, none⟩), .int .i64 (i : Int), .agg #[.int .i64 d.i, .int .i64 d.a.k, .int .i64 d.a.w, .int .u64 d.a.b, .int .u64 d.a.a, .bool d.wt, .bool d.en]] w (WtQ w B p q1 q2 a (see S i d)) := by
  obtain ⟨S', hS'⟩ : ∃ S', S' = see S i d := ⟨_, rfl⟩
  rw [← hS']
  have HS' := Lib.hid hS'
  have H := Lib.hid h
  have HI := Lib.hid hok.1
  have HW := Lib.hid hok.2.2.1
  have HN := Lib.hid hn
  have HB := Lib.hid hB
  have HWF := Lib.hid hwf
  clear hS' h hok hn hB hwf
  have HGO := Lib.hid (fun (w1 : World) (hf : Frm [] w w1) => goesOn_any (H.out.frm0 hf) d HI.out)
  have HCH := Lib.hid (fun w => changes_any d.a.k d.a.w d.a.b d.a.a w)
  have HBX := Lib.hid (heap_alloc_new w (.cells #[.int .i64 d.i, .int .i64 d.a.k, .int .i64 d.a.w, .int .u64 d.a.b, .int .u64 d.a.a, .bool d.wt, .bool d.en] 40))
  have HAL := Lib.hid ((Frm.refl [] w).alloc (.cells #[.int .i64 d.i, .int .i64 d.a.k, .int .i64 d.a.w, .int .u64 d.a.b, .int .u64 d.a.a, .bool d.wt, .bool d.en] 40))
  cases hg : gon S d
  · have HG := Lib.hid hg
    have HS1 := Lib.hid (show see S i d = seL (bgn (cls S d.i) i d) i d by unfold see; rw [hg]; rfl)
    clear hg
    go_enter Try.func55, Try.ntmps55
    go_wp2_with fail
    refine (HGO.out _ HAL.out).mono ?_
    rintro e w1 ⟨rfl, hF1⟩
    rw [HG.out]
    have HF1 := Lib.hid (HAL.out.trans hF1)
    have HB1 := Lib.hid (hF1.heap HBX.out (by simp))
    have H1 := Lib.hid (H.out.frm0 HF1.out)
    have HCL := Lib.hid (close_any H1.out d.i HI.out HWF.out)
    obtain ⟨b0, b1, b2, b3, b4, b5, b6⟩ := cells7 HB1.out
    clear hF1
    go_wp2_with fail
    refine HCL.out.mono ?_
    rintro e w5 ⟨rfl, hA5, hF5, _⟩
    have hnd : w.heap.size ∉ wtD p q1 q2 a := fun hx => by have := (H.out.lts.1 _ hx).2; omega
    have hB5 := hF5.heap HB1.out hnd
    have H5 := Lib.hid hA5
    have HB5 := Lib.hid hB5
    have HF5 := Lib.hid ((HF1.out.nil (D := wtD p q1 q2 a)).trans hF5)
    have HBG := Lib.hid (begin_any H5.out i d HI.out (by rw [cls_length]; exact HN.out) (by have := HF5.out.size; have := HB.out; omega))
    clear b0 b1 b2 b3 b4 b5 b6 hA5 hF5 hnd
    obtain ⟨b0, b1, b2, b3, b4, b5, b6⟩ := cells7 hB5
    clear hB5
    go_wp2_with fail
    refine HBG.out.mono ?_
    rintro e w2 ⟨a2, c2, rfl, hA2, hF2, hr2⟩
    have hnd : w.heap.size ∉ wtD p q1 q2 a := fun hx => by have := (H.out.lts.1 _ hx).2; omega
    have HB2 := Lib.hid (hF2.heap HB5.out hnd)
    have H2 := Lib.hid hA2
    have HF2 := Lib.hid (HF5.out.trans hF2)
    have HA2 := Lib.hid (show ∀ x ∈ bkG a2, x ∈ bkG a ∨ w.heap.size ≤ x from fun x hx => (hr2 x hx).imp id (fun h => by have := HF5.out.size; omega))
    have HS2 := HS1
    generalize bgn (cls S d.i) i d = S2 at *
    clear b0 b1 b2 b3 b4 b5 b6 hA2 hF2 hr2 hnd HBG HCL HGO H5 HB5 H1 HB1
    -- from here: H2 : WtAt w2 .. S2, HB2 : the box, HF2 : Frm (wtD ..) w w2, HA2 : the row, HS2 : see S i d = seL S2 i d
    have hB2 := HB2.out
    have hlb2 := lt_of_heap hB2
    obtain ⟨b0, b1, b2, b3, b4, b5, b6⟩ := cells7 hB2
    clear hB2
    cases hc : chg d.a
    · have HC := Lib.hid hc
      have HX := Lib.hid (show see S i d = S2 by rw [HS2.out]; unfold seL; rw [hc]; rfl)
      clear hc
      go_wp2_with ((with_reducible refine (HCH.out _).mono ?_); rintro e w3 ⟨rfl, hF3⟩; rw [show (⟨d.a.k, d.a.w, d.a.b, d.a.a⟩ : Acc) = d.a from rfl, HC.out])
      go_end0
      rw [HS'.out, HX.out]
      exact ⟨a2, c2, rfl, H2.out.frm0 hF3, HF2.out.trans hF3.nil, HA2.out⟩
    · have HC := Lib.hid hc
      have HX := Lib.hid (show see S i d = { S2 with la := updI S2.la d.a.w (some (i, d.i)) } by rw [HS2.out]; unfold seL; rw [hc]; rfl)
      clear hc
      go_wp2_with ((with_reducible refine (HCH.out _).mono ?_); rintro e w3 ⟨rfl, hF3⟩; rw [show (⟨d.a.k, d.a.w, d.a.b, d.a.a⟩ : Acc) = d.a from rfl, HC.out])
      have H3 := Lib.hid (H2.out.frm0 hF3)
      have hB3 := hF3.heap HB2.out (by simp)
      have HF3 := Lib.hid (HF2.out.trans hF3.nil)
      clear hF3 b0 b1 b2 b3 b4 b5 b6
      obtain ⟨b0, b1, b2, b3, b4, b5, b6⟩ := cells7 hB3
      obtain ⟨c0, c1, c2'⟩ := cells3 H3.out.P
      go_still_tail 11, (by kernel_rfl)
      change wpList _ _ _ _ _ w3.drew
      have hA4 := H3.out.frm0 ((Frm.refl [] w3).drew)
      have hF4 := HF3.out.drew
      generalize w3.drew = w4 at hA4 hF4 ⊢
      have H4 := Lib.hid hA4
      have HF4 := Lib.hid hF4
      clear hA4 hF4 b0 b1 b2 b3 b4 b5 b6 c0 c1 c2' hB3
      refine wpl_mput rfl (.tmp 24) (.tmp 27) (.tmp 31) rfl Try.underlying114 H4.out.M2 HW.out (by rfl) (by rfl) (V := .agg #[.int .i64 (i : Int), .int .i64 d.i]) (by rfl) ?_
      intro w5 hM5 hF5
      have hlts := H4.out.lts
      go_wp2_with fail
      go_end0
      rw [HS'.out, HX.out]
      refine ⟨a2, c2, rfl, ⟨hF5.heap H4.out.P (by simpa using hlts.2.2.1), H4.out.G.frm hF5 (fun x hx => by simpa using (hlts.2.2.2 x hx).2.2), H4.out.M1.frm hF5 (by simpa using H4.out.ne), ?_, H4.out.ne, H4.out.ix, H4.out.bp, H4.out.b1, H4.out.b2⟩, HF4.out.trans (hF5.weak (by simp [wtD])), HA2.out⟩
      have := laF_upd S2 d.a.w (i, d.i)
      dsimp only at this
      rw [this] at hM5
      exact hM5
  · have HG := Lib.hid hg
    have HS1 := Lib.hid (show see S i d = seL S i d by unfold see; rw [hg]; rfl)
    clear hg
    go_enter Try.func55, Try.ntmps55
    go_wp2_with fail
    refine (HGO.out _ HAL.out).mono ?_
    rintro e w2 ⟨rfl, hF1⟩
    rw [HG.out]
    have HF2 := Lib.hid ((HAL.out.trans hF1).nil (D := wtD p q1 q2 a))
    have HB2 := Lib.hid (hF1.heap HBX.out (by simp))
    have H2 := Lib.hid (H.out.frm0 (HAL.out.trans hF1))
    have HA2 := Lib.hid (show ∀ x ∈ bkG a, x ∈ bkG a ∨ w.heap.size ≤ x from fun x hx => .inl hx)
    obtain ⟨S2, hS2⟩ : ∃ S2, S2 = S := ⟨_, rfl⟩
    obtain ⟨a2, ha2⟩ : ∃ a2, a2 = a := ⟨_, rfl⟩
    obtain ⟨c2, hc2⟩ : ∃ c2, c2 = c := ⟨_, rfl⟩
    have H2 := Lib.hid (show WtAt w2 B p q1 q2 a2 c2 S2 by rw [hS2, ha2, hc2]; exact H2.out)
    have HA2 := Lib.hid (show ∀ x ∈ bkG a2, x ∈ bkG a ∨ w.heap.size ≤ x by rw [ha2]; exact HA2.out)
    have HS2 := Lib.hid (show see S i d = seL S2 i d by rw [hS2]; exact HS1.out)
    clear hF1 HGO hS2 ha2 hc2
    -- from here: H2 : WtAt w2 .. S2, HB2 : the box, HF2 : Frm (wtD ..) w w2, HA2 : the row, HS2 : see S i d = seL S2 i d
    have hB2 := HB2.out
    have hlb2 := lt_of_heap hB2
    obtain ⟨b0, b1, b2, b3, b4, b5, b6⟩ := cells7 hB2
    clear hB2
    cases hc : chg d.a
    · have HC := Lib.hid hc
      have HX := Lib.hid (show see S i d = S2 by rw [HS2.out]; unfold seL; rw [hc]; rfl)
      clear hc
      go_wp2_with ((with_reducible refine (HCH.out _).mono ?_); rintro e w3 ⟨rfl, hF3⟩; rw [show (⟨d.a.k, d.a.w, d.a.b, d.a.a⟩ : Acc) = d.a from rfl, HC.out])
      go_end0
      rw [HS'.out, HX.out]
      exact ⟨a2, c2, rfl, H2.out.frm0 hF3, HF2.out.trans hF3.nil, HA2.out⟩
    · have HC := Lib.hid hc
      have HX := Lib.hid (show see S i d = { S2 with la := updI S2.la d.a.w (some (i, d.i)) } by rw [HS2.out]; unfold seL; rw [hc]; rfl)
      clear hc
      go_wp2_with ((with_reducible refine (HCH.out _).mono ?_); rintro e w3 ⟨rfl, hF3⟩; rw [show (⟨d.a.k, d.a.w, d.a.b, d.a.a⟩ : Acc) = d.a from rfl, HC.out])
      have H3 := Lib.hid (H2.out.frm0 hF3)
      have hB3 := hF3.heap HB2.out (by simp)
      have HF3 := Lib.hid (HF2.out.trans hF3.nil)
      clear hF3 b0 b1 b2 b3 b4 b5 b6
      obtain ⟨b0, b1, b2, b3, b4, b5, b6⟩ := cells7 hB3
      obtain ⟨c0, c1, c2'⟩ := cells3 H3.out.P
      go_still_tail 11, (by kernel_rfl)
      change wpList _ _ _ _ _ w3.drew
      have hA4 := H3.out.frm0 ((Frm.refl [] w3).drew)
      have hF4 := HF3.out.drew
      generalize w3.drew = w4 at hA4 hF4 ⊢
      have H4 := Lib.hid hA4
      have HF4 := Lib.hid hF4
      clear hA4 hF4 b0 b1 b2 b3 b4 b5 b6 c0 c1 c2' hB3
      refine wpl_mput rfl (.tmp 24) (.tmp 27) (.tmp 31) rfl Try.underlying114 H4.out.M2 HW.out (by rfl) (by rfl) (V := .agg #[.int .i64 (i : Int), .int .i64 d.i]) (by rfl) ?_
      intro w5 hM5 hF5
      have hlts := H4.out.lts
      go_wp2_with fail
      go_end0
      rw [HS'.out, HX.out]
      refine ⟨a2, c2, rfl, ⟨hF5.heap H4.out.P (by simpa using hlts.2.2.1), H4.out.G.frm hF5 (fun x hx => by simpa using (hlts.2.2.2 x hx).2.2), H4.out.M1.frm hF5 (by simpa using H4.out.ne), ?_, H4.out.ne, H4.out.ix, H4.out.bp, H4.out.b1, H4.out.b2⟩, HF4.out.trans (hF5.weak (by simp [wtD])), HA2.out⟩
      have := laF_upd S2 d.a.w (i, d.i)
      dsimp only at this
      rw [this] at hM5
      exact hM5
end
end Go.Proofs.Ytfkikaoojelddaa
