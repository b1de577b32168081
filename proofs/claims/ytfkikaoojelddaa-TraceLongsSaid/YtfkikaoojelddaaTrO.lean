/- Stage 13: goesOn. (By gen_trn.py.) -/
import Derived.Test.YtfkikaoojelddaaTrN
import Derived.Test.YtfkikaoojelddaaAp
namespace Go.Proofs.Ytfkikaoojelddaa
open Go.ChangeShapes Go.WideShapes Go.ChangeAt Go.RowKit
set_option linter.unusedVariables false
set_option linter.unusedSimpArgs false
section
variable {w : World} {B p q1 q2 : Nat} {a : Option Addr} {c : Nat} {S : WS}
theorem cells7 {w : World} {b : Nat} {x0 x1 x2 x3 x4 x5 x6 : Value} {t : TypeId} (h : w.heap[b]? = some (.cells #[x0, x1, x2, x3, x4, x5, x6] t (0, 0))) : w.cell? ⟨b, 0, none⟩ = some x0 ∧ w.cell? ⟨b, 1, none⟩ = some x1 ∧ w.cell? ⟨b, 2, none⟩ = some x2 ∧ w.cell? ⟨b, 3, none⟩ = some x3 ∧ w.cell? ⟨b, 4, none⟩ = some x4 ∧ w.cell? ⟨b, 5, none⟩ = some x5 ∧ w.cell? ⟨b, 6, none⟩ = some x6 := by
  refine ⟨?_, ?_, ?_, ?_, ?_, ?_, ?_⟩ <;> rw [cell_of_heap h] <;> rfl
set_option maxRecDepth 100000 in
set_option maxHeartbeats 1600000 in
theorem goesOn_any (h : WtAt w B p q1 q2 a c S) (d : Dd) (hi : (Lit.int .i64 d.i).wf = true) : Calls Try.prog 70 #[.pointer (some ⟨p, 0, none⟩), .agg #[.int .i64 d.i, .int .i64 d.a.k, .int .i64 d.a.w, .int .u64 d.a.b, .int .u64 d.a.a, .bool d.wt, .bool d.en]] w (Ret (.bool (gon S d)) (fun w' => Frm [] w w')) := by
  obtain ⟨r, hr⟩ : ∃ r, r = gon S d := ⟨_, rfl⟩
  rw [← hr]
  have HR := Lib.hid hr
  clear hr
  have H := Lib.hid h
  have HI := Lib.hid hi
  have hlt := lt_of_heap h.P
  have hP := h.P
  clear h hi
  cases ho : S.op d.i with
  | none =>
    have HX := Lib.hid (show gon S d = false by unfold gon; rw [ho])
    have hl : ∀ w', Frm [] w w' → (Instr.lookup 113 (.map (some q1)) (.int .i64 d.i) true).run Try.prog w' = .ok (.tuple #[.int .i64 0, .bool false]) w' := fun w' hf => by rw [H.out.look1 HI.out hf, ho]
    have hl1 := fun o n => hl ((w.alloc o).drewN n) (((Frm.refl _ _).alloc _).drewN _)
    have hl2 := fun o => hl (w.alloc o) ((Frm.refl _ _).alloc _)
    have hl3 := fun o n => hl (((w.alloc o).drewN n).drew) (((Frm.refl _ _).alloc _).drewN _).drew
    obtain ⟨c0, c1, c2⟩ := cells3 hP
    clear hl hP
    go_enter Try.func70, Try.ntmps70
    go_wp2_with fail
    go_quiet (fail)
    go_wp2_with fail
    go_quiet (fail)
    go_wp2_with fail
    go_ret
    exact ⟨by rw [HR.out, HX.out]; rfl, (((Frm.refl _ _).alloc _).drewN _).drewN _⟩
  | some n =>
    have hX0 : gon S d = (waw d && (S.ws.getD n wd0).w == d.a.w) := by unfold gon; rw [ho]
    have hl : ∀ w', Frm [] w w' → (Instr.lookup 113 (.map (some q1)) (.int .i64 d.i) true).run Try.prog w' = .ok (.tuple #[.int .i64 (n : Int), .bool true]) w' := fun w' hf => by rw [H.out.look1 HI.out hf, ho]
    have hl1 := fun o n => hl ((w.alloc o).drewN n) (((Frm.refl _ _).alloc _).drewN _)
    have hl2 := fun o => hl (w.alloc o) ((Frm.refl _ _).alloc _)
    have hl3 := fun o n => hl (((w.alloc o).drewN n).drew) (((Frm.refl _ _).alloc _).drewN _).drew
    have hnl := H.out.ix d.i n ho
    obtain ⟨g, rfl, hgB, hgl, hgf, hgc⟩ := H.out.G.at_ hnl
    have HIX := Lib.hid (fun w' => ix_wd (c := c) rfl hnl w' (g := g))
    have hcw := hgc n hnl 1 (.int .i64 (S.ws.getD n wd0).w) rfl
    have HC0 := Lib.hid (show ∀ X : World, Frm [] (w.alloc (.cells #[.int .i64 d.i, .int .i64 d.a.k, .int .i64 d.a.w, .int .u64 d.a.b, .int .u64 d.a.a, .bool d.wt, .bool d.en] 40)) X → ∀ w', Frm [] X w' → w'.cell? ⟨w.heap.size, 0, none⟩ = some (.int .i64 d.i) ∧ w'.cell? ⟨w.heap.size, 1, none⟩ = some (.int .i64 d.a.k) ∧ w'.cell? ⟨w.heap.size, 2, none⟩ = some (.int .i64 d.a.w) ∧ w'.cell? ⟨w.heap.size, 3, none⟩ = some (.int .u64 d.a.b) ∧ w'.cell? ⟨w.heap.size, 4, none⟩ = some (.int .u64 d.a.a) ∧ w'.cell? ⟨w.heap.size, 5, none⟩ = some (.bool d.wt) ∧ w'.cell? ⟨w.heap.size, 6, none⟩ = some (.bool d.en) ∧ w'.cell? ⟨p, 0, none⟩ = some (.slice (some ⟨g, 0, none⟩) S.ws.length c) ∧ w'.cell? ⟨p, 1, none⟩ = some (.map (some q1)) ∧ w'.cell? ⟨g, n * 5 + 1, none⟩ = some (.int .i64 (S.ws.getD n wd0).w) from fun X hX w' hw => by
      have hF := hX.trans hw
      have hF0 : Frm [] w w' := ((Frm.refl [] w).alloc _).trans hF
      obtain ⟨b0, b1, b2, b3, b4, b5, b6⟩ := cells7 (hF.heap (heap_alloc_new w (.cells #[.int .i64 d.i, .int .i64 d.a.k, .int .i64 d.a.w, .int .u64 d.a.b, .int .u64 d.a.a, .bool d.wt, .bool d.en] 40)) (by simp))
      obtain ⟨p0, p1, p2⟩ := cells3 (hF0.heap hP (by simp))
      exact ⟨b0, b1, b2, b3, b4, b5, b6, p0, p1, (hF0.cell hgl (by simp)).trans hcw⟩)
    obtain ⟨c0, c1, c2⟩ := cells3 hP
    clear hl hP hgf hgc hcw hnl ho
    cases hw : waw d
    · have HWW := Lib.hid hw
      have HX := Lib.hid (show gon S d = false by rw [hX0, hw]; simp)
      clear hX0 hw
      go_enter Try.func70, Try.ntmps70
      go_wp2_with fail
      go_quiet (fail)
      go_wp2_with fail
      obtain ⟨X, hX⟩ : ∃ X, X = (w.alloc (.cells #[.int .i64 d.i, .int .i64 d.a.k, .int .i64 d.a.w, .int .u64 d.a.b, .int .u64 d.a.a, .bool d.wt, .bool d.en] 40)).drewN nq := ⟨_, rfl⟩
      rw [← hX]
      have hFX : Frm [] (w.alloc (.cells #[.int .i64 d.i, .int .i64 d.a.k, .int .i64 d.a.w, .int .u64 d.a.b, .int .u64 d.a.a, .bool d.wt, .bool d.en] 40)) X := by rw [hX]; exact (Frm.refl _ _).drewN _
      have HC := Lib.hid (HC0.out X hFX)
      have HFX := Lib.hid (((Frm.refl [] w).alloc _).trans hFX)
      clear hX hFX HC0 hl1 hl2 hl3 c0 c1 c2 hlt hgl hgB
      refine wp_region_noPanic ?_
      refine wp_region_held_drew (S := fun w' => Frm [] X w') (by kernel_rfl) ((Frm.refl _ _).drew) (fun hHeld => ?_)
      refine take_in (i := 0) (d := 17) (v := .bool true) rfl rfl (by kernel_rfl) (by kernel_rfl) (by kernel_rfl) (fun _ _ _ h => h) (by kernel_rfl) (fun _ _ => rfl) (by assumption) ?_
      try simp only [Act.put, List.setIfInBounds_toArray, List.set_cons_zero, List.set_cons_succ]
      refine take_in (i := 1) (d := 18) (v := .bool true) rfl rfl (by kernel_rfl) (by kernel_rfl) (by kernel_rfl) (fun _ _ _ h => h) (by kernel_rfl) (fun _ _ => rfl) (by assumption) ?_
      try simp only [Act.put, List.setIfInBounds_toArray, List.set_cons_zero, List.set_cons_succ]
      refine take_in (i := 2) (d := 19) (v := (.agg #[.int .i64 d.i, .int .i64 d.a.k, .int .i64 d.a.w, .int .u64 d.a.b, .int .u64 d.a.a, .bool d.wt, .bool d.en])) rfl rfl (by kernel_rfl) (by kernel_rfl) (by kernel_rfl) (fun _ _ _ h => h) (by kernel_rfl) (fun w' hS => by have hh := HC.out w' hS; obtain ⟨b0, b1, b2, b3, b4, b5, b6, p0, p1, e1⟩ := hh; go_simp) (by assumption) ?_
      try simp only [Act.put, List.setIfInBounds_toArray, List.set_cons_zero, List.set_cons_succ]
      refine wpAnyH_ready (rs := [3]) (by kernel_rfl) (by simp) ?_
      refine AllReadyH.cons rfl (fun K hK => ?_) AllReadyH.nil
      go_simp
      go_at_call 75
      refine (waw_any d.i d.a.k d.a.w d.a.b d.a.a d.wt d.en _).mono ?_
      rintro e1 x1 ⟨rfl, hF1⟩
      have s1 : Frm [] X x1 := (Frm.refl [] X).drew.trans hF1
      rw [show (⟨d.i, ⟨d.a.k, d.a.w, d.a.b, d.a.a⟩, d.wt, d.en⟩ : Dd) = d from rfl, HWW.out]
      refine hK.out _ _ (by exact s1) (fun hHeld => ?_)
      clear hK K
      try change wpAnyH _ _ _ _ _ _ _ (Act.put _ (some 20) _) _
      try simp only [Act.put, List.setIfInBounds_toArray, List.set_cons_zero, List.set_cons_succ]
      refine take_in (i := 4) (d := 21) (v := .bool false) rfl rfl (by kernel_rfl) (by kernel_rfl) (by kernel_rfl) (fun _ _ _ h => h) (by kernel_rfl) (fun _ _ => rfl) (by assumption) ?_
      try simp only [Act.put, List.setIfInBounds_toArray, List.set_cons_zero, List.set_cons_succ]
      refine take_in (i := 5) (d := 22) (v := .bool false) rfl rfl (by kernel_rfl) (by kernel_rfl) (by kernel_rfl) (fun _ _ _ h => h) (by kernel_rfl) (fun _ _ => rfl) (by assumption) ?_
      try simp only [Act.put, List.setIfInBounds_toArray, List.set_cons_zero, List.set_cons_succ]
      refine take_out (i := 6) (d := 23) rfl rfl (by kernel_rfl) (by kernel_rfl) (by kernel_rfl) (fun _ _ _ h => h) (by kernel_rfl) (by assumption) ?_
      try simp only [Act.put, List.setIfInBounds_toArray, List.set_cons_zero, List.set_cons_succ]
      refine take_out (i := 7) (d := 24) rfl rfl (by kernel_rfl) (by kernel_rfl) (by kernel_rfl) (fun _ _ _ h => h) (by kernel_rfl) (by assumption) ?_
      try simp only [Act.put, List.setIfInBounds_toArray, List.set_cons_zero, List.set_cons_succ]
      refine take_out (i := 8) (d := 25) rfl rfl (by kernel_rfl) (by kernel_rfl) (by kernel_rfl) (fun _ _ _ h => h) (by kernel_rfl) (by assumption) ?_
      try simp only [Act.put, List.setIfInBounds_toArray, List.set_cons_zero, List.set_cons_succ]
      refine take_out (i := 9) (d := 26) rfl rfl (by kernel_rfl) (by kernel_rfl) (by kernel_rfl) (fun _ _ _ h => h) (by kernel_rfl) (by assumption) ?_
      try simp only [Act.put, List.setIfInBounds_toArray, List.set_cons_zero, List.set_cons_succ]
      refine take_out (i := 10) (d := 27) rfl rfl (by kernel_rfl) (by kernel_rfl) (by kernel_rfl) (fun _ _ _ h => h) (by kernel_rfl) (by assumption) ?_
      try simp only [Act.put, List.setIfInBounds_toArray, List.set_cons_zero, List.set_cons_succ]
      refine take_out (i := 11) (d := 28) rfl rfl (by kernel_rfl) (by kernel_rfl) (by kernel_rfl) (fun _ _ _ h => h) (by kernel_rfl) (by assumption) ?_
      try simp only [Act.put, List.setIfInBounds_toArray, List.set_cons_zero, List.set_cons_succ]
      refine take_out (i := 12) (d := 29) rfl rfl (by kernel_rfl) (by kernel_rfl) (by kernel_rfl) (fun _ _ _ h => h) (by kernel_rfl) (by assumption) ?_
      try simp only [Act.put, List.setIfInBounds_toArray, List.set_cons_zero, List.set_cons_succ]
      refine take_out (i := 13) (d := 30) rfl rfl (by kernel_rfl) (by kernel_rfl) (by kernel_rfl) (fun _ _ _ h => h) (by kernel_rfl) (by assumption) ?_
      try simp only [Act.put, List.setIfInBounds_toArray, List.set_cons_zero, List.set_cons_succ]
      refine take_out (i := 14) (d := 31) rfl rfl (by kernel_rfl) (by kernel_rfl) (by kernel_rfl) (fun _ _ _ h => h) (by kernel_rfl) (by assumption) ?_
      try simp only [Act.put, List.setIfInBounds_toArray, List.set_cons_zero, List.set_cons_succ]
      refine take_out (i := 15) (d := 32) rfl rfl (by kernel_rfl) (by kernel_rfl) (by kernel_rfl) (fun _ _ _ h => h) (by kernel_rfl) (by assumption) ?_
      try simp only [Act.put, List.setIfInBounds_toArray, List.set_cons_zero, List.set_cons_succ]
      refine take_out (i := 16) (d := 33) rfl rfl (by kernel_rfl) (by kernel_rfl) (by kernel_rfl) (fun _ _ _ h => h) (by kernel_rfl) (by assumption) ?_
      try simp only [Act.put, List.setIfInBounds_toArray, List.set_cons_zero, List.set_cons_succ]
      refine take_out (i := 17) (d := 34) rfl rfl (by kernel_rfl) (by kernel_rfl) (by kernel_rfl) (fun _ _ _ h => h) (by kernel_rfl) (by assumption) ?_
      try simp only [Act.put, List.setIfInBounds_toArray, List.set_cons_zero, List.set_cons_succ]
      refine take_in (i := 18) (d := 35) (v := .bool false) rfl rfl (by kernel_rfl) (by kernel_rfl) (by kernel_rfl) (fun _ _ _ h => h) (by kernel_rfl) (fun _ _ => rfl) (by assumption) ?_
      try simp only [Act.put, List.setIfInBounds_toArray, List.set_cons_zero, List.set_cons_succ]
      refine take_in (i := 19) (d := 4) (v := .bool false) rfl rfl (by kernel_rfl) (by kernel_rfl) (by kernel_rfl) (fun _ _ _ h => h) (by kernel_rfl) (fun _ _ => rfl) (by assumption) ?_
      try simp only [Act.put, List.setIfInBounds_toArray, List.set_cons_zero, List.set_cons_succ]
      refine wpAnyH_done (by kernel_rfl) ?_ _
      refine NoPanic.normal ?_
      go_wp2_with fail
      go_ret
      exact ⟨by rw [HR.out, HX.out]; rfl, HFX.out.trans s1⟩
    · have HWW := Lib.hid hw
      have HX := Lib.hid (show gon S d = ((S.ws.getD n wd0).w == d.a.w) by rw [hX0, hw]; simp)
      clear hX0 hw
      go_enter Try.func70, Try.ntmps70
      go_wp2_with fail
      go_quiet (fail)
      go_wp2_with fail
      obtain ⟨X, hX⟩ : ∃ X, X = (w.alloc (.cells #[.int .i64 d.i, .int .i64 d.a.k, .int .i64 d.a.w, .int .u64 d.a.b, .int .u64 d.a.a, .bool d.wt, .bool d.en] 40)).drewN nq := ⟨_, rfl⟩
      rw [← hX]
      have hFX : Frm [] (w.alloc (.cells #[.int .i64 d.i, .int .i64 d.a.k, .int .i64 d.a.w, .int .u64 d.a.b, .int .u64 d.a.a, .bool d.wt, .bool d.en] 40)) X := by rw [hX]; exact (Frm.refl _ _).drewN _
      have HC := Lib.hid (HC0.out X hFX)
      have HFX := Lib.hid (((Frm.refl [] w).alloc _).trans hFX)
      clear hX hFX HC0 hl1 hl2 hl3 c0 c1 c2 hlt hgl hgB
      refine wp_region_noPanic ?_
      refine wp_region_held_drew (S := fun w' => Frm [] X w') (by kernel_rfl) ((Frm.refl _ _).drew) (fun hHeld => ?_)
      refine take_in (i := 0) (d := 17) (v := .bool true) rfl rfl (by kernel_rfl) (by kernel_rfl) (by kernel_rfl) (fun _ _ _ h => h) (by kernel_rfl) (fun _ _ => rfl) (by assumption) ?_
      try simp only [Act.put, List.setIfInBounds_toArray, List.set_cons_zero, List.set_cons_succ]
      refine take_in (i := 1) (d := 18) (v := .bool true) rfl rfl (by kernel_rfl) (by kernel_rfl) (by kernel_rfl) (fun _ _ _ h => h) (by kernel_rfl) (fun _ _ => rfl) (by assumption) ?_
      try simp only [Act.put, List.setIfInBounds_toArray, List.set_cons_zero, List.set_cons_succ]
      refine take_in (i := 2) (d := 19) (v := (.agg #[.int .i64 d.i, .int .i64 d.a.k, .int .i64 d.a.w, .int .u64 d.a.b, .int .u64 d.a.a, .bool d.wt, .bool d.en])) rfl rfl (by kernel_rfl) (by kernel_rfl) (by kernel_rfl) (fun _ _ _ h => h) (by kernel_rfl) (fun w' hS => by have hh := HC.out w' hS; obtain ⟨b0, b1, b2, b3, b4, b5, b6, p0, p1, e1⟩ := hh; go_simp) (by assumption) ?_
      try simp only [Act.put, List.setIfInBounds_toArray, List.set_cons_zero, List.set_cons_succ]
      refine wpAnyH_ready (rs := [3]) (by kernel_rfl) (by simp) ?_
      refine AllReadyH.cons rfl (fun K hK => ?_) AllReadyH.nil
      go_simp
      go_at_call 75
      refine (waw_any d.i d.a.k d.a.w d.a.b d.a.a d.wt d.en _).mono ?_
      rintro e1 x1 ⟨rfl, hF1⟩
      have s1 : Frm [] X x1 := (Frm.refl [] X).drew.trans hF1
      rw [show (⟨d.i, ⟨d.a.k, d.a.w, d.a.b, d.a.a⟩, d.wt, d.en⟩ : Dd) = d from rfl, HWW.out]
      refine hK.out _ _ (by exact s1) (fun hHeld => ?_)
      clear hK K
      try change wpAnyH _ _ _ _ _ _ _ (Act.put _ (some 20) _) _
      try simp only [Act.put, List.setIfInBounds_toArray, List.set_cons_zero, List.set_cons_succ]
      refine take_in (i := 4) (d := 21) (v := .bool true) rfl rfl (by kernel_rfl) (by kernel_rfl) (by kernel_rfl) (fun _ _ _ h => h) (by kernel_rfl) (fun _ _ => rfl) (by assumption) ?_
      try simp only [Act.put, List.setIfInBounds_toArray, List.set_cons_zero, List.set_cons_succ]
      refine take_in (i := 5) (d := 22) (v := .bool true) rfl rfl (by kernel_rfl) (by kernel_rfl) (by kernel_rfl) (fun _ _ _ h => h) (by kernel_rfl) (fun _ _ => rfl) (by assumption) ?_
      try simp only [Act.put, List.setIfInBounds_toArray, List.set_cons_zero, List.set_cons_succ]
      refine take_in (i := 6) (d := 23) (v := .pointer (some ⟨p, 0, none⟩)) rfl rfl (by kernel_rfl) (by kernel_rfl) (by kernel_rfl) (fun _ _ _ h => h) (by kernel_rfl) (fun _ _ => rfl) (by assumption) ?_
      try simp only [Act.put, List.setIfInBounds_toArray, List.set_cons_zero, List.set_cons_succ]
      refine take_in (i := 7) (d := 24) (v := .pointer (some ⟨p, 0, none⟩)) rfl rfl (by kernel_rfl) (by kernel_rfl) (by kernel_rfl) (fun _ _ _ h => h) (by kernel_rfl) (fun w' hS => by go_simp) (by assumption) ?_
      try simp only [Act.put, List.setIfInBounds_toArray, List.set_cons_zero, List.set_cons_succ]
      refine take_in (i := 8) (d := 25) (v := .pointer (some ⟨p, 0, none⟩)) rfl rfl (by kernel_rfl) (by kernel_rfl) (by kernel_rfl) (fun _ _ _ h => h) (by kernel_rfl) (fun _ _ => rfl) (by assumption) ?_
      try simp only [Act.put, List.setIfInBounds_toArray, List.set_cons_zero, List.set_cons_succ]
      refine take_in (i := 9) (d := 26) (v := .slice (some ⟨g, 0, none⟩) S.ws.length c) rfl rfl (by kernel_rfl) (by kernel_rfl) (by kernel_rfl) (fun _ _ _ h => h) (by kernel_rfl) (fun w' hS => by have hh := HC.out w' hS; obtain ⟨b0, b1, b2, b3, b4, b5, b6, p0, p1, e1⟩ := hh; go_simp) (by assumption) ?_
      try simp only [Act.put, List.setIfInBounds_toArray, List.set_cons_zero, List.set_cons_succ]
      refine take_in (i := 10) (d := 27) (v := .int .i64 (n : Int)) rfl rfl (by kernel_rfl) (by kernel_rfl) (by kernel_rfl) (fun _ _ _ h => h) (by kernel_rfl) (fun _ _ => rfl) (by assumption) ?_
      try simp only [Act.put, List.setIfInBounds_toArray, List.set_cons_zero, List.set_cons_succ]
      refine take_in (i := 11) (d := 28) (v := .pointer (some ⟨g, n * 5, none⟩)) rfl rfl (by kernel_rfl) (by kernel_rfl) (by kernel_rfl) (fun _ _ _ h => h) (by kernel_rfl) (fun w' hS => by have hh := HIX.out w'; go_simp) (by assumption) ?_
      try simp only [Act.put, List.setIfInBounds_toArray, List.set_cons_zero, List.set_cons_succ]
      refine take_in (i := 12) (d := 29) (v := .pointer (some ⟨g, n * 5 + 1, none⟩)) rfl rfl (by kernel_rfl) (by kernel_rfl) (by kernel_rfl) (fun _ _ _ h => h) (by kernel_rfl) (fun _ _ => rfl) (by assumption) ?_
      try simp only [Act.put, List.setIfInBounds_toArray, List.set_cons_zero, List.set_cons_succ]
      refine take_in (i := 13) (d := 30) (v := .int .i64 (S.ws.getD n wd0).w) rfl rfl (by kernel_rfl) (by kernel_rfl) (by kernel_rfl) (fun _ _ _ h => h) (by kernel_rfl) (fun w' hS => by have hh := HC.out w' hS; obtain ⟨b0, b1, b2, b3, b4, b5, b6, p0, p1, e1⟩ := hh; go_simp) (by assumption) ?_
      try simp only [Act.put, List.setIfInBounds_toArray, List.set_cons_zero, List.set_cons_succ]
      refine take_in (i := 14) (d := 31) (v := .pointer (some ⟨w.heap.size, 1, none⟩)) rfl rfl (by kernel_rfl) (by kernel_rfl) (by kernel_rfl) (fun _ _ _ h => h) (by kernel_rfl) (fun _ _ => rfl) (by assumption) ?_
      try simp only [Act.put, List.setIfInBounds_toArray, List.set_cons_zero, List.set_cons_succ]
      refine take_in (i := 15) (d := 32) (v := .pointer (some ⟨w.heap.size, 2, none⟩)) rfl rfl (by kernel_rfl) (by kernel_rfl) (by kernel_rfl) (fun _ _ _ h => h) (by kernel_rfl) (fun _ _ => rfl) (by assumption) ?_
      try simp only [Act.put, List.setIfInBounds_toArray, List.set_cons_zero, List.set_cons_succ]
      refine take_in (i := 16) (d := 33) (v := .int .i64 d.a.w) rfl rfl (by kernel_rfl) (by kernel_rfl) (by kernel_rfl) (fun _ _ _ h => h) (by kernel_rfl) (fun w' hS => by have hh := HC.out w' hS; obtain ⟨b0, b1, b2, b3, b4, b5, b6, p0, p1, e1⟩ := hh; go_simp) (by assumption) ?_
      try simp only [Act.put, List.setIfInBounds_toArray, List.set_cons_zero, List.set_cons_succ]
      refine take_in (i := 17) (d := 34) (v := .bool ((S.ws.getD n wd0).w == d.a.w)) rfl rfl (by kernel_rfl) (by kernel_rfl) (by kernel_rfl) (fun _ _ _ h => h) (by kernel_rfl) (fun _ _ => rfl) (by assumption) ?_
      try simp only [Act.put, List.setIfInBounds_toArray, List.set_cons_zero, List.set_cons_succ]
      refine take_in (i := 18) (d := 35) (v := .bool ((S.ws.getD n wd0).w == d.a.w)) rfl rfl (by kernel_rfl) (by kernel_rfl) (by kernel_rfl) (fun _ _ _ h => h) (by kernel_rfl) (fun _ _ => rfl) (by assumption) ?_
      try simp only [Act.put, List.setIfInBounds_toArray, List.set_cons_zero, List.set_cons_succ]
      refine take_in (i := 19) (d := 4) (v := .bool ((S.ws.getD n wd0).w == d.a.w)) rfl rfl (by kernel_rfl) (by kernel_rfl) (by kernel_rfl) (fun _ _ _ h => h) (by kernel_rfl) (fun _ _ => rfl) (by assumption) ?_
      try simp only [Act.put, List.setIfInBounds_toArray, List.set_cons_zero, List.set_cons_succ]
      refine wpAnyH_done (by kernel_rfl) ?_ _
      refine NoPanic.normal ?_
      go_wp2_with fail
      go_ret
      exact ⟨by rw [HR.out, HX.out]; rfl, HFX.out.trans s1⟩
end
end Go.Proofs.Ytfkikaoojelddaa
