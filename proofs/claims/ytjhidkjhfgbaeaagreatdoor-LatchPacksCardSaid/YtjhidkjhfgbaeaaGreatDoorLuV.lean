/- Package latch: Unpack (by gen_luv.py). -/
import Derived.Test.YtjhidkjhfgbaeaaGreatDoorLuZ
import Derived.Deep.RegionHeld3
namespace Go.Proofs.YtjhidkjhfgbaeaaGreatDoor
open Go.ChangeShapes Go.WideShapes Go.ChangeAt Go.RowKit
set_option linter.unusedVariables false
set_option linter.unusedSimpArgs false
theorem frozen6 {w : World} {b : Nat} {cs : Array Value} {t : TypeId} (h : w.heap[b]? = some (.cells cs t (0, 0))) : w.frozen? ⟨b, 0, none⟩ = false ∧ w.frozen? ⟨b, 1, none⟩ = false ∧ w.frozen? ⟨b, 2, none⟩ = false ∧ w.frozen? ⟨b, 3, none⟩ = false ∧ w.frozen? ⟨b, 4, none⟩ = false ∧ w.frozen? ⟨b, 5, none⟩ = false ∧ w.frozen? ⟨b, 6, none⟩ = false :=
  ⟨frozen_of_heap h, frozen_of_heap h, frozen_of_heap h, frozen_of_heap h, frozen_of_heap h, frozen_of_heap h, frozen_of_heap h⟩
noncomputable def upT (k : Nat) : Code := dropS k (Tryz.f46.body.getD .skip)
/-- What Unpack returns, if both words say something. -/
def UpR (w : World) (s : LS) (e : Ending) (w' : World) : Prop :=
  ∃ a n c, Ret (.tuple #[.agg #[.slice a n c, .int .i64 s.up, .int .i64 s.ex, .int .i64 s.wa, .int .i64 s.gr, .slice none 0 0], .int .i64 s.fi, .int .i64 s.la, .int .i64 0]) (fun w' => Frm [] w w' ∧ Row .i64 3 w.heap.size w' a n c (bitsL s.sh)) e w'
section
variable {w : World}
set_option maxRecDepth 1000000 in
set_option maxHeartbeats 4000000 in
theorem upRest {W : World} {s : LS} {b2 b6 : Nat} (v0 v1 v7 v8 v9 v10 v11 v12 v13 v14 v15 v16 v17 v18 v19 v20 v21 : Value) (hF : Frm [] w W) (hs : W.heap[b6]? = some (.cells #[.int .u64 (s.sh : Int), .int .i64 s.up, .int .i64 s.ex, .int .i64 s.wa, .int .i64 s.gr, .int .i64 s.fi, .int .i64 s.la] 89 (0, 0)))
    (hb : W.heap[b2]? = some (.cells #[.slice none 0 0, .int .i64 0, .int .i64 0, .int .i64 0, .int .i64 0, .slice none 0 0] 25 (0, 0))) (hb2 : w.heap.size ≤ b2) (hL : Laid W) (hsh : s.sh < 18446744073709551616) :
    Code.wp Tryz.prog (upT 2) (bodyPost Tryz.prog Tryz.f46 (UpR w s)) ⟨List.toArray (v0 :: v1 :: .pointer (some ⟨b2, 0, none⟩) :: .int .i64 0 :: .int .i64 0 :: .int .i64 0 :: .pointer (some ⟨b6, 0, none⟩) :: v7 :: v8 :: v9 :: v10 :: v11 :: v12 :: v13 :: v14 :: v15 :: v16 :: v17 :: v18 :: v19 :: v20 :: v21 :: []), []⟩ W := by
  have hne : b6 ≠ b2 := by rintro rfl; rw [hs] at hb; simp at hb
  have c5 : ∀ w', Frm [b2] W w' → w'.cell? ⟨b6, 5, none⟩ = some (.int .i64 s.fi) := fun w' g => (cells7 (g.heap hs (by simpa using hne))).2.2.2.2.2.1
  have c6 : ∀ w', Frm [b2] W w' → w'.cell? ⟨b6, 6, none⟩ = some (.int .i64 s.la) := fun w' g => (cells7 (g.heap hs (by simpa using hne))).2.2.2.2.2.2
  have HLT : Hid (∀ w', Frm [] W w' → Calls Tryz.prog 79 #[.pointer (some ⟨b6, 0, none⟩)] w'
      (fun e w2 => ∃ a n c, Ret (.agg #[.slice a n c, .int .i64 s.up, .int .i64 s.ex, .int .i64 s.wa, .int .i64 s.gr, .slice none 0 0]) (fun w2 => Frm [] w' w2 ∧ Row .i64 3 w'.heap.size w2 a n c (bitsL s.sh)) e w2)) := Lib.hid fun w' hf =>
    latch_any (o := 0) (cells7 (hf.heap hs (by simp))) (hL.frm0 hf) hsh
  have hbl := lt_of_heap hs
  have hbl2 := lt_of_heap hb
  have HF := Lib.hid hF
  have HB := Lib.hid hb
  have HS := Lib.hid hs
  have HC5 := Lib.hid c5
  have HC6 := Lib.hid c6
  clear hF hs hb hL c5 c6
  conv => arg 2; whnf
  go_wp2_with fail
  refine wp_region_noPanic ?_
  refine wp_region_held_drew (S := fun w' => Frm [b2] W w') (by kernel_rfl) ((Frm.refl _ _).drew) (fun hHeld => ?_)
  refine take_in (i := 1) (d := 18) (v := .pointer (some ⟨b6, 5, none⟩)) rfl rfl (by kernel_rfl) (by kernel_rfl) (by kernel_rfl) (fun _ _ _ h => h) (by kernel_rfl) (fun _ _ => rfl) (by assumption) ?_
  try simp only [Act.put, List.setIfInBounds_toArray, List.set_cons_zero, List.set_cons_succ]
  refine take_in (i := 2) (d := 19) (v := .int .i64 s.fi) rfl rfl (by kernel_rfl) (by kernel_rfl) (by kernel_rfl) (fun _ _ _ h => h) (by kernel_rfl) (fun w' hS => by have hS' : Frm [b2] W w' := hS; have hh := HC5.out w' hS'; go_simp) (by assumption) ?_
  try simp only [Act.put, List.setIfInBounds_toArray, List.set_cons_zero, List.set_cons_succ]
  refine take_in (i := 3) (d := 20) (v := .pointer (some ⟨b6, 6, none⟩)) rfl rfl (by kernel_rfl) (by kernel_rfl) (by kernel_rfl) (fun _ _ _ h => h) (by kernel_rfl) (fun _ _ => rfl) (by assumption) ?_
  try simp only [Act.put, List.setIfInBounds_toArray, List.set_cons_zero, List.set_cons_succ]
  refine take_in (i := 4) (d := 21) (v := .int .i64 s.la) rfl rfl (by kernel_rfl) (by kernel_rfl) (by kernel_rfl) (fun _ _ _ h => h) (by kernel_rfl) (fun w' hS => by have hS' : Frm [b2] W w' := hS; have hh := HC6.out w' hS'; go_simp) (by assumption) ?_
  try simp only [Act.put, List.setIfInBounds_toArray, List.set_cons_zero, List.set_cons_succ]
  refine wpAnyH_ready (rs := [0]) (by kernel_rfl) (by simp) ?_
  refine AllReadyH.cons rfl (fun K hK => ?_) AllReadyH.nil
  go_simp
  go_at_call 79
  refine (HLT.out _ (by (repeat' (first | exact Frm.refl _ _ | apply Frm.drew | apply Frm.drewN)))).mono ?_
  rintro e w2 ⟨a, n, c, rfl, g1, hR⟩
  have s1 : Frm [b2] W w2 := Frm.trans (by (repeat' (first | exact Frm.refl _ _ | apply Frm.drew | apply Frm.drewN))) g1.nil
  have s0 : Frm [] W w2 := Frm.trans (by (repeat' (first | exact Frm.refl _ _ | apply Frm.drew | apply Frm.drewN))) g1
  have hbb := s0.heap HB.out (by simp)
  have HBB := Lib.hid hbb
  have hzz := s0.size
  have hl2 := lt_of_heap hbb
  obtain ⟨f0, f1, f2, f3, f4, f5, f6⟩ := frozen6 hbb
  obtain ⟨r0, r1, r2, r3, r4, r5⟩ := cells6L hbb
  have HG1 := Lib.hid s0
  have HR := Lib.hid hR
  clear hbb s0 hR g1
  refine hK.out _ _ (by exact s1) (fun hHeld => ?_)
  clear hK K
  try change wpAnyH _ _ _ _ _ _ _ (Act.put _ (some 17) _) _
  try simp only [Act.put, List.setIfInBounds_toArray, List.set_cons_zero, List.set_cons_succ]
  refine wpAnyH_ready (rs := [5]) (by kernel_rfl) (by simp) ?_
  refine AllReadyH.cons rfl (fun K hK => ?_) AllReadyH.nil
  go_simp
  refine hK.out _ _ (Frm.set6 s1 _ _ _ _ _ _ _ (.inl (List.mem_singleton.2 rfl))) (fun hHeld => ?_)
  clear hK K
  try simp only [Act.put, List.setIfInBounds_toArray, List.set_cons_zero, List.set_cons_succ]
  refine take_in (i := 6) (d := 3) (v := .int .i64 s.fi) rfl rfl (by kernel_rfl) (by kernel_rfl) (by kernel_rfl) (fun _ _ _ h => h) (by kernel_rfl) (fun _ _ => rfl) (by assumption) ?_
  try simp only [Act.put, List.setIfInBounds_toArray, List.set_cons_zero, List.set_cons_succ]
  refine take_in (i := 7) (d := 4) (v := .int .i64 s.la) rfl rfl (by kernel_rfl) (by kernel_rfl) (by kernel_rfl) (fun _ _ _ h => h) (by kernel_rfl) (fun _ _ => rfl) (by assumption) ?_
  try simp only [Act.put, List.setIfInBounds_toArray, List.set_cons_zero, List.set_cons_succ]
  refine take_in (i := 8) (d := 5) (v := .int .i64 0) rfl rfl (by kernel_rfl) (by kernel_rfl) (by kernel_rfl) (fun _ _ _ h => h) (by kernel_rfl) (fun _ _ => rfl) (by assumption) ?_
  try simp only [Act.put, List.setIfInBounds_toArray, List.set_cons_zero, List.set_cons_succ]
  refine wpAnyH_done (by kernel_rfl) ?_ _
  refine NoPanic.normal ?_
  have hW0 := setCells6 HBB.out (.slice a n c) (.int .i64 s.up) (.int .i64 s.ex) (.int .i64 s.wa) (.int .i64 s.gr) (.slice none 0 0)
  have hWF := (Frm.refl [b2] w2).set6 b2 (.slice a n c) (.int .i64 s.up) (.int .i64 s.ex) (.int .i64 s.wa) (.int .i64 s.gr) (.slice none 0 0) (.inl (by simp))
  generalize ((((((w2.setCell ⟨b2, 0, none⟩ (.slice a n c)).setCell ⟨b2, 1, none⟩ (.int .i64 s.up)).setCell ⟨b2, 2, none⟩ (.int .i64 s.ex)).setCell ⟨b2, 3, none⟩ (.int .i64 s.wa)).setCell ⟨b2, 4, none⟩ (.int .i64 s.gr)).setCell ⟨b2, 5, none⟩ (.slice none 0 0)) = Y at hW0 hWF ⊢
  obtain ⟨y0, y1, y2, y3, y4, y5⟩ := cells6L hW0
  have HWF := Lib.hid hWF
  clear hW0 hWF s1 r0 r1 r2 r3 r4 r5 f0 f1 f2 f3 f4 f5 f6
  go_wp2
  have hFF := (HF.out.trans HG1.out).trans_new HWF.out (fun x hx => .inr (by simp at hx; omega))
  have hRY := HR.out.frm HWF.out (fun x hx => by have := (HR.out.blk x hx).1; simp at this ⊢; omega)
  exact bodyPost_ret (v := .tuple #[.agg #[.slice a n c, .int .i64 s.up, .int .i64 s.ex, .int .i64 s.wa, .int .i64 s.gr, .slice none 0 0], .int .i64 s.fi, .int .i64 s.la, .int .i64 0]) (by simp [results, Tryz.results46, go_sem, y0, y1, y2, y3, y4, y5]) rfl ⟨a, n, c, rfl, hFF, ⟨own_low hRY.1 (by have := HF.out.size; simp; omega), hRY.2⟩⟩
set_option maxRecDepth 1000000 in
set_option maxHeartbeats 4000000 in
theorem upCall {w0 w1 : Nat} {s : LS} {e0 : Int} {R : Ending → World → Prop}
    (hrd : ∀ w' q, Frm [] w w' → Nd w' q 0 64 → Calls Tryz.prog 78 #[.pointer (some ⟨q, 0, none⟩), .agg #[.int .u64 w0, .int .u64 w1]] w' (Ret (.tuple #[.agg #[.int .u64 (s.sh : Int), .int .i64 s.up, .int .i64 s.ex, .int .i64 s.wa, .int .i64 s.gr, .int .i64 s.fi, .int .i64 s.la], .int .i64 e0]) (fun x => Frm [] w' x)))
    (hrest : ∀ (W : World) (b1 b2 b6 : Nat) (v0 v7 v8 v9 v10 v11 v12 v13 v14 v15 v16 v17 v18 v19 v20 v21 : Value), Frm [] w W → W.heap[b6]? = some (.cells #[.int .u64 (s.sh : Int), .int .i64 s.up, .int .i64 s.ex, .int .i64 s.wa, .int .i64 s.gr, .int .i64 s.fi, .int .i64 s.la] 89 (0, 0)) → W.heap[b2]? = some (.cells #[.slice none 0 0, .int .i64 0, .int .i64 0, .int .i64 0, .int .i64 0, .slice none 0 0] 25 (0, 0)) → w.heap.size ≤ b2 →
      Code.wp Tryz.prog (upT 2) (bodyPost Tryz.prog Tryz.f46 R) ⟨List.toArray (v0 :: .pointer (some ⟨b1, 0, none⟩) :: .pointer (some ⟨b2, 0, none⟩) :: .int .i64 0 :: .int .i64 0 :: .int .i64 e0 :: .pointer (some ⟨b6, 0, none⟩) :: v7 :: v8 :: v9 :: v10 :: v11 :: v12 :: v13 :: v14 :: v15 :: v16 :: v17 :: v18 :: v19 :: v20 :: v21 :: []), []⟩ W) :
    Calls Tryz.prog 46 #[.agg #[.int .u64 w0, .int .u64 w1]] w R := by
  obtain ⟨X, hX⟩ : ∃ X, X = (w.alloc (.cells #[.int .u64 w0, .int .u64 w1] 27)).alloc (.cells #[.slice none 0 0, .int .i64 0, .int .i64 0, .int .i64 0, .int .i64 0, .slice none 0 0] 25) := ⟨_, rfl⟩
  have hFX : Frm [] w X := by rw [hX]; exact ((Frm.refl _ _).alloc _).alloc _
  have g0 : X.heap[w.heap.size]? = some (.cells #[.int .u64 w0, .int .u64 w1] 27 (0, 0)) := by rw [hX]; exact heap_alloc_old _ (heap_alloc_new _ _)
  have g1 : X.heap[w.heap.size + 1]? = some (.cells #[.slice none 0 0, .int .i64 0, .int .i64 0, .int .i64 0, .int .i64 0, .slice none 0 0] 25 (0, 0)) := by rw [hX]; exact heap_alloc_at _ (by simp)
  have HRD := Lib.hid hrd
  have HRS := Lib.hid hrest
  have HFX := Lib.hid hFX
  have HC : Hid (∀ w', Frm [] X w' → w'.cell? ⟨w.heap.size, 0, none⟩ = some (.int .u64 w0) ∧ w'.cell? ⟨w.heap.size, 1, none⟩ = some (.int .u64 w1)) := Lib.hid fun w' g => cells2L (g.heap g0 (by simp))
  have HB2 := Lib.hid g1
  clear hrd hrest hFX g0 g1
  go_enter Tryz.func46, Tryz.ntmps46
  go_wp2_with fail
  rw [← hX]
  clear hX
  rename_i K0 hK0
  have HK0 := Lib.hid hK0
  clear hK0
  refine wp_region_noPanic ?_
  refine wp_region_held_drew (S := fun w' => Frm [] X w') (by kernel_rfl) ((Frm.refl _ _).drew) (fun hHeld => ?_)
  refine take_in (i := 1) (d := 9) (v := .agg #[.int .u64 w0, .int .u64 w1]) rfl rfl (by kernel_rfl) (by kernel_rfl) (by kernel_rfl) (fun _ _ _ h => h) (by kernel_rfl) (fun w' hS => by have hS' : Frm [] X w' := hS; obtain ⟨c0, c1⟩ := HC.out w' hS'; go_simp) (by assumption) ?_
  try simp only [Act.put, List.setIfInBounds_toArray, List.set_cons_zero, List.set_cons_succ]
  refine wpAnyH_ready (rs := [0, 6]) (by kernel_rfl) (by simp) ?_
  refine AllReadyH.cons rfl (fun K hK => ?_) (AllReadyH.cons rfl (fun K hK => ?_) AllReadyH.nil)
  · go_simp
    go_at_call 75
    refine (allNodes_any _).mono ?_
    rintro e wn ⟨rfl, gn, hNn⟩
    have sn : Frm [] X wn := Frm.trans (by (repeat' (first | exact Frm.refl _ _ | apply Frm.drew | apply Frm.drewN | apply Frm.alloc))) gn
    have HNn := Lib.hid hNn
    clear gn hNn
    refine hK.out _ _ (by exact sn) (fun hHeld => ?_)
    clear hK K
    try change wpAnyH _ _ _ _ _ _ _ (Act.put _ (some 8) _) _
    try simp only [Act.put, List.setIfInBounds_toArray, List.set_cons_zero, List.set_cons_succ]
    refine wpAnyH_ready (rs := [2, 6]) (by kernel_rfl) (by simp) ?_
    refine AllReadyH.cons rfl (fun K hK => ?_) (AllReadyH.cons rfl (fun K hK => ?_) AllReadyH.nil)
    · go_simp
      go_at_call 78
      refine (HRD.out _ _ (HFX.out.trans sn) HNn.out).mono ?_
      rintro e w2 ⟨rfl, g2⟩
      have s2 : Frm [] X w2 := Frm.trans sn g2
      refine hK.out _ _ (by exact s2) (fun hHeld => ?_)
      clear hK K
      try change wpAnyH _ _ _ _ _ _ _ (Act.put _ (some 10) _) _
      try simp only [Act.put, List.setIfInBounds_toArray, List.set_cons_zero, List.set_cons_succ]
      refine take_in (i := 3) (d := 7) (v := .tuple #[.agg #[.int .u64 (s.sh : Int), .int .i64 s.up, .int .i64 s.ex, .int .i64 s.wa, .int .i64 s.gr, .int .i64 s.fi, .int .i64 s.la], .int .i64 e0]) rfl rfl (by kernel_rfl) (by kernel_rfl) (by kernel_rfl) (fun _ _ _ h => h) (by kernel_rfl) (fun _ _ => rfl) (by assumption) ?_
      try simp only [Act.put, List.setIfInBounds_toArray, List.set_cons_zero, List.set_cons_succ]
      refine take_in (i := 4) (d := 11) (v := .agg #[.int .u64 (s.sh : Int), .int .i64 s.up, .int .i64 s.ex, .int .i64 s.wa, .int .i64 s.gr, .int .i64 s.fi, .int .i64 s.la]) rfl rfl (by kernel_rfl) (by kernel_rfl) (by kernel_rfl) (fun _ _ _ h => h) (by kernel_rfl) (fun _ _ => rfl) (by assumption) ?_
      try simp only [Act.put, List.setIfInBounds_toArray, List.set_cons_zero, List.set_cons_succ]
      refine take_in (i := 5) (d := 12) (v := .int .i64 e0) rfl rfl (by kernel_rfl) (by kernel_rfl) (by kernel_rfl) (fun _ _ _ h => h) (by kernel_rfl) (fun _ _ => rfl) (by assumption) ?_
      try simp only [Act.put, List.setIfInBounds_toArray, List.set_cons_zero, List.set_cons_succ]
      refine wpAnyH_ready (rs := [6]) (by kernel_rfl) (by simp) ?_
      refine AllReadyH.cons rfl (fun K hK => ?_) AllReadyH.nil
      go_simp
      have hz : ((w2).alloc (.cells #[.int .u64 0, .int .i64 0, .int .i64 0, .int .i64 0, .int .i64 0, .int .i64 0, .int .i64 0] 89)).heap[w2.heap.size]? = some (.cells #[.int .u64 0, .int .i64 0, .int .i64 0, .int .i64 0, .int .i64 0, .int .i64 0, .int .i64 0] 89 (0, 0)) := heap_alloc_new (w2) (.cells #[.int .u64 0, .int .i64 0, .int .i64 0, .int .i64 0, .int .i64 0, .int .i64 0, .int .i64 0] 89)
      have sa : Frm [] X ((w2).alloc (.cells #[.int .u64 0, .int .i64 0, .int .i64 0, .int .i64 0, .int .i64 0, .int .i64 0, .int .i64 0] 89)) := s2.alloc _
      refine hK.out _ _ (by exact sa) (fun hHeld => ?_)
      clear hK K
      try change wpAnyH _ _ _ _ _ _ _ (Act.put _ (some 6) _) _
      try simp only [Act.put, List.setIfInBounds_toArray, List.set_cons_zero, List.set_cons_succ]
      refine wpAnyH_ready (rs := [7]) (by kernel_rfl) (by simp) ?_
      refine AllReadyH.cons rfl (fun K hK => ?_) AllReadyH.nil
      obtain ⟨r0, r1, r2, r3, r4, r5, r6⟩ := cells7 hz
      obtain ⟨f0, f1, f2, f3, f4, f5, f6⟩ := frozen6 hz
      have hzl := lt_of_heap hz
      go_simp
      refine hK.out _ _ (s2.alloc _) (fun hHeld => ?_)
      clear hK K
      try simp only [Act.put, List.setIfInBounds_toArray, List.set_cons_zero, List.set_cons_succ]
      refine take_in (i := 8) (d := 5) (v := .int .i64 e0) rfl rfl (by kernel_rfl) (by kernel_rfl) (by kernel_rfl) (fun _ _ _ h => h) (by kernel_rfl) (fun _ _ => rfl) (by assumption) ?_
      try simp only [Act.put, List.setIfInBounds_toArray, List.set_cons_zero, List.set_cons_succ]
      refine wpAnyH_done (by kernel_rfl) ?_ _
      refine NoPanic.normal ?_
      have hFF := HFX.out.trans (s2.alloc (.cells #[.int .u64 (s.sh : Int), .int .i64 s.up, .int .i64 s.ex, .int .i64 s.wa, .int .i64 s.gr, .int .i64 s.fi, .int .i64 s.la] 89))
      have hb2 := (s2.alloc (.cells #[.int .u64 (s.sh : Int), .int .i64 s.up, .int .i64 s.ex, .int .i64 s.wa, .int .i64 s.gr, .int .i64 s.fi, .int .i64 s.la] 89)).heap HB2.out (by simp)
      refine HK0.out _ _ ?_
      exact HRS.out _ _ _ _ _ _ _ _ _ _ _ _ _ _ _ _ _ _ _ _ hFF (heap_alloc_new _ _) hb2 (by omega)
    · go_simp
      have hz : ((wn).alloc (.cells #[.int .u64 0, .int .i64 0, .int .i64 0, .int .i64 0, .int .i64 0, .int .i64 0, .int .i64 0] 89)).heap[wn.heap.size]? = some (.cells #[.int .u64 0, .int .i64 0, .int .i64 0, .int .i64 0, .int .i64 0, .int .i64 0, .int .i64 0] 89 (0, 0)) := heap_alloc_new (wn) (.cells #[.int .u64 0, .int .i64 0, .int .i64 0, .int .i64 0, .int .i64 0, .int .i64 0, .int .i64 0] 89)
      have sa : Frm [] X ((wn).alloc (.cells #[.int .u64 0, .int .i64 0, .int .i64 0, .int .i64 0, .int .i64 0, .int .i64 0, .int .i64 0] 89)) := sn.alloc _
      refine hK.out _ _ (by exact sa) (fun hHeld => ?_)
      clear hK K
      try change wpAnyH _ _ _ _ _ _ _ (Act.put _ (some 6) _) _
      try simp only [Act.put, List.setIfInBounds_toArray, List.set_cons_zero, List.set_cons_succ]
      refine wpAnyH_ready (rs := [2]) (by kernel_rfl) (by simp) ?_
      refine AllReadyH.cons rfl (fun K hK => ?_) AllReadyH.nil
      go_simp
      go_at_call 78
      refine (HRD.out _ _ (HFX.out.trans sa) (HNn.out.frm ((Frm.refl [] _).alloc _))).mono ?_
      rintro e w2 ⟨rfl, g2⟩
      have s2 : Frm [] X w2 := Frm.trans sa g2
      replace hz := g2.heap hz (by simp)
      refine hK.out _ _ (by exact s2) (fun hHeld => ?_)
      clear hK K
      try change wpAnyH _ _ _ _ _ _ _ (Act.put _ (some 10) _) _
      try simp only [Act.put, List.setIfInBounds_toArray, List.set_cons_zero, List.set_cons_succ]
      refine take_in (i := 3) (d := 7) (v := .tuple #[.agg #[.int .u64 (s.sh : Int), .int .i64 s.up, .int .i64 s.ex, .int .i64 s.wa, .int .i64 s.gr, .int .i64 s.fi, .int .i64 s.la], .int .i64 e0]) rfl rfl (by kernel_rfl) (by kernel_rfl) (by kernel_rfl) (fun _ _ _ h => h) (by kernel_rfl) (fun _ _ => rfl) (by assumption) ?_
      try simp only [Act.put, List.setIfInBounds_toArray, List.set_cons_zero, List.set_cons_succ]
      refine take_in (i := 4) (d := 11) (v := .agg #[.int .u64 (s.sh : Int), .int .i64 s.up, .int .i64 s.ex, .int .i64 s.wa, .int .i64 s.gr, .int .i64 s.fi, .int .i64 s.la]) rfl rfl (by kernel_rfl) (by kernel_rfl) (by kernel_rfl) (fun _ _ _ h => h) (by kernel_rfl) (fun _ _ => rfl) (by assumption) ?_
      try simp only [Act.put, List.setIfInBounds_toArray, List.set_cons_zero, List.set_cons_succ]
      refine take_in (i := 5) (d := 12) (v := .int .i64 e0) rfl rfl (by kernel_rfl) (by kernel_rfl) (by kernel_rfl) (fun _ _ _ h => h) (by kernel_rfl) (fun _ _ => rfl) (by assumption) ?_
      try simp only [Act.put, List.setIfInBounds_toArray, List.set_cons_zero, List.set_cons_succ]
      refine wpAnyH_ready (rs := [7]) (by kernel_rfl) (by simp) ?_
      refine AllReadyH.cons rfl (fun K hK => ?_) AllReadyH.nil
      obtain ⟨r0, r1, r2, r3, r4, r5, r6⟩ := cells7 hz
      obtain ⟨f0, f1, f2, f3, f4, f5, f6⟩ := frozen6 hz
      have hzl := lt_of_heap hz
      go_simp
      have s3 := Frm.set7 s2 (wn.heap.size) (.int .u64 (s.sh : Int)) (.int .i64 s.up) (.int .i64 s.ex) (.int .i64 s.wa) (.int .i64 s.gr) (.int .i64 s.fi) (.int .i64 s.la) (.inr sn.size)
      refine hK.out _ _ s3 (fun hHeld => ?_)
      clear hK K
      try simp only [Act.put, List.setIfInBounds_toArray, List.set_cons_zero, List.set_cons_succ]
      refine take_in (i := 8) (d := 5) (v := .int .i64 e0) rfl rfl (by kernel_rfl) (by kernel_rfl) (by kernel_rfl) (fun _ _ _ h => h) (by kernel_rfl) (fun _ _ => rfl) (by assumption) ?_
      try simp only [Act.put, List.setIfInBounds_toArray, List.set_cons_zero, List.set_cons_succ]
      refine wpAnyH_done (by kernel_rfl) ?_ _
      refine NoPanic.normal ?_
      have hFF := HFX.out.trans s3
      have hb2 := s3.heap HB2.out (by simp)
      have hfin := setCells7 hz (.int .u64 (s.sh : Int)) (.int .i64 s.up) (.int .i64 s.ex) (.int .i64 s.wa) (.int .i64 s.gr) (.int .i64 s.fi) (.int .i64 s.la)
      refine HK0.out _ _ ?_
      exact HRS.out _ _ _ _ _ _ _ _ _ _ _ _ _ _ _ _ _ _ _ _ hFF hfin hb2 (by omega)
  · go_simp
    have hz : ((X.drew).alloc (.cells #[.int .u64 0, .int .i64 0, .int .i64 0, .int .i64 0, .int .i64 0, .int .i64 0, .int .i64 0] 89)).heap[X.heap.size]? = some (.cells #[.int .u64 0, .int .i64 0, .int .i64 0, .int .i64 0, .int .i64 0, .int .i64 0, .int .i64 0] 89 (0, 0)) := heap_alloc_new (X.drew) (.cells #[.int .u64 0, .int .i64 0, .int .i64 0, .int .i64 0, .int .i64 0, .int .i64 0, .int .i64 0] 89)
    have sa : Frm [] X ((X.drew).alloc (.cells #[.int .u64 0, .int .i64 0, .int .i64 0, .int .i64 0, .int .i64 0, .int .i64 0, .int .i64 0] 89)) := ((Frm.refl [] X).drew).alloc _
    refine hK.out _ _ (by exact sa) (fun hHeld => ?_)
    clear hK K
    try change wpAnyH _ _ _ _ _ _ _ (Act.put _ (some 6) _) _
    try simp only [Act.put, List.setIfInBounds_toArray, List.set_cons_zero, List.set_cons_succ]
    refine wpAnyH_ready (rs := [0]) (by kernel_rfl) (by simp) ?_
    refine AllReadyH.cons rfl (fun K hK => ?_) AllReadyH.nil
    go_simp
    go_at_call 75
    refine (allNodes_any _).mono ?_
    rintro e wn ⟨rfl, gn, hNn⟩
    have sn : Frm [] X wn := Frm.trans (by (repeat' (first | exact Frm.refl _ _ | apply Frm.drew | apply Frm.drewN | apply Frm.alloc))) gn
    replace hz := gn.heap hz (by simp)
    have HNn := Lib.hid (show Nd wn (X.heap.size + 1) 0 64 by simpa using hNn)
    clear gn hNn
    refine hK.out _ _ (by exact sn) (fun hHeld => ?_)
    clear hK K
    try change wpAnyH _ _ _ _ _ _ _ (Act.put _ (some 8) _) _
    try simp only [Act.put, List.setIfInBounds_toArray, List.set_cons_zero, List.set_cons_succ]
    refine wpAnyH_ready (rs := [2]) (by kernel_rfl) (by simp) ?_
    refine AllReadyH.cons rfl (fun K hK => ?_) AllReadyH.nil
    go_simp
    go_at_call 78
    refine (HRD.out _ _ (HFX.out.trans sn) HNn.out).mono ?_
    rintro e w2 ⟨rfl, g2⟩
    have s2 : Frm [] X w2 := Frm.trans sn g2
    replace hz := g2.heap hz (by simp)
    refine hK.out _ _ (by exact s2) (fun hHeld => ?_)
    clear hK K
    try change wpAnyH _ _ _ _ _ _ _ (Act.put _ (some 10) _) _
    try simp only [Act.put, List.setIfInBounds_toArray, List.set_cons_zero, List.set_cons_succ]
    refine take_in (i := 3) (d := 7) (v := .tuple #[.agg #[.int .u64 (s.sh : Int), .int .i64 s.up, .int .i64 s.ex, .int .i64 s.wa, .int .i64 s.gr, .int .i64 s.fi, .int .i64 s.la], .int .i64 e0]) rfl rfl (by kernel_rfl) (by kernel_rfl) (by kernel_rfl) (fun _ _ _ h => h) (by kernel_rfl) (fun _ _ => rfl) (by assumption) ?_
    try simp only [Act.put, List.setIfInBounds_toArray, List.set_cons_zero, List.set_cons_succ]
    refine take_in (i := 4) (d := 11) (v := .agg #[.int .u64 (s.sh : Int), .int .i64 s.up, .int .i64 s.ex, .int .i64 s.wa, .int .i64 s.gr, .int .i64 s.fi, .int .i64 s.la]) rfl rfl (by kernel_rfl) (by kernel_rfl) (by kernel_rfl) (fun _ _ _ h => h) (by kernel_rfl) (fun _ _ => rfl) (by assumption) ?_
    try simp only [Act.put, List.setIfInBounds_toArray, List.set_cons_zero, List.set_cons_succ]
    refine take_in (i := 5) (d := 12) (v := .int .i64 e0) rfl rfl (by kernel_rfl) (by kernel_rfl) (by kernel_rfl) (fun _ _ _ h => h) (by kernel_rfl) (fun _ _ => rfl) (by assumption) ?_
    try simp only [Act.put, List.setIfInBounds_toArray, List.set_cons_zero, List.set_cons_succ]
    refine wpAnyH_ready (rs := [7]) (by kernel_rfl) (by simp) ?_
    refine AllReadyH.cons rfl (fun K hK => ?_) AllReadyH.nil
    obtain ⟨r0, r1, r2, r3, r4, r5, r6⟩ := cells7 hz
    obtain ⟨f0, f1, f2, f3, f4, f5, f6⟩ := frozen6 hz
    have hzl := lt_of_heap hz
    go_simp
    have s3 := Frm.set7 s2 (X.heap.size) (.int .u64 (s.sh : Int)) (.int .i64 s.up) (.int .i64 s.ex) (.int .i64 s.wa) (.int .i64 s.gr) (.int .i64 s.fi) (.int .i64 s.la) (.inr (Nat.le_refl _))
    refine hK.out _ _ s3 (fun hHeld => ?_)
    clear hK K
    try simp only [Act.put, List.setIfInBounds_toArray, List.set_cons_zero, List.set_cons_succ]
    refine take_in (i := 8) (d := 5) (v := .int .i64 e0) rfl rfl (by kernel_rfl) (by kernel_rfl) (by kernel_rfl) (fun _ _ _ h => h) (by kernel_rfl) (fun _ _ => rfl) (by assumption) ?_
    try simp only [Act.put, List.setIfInBounds_toArray, List.set_cons_zero, List.set_cons_succ]
    refine wpAnyH_done (by kernel_rfl) ?_ _
    refine NoPanic.normal ?_
    have hFF := HFX.out.trans s3
    have hb2 := s3.heap HB2.out (by simp)
    have hfin := setCells7 hz (.int .u64 (s.sh : Int)) (.int .i64 s.up) (.int .i64 s.ex) (.int .i64 s.wa) (.int .i64 s.gr) (.int .i64 s.fi) (.int .i64 s.la)
    refine HK0.out _ _ ?_
    exact HRS.out _ _ _ _ _ _ _ _ _ _ _ _ _ _ _ _ _ _ _ _ hFF hfin hb2 (by omega)
set_option maxRecDepth 1000000 in
set_option maxHeartbeats 4000000 in
theorem unpack_bad {w0 w1 : Nat} (hL : Laid w) (h0 : w0 < 18446744073709551616) (h1 : w1 < 18446744073709551616) (hr : rdB 64 w0 w1 = false) :
    Calls Tryz.prog 46 #[.agg #[.int .u64 w0, .int .u64 w1]] w (Ret (.tuple #[.agg #[.slice none 0 0, .int .i64 0, .int .i64 0, .int .i64 0, .int .i64 0, .slice none 0 0], .int .i64 0, .int .i64 0, .int .i64 12]) (fun w' => Frm [] w w')) := by
  refine upCall (s := ⟨0, 0, 0, 0, 0, 0, 0⟩) (e0 := 12) (fun w' q hf hq => ?_) (fun W b1 b2 b6 v0 v7 v8 v9 v10 v11 v12 v13 v14 v15 v16 v17 v18 v19 v20 v21 hF hs hb hb2 => ?_)
  · have := read_any hq (hL.frm0 hf) h0 h1
    rwa [rdV_no hr] at this
  · have hbl2 := lt_of_heap hb
    obtain ⟨r0, r1, r2, r3, r4, r5⟩ := cells6L hb
    obtain ⟨f0, f1, f2, f3, f4, f5, f6⟩ := frozen6 hb
    have HF := Lib.hid hF
    have HB := Lib.hid hb
    clear hF hs hb hL
    conv => arg 2; whnf
    go_wp2_with fail
    have hW0 := setCells6 HB.out (.slice none 0 0) (.int .i64 0) (.int .i64 0) (.int .i64 0) (.int .i64 0) (.slice none 0 0)
    have hWF := (Frm.refl [b2] W).set6 b2 (.slice none 0 0) (.int .i64 0) (.int .i64 0) (.int .i64 0) (.int .i64 0) (.slice none 0 0) (.inl (by simp))
    generalize ((((((W.setCell ⟨b2, 0, none⟩ (.slice none 0 0)).setCell ⟨b2, 1, none⟩ (.int .i64 0)).setCell ⟨b2, 2, none⟩ (.int .i64 0)).setCell ⟨b2, 3, none⟩ (.int .i64 0)).setCell ⟨b2, 4, none⟩ (.int .i64 0)).setCell ⟨b2, 5, none⟩ (.slice none 0 0)) = Y at hW0 hWF ⊢
    obtain ⟨y0, y1, y2, y3, y4, y5⟩ := cells6L hW0
    exact bodyPost_ret (v := .tuple #[.agg #[.slice none 0 0, .int .i64 0, .int .i64 0, .int .i64 0, .int .i64 0, .slice none 0 0], .int .i64 0, .int .i64 0, .int .i64 12]) (by simp [results, Tryz.results46, go_sem, y0, y1, y2, y3, y4, y5]) rfl ⟨rfl, HF.out.trans_new hWF (fun x hx => .inr (by simp at hx; omega))⟩
theorem unpack_ok {w0 w1 : Nat} (hL : Laid w) (h0 : w0 < 18446744073709551616) (h1 : w1 < 18446744073709551616) (hr : rdB 64 w0 w1 = true) :
    Calls Tryz.prog 46 #[.agg #[.int .u64 w0, .int .u64 w1]] w (UpR w (rdLS w0 w1)) := by
  refine upCall (s := rdLS w0 w1) (e0 := 0) (fun w' q hf hq => ?_) (fun W b1 b2 b6 v0 v7 v8 v9 v10 v11 v12 v13 v14 v15 v16 v17 v18 v19 v20 v21 hF hs hb hb2 => ?_)
  · have := read_any hq (hL.frm0 hf) h0 h1
    rwa [rdV_yes hr] at this
  · exact upRest _ _ _ _ _ _ _ _ _ _ _ _ _ _ _ _ _ hF hs hb hb2 (hL.frm0 hF) h0
end
end Go.Proofs.YtjhidkjhfgbaeaaGreatDoor
