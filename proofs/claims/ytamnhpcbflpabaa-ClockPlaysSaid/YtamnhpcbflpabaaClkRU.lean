/- The reference's clock: Set, whole; Clear. -/
import Derived.Test.YtamnhpcbflpabaaClkRT
namespace Go.Proofs.Ytamnhpcbflpabaa
open Go.ChangeShapes Go.WideShapes Go.ChangeAt Go.RowKit

set_option maxRecDepth 100000 in
set_option maxHeartbeats 4000000 in
theorem rset_nil {w : World} {now : Int} (id at' : Int) (h0 : ¬ id < 0) (ht : tk at' = true) :
    Calls Try.prog 34 #[.agg #[.int .i64 now, .slice none 0 0], .int .i64 id, .int .i64 at'] w (RPost w (.slice none 0 0) now [(id, at')] 0) := by
  have e1 : decide (id < 0) = false := by simpa using h0
  have HT := Lib.hid ht
  have hh : hasB [] id = false := rfl
  have HH := Lib.hid hh
  clear ht hh
  go_enter Try.func34, Try.ntmps34
  go_wp2_with fail
  refine (rtick_any _ _).mono ?_
  rintro e w' ⟨rfl, rfl⟩
  rw [HT.out]
  go_wp2_with fail
  refine (has_any (l := []) (.inl ⟨rfl, rfl⟩) (by simp) id).mono ?_
  rintro e w1 ⟨rfl, hF1⟩
  rw [HH.out]
  have hT3 : w1.heap[w.heap.size]? = some (.cells #[.int .i64 now, .slice none 0 0] 35 (0, 0)) := hF1.heap (heap_alloc_old _ (heap_alloc_new w _)) (by simp)
  have hT6 : w1.heap[w.heap.size + 1]? = some (.cells #[.int .i64 0, .slice none 0 0] 35 (0, 0)) := hF1.heap (heap_alloc_at _ (by simp)) (by simp)
  have hF : Frm [] w w1 := (((Frm.refl _ w).alloc _).alloc _).trans hF1
  have hs1 : w.heap.size + 1 < w1.heap.size := lt_of_heap hT6
  obtain ⟨k1, k2, k3, k4⟩ := rclock_cells hT3
  have HT3 := Lib.hid hT3
  have HT6 := Lib.hid hT6
  clear hT3 hT6 hF1
  go_wp2_with fail
  go_loop [8] (fun i => i = .int .i64 0) (fun _ => 0)
  case atStart => exact rfl
  case round =>
    subst hrel
    go_wp2_with fail
    have kc := fun w' (hq : Frm [w.heap.size + 1] w1 w') => cells2 (hq.heap HT3.out (by simp))
    have hT6 := HT6.out
    go_region_held3 (fun w' => Frm [w.heap.size + 1] w1 w')
      ((repeat' (first | assumption | exact Frm.refl _ _ | apply Frm.drew | apply Frm.alloc | (refine Frm.setCell ?_ _ _ (.inl (by simp))))))
      (first
        | (refine step_app rfl (.const (.slice none 0 0)) (.tmp 68) rfl (B := w1.heap.size) (a := none) (n := 0) (c := 0) (l := []) (l2 := []) (sv := .slice none 0 0) (by simp [Act.eval]) (by simp [Act.eval]) (Row.nil _ _) (.inl ⟨rfl, rfl⟩) (by simp) (by have hq : Frm [w.heap.size + 1] w1 _ := (by assumption); exact hq.size) ?_; intro xa xc w2 hR1 hG1; have hS1 : Frm [w.heap.size + 1] w1 w2 := Frm.trans (by assumption) (hG1.weak (by simp [blk])); have hT6 := hG1.heap (by first | exact hT6 | exact heap_alloc_old _ hT6) (by simp [blk]); try (have hH := hG1.heap (heap_alloc_new _ _) (by simp [blk])))
        | (refine step_app rfl (.tmp 69) (.tmp 73) rfl (B := w1.heap.size) (a := xa) (n := 0 + ([] : List Al).length) (c := xc) (l := [] ++ []) (l2 := [(id, at')]) (by simp [Act.eval]) (by simp [Act.eval]; rfl) (by first | exact hR1 | exact hR1.frm ((Frm.refl [] _).alloc _) (by simp)) (als_one (by first | exact heap_alloc_new _ _ | exact hH)) (by simp) (by have hq : Frm [w.heap.size + 1] w1 _ := (by assumption); exact hq.size) ?_; intro ya yc w3 hR2 hG2; have hb1' := hR1.blk; have hS2 : Frm [w.heap.size + 1] w1 w3 := Frm.trans_new (by assumption) hG2 (fun x hx => .inr (hb1' x hx).1); have hT6 := hG2.heap (by first | exact hT6 | exact heap_alloc_old _ hT6) (fun hx => by have := (hb1' _ hx).1; omega))
        | (refine step_app rfl (.tmp 74) (.tmp 78) rfl (B := w1.heap.size) (a := ya) (n := 0 + ([] : List Al).length + [(id, at')].length) (c := yc) (l := [] ++ [] ++ [(id, at')]) (l2 := []) (sv := .slice none 0 0) (by simp [Act.eval]) (by simp [Act.eval]) hR2 (.inl ⟨rfl, rfl⟩) (by simp) (by have hq : Frm [w.heap.size + 1] w1 _ := (by assumption); exact hq.size) ?_; intro za zc w4 hR3 hG3; have hb2' := hR2.blk; have hS3 : Frm [w.heap.size + 1] w1 w4 := Frm.trans_new (by assumption) hG3 (fun x hx => .inr (hb2' x hx).1); have hT6 := hG3.heap hT6 (fun hx => by have := (hb2' _ hx).1; omega); obtain ⟨t0, t1, tf0, tf1⟩ := rclock_cells hT6; have hsz4 := lt_of_heap hT6))
    all_goals
      go_wp2
      obtain ⟨r0, r1, q1, q2, q3⟩ := rset_end (t6 := w.heap.size + 1) (now := now) (nz := 1) hF (by omega) hs1 hS3 hT6 hR3 (by simp)
      generalize ((w4.setCell ⟨w.heap.size + 1, 0, none⟩ (.int .i64 now)).setCell ⟨w.heap.size + 1, 1, none⟩ (.slice za 1 zc)) = W at r0 r1 q1 q2 ⊢
      refine bodyPost_ret (v := .tuple #[.agg #[.int .i64 now, .slice za 1 zc], .int .i64 0]) (by simp [results, Try.results34, go_sem, r0, r1]) rfl ⟨za, _, zc, rfl, q1, by simpa using q2, fun x hx => .inr (q3 x hx)⟩

theorem id_als {w : World} {v : Value} {l : List Al} (hA : Als w v l) : (v = .slice none 0 0 ∧ l = []) ∨ ∃ d o c, v = .slice (some ⟨d, o, none⟩) l.length c := by
  rcases hA with h | ⟨d, o, c, h, _⟩
  · exact .inl h
  · exact .inr ⟨d, o, c, h⟩
theorem rset_any {w : World} {now : Int} {a : Option Addr} {n c : Nat} {l : List Al} (hA : Als w (.slice a n c) l) (hs : Sorted l) (hl : l.length ≤ 4096) (id at' : Int) :
    Calls Try.prog 34 #[.agg #[.int .i64 now, .slice a n c], .int .i64 id, .int .i64 at'] w (RPost w (.slice a n c) now (sL l id at') (sErr l id at')) := by
  by_cases h1 : id < 0 ∨ tk at' = false
  · have e1 : sErr l id at' = 2 := by unfold sErr; rw [if_pos h1]
    have e2 : sL l id at' = l := by unfold sL; rw [e1]; rfl
    rw [e1, e2]
    exact rset_arg hA id at' h1
  · have h0 : ¬ id < 0 := fun hh => h1 (.inl hh)
    have ht : tk at' = true := by cases hx : tk at'; exact absurd (.inr hx) h1; rfl
    by_cases h2 : 0 ≤ idx l id
    · have e1 : sErr l id at' = 11 := by unfold sErr; rw [if_neg h1, if_pos h2]
      have e2 : sL l id at' = l := by unfold sL; rw [e1]; rfl
      rw [e1, e2]
      exact (rset_err hA (by omega) id at' h0 ht).1 (by unfold hasB; simpa using h2)
    · have hh : hasB l id = false := by unfold hasB; simpa using h2
      by_cases h3 : l.length = 4096
      · have e1 : sErr l id at' = 7 := by unfold sErr; rw [if_neg h1, if_neg h2, if_pos h3]
        have e2 : sL l id at' = l := by unfold sL; rw [e1]; rfl
        rw [e1, e2]
        exact (rset_err hA (by omega) id at' h0 ht).2 hh h3
      · have e1 : sErr l id at' = 0 := by unfold sErr; rw [if_neg h1, if_neg h2, if_neg h3]
        have e2 : sL l id at' = insN l (pos l (id, at')) (id, at') := by unfold sL; rw [e1]; rfl
        rw [e1, e2]
        rcases id_als hA with ⟨hv, rfl⟩ | ⟨d, o, c', hv⟩
        · cases hv
          exact rset_nil id at' h0 ht
        · cases hv
          exact rset_some hA hs (by omega) id at' h0 ht hh
end Go.Proofs.Ytamnhpcbflpabaa
