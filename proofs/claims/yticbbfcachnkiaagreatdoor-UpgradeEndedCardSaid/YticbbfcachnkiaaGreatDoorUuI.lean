/- Package latch: Step (by gen_lui.py). -/
import Derived.Test.YticbbfcachnkiaaGreatDoorUuH
namespace Go.Proofs.YticbbfcachnkiaaGreatDoor
open Go.ChangeShapes Go.WideShapes Go.ChangeAt Go.RowKit
set_option linter.unusedVariables false
set_option linter.unusedSimpArgs false
namespace Mv
theorem handOn_t (m : Mv) : m.handOn.tri = m.tri := by unfold handOn; split; rfl; split <;> rfl
theorem serve_t (m : Mv) (u v : Int) : (m.serve u v).tri = m.tri := by unfold serve; exact handOn_t _
theorem readMode_t (m : Mv) (u : Int) : (m.readMode u).tri = m.tri := by unfold readMode; split; rfl; split; rfl; exact serve_t _ _ _
theorem get_t (m : Mv) : m.get.tri = m.tri := by unfold get; split; rfl; split <;> rfl
theorem giveBack_t (m : Mv) : m.giveBack.tri = m.tri := by unfold giveBack; split; rfl; exact handOn_t _
theorem goOver_t (m : Mv) : m.goOver.tri = m.tri := by
  unfold goOver; split
  · rfl
  · split
    · exact handOn_t _
    · split <;> rfl
theorem decide_t (m : Mv) : m.decide.tri = m.tri := by unfold decide; split; exact get_t m; split; exact giveBack_t m; exact goOver_t m
theorem park_t (m : Mv) : m.park.tri = m.tri := by unfold park; split; rfl; split <;> rfl
theorem stored_t (m : Mv) : m.stored.tri = m.tri := by
  unfold stored
  split; rfl; split; rfl; split; exact park_t m; split; rfl; split; rfl; split <;> rfl
end Mv
section
variable {w : World} {p d cc B q T qe ql : Nat} {a : Option Addr} {n c : Nat} {m : Mv} {ws : List Int} {g : Gs}
namespace AllAt
theorem ne (h : AllAt w p d cc B q T qe ql a n c ws m g) : (q ≠ p ∧ q ≠ d) ∧ (qe ≠ q ∧ qe ≠ p ∧ qe ≠ d) ∧ (ql ≠ q ∧ ql ≠ p ∧ ql ≠ d) ∧ qe ≠ ql ∧ (∀ x ∈ blk (.slice a n c), x ≠ p ∧ x ≠ d) ∧ q ∉ blk (.slice a n c) ∧ qe ∉ blk (.slice a n c) ∧ ql ∉ blk (.slice a n c) := by
  refine ⟨mv_ne h.mv h.mem, pg_ne h.en h.mv h.mem, pg_ne h.le h.mv h.mem, ?_, wk_ne h.wk h.mem, h.wk.ne h.mv, pg_wk h.en h.wk, pg_wk h.le h.wk⟩
  rintro rfl
  obtain ⟨m1, h1, _⟩ := h.en
  obtain ⟨m2, h2, _⟩ := h.le
  have := h1.obj.symm.trans h2.obj
  simp [Tp] at this
theorem frm {D : List Nat} {w' : World} (h : AllAt w p d cc B q T qe ql a n c ws m g) (hf : Frm D w w') (hp : p ∉ D) (hd : d ∉ D) (hq : q ∉ D) (he : qe ∉ D) (hl : ql ∉ D) (hb : ∀ x ∈ blk (.slice a n c), x ∉ D) : AllAt w' p d cc B q T qe ql a n c ws m g :=
  ⟨h.mem.frm hf hp hd, h.mv.frm hf hq, h.wk.frm hf hb, h.en.frm hf he, h.le.frm hf hl⟩
theorem frm0 {w' : World} (h : AllAt w p d cc B q T qe ql a n c ws m g) (hf : Frm [] w w') : AllAt w' p d cc B q T qe ql a n c ws m g :=
  h.frm hf (by simp) (by simp) (by simp) (by simp) (by simp) (by simp)
theorem lt (h : AllAt w p d cc B q T qe ql a n c ws m g) : ∀ z ∈ p :: d :: q :: qe :: ql :: blk (.slice a n c), z < w.heap.size := by
  intro z hz
  simp only [List.mem_cons] at hz
  rcases hz with rfl | rfl | rfl | rfl | rfl | hz
  · exact h.mem.plt
  · exact h.mem.dlt
  · exact h.mv.lt
  · exact h.en.lt
  · exact h.le.lt
  · obtain ⟨_, cs, hc⟩ := h.wk.own z hz; exact lt_of_heap hc
end AllAt
/-- What is true of the world behind a step. -/
def RS (X : World) (p d cc B q T qe ql : Nat) (a : Option Addr) (n c : Nat) (ws : List Int) (m : Mv) (g : Gs) (w' : World) : Prop :=
  Frm (d :: q :: qe :: ql :: blk (.slice a n c)) X w' ∧ ∃ a' n' c', AllAt w' p d cc B q T qe ql a' n' c' ws m g ∧ ∀ x ∈ blk (.slice a' n' c'), x ∈ blk (.slice a n c) ∨ X.heap.size ≤ x
theorem fromS {X w' : World} {v : Value} {ws' : List Int} {m' : Mv} {e : Ending} (hA : AllAt X p d cc B q T qe ql a n c ws m g) (ht : m'.tri = m.tri) (h : AftS X p d cc q T qe ql B a n c v ws' m' e w') :
    e = .returned v ∧ RS X p d cc B q T qe ql a n c ws' m' g w' := by
  obtain ⟨a', n', c', he, hF, hM, hV, hW, hP⟩ := h
  obtain ⟨⟨n1, n2⟩, ⟨e1, e2, e3⟩, ⟨l1, l2, l3⟩, el, hb, b1, b2, b3⟩ := hA.ne
  refine ⟨he, hF.weak ?_, a', n', c', ⟨hM, hV, hW, ?_, ?_⟩, hP⟩
  · intro x hx
    simp only [List.mem_cons] at hx ⊢
    rcases hx with h | h | h
    · exact .inl h
    · exact .inr (.inl h)
    · exact .inr (.inr (.inr (.inr h)))
  · rw [tri_t ht, tri_b ht, tri_w ht]; exact hA.en.frm hF (by simp only [List.mem_cons]; rintro (h | h | h); exact e3 h; exact e1 h; exact b2 h)
  · rw [tri_t ht, tri_b ht, tri_w ht]; exact hA.le.frm hF (by simp only [List.mem_cons]; rintro (h | h | h); exact l3 h; exact l1 h; exact b3 h)
theorem fromE {X w' : World} {v : Value} {ws' : List Int} {m' : Mv} {e : Ending} {s o : Int} {ee : Bool} (hA : AllAt X p d cc B q T qe ql a n c ws m g) (ht : m'.tri = m.tri) (hw : m'.wk = m.wk) (hn : (m'.nx ≤ 3 ∧ m'.nx ≠ 0 ∨ m'.nx = 8 ∨ m'.nx = 9) → (m.nx ≤ 3 ∧ m.nx ≠ 0 ∨ m.nx = 8 ∨ m.nx = 9))
    (h : Ret v (AftG X p d cc q T qe ql a n c qe false ws' m' (2 * m.t) s o ee) e w') : e = .returned v ∧ RS X p d cc B q T qe ql a n c ws' m' { g with se := s, oe := o, ee := ee } w' := by
  obtain ⟨he, hF, hM, hV, hR⟩ := h
  obtain ⟨⟨n1, n2⟩, ⟨e1, e2, e3⟩, ⟨l1, l2, l3⟩, el, hb, b1, b2, b3⟩ := hA.ne
  refine ⟨he, hF.weak ?_, a, n, c, ⟨hM, hV, (hA.wk.frm hF ?_).nx hw hn, ?_, ?_⟩, fun x hx => .inl hx⟩
  · intro x hx
    simp only [List.mem_cons, List.not_mem_nil, or_false] at hx ⊢
    rcases hx with h | h | h
    · exact .inl h
    · exact .inr (.inl h)
    · exact .inr (.inr (.inl h))
  · intro x hx
    simp only [List.mem_cons, List.not_mem_nil, or_false]
    rintro (h | h | h)
    · exact (hb x hx).2 h
    · exact b1 (h ▸ hx)
    · exact b2 (h ▸ hx)
  · rw [tri_t ht]; exact hR
  · rw [tri_t ht, tri_b ht, tri_w ht]; exact hA.le.frm hF (by simp only [List.mem_cons, List.not_mem_nil, or_false]; rintro (h | h | h); exact l3 h; exact l1 h; exact el h.symm)
theorem fromL {X w' : World} {v : Value} {ws' : List Int} {m' : Mv} {e : Ending} {s o : Int} {ee : Bool} (hA : AllAt X p d cc B q T qe ql a n c ws m g) (ht : m'.tri = m.tri) (hw : m'.wk = m.wk) (hn : (m'.nx ≤ 3 ∧ m'.nx ≠ 0 ∨ m'.nx = 8 ∨ m'.nx = 9) → (m.nx ≤ 3 ∧ m.nx ≠ 0 ∨ m.nx = 8 ∨ m.nx = 9))
    (h : Ret v (AftG X p d cc q T qe ql a n c ql true ws' m' (2 * m.t) s o ee) e w') : e = .returned v ∧ RS X p d cc B q T qe ql a n c ws' m' { g with sl := s, ol := o, el := ee } w' := by
  obtain ⟨he, hF, hM, hV, hR⟩ := h
  obtain ⟨⟨n1, n2⟩, ⟨e1, e2, e3⟩, ⟨l1, l2, l3⟩, el, hb, b1, b2, b3⟩ := hA.ne
  refine ⟨he, hF.weak ?_, a, n, c, ⟨hM, hV, (hA.wk.frm hF ?_).nx hw hn, ?_, ?_⟩, fun x hx => .inl hx⟩
  · intro x hx
    simp only [List.mem_cons, List.not_mem_nil, or_false] at hx ⊢
    rcases hx with h | h | h
    · exact .inl h
    · exact .inr (.inl h)
    · exact .inr (.inr (.inr (.inl h)))
  · intro x hx
    simp only [List.mem_cons, List.not_mem_nil, or_false]
    rintro (h | h | h)
    · exact (hb x hx).2 h
    · exact b1 (h ▸ hx)
    · exact b3 (h ▸ hx)
  · rw [tri_t ht, tri_b ht, tri_w ht]; exact hA.en.frm hF (by simp only [List.mem_cons, List.not_mem_nil, or_false]; rintro (h | h | h); exact e3 h; exact e1 h; exact el h)
  · rw [tri_t ht]; exact hR
theorem frm_len {X : World} (h : Frm [] w X) : w.heap.size ≤ X.heap.size := h.size
set_option maxRecDepth 1000000 in
set_option maxHeartbeats 4000000 in
theorem step_mv {X : World} {m' : Mv} {g' : Gs} {ws' : List Int} {wait : Bool} {no : Int} (hA : AllAt X p d cc B q T qe ql a n c ws m g) (hok : MOk T m) (hL : Laid X) (hd2 : 2 ≤ d) (hq2 : 2 ≤ q) (hB : B ≤ X.heap.size) (hlw : m.wk.length ≤ 999) (hS : MStp T ws m g m' g' ws' wait no) :
    Calls Tryz.prog 155 #[.pointer (some ⟨q, 0, none⟩), .iface 24 (.pointer (some ⟨p, 0, none⟩))] X (fun e w' => e = .returned (.tuple #[.bool wait, .int .i64 no]) ∧ RS X p d cc B q T qe ql a n c ws' m' g' w') := by
  have hen := hA.en
  have hle := hA.le
  cases hS
  case en1 hnx s' o' he hok' hS =>
    rw [he] at hen
    refine step_1 hA.mv hnx ?_
    by_cases hno : no = 0
    · subst hno
      exact (guard_on hA.mem hA.mv hen 2 hS (fun _ => hok')).mono fun e w' h => by
        have := fromE hA rfl rfl id h
        rw [← he] at this
        exact this
    · exact (guard_err hA.mem hA.mv hen 2 no hno hS (fun _ => hok')).mono fun e w' h => by
        have := fromE hA rfl rfl id h
        rw [← he] at this
        exact this
  case en2 hnx s' o' he hS =>
    rw [he] at hen
    refine step_1 hA.mv hnx ?_
    exact (guard_end hA.mem hA.mv hen 2 hS (fun h => by cases h)).mono fun e w' h => fromE (m' := { m with nx := 2 }) hA rfl rfl (fun _ => .inl ⟨by rw [hnx]; decide, by rw [hnx]; decide⟩) h
  case le1 hnx s' o' he hok' hS =>
    rw [he] at hle
    cases hw : m.wt with
    | true =>
      refine step_13w hA.mv hnx hw ?_
      by_cases hno : no = 0
      · subst hno
        exact (guard_on hA.mem hA.mv hle 14 hS (fun _ => hok')).mono fun e w' h => by
          have := fromL hA rfl rfl id h
          rw [← he] at this
          exact this
      · exact (guard_err hA.mem hA.mv hle 14 no hno hS (fun _ => hok')).mono fun e w' h => by
          have := fromL hA rfl rfl id h
          rw [← he] at this
          exact this
    | false =>
      refine step_13 hA.mv hnx hw ?_
      by_cases hno : no = 0
      · subst hno
        exact (guard_on hA.mem hA.mv hle 0 hS (fun _ => hok')).mono fun e w' h => by
          have := fromL hA rfl rfl id h
          rw [← he] at this
          exact this
      · exact (guard_err hA.mem hA.mv hle 0 no hno hS (fun _ => hok')).mono fun e w' h => by
          have := fromL hA rfl rfl id h
          rw [← he] at this
          exact this
  case le2 hnx s' o' he hS =>
    rw [he] at hle
    by_cases hw : m.wt = true
    · skip
      refine step_13w hA.mv hnx hw ?_
      rw [show (if m.wt = true then (14 : Int) else 0) = 14 from if_pos hw]
      exact (guard_end hA.mem hA.mv hle 14 hS (fun h => by cases h)).mono fun e w' h => fromL (m' := { m with nx := 14 }) hA rfl rfl (fun hx => hx.elim (fun h => absurd (show (14 : Int) ≤ 3 from h.1) (by decide)) (fun h => h.elim (fun h => absurd (show (14 : Int) = 8 from h) (by decide)) (fun h => absurd (show (14 : Int) = 9 from h) (by decide)))) h
    · have hw : m.wt = false := by simpa using hw
      refine step_13 hA.mv hnx hw ?_
      rw [show (if m.wt = true then (14 : Int) else 0) = 0 from if_neg (by simp [hw])]
      exact (guard_end hA.mem hA.mv hle 0 hS (fun h => by cases h)).mono fun e w' h => fromL (m' := { m with nx := 0 }) hA rfl rfl (fun hx => hx.elim (fun h => absurd rfl h.2) (fun h => h.elim (fun h => absurd (show (0 : Int) = 8 from h) (by decide)) (fun h => absurd (show (0 : Int) = 9 from h) (by decide)))) h
  case aw hnx u hu hx =>
    exact step_14 hA.mv hnx ((await_mw hA.mem hA.mv hA.wk hnx u hu hx).mono fun e w' h => fromS hA rfl h)
  case ag hnx hx =>
    exact step_14 hA.mv hnx ((await_mg hA.mem hA.mv hA.wk hnx 0 rfl hx).mono fun e w' h => fromS hA rfl h)
  case bi hnx u hx =>
    exact step_2 hA.mv hnx ((readBits_ok hA.mem hA.mv hA.wk hnx u hx).mono fun e w' h => fromS hA rfl h)
  case so hnx v hv hx hr =>
    exact step_3 hA.mv hnx ((readState_ok hA.mem hA.mv hA.wk v hv hok.s0 hx hL hd2 hr hnx hB hlw hok.md hok.k hq2).mono fun e w' h => fromS hA (Mv.decide_t _) h)
  case sb hnx v hv hx hr =>
    exact step_3 hA.mv hnx ((readState_bad hA.mem hA.mv hA.wk v hv hok.s0 hx hL hd2 hr).mono fun e w' h => fromS hA rfl h)
  case mo hnx k hk u hu hx =>
    exact step_8 hA.mv hnx ((readMode_ok hA.mem hA.mv hA.wk hok.gd k hk u hu hx hnx hL hd2 hB hlw).mono fun e w' h => fromS hA (Mv.readMode_t _ _) h)
  case mb hnx k hk u h0 h64 hu hx =>
    exact step_8 hA.mv hnx ((readMode_bad hA.mem hA.mv hA.wk hok.gd k hk u h0 h64 hu hx).mono fun e w' h => fromS hA rfl h)
  case no hnx k hk u hu hx =>
    exact step_9 hA.mv hnx ((readNext_ok hA.mem hA.mv hA.wk hok.gd k hk u hu hx hnx (hok.fr hnx) hB hlw).mono fun e w' h => fromS hA (Mv.serve_t _ _ _) h)
  case nb hnx k hk u h0 hu hx =>
    exact step_9 hA.mv hnx ((readNext_bad hA.mem hA.mv hA.wk hok.gd k hk u h0 hu hx).mono fun e w' h => fromS hA rfl h)
  case st x v hs hx =>
    have hn : m.nx = 4 ∨ m.nx = 5 ∨ m.nx = 6 ∨ m.nx = 7 ∨ m.nx = 10 ∨ m.nx = 11 ∨ m.nx = 12 := by cases hs <;> simp_all
    exact step_st hA.mv hn ((store_ok hA.mem hA.mv hok.gd hs (by by_cases h : m.k = 1; exact .inr h; left; have := hok.md h; omega) hok.n4 hok.wk hA.wk hx).mono fun e w' h => fromS hA (Mv.stored_t _) h)
theorem mstp_nx {m' : Mv} {g' : Gs} {ws' : List Int} {wait : Bool} {no : Int} (hS : MStp T ws m g m' g' ws' wait no) : m.nx ≠ 0 := by
  cases hS <;> first | (rename_i h _ _; rw [h]; decide) | omega | (rename_i hs _; cases hs <;> omega)
set_option maxRecDepth 1000000 in
set_option maxHeartbeats 4000000 in
theorem Step_mv {m' : Mv} {g' : Gs} {ws' : List Int} {wait : Bool} {no : Int} (hA : AllAt w p d cc B q T qe ql a n c ws m g) (hok : MOk T m) (hL : Laid w) (hd2 : 2 ≤ d) (hq2 : 2 ≤ q) (hB : B ≤ w.heap.size) (hlw : m.wk.length ≤ 999) (hS : MStp T ws m g m' g' ws' wait no) :
    Calls Tryz.prog 150 #[.pointer (some ⟨q, 0, none⟩), .iface 24 (.pointer (some ⟨p, 0, none⟩))] w (AftF w p d cc B q T qe ql a n c (.tuple #[.bool wait, .int .i64 no]) ws' m' g') := by
  have hlt := hA.lt
  refine Step_frame (x := wait) (y := no) (D := d :: q :: qe :: ql :: blk (.slice a n c)) (R := fun w3 => ∃ a' n' c', AllAt w3 p d cc B q T qe ql a' n' c' ws' m' g' ∧ ∀ x ∈ blk (.slice a' n' c'), x ∈ blk (.slice a n c) ∨ w.heap.size + 2 ≤ x)
    (R' := fun w' => ∃ a' n' c', Frm (d :: q :: qe :: ql :: blk (.slice a n c)) w w' ∧ AllAt w' p d cc B q T qe ql a' n' c' ws' m' g' ∧ ∀ x ∈ blk (.slice a' n' c'), x ∈ blk (.slice a n c) ∨ w.heap.size ≤ x) hA.mv (mstp_nx hS) (fun z hz => hlt z (.tail _ hz)) (fun X hF hX => ?_) (fun w3 hF3 hR3 hl3 => ?_)
  · refine (step_mv (hA.frm0 hF) hok (hL.frm0 hF) hd2 hq2 (Nat.le_trans hB hF.size) hlw hS).mono fun e w' h => ?_
    obtain ⟨he, hF', a', n', c', hA', hP⟩ := h
    exact ⟨he, hF', a', n', c', hA', fun x hx => (hP x hx).imp id (fun h => Nat.le_trans hX h)⟩
  · obtain ⟨a', n', c', hA3, hP⟩ := hR3
    have hF4 : Frm [w.heap.size, w.heap.size + 1] w3 ((w3.setCell ⟨w.heap.size, 0, none⟩ (.bool wait)).setCell ⟨w.heap.size + 1, 0, none⟩ (.int .i64 no)) := ((Frm.refl _ _).setCell _ _ (.inl (by simp))).setCell _ _ (.inl (by simp))
    have nin : ∀ z, z < w.heap.size → z ∉ [w.heap.size, w.heap.size + 1] := fun z hz h => by simp at h; omega
    refine ⟨a', n', c', hF3.trans_new hF4 (fun x hx => .inr (by simp at hx; omega)), hA3.frm hF4 (nin _ (hlt p (by simp))) (nin _ (hlt d (by simp))) (nin _ (hlt q (by simp))) (nin _ (hlt qe (by simp))) (nin _ (hlt ql (by simp))) (fun x hx => ?_), fun x hx => (hP x hx).imp id (fun h => by omega)⟩
    rcases hP x hx with h | h
    · exact nin _ (hlt x (by simp [h]))
    · intro h'; simp at h'; omega
end
end Go.Proofs.YticbbfcachnkiaaGreatDoor
