/- McsPlays: what a round does to where everything lies. -/
import Derived.Test.YtoieedlkffmcgaaMcPy
namespace Go.Proofs.Ytoieedlkffmcgaa
open Go.ChangeShapes Go.WideShapes Go.ChangeAt Go.RowKit
set_option linter.unusedVariables false
section
variable {B : Nat} {w w' : World} {n nq p d c bp bh br bn g oo cg t : Nat} {ws ws' : List Int} {pg : Nat → Option Pr} {hs : Nat → Bool} {qa : Nat → Nat}

/-- A new program of a thread is put down; its flag is not yet. -/
theorem Sb.putp (h : Sb B w n nq p d c bp bh ws pg hs qa) (hps : Ps w n pg qa) (ht : t < n) (hp : pg t = none) {back : Bool} {q' : Nat} (hf : Frm [] w w') (hB : B ≤ w.heap.size) (hR : PgR w' q' back 1 n 0 (2 * t) 1 0 false) (hq : w.heap.size ≤ q') :
    Sb B (w'.setCell ⟨bp, t, none⟩ (.iface (Ip back) (.pointer (some ⟨q', 0, none⟩)))) n nq p d c bp bh ws (up pg t (some (back, 1, 0))) hs (up qa t q') ∧
    Ps (w'.setCell ⟨bp, t, none⟩ (.iface (Ip back) (.pointer (some ⟨q', 0, none⟩)))) n (up pg t (some (back, 1, 0))) (up qa t q') := by
  have h' := h.frm0 hf
  obtain ⟨e1, e2, e3, e4, e5, e6, e7, e8⟩ := h.ne
  have l1 := h.nd.lt
  have l2 := h.mem.plt
  have l3 := h.mem.dlt
  have l4 := lt_of_heap h.progs
  have l5 := lt_of_heap h.hass
  have hF : Frm [bp] w' (w'.setCell ⟨bp, t, none⟩ (.iface (Ip back) (.pointer (some ⟨q', 0, none⟩)))) := (Frm.refl _ _).setCell _ _ (.inl (by simp))
  have old : ∀ i, i < n → pg i ≠ none → qa i < w.heap.size := fun i hi hn => by
    cases hv : pg i with
    | none => exact absurd hv hn
    | some x => obtain ⟨b, s, o⟩ := x; exact (hps i hi b s o hv).lt
  refine ⟨⟨h'.nd.frmD hF (by simp; exact e2), h'.mem.frm hF (by simp; exact e4) (by simp; exact e6), h.pos, h.len, ?_, hF.heap h'.hass (by simp; exact Ne.symm e8), h.low, h.ne, fun i hi hn => ?_, fun i j hi hj hij hn1 hn2 => ?_⟩, fun i hi b s o hv => ?_⟩
  · rw [heap_setCell_at _ h'.progs, vof_set _ ht]
    congr 2
    apply vof_congr; intro i hi
    by_cases e : i = t
    · subst e; simp [up, pvI]
    · simp [up, e]
  · by_cases e : i = t
    · subst e; rw [up_eq]; exact ⟨by omega, by omega, by omega, by omega, by omega, by omega⟩
    · rw [up_ne _ _ e] at hn ⊢; exact h.qne i hi hn
  · by_cases e : i = t
    · have e' : j ≠ t := fun x => hij (e.trans x.symm)
      rw [up_ne _ _ e'] at hn2
      have := old j hj hn2
      rw [e, up_eq, up_ne _ _ e']; omega
    · rw [up_ne _ _ e] at hn1
      have := old i hi hn1
      by_cases e' : j = t
      · rw [e', up_eq, up_ne _ _ e]; omega
      · rw [up_ne _ _ e'] at hn2
        rw [up_ne _ _ e, up_ne _ _ e']; exact h.qq i j hi hj hij hn1 hn2
  · by_cases e : i = t
    · subst e
      rw [up_eq] at hv; simp only [Option.some.injEq, Prod.mk.injEq] at hv
      obtain ⟨rfl, rfl, rfl⟩ := hv
      rw [up_eq]; exact hR.frm hF (by simp; omega)
    · rw [up_ne _ _ e] at hv
      have h1 := old i hi (by rw [hv]; simp)
      have h2 := h.qne i hi (by rw [hv]; simp)
      rw [up_ne _ _ e]
      exact ((hps i hi b s o hv).frm hf (by simp)).frm hF (by simp; exact h2.2.2.1)
/-- A flag turns. -/
theorem Sb.flag (h : Sb B w n nq p d c bp bh ws pg hs qa) (ht : t < n) (hps : Ps w n pg qa) (v : Bool) :
    Sb B (w.setCell ⟨bh, t, none⟩ (.bool v)) n nq p d c bp bh ws pg (up hs t v) qa ∧ Ps (w.setCell ⟨bh, t, none⟩ (.bool v)) n pg qa := by
  obtain ⟨e1, e2, e3, e4, e5, e6, e7, e8⟩ := h.ne
  have hF : Frm [bh] w (w.setCell ⟨bh, t, none⟩ (.bool v)) := (Frm.refl _ _).setCell _ _ (.inl (by simp))
  refine ⟨⟨h.nd.frmD hF (by simp; exact e3), h.mem.frm hF (by simp; exact e5) (by simp; exact e7), h.pos, h.len, hF.heap h.progs (by simp; exact e8), ?_, h.low, h.ne, h.qne, h.qq⟩, hps.frm hF (fun i hi hx => by simp; exact (h.qne i hi hx).2.2.2.1)⟩
  rw [heap_setCell_at _ h.hass, vof_set _ ht]
  congr 2
  apply vof_congr; intro i hi
  by_cases e : i = t
  · subst e; simp [up]
  · simp [up, e]

/-- Where everything lies. -/
structure Gt (B : Nat) (w : World) (n p d c bp bh br bn g oo cg : Nat) (ws : List Int) (pg pr : Nat → Option Pr) (hs : Nat → Bool) (qa : Nat → Nat) : Prop where
  sb : Sb B w n B p d c bp bh ws pg hs qa
  rn : Rn w n br pr
  nn : w.heap[bn]? = some (.cells #[.int .i64 1, .int .i64 n] 32 (0, 0))
  rd : Rd w (.slice (some ⟨g, oo, none⟩) (1 + 6 * n) cg) (u64s ws)
  lo : B < br ∧ B < bn ∧ B < g
  gne : g ≠ d ∧ g ≠ p ∧ g ≠ bp ∧ g ≠ bh ∧ g ≠ br
  gq : ∀ i, i < n → pg i ≠ none → g ≠ qa i
variable {pr : Nat → Option Pr}
theorem Gt.glt (h : Gt B w n p d c bp bh br bn g oo cg ws pg pr hs qa) : g < w.heap.size := h.rd.cells.1
theorem Gt.brne (h : Gt B w n p d c bp bh br bn g oo cg ws pg pr hs qa) : br ≠ d ∧ br ≠ p ∧ br ≠ bp ∧ br ≠ bh ∧ br ≠ B := by
  obtain ⟨cs, h1, _⟩ := h.rn
  obtain ⟨ds, h2, _, _⟩ := h.sb.mem.arr
  have := h.lo.1
  exact ⟨ty_ne h1 h2 (by decide), ty_ne h1 h.sb.mem.obj (by decide), ty_ne h1 h.sb.progs (by decide), ty_ne h1 h.sb.hass (by decide), by omega⟩
theorem Gt.bnne (h : Gt B w n p d c bp bh br bn g oo cg ws pg pr hs qa) : bn ≠ d ∧ bn ≠ bp ∧ bn ≠ bh ∧ bn ≠ br := by
  obtain ⟨cs, h1, _⟩ := h.rn
  obtain ⟨ds, h2, _, _⟩ := h.sb.mem.arr
  exact ⟨ty_ne h.nn h2 (by decide), ty_ne h.nn h.sb.progs (by decide), ty_ne h.nn h.sb.hass (by decide), ty_ne h.nn h1 (by decide)⟩
theorem rd_far {D : List Nat} (h : Rd w (.slice (some ⟨g, oo, none⟩) n cg) (u64s ws)) (hf : Frm D w w') (hg : g ∉ D) : Rd w' (.slice (some ⟨g, oo, none⟩) n cg) (u64s ws) :=
  h.frm hf (by intro y hy; simp [Value.ownBlock] at hy; subst hy; exact hg)
theorem Gt.frm0 (h : Gt B w n p d c bp bh br bn g oo cg ws pg pr hs qa) (hf : Frm [] w w') : Gt B w' n p d c bp bh br bn g oo cg ws pg pr hs qa :=
  ⟨h.sb.frm0 hf, h.rn.frm hf (by simp), hf.heap h.nn (by simp), rd_far h.rd hf (by simp), h.lo, h.gne, h.gq⟩
/-- A new program and its run are put down. -/
theorem Gt.begin (h : Gt B w n p d c bp bh br bn g oo cg ws pg pg hs qa) (hps : Ps w n pg qa) (ht : t < n) (hp : pg t = none) {back : Bool} {q' : Nat} (hf : Frm [] w w') (hB : B ≤ w.heap.size) (hR : PgR w' q' back 1 n 0 (2 * t) 1 0 false) (hq : w.heap.size ≤ q') (v : Bool) :
    Gt B ((put8 (w'.setCell ⟨bp, t, none⟩ (.iface (Ip back) (.pointer (some ⟨q', 0, none⟩)))) br (t * 8) (.int .i64 1) (.int .i64 n) (.int .i64 0) (.int .i64 (2 * t : Nat)) (.bool back) (.int .i64 1) (.int .u64 0) (.bool false)).setCell ⟨bh, t, none⟩ (.bool v)) n p d c bp bh br bn g oo cg ws (up pg t (some (back, 1, 0))) (up pg t (some (back, 1, 0))) (up hs t v) (up qa t q') ∧
    Ps ((put8 (w'.setCell ⟨bp, t, none⟩ (.iface (Ip back) (.pointer (some ⟨q', 0, none⟩)))) br (t * 8) (.int .i64 1) (.int .i64 n) (.int .i64 0) (.int .i64 (2 * t : Nat)) (.bool back) (.int .i64 1) (.int .u64 0) (.bool false)).setCell ⟨bh, t, none⟩ (.bool v)) n (up pg t (some (back, 1, 0))) (up qa t q') := by
  obtain ⟨r1, r2, r3, r4, r5⟩ := h.brne
  obtain ⟨n1, n2, n3, n4⟩ := h.bnne
  obtain ⟨g1, g2, g3, g4, g5⟩ := h.gne
  obtain ⟨a1, b1⟩ := h.sb.putp hps ht hp hf hB hR hq
  have f1 : Frm [bp] w' (w'.setCell ⟨bp, t, none⟩ (.iface (Ip back) (.pointer (some ⟨q', 0, none⟩)))) := (Frm.refl _ _).setCell _ _ (.inl (by simp))
  generalize w'.setCell ⟨bp, t, none⟩ (.iface (Ip back) (.pointer (some ⟨q', 0, none⟩))) = w1 at a1 b1 f1 ⊢
  have f2 : Frm [br] w1 (put8 w1 br (t * 8) (.int .i64 1) (.int .i64 n) (.int .i64 0) (.int .i64 (2 * t : Nat)) (.bool back) (.int .i64 1) (.int .u64 0) (.bool false)) := (Frm.refl [br] w1).put8 br (t * 8) _ _ _ _ _ _ _ _ (.inl (by simp))
  have rn1 := (h.rn.frm hf (by simp)).frm f1 (by simp; exact r3)
  have rn2 := rn1.put (back := back) (s := 1) (o := 0) (e := false) ht
  have qr : ∀ i, i < n → up pg t (some (back, 1, 0)) i ≠ none → up qa t q' i ≠ br := fun i hi hn => by
    cases hv : up pg t (some (back, 1, 0)) i with
    | none => exact absurd hv hn
    | some x =>
      obtain ⟨b, s, o⟩ := x
      obtain ⟨met, hP, _⟩ := b1 i hi b s o hv
      obtain ⟨cs, hc, _⟩ := rn1
      exact ty_ne hP.obj hc (by cases b <;> decide)
  have a2 := a1.frm f2 (by simp; omega) (by simp; exact Ne.symm r2) (by simp; exact Ne.symm r1) (by simp; exact Ne.symm r3) (by simp; exact Ne.symm r4)
  have b2 := b1.frm f2 (fun i hi hn => by simp; exact qr i hi hn)
  have nn2 := f2.heap (f1.heap (hf.heap h.nn (by simp)) (by simp; exact n2)) (by simp; exact n4)
  have rd2 := rd_far (rd_far (rd_far h.rd hf (by simp)) f1 (by simp; exact g3)) f2 (by simp; exact g5)
  generalize put8 w1 br (t * 8) (.int .i64 1) (.int .i64 n) (.int .i64 0) (.int .i64 (2 * t : Nat)) (.bool back) (.int .i64 1) (.int .u64 0) (.bool false) = w2 at a2 b2 f2 rn2 nn2 rd2 ⊢
  obtain ⟨a3, b3⟩ := a2.flag ht b2 v
  have f3 : Frm [bh] w2 (w2.setCell ⟨bh, t, none⟩ (.bool v)) := (Frm.refl _ _).setCell _ _ (.inl (by simp))
  have rn3 : Rn w2 n br (up pg t (some (back, 1, 0))) := rn2
  refine ⟨⟨a3, rn3.frm f3 (by simp; exact r4), f3.heap nn2 (by simp; exact n3), rd_far rd2 f3 (by simp; exact g4), h.lo, h.gne, fun i hi hn => ?_⟩, b3⟩
  have hgl := h.glt
  by_cases e : i = t
  · subst e; rw [up_eq]; omega
  · rw [up_ne _ _ e] at hn ⊢; exact h.gq i hi hn
set_option maxHeartbeats 1000000 in
/-- A step is made by both. -/
theorem Gt.step (h : Gt B w n p d c bp bh br bn g oo cg ws pg pg hs qa) (hps : Ps w n pg qa) (ht : t < n) {back : Bool} {s o s' o' : Int} {e' : Bool} {g' o2 c2 : Nat} (hp : pg t = some (back, s, o)) (hA : Aftr p d c (qa t) back 1 n 0 (2 * t) w ws' s' o' e' w') (hpos : ∀ x ∈ ws', 0 ≤ x) (hl : ws'.length = ws.length)
    (hrd : Rd w' (.slice (some ⟨g', o2, none⟩) (1 + 6 * n) c2) (u64s ws')) (hg : g' = g ∨ w.heap.size ≤ g') :
    Gt B w' n p d c bp bh br bn g' o2 c2 ws' (up pg t (some (back, s', o'))) (up pg t none) hs qa ∧ Ps w' n (up pg t none) qa ∧ PgR w' (qa t) back 1 n 0 (2 * t) s' o' e' := by
  obtain ⟨r1, r2, r3, r4, r5⟩ := h.brne
  obtain ⟨n1, n2, n3, n4⟩ := h.bnne
  obtain ⟨g1, g2, g3, g4, g5⟩ := h.gne
  obtain ⟨a1, b1, _⟩ := h.sb.step hps ht hp hA hpos hl
  obtain ⟨hF, hM, hR⟩ := hA
  have hpt : pg t ≠ none := by rw [hp]; simp
  have q0 : qa t ≠ br ∧ qa t ≠ bn := by
    obtain ⟨met, hP, _⟩ := hps t ht back s o hp
    obtain ⟨cs, hc, _⟩ := h.rn
    exact ⟨ty_ne hP.obj hc (by cases back <;> decide), ty_ne hP.obj h.nn (by cases back <;> decide)⟩
  have k1 := h.sb.mem.plt
  have k2 := h.sb.mem.dlt
  have k3 := lt_of_heap h.sb.progs
  have k4 := lt_of_heap h.sb.hass
  have k5 : br < w.heap.size := by obtain ⟨cs, hc, _⟩ := h.rn; exact lt_of_heap hc
  have k6 := h.sb.nd.lt
  have k7 := h.lo
  refine ⟨⟨a1, (h.rn.sub (v := none)).frm hF (by simp; exact ⟨r1, Ne.symm q0.1⟩), hF.heap h.nn (by simp; exact ⟨n1, Ne.symm q0.2⟩), hrd, ⟨h.lo.1, h.lo.2.1, by omega⟩, ?_, fun i hi hn => ?_⟩, b1, hR⟩
  · rcases hg with hg | hg
    · subst hg; exact h.gne
    · exact ⟨by omega, by omega, by omega, by omega, by omega⟩
  · have hn' : pg i ≠ none := by
      by_cases e : i = t
      · rw [e]; exact hpt
      · rw [up_ne _ _ e] at hn; exact hn
    rcases hg with hg | hg
    · subst hg; exact h.gq i hi hn'
    · have : qa i < w.heap.size := by
        cases hv : pg i with
        | none => exact absurd hv hn'
        | some x => obtain ⟨b, s, o⟩ := x; exact (hps i hi b s o hv).lt
      omega
/-- The run behind a step is put down. -/
theorem Gt.run {v : Option Pr} (h : Gt B w n p d c bp bh br bn g oo cg ws (up pg t v) (up pg t none) hs qa) (hps : Ps w n (up pg t none) qa) (ht : t < n) {back : Bool} {s o : Int} {e : Bool} (hv : v = some (back, s, o)) (hR : PgR w (qa t) back 1 n 0 (2 * t) s o e) :
    Gt B (put8 w br (t * 8) (.int .i64 1) (.int .i64 n) (.int .i64 0) (.int .i64 (2 * t : Nat)) (.bool back) (.int .i64 s) (.int .u64 o) (.bool e)) n p d c bp bh br bn g oo cg ws (up pg t v) (up pg t (if e then none else some (back, s, o))) hs qa ∧
    Ps (put8 w br (t * 8) (.int .i64 1) (.int .i64 n) (.int .i64 0) (.int .i64 (2 * t : Nat)) (.bool back) (.int .i64 s) (.int .u64 o) (.bool e)) n (up pg t none) qa ∧
    PgR (put8 w br (t * 8) (.int .i64 1) (.int .i64 n) (.int .i64 0) (.int .i64 (2 * t : Nat)) (.bool back) (.int .i64 s) (.int .u64 o) (.bool e)) (qa t) back 1 n 0 (2 * t) s o e := by
  obtain ⟨r1, r2, r3, r4, r5⟩ := h.brne
  obtain ⟨n1, n2, n3, n4⟩ := h.bnne
  obtain ⟨g1, g2, g3, g4, g5⟩ := h.gne
  have rn2 := h.rn.put (back := back) (s := s) (o := o) (e := e) ht
  have f2 : Frm [br] w (put8 w br (t * 8) (.int .i64 1) (.int .i64 n) (.int .i64 0) (.int .i64 (2 * t : Nat)) (.bool back) (.int .i64 s) (.int .u64 o) (.bool e)) := (Frm.refl [br] w).put8 br (t * 8) _ _ _ _ _ _ _ _ (.inl (by simp))
  generalize put8 w br (t * 8) (.int .i64 1) (.int .i64 n) (.int .i64 0) (.int .i64 (2 * t : Nat)) (.bool back) (.int .i64 s) (.int .u64 o) (.bool e) = w2 at rn2 f2 ⊢
  have hup : up (up pg t none) t (if e then none else some (back, s, o)) = up pg t (if e then none else some (back, s, o)) := by
    funext j; unfold up; split <;> rfl
  rw [hup] at rn2
  have qr : ∀ i, i < n → up pg t none i ≠ none → qa i ≠ br := fun i hi hn => by
    cases hv : up pg t none i with
    | none => exact absurd hv hn
    | some x =>
      obtain ⟨b, s, o⟩ := x
      obtain ⟨met, hP, _⟩ := hps i hi b s o hv
      obtain ⟨cs, hc, _⟩ := h.rn
      exact ty_ne hP.obj hc (by cases b <;> decide)
  have q0 : qa t ≠ br := by
    obtain ⟨met, hP, _⟩ := hR
    obtain ⟨cs, hc, _⟩ := h.rn
    exact ty_ne hP.obj hc (by cases back <;> decide)
  exact ⟨⟨h.sb.frm f2 (by simp; omega) (by simp; exact Ne.symm r2) (by simp; exact Ne.symm r1) (by simp; exact Ne.symm r3) (by simp; exact Ne.symm r4), rn2, f2.heap h.nn (by simp; exact n4), rd_far h.rd f2 (by simp; exact g5), h.lo, h.gne, h.gq⟩, hps.frm f2 (fun i hi hn => by simp; exact qr i hi hn), hR.frm f2 (by simp; exact q0)⟩
/-- A program that has ended is taken away. -/
theorem Gt.drop {v : Option Pr} (h : Gt B w n p d c bp bh br bn g oo cg ws (up pg t v) (up pg t none) hs qa) (hps : Ps w n (up pg t none) qa) (ht : t < n) :
    Gt B (w.setCell ⟨bp, t, none⟩ .nilIface) n p d c bp bh br bn g oo cg ws (up pg t none) (up pg t none) hs qa ∧ Ps (w.setCell ⟨bp, t, none⟩ .nilIface) n (up pg t none) qa := by
  obtain ⟨r1, r2, r3, r4, r5⟩ := h.brne
  obtain ⟨n1, n2, n3, n4⟩ := h.bnne
  obtain ⟨g1, g2, g3, g4, g5⟩ := h.gne
  obtain ⟨a1, b1⟩ := h.sb.drop ht hps
  have f1 : Frm [bp] w (w.setCell ⟨bp, t, none⟩ .nilIface) := (Frm.refl _ _).setCell _ _ (.inl (by simp))
  exact ⟨⟨a1, h.rn.frm f1 (by simp; exact r3), f1.heap h.nn (by simp; exact n2), rd_far h.rd f1 (by simp; exact g3), h.lo, h.gne, fun i hi hn => h.gq i hi (up_sub hn)⟩, b1⟩
#print axioms Gt.begin
end
end Go.Proofs.Ytoieedlkffmcgaa
