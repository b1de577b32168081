/- Stage 12: Copy of a machine. -/
import Derived.Test.YtieccmmnfnpcoaaTib
import Derived.Deep.RegionHeld3
namespace Go.Proofs.Ytieccmmnfnpcoaa
open Go.ChangeShapes Go.WideShapes Go.ChangeAt Go.RowKit
set_option linter.unusedVariables false
section
variable {w : World} {X : Mb} {F : List Nat} {ts : List Ti}
/-- A machine that is being copied: the first k threads have copies of their programs. -/
structure Cpy (w0 w : World) (Y X : Mb) (ts : List Ti) (k : Nat) : Prop where
  frm : Frm [] w0 w
  b : MbAt w Y
  ws : Y.ws = X.ws
  nq : w0.heap.size ≤ Y.q
  np : w0.heap.size ≤ Y.p
  nd : w0.heap.size ≤ Y.d
  nt : ∀ x ∈ bkG Y.ta, w0.heap.size ≤ x
  len : Y.tv.length = ts.length
  rest : ∀ (i : Nat) (x : Ti), ts[i]? = some x → k ≤ i → Y.tv[i]? = some x.tv
  got : ∃ (qf : Nat → Nat) (Bf : Nat → List Nat), (∀ (i : Nat) (x : Ti), ts[i]? = some x → i < k → Y.tv[i]? = some ⟨tPg x.ch, qf i, x.t.st, x.t.lk⟩ ∧ PgAt w x.ch (qf i) (Bf i) x.t.P ∧ ∀ z ∈ Bf i, w0.heap.size ≤ z) ∧
    ∀ (i j : Nat) (x y : Ti), ts[i]? = some x → ts[j]? = some y → i < k → j < k → i ≠ j → ∀ z ∈ Bf i, z ∉ Bf j
/-- One more. -/
theorem Cpy.next {w0 w w2 : World} {Y X : Mb} {ts : List Ti} {k : Nat} (h : Cpy w0 w Y X ts k) {x : Ti} (hx : ts[k]? = some x) (hf : Frm [] w w2) {q' : Nat} {B' : List Nat} (hp : PgAt w2 x.ch q' B' x.t.P) (hB : ∀ z ∈ B', w.heap.size ≤ z) {g : Nat} (hg : Y.ta = some ⟨g, 0, none⟩) :
    Cpy w0 (w2.setCell ⟨g, k * 3, none⟩ (.iface (tPg x.ch) (.pointer (some ⟨q', 0, none⟩)))) { Y with tv := Y.tv.set k ⟨tPg x.ch, q', x.t.st, x.t.lk⟩ } X ts (k + 1) := by
  have hk : k < ts.length := (List.getElem?_eq_some_iff.1 hx).1
  have hb2 := h.b.frm0 hf
  have hb3 := hb2.put (i := k) (t := x.tv) (t' := ⟨tPg x.ch, q', x.t.st, x.t.lk⟩) (j := 0) (v := .iface (tPg x.ch) (.pointer (some ⟨q', 0, none⟩))) (h.rest k x hx (Nat.le_refl _)) hg (by omega) rfl
  have hF : Frm [g] w2 (w2.setCell ⟨g, k * 3, none⟩ (.iface (tPg x.ch) (.pointer (some ⟨q', 0, none⟩)))) := (Frm.refl _ _).setCell _ _ (.inl (by simp))
  have hgb : g ∈ bkG Y.ta := by rw [hg]; simp [bkG]
  have hgni : ∀ z ∈ [g], NI w2 z := fun z hz => by simp at hz; subst hz; exact hb2.ni.2.2.2 z hgb
  have hfar : ∀ {ch : Bool} {q : Nat} {B : List Nat} {P : Rp}, PgAt w2 ch q B P → ∀ z ∈ B, z ∉ [g] := fun hp z hz => by
    have := (hp.far hb2 z hz).2.2.2
    simp only [List.mem_singleton]; intro e; subst e; exact this hgb
  have hs := h.frm.size
  obtain ⟨qf, Bf, h1, h2⟩ := h.got
  refine ⟨(h.frm.trans hf).trans_new hF (by simp; exact h.nt g hgb), hb3, h.ws, h.nq, h.np, h.nd, h.nt, by simp [h.len], fun i y hy hi => ?_, fun i => if i = k then q' else qf i, fun i => if i = k then B' else Bf i, fun i y hy hi => ?_, fun i j y z hy hz hi hj hij => ?_⟩
  · dsimp only; rw [List.getElem?_set, if_neg (by omega)]; exact h.rest i y hy (by omega)
  · by_cases e : i = k
    · subst e
      obtain rfl : x = y := by rw [hx] at hy; simpa using hy
      dsimp only
      rw [if_pos rfl, if_pos rfl, List.getElem?_set, if_pos rfl, if_pos (by rw [h.len]; exact hk)]
      exact ⟨rfl, hp.frm hF (hfar hp) hgni, fun z hz => by have := hB z hz; omega⟩
    · obtain ⟨a1, a2, a3⟩ := h1 i y hy (by omega)
      dsimp only
      rw [if_neg e, if_neg e, List.getElem?_set, if_neg (by omega)]
      exact ⟨a1, (a2.frm0 hf).frm hF (hfar (a2.frm0 hf)) hgni, a3⟩
  · intro u hu
    dsimp only at hu ⊢
    by_cases e1 : i = k <;> by_cases e2 : j = k
    · omega
    · rw [if_pos e1] at hu; rw [if_neg e2]
      intro hu2; have := (h1 j z hz (by omega)).2.1.lt u hu2; have := hB u hu; omega
    · rw [if_neg e1] at hu; rw [if_pos e2]
      intro hu2; have := (h1 i y hy (by omega)).2.1.lt u hu; have := hB u hu2; omega
    · rw [if_neg e1] at hu; rw [if_neg e2]; exact h2 i j y z hy hz (by omega) (by omega) hij u hu
/-- All are copied. -/
theorem Cpy.all {w0 w : World} {Y X : Mb} {ts : List Ti} {F : List Nat} (h : Cpy w0 w Y X ts ts.length) (h0 : MachAt w0 F X ts) : ∃ F', MAt w F' Y.q (md X ts) ∧ ∀ z ∈ F', w0.heap.size ≤ z := by
  obtain ⟨qf, Bf, h1, h2⟩ := h.got
  have hlt : ∀ (i : Nat) (x : Ti), ts[i]? = some x → i < ts.length := fun i x hx => (List.getElem?_eq_some_iff.1 hx).1
  obtain ⟨us, hus⟩ : ∃ us : List Ti, us = ts.zipIdx.map (fun p => (⟨p.1.ch, qf p.2, p.1.t⟩ : Ti)) := ⟨_, rfl⟩
  have hget : ∀ i, us[i]? = (ts[i]?).map (fun x => (⟨x.ch, qf i, x.t⟩ : Ti)) := fun i => by
    rw [hus, List.getElem?_map, List.getElem?_zipIdx]
    cases ts[i]? with
    | none => rfl
    | some x => simp
  have htd : us.map Ti.t = ts.map Ti.t := by
    apply List.ext_getElem?; intro i
    rw [List.getElem?_map, List.getElem?_map, hget]
    cases ts[i]? <;> rfl
  refine ⟨Y.q :: Y.p :: Y.d :: (bkG Y.ta ++ (List.range ts.length).flatMap Bf), ⟨Y, us, rfl, ⟨h.b, ?_, ⟨Bf, fun i x hx => ?_, fun i j x y hx hy hij => ?_⟩, by simp, by simp, by simp, fun y hy => by simp [hy], fun y hy => ?_⟩, ?_⟩, fun z hz => ?_⟩
  · apply List.ext_getElem?; intro i
    rw [List.getElem?_map, hget]
    cases hx : ts[i]? with
    | none =>
      have := List.getElem?_eq_none_iff.1 hx
      rw [List.getElem?_eq_none (by rw [h.len]; exact this)]; rfl
    | some x => rw [(h1 i x hx (hlt i x hx)).1]; rfl
  · rw [hget] at hx
    cases hy : ts[i]? with
    | none => rw [hy] at hx; cases hx
    | some y =>
      rw [hy] at hx; cases hx
      refine ⟨(h1 i y hy (hlt i y hy)).2.1, fun z hz => ?_⟩
      simp only [List.mem_cons, List.mem_append, List.mem_flatMap, List.mem_range]
      exact .inr (.inr (.inr (.inr ⟨i, hlt i y hy, hz⟩)))
  · rw [hget] at hx hy
    cases hx2 : ts[i]? with
    | none => rw [hx2] at hx; cases hx
    | some x2 =>
      cases hy2 : ts[j]? with
      | none => rw [hy2] at hy; cases hy
      | some y2 => exact h2 i j x2 y2 hx2 hy2 (hlt i x2 hx2) (hlt j y2 hy2) hij
  · simp only [List.mem_cons, List.mem_append, List.mem_flatMap, List.mem_range] at hy
    rcases hy with rfl | rfl | rfl | hy | ⟨i, hi, hy⟩
    · exact h.b.lt
    · exact h.b.mem.plt
    · exact h.b.mem.dlt
    · exact (h.b.row.from_ y hy).2
    · exact (h1 i ts[i] (List.getElem?_eq_getElem hi) hi).2.1.lt y hy
  · unfold md; rw [h.ws, htd]
  · simp only [List.mem_cons, List.mem_append, List.mem_flatMap, List.mem_range] at hz
    rcases hz with rfl | rfl | rfl | hz | ⟨i, hi, hz⟩
    · exact h.nq
    · exact h.np
    · exact h.nd
    · exact h.nt z hz
    · exact (h1 i ts[i] (List.getElem?_eq_getElem hi) hi).2.2 z hz
end
end Go.Proofs.Ytieccmmnfnpcoaa
