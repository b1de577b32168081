/- Stage 13: maps from ints that a call makes: looked up, stored into, cut down, gone over. -/
import Derived.Test.YtfkikaoojelddaaTrA
import Derived.Maps.RangeWalk
namespace Go.Proofs.Ytfkikaoojelddaa
open Go.ChangeShapes Go.WideShapes Go.ChangeAt Go.RowKit Go.Maps Go.ChangeMaps Go.MapKept
set_option linter.unusedVariables false
set_option linter.unusedSimpArgs false
def updI {α : Type} (f : Int → Option α) (k : Int) (v : Option α) : Int → Option α := fun j => if j = k then v else f j
theorem updI_eq {α : Type} (f : Int → Option α) (k : Int) (v : Option α) : updI f k v k = v := by simp [updI]
theorem updI_ne {α : Type} (f : Int → Option α) {j k : Int} (v : Option α) (h : j ≠ k) : updI f k v j = f j := by simp [updI, h]
/-- The entries say what f says. -/
def MpE (es : Array MapEntry) (f : Int → Option Value) : Prop :=
  (∀ e ∈ es.toList, ∃ k : Int, (Lit.int .i64 k).wf = true ∧ e.key = .int .i64 k ∧ f k = some e.val) ∧ ∀ k v, f k = some v → ∃ e ∈ es.toList, e.key = .int .i64 k ∧ e.val = v
/-- The block q holds a map that is f. -/
def Mp (w : World) (q : Nat) (f : Int → Option Value) : Prop := ∃ es clock, w.heap[q]? = some (.map es clock) ∧ Stamped es clock ∧ MpE es f
theorem mp_keyed : Keyed Try.prog 3 := int_keyed Try.underlying3
theorem mp_key {k : Int} (h : (Lit.int .i64 k).wf = true) : keyOf Try.prog 3 (.int .i64 k) = some (.int .i64 k) := keyOf_int_mk Try.underlying3 h
theorem MpE.keys {es : Array MapEntry} {f : Int → Option Value} (h : MpE es f) : ∀ e ∈ es.toList, ∃ l, keyOf Try.prog 3 e.key = some l := fun e he => by
  obtain ⟨k, hk, e1, _⟩ := h.1 e he
  exact ⟨_, by rw [e1]; exact mp_key hk⟩
namespace Mp
variable {w w' : World} {q : Nat} {f : Int → Option Value} {t e : TypeId}
theorem made (w : World) : Mp (w.alloc (.map #[] 0)) w.heap.size (fun _ => none) := ⟨#[], 0, heap_alloc_new _ _, stamped_empty 0, by simp, fun k v h => by cases h⟩
theorem frm {D : List Nat} (h : Mp w q f) (hf : Frm D w w') (hd : q ∉ D) : Mp w' q f := by
  obtain ⟨es, c, hb, r⟩ := h
  exact ⟨es, c, hf.heap hb hd, r⟩
theorem lt (h : Mp w q f) : q < w.heap.size := by obtain ⟨es, c, hb, _⟩ := h; exact lt_of_heap hb
theorem congr {f' : Int → Option Value} (h : Mp w q f) (he : ∀ k, f' k = f k) : Mp w q f' := by
  have : f' = f := funext he
  rw [this]; exact h
theorem find {es : Array MapEntry} {clock : Nat} (hb : w.heap[q]? = some (.map es clock)) (hE : MpE es f) {k : Int} (hk : (Lit.int .i64 k).wf = true) :
    ((Instr.findKey 3 (.int .i64 k) es.toList).run Try.prog w = .ok none w ∧ f k = none ∧ ∀ x ∈ es.toList, x.key ≠ .int .i64 k) ∨ ∃ j x, (Instr.findKey 3 (.int .i64 k) es.toList).run Try.prog w = .ok (some (j, x.val)) w ∧ es.toList[j]? = some x ∧ x.key = .int .i64 k ∧ f k = some x.val := by
  rcases mp_keyed.find w (mp_key hk) es.toList hE.keys with ⟨h1, h2⟩ | ⟨j, x, h1, h2, h3⟩
  · refine .inl ⟨h1, ?_, h2⟩
    cases hf : f k with
    | none => rfl
    | some v =>
      obtain ⟨x, hx, hxk, _⟩ := hE.2 k v hf
      exact absurd hxk (h2 x hx)
  · refine .inr ⟨j, x, h1, h2, h3, ?_⟩
    obtain ⟨k', _, e1, e2⟩ := hE.1 x (List.mem_of_getElem? h2)
    rw [h3] at e1
    cases e1
    exact e2
/-- What a look-up yields. -/
theorem look (h : Mp w q f) (ht : Try.prog.underlying t = some (.map 3 e)) {z : Value} (hz : (zeroValue e).run Try.prog w = .ok z w) {k : Int} (hk : (Lit.int .i64 k).wf = true) :
    (Instr.lookup t (.map (some q)) (.int .i64 k) true).run Try.prog w = .ok (.tuple #[(f k).getD z, .bool (f k).isSome]) w := by
  obtain ⟨es, c, hb, hs, hE⟩ := h
  rcases find hb hE hk with ⟨h1, h2, _⟩ | ⟨j, x, h1, _, _, h2⟩
  · simp [Instr.lookup, run_underlying ht, MapKept.run_getObj_map hb, mp_keyed.check w _ (mp_key hk), h1, hz, Result.andThen, h2]
  · simp [Instr.lookup, run_underlying ht, MapKept.run_getObj_map hb, mp_keyed.check w _ (mp_key hk), h1, Result.andThen, h2]
/-- A store. -/
theorem put (h : Mp w q f) (ht : Try.prog.underlying t = some (.map 3 e)) {k : Int} (hk : (Lit.int .i64 k).wf = true) (v : Value) :
    ∃ w', (Instr.mapUpdate t (.map (some q)) (.int .i64 k) v).run Try.prog w = .ok () w' ∧ Mp w' q (updI f k (some v)) ∧ Frm [q] w w' := by
  obtain ⟨es, c, hb, hs, hE⟩ := h
  have hfr : ∀ o, Frm [q] w (setBlock w q o) := fun o => ⟨rfl, rfl, rfl, by simp [setBlock], fun k _ hd => heap_setBlock_other hb _ (by simpa using hd)⟩
  rcases find hb hE hk with ⟨h1, h2, h3⟩ | ⟨j, x, h1, h2, h3, h4⟩
  · refine ⟨setBlock w q (.map (es.push ⟨.int .i64 k, v, c⟩) (c + 1)), ?_, ⟨_, _, heap_setBlock_same hb _, stamped_push hs h3, ?_, ?_⟩, hfr _⟩
    · simp [Instr.mapUpdate, run_underlying ht, MapKept.run_getObj_map hb, mp_keyed.check w _ (mp_key hk), h1, MapKept.run_setObj_map _ hb, Result.andThen, setBlock]
    · intro x hx
      simp only [Array.toList_push, List.mem_append, List.mem_singleton] at hx
      rcases hx with hx | rfl
      · obtain ⟨k', w1, e1, e2⟩ := hE.1 x hx
        refine ⟨k', w1, e1, ?_⟩
        rw [updI_ne _ _ (fun e0 => h3 x hx (by rw [e1, e0]))]
        exact e2
      · exact ⟨k, hk, rfl, updI_eq _ _ _⟩
    · intro k' v' hv'
      by_cases e0 : k' = k
      · subst e0
        rw [updI_eq] at hv'
        cases hv'
        exact ⟨⟨.int .i64 k', v, c⟩, by simp, rfl, rfl⟩
      · rw [updI_ne _ _ e0] at hv'
        obtain ⟨x, hx, r⟩ := hE.2 k' v' hv'
        exact ⟨x, by simp [hx], r⟩
  · have hjl := (List.getElem?_eq_some_iff.1 h2).1
    have hx2 : es[j]? = some x := by rw [← Array.getElem?_toList]; exact h2
    have hst := mp_keyed.stays w (mp_key hk)
    refine ⟨setBlock w q (.map (es.modify j fun e => { e with key := .int .i64 k, val := v }) c), ?_, ⟨_, _, heap_setBlock_same hb _, stamped_modify hs j _ (fun _ _ => rfl) (fun e0 _ he => by rw [hx2] at he; cases he; exact h3.symm), ?_, ?_⟩, hfr _⟩
    · simp [Instr.mapUpdate, run_underlying ht, MapKept.run_getObj_map hb, mp_keyed.check w _ (mp_key hk), h1, hx2, h3, hst, MapKept.run_setObj_map _ hb, Result.andThen, setBlock]
    · intro y hy
      obtain ⟨i, hi⟩ := List.getElem?_of_mem hy
      rw [Array.getElem?_toList, Array.getElem?_modify] at hi
      split at hi
      · rename_i e0; subst e0
        rw [hx2] at hi
        cases hi
        exact ⟨k, hk, rfl, updI_eq _ _ _⟩
      · rename_i e0
        have hym : y ∈ es.toList := by rw [← Array.getElem?_toList] at hi; exact List.mem_of_getElem? hi
        obtain ⟨k', w1, e1, e2⟩ := hE.1 y hym
        refine ⟨k', w1, e1, ?_⟩
        rw [updI_ne _ _ ?_]
        · exact e2
        · intro ek
          subst ek
          have hp := ((stamped_iff es c).1 hs).2.2
          have hxy : y = x := entry_eq_of_key hp hym (List.mem_of_getElem? h2) (by rw [e1, h3])
          subst hxy
          have hn := ((stamped_iff es c).1 hs).2.1
          rw [← Array.getElem?_toList] at hi
          have hb1 : (es.toList.map (·.born))[j]? = some y.born := by rw [List.getElem?_map, h2]; rfl
          have hb2 : (es.toList.map (·.born))[i]? = some y.born := by rw [List.getElem?_map, hi]; rfl
          exact e0 ((List.getElem?_inj (by simpa using hjl) hn).1 (hb1.trans hb2.symm))
    · intro k' v' hv'
      by_cases e0 : k' = k
      · subst e0
        rw [updI_eq] at hv'
        cases hv'
        exact ⟨{ x with key := .int .i64 k', val := v }, List.mem_of_getElem? (i := j) (by rw [Array.getElem?_toList, Array.getElem?_modify, if_pos rfl, hx2]; rfl), rfl, rfl⟩
      · rw [updI_ne _ _ e0] at hv'
        obtain ⟨y, hy, r1, r2⟩ := hE.2 k' v' hv'
        obtain ⟨i, hi⟩ := List.getElem?_of_mem hy
        have hij : j ≠ i := fun e1 => by subst e1; rw [h2] at hi; cases hi; rw [h3] at r1; cases r1; exact e0 rfl
        exact ⟨y, List.mem_of_getElem? (i := i) (by rw [Array.getElem?_toList, Array.getElem?_modify, if_neg hij, ← Array.getElem?_toList]; exact hi), r1, r2⟩
end Mp
/-- From w to w' the map at q has lost the key k. -/
def MpDel (w w' : World) (q : Nat) (k : Int) : Prop :=
  ∀ es clock, w.heap[q]? = some (.map es clock) → ∃ es', w'.heap[q]? = some (.map es' clock) ∧ (Stamped es clock → Stamped es' clock) ∧ (∀ x, x ∈ es'.toList ↔ (x ∈ es.toList ∧ x.key ≠ .int .i64 k)) ∧ es'.size ≤ es.size ∧ ((∃ x ∈ es.toList, x.key = .int .i64 k) → es'.size < es.size)
theorem MpDel.frm {D : List Nat} {w w1 w2 : World} {q : Nat} {k : Int} (h : MpDel w w1 q k) (hf : Frm D w1 w2) (hd : q ∉ D) : MpDel w w2 q k := fun es c hb => by
  obtain ⟨es', h1, r⟩ := h es c hb
  exact ⟨es', hf.heap h1 hd, r⟩
/-- delete. -/
theorem Mp.del {w : World} {q : Nat} {f : Int → Option Value} {t e ty : TypeId} (h : Mp w q f) (ht : Try.prog.underlying t = some (.map 3 e)) {k : Int} (hk : (Lit.int .i64 k).wf = true) :
    ∃ w', (Builtin.delete_ #[t, 3] ty #[.map (some q), .int .i64 k]).run Try.prog w = .ok (.tuple #[]) w' ∧ Mp w' q (updI f k none) ∧ Frm [q] w w' ∧ MpDel w w' q k := by
  obtain ⟨es, c, hb, hs, hE⟩ := h
  have hfr : ∀ o, Frm [q] w (setBlock w q o) := fun o => ⟨rfl, rfl, rfl, by simp [setBlock], fun k _ hd => heap_setBlock_other hb _ (by simpa using hd)⟩
  have hsome : ∀ es', (∀ x, x ∈ es'.toList ↔ (x ∈ es.toList ∧ x.key ≠ .int .i64 k)) → MpE es' (updI f k none) := fun es' he => by
    refine ⟨fun x hx => ?_, fun k' v' hv' => ?_⟩
    · obtain ⟨h1, h2⟩ := (he x).1 hx
      obtain ⟨k', w1, e1, e2⟩ := hE.1 x h1
      refine ⟨k', w1, e1, ?_⟩
      rw [updI_ne _ _ (fun e0 => h2 (by rw [e1, e0]))]; exact e2
    · by_cases e0 : k' = k
      · subst e0; rw [updI_eq] at hv'; cases hv'
      · rw [updI_ne _ _ e0] at hv'
        obtain ⟨x, hx, e1, e2⟩ := hE.2 k' v' hv'
        exact ⟨x, (he x).2 ⟨hx, fun e3 => by rw [e1] at e3; cases e3; exact e0 rfl⟩, e1, e2⟩
  rcases Mp.find hb hE hk with ⟨h1, h2, h3⟩ | ⟨j, x, h1, h2, h3, h4⟩
  · have hw : ∀ x, x ∈ es.toList ↔ (x ∈ es.toList ∧ x.key ≠ .int .i64 k) := fun x => ⟨fun hx => ⟨hx, h3 x hx⟩, fun hx => hx.1⟩
    refine ⟨setBlock w q (.map es c), ?_, ⟨_, _, heap_setBlock_same hb _, hs, hsome _ hw⟩, hfr _, fun es0 c0 hb0 => ?_⟩
    · simp [Builtin.delete_, run_underlying ht, MapKept.run_getObj_map hb, mp_keyed.check w _ (mp_key hk), h1, MapKept.run_setObj_map _ hb, Result.andThen, setBlock]
    · rw [hb] at hb0; cases hb0
      exact ⟨es, heap_setBlock_same hb _, id, hw, Nat.le_refl _, fun ⟨x, hx, e0⟩ => absurd e0 (h3 x hx)⟩
  · have hjl : j < es.toList.length := (List.getElem?_eq_some_iff.1 h2).1
    have hjs : j < es.size := by simpa using hjl
    have hsub : (es.eraseIdxIfInBounds j).toList = es.toList.eraseIdx j := by
      unfold Array.eraseIdxIfInBounds
      rw [dif_pos hjs]
      simp
    have hp := ((stamped_iff es c).1 hs).2.2
    have hw : ∀ y, y ∈ (es.eraseIdxIfInBounds j).toList ↔ (y ∈ es.toList ∧ y.key ≠ .int .i64 k) := fun y => by
      rw [hsub, List.mem_eraseIdx_iff_getElem?]
      constructor
      · rintro ⟨i, hne, hi⟩
        refine ⟨List.mem_of_getElem? hi, fun e0 => ?_⟩
        have hxy : y = x := entry_eq_of_key hp (List.mem_of_getElem? hi) (List.mem_of_getElem? h2) (by rw [e0, h3])
        subst hxy
        have hn := ((stamped_iff es c).1 hs).2.1
        have hb1 : (es.toList.map (·.born))[j]? = some y.born := by rw [List.getElem?_map, h2]; rfl
        have hb2 : (es.toList.map (·.born))[i]? = some y.born := by rw [List.getElem?_map, hi]; rfl
        exact hne ((List.getElem?_inj (by simpa using hjl) hn).1 (hb1.trans hb2.symm)).symm
      · rintro ⟨hy, hne⟩
        obtain ⟨i, hi⟩ := List.getElem?_of_mem hy
        refine ⟨i, fun e1 => hne ?_, hi⟩
        rw [e1, h2] at hi
        cases hi
        exact h3
    have hsz : (es.eraseIdxIfInBounds j).size < es.size := by
      have : (es.eraseIdxIfInBounds j).toList.length < es.toList.length := by rw [hsub, List.length_eraseIdx_of_lt hjl]; omega
      rw [← Array.length_toList, ← Array.length_toList]; exact this
    refine ⟨setBlock w q (.map (es.eraseIdxIfInBounds j) c), ?_, ⟨_, _, heap_setBlock_same hb _, stamped_erase hs j, hsome _ hw⟩, hfr _, fun es0 c0 hb0 => ?_⟩
    · simp [Builtin.delete_, run_underlying ht, MapKept.run_getObj_map hb, mp_keyed.check w _ (mp_key hk), h1, MapKept.run_setObj_map _ hb, Result.andThen, setBlock]
    · rw [hb] at hb0; cases hb0
      exact ⟨_, heap_setBlock_same hb _, fun hs => stamped_erase hs j, hw, Nat.le_of_lt hsz, fun _ => hsz⟩
/-- The map at q is gone over by the iterator at r: what is in the map is still to come, but perhaps for the key k. -/
def Rg (w : World) (q r : Nat) (f : Int → Option Value) (k : Option Int) : Prop :=
  ∃ es clock since seen c0, w.heap[q]? = some (.map es clock) ∧ Stamped es clock ∧ MpE es f ∧ w.heap[r]? = some (.mapIter (some q) since seen c0) ∧ (∀ x ∈ es.toList, x.born < since) ∧ since ≤ c0 ∧ since ≤ clock ∧
    ∀ x ∈ es.toList, seen.contains x.born = true → ∃ j, k = some j ∧ x.key = .int .i64 j
/-- How many are in the map. -/
def mapSz (w : World) (q : Nat) : Nat := match w.heap[q]? with | some (.map es _) => es.size | _ => 0
namespace Rg
variable {w w' : World} {q r : Nat} {f : Int → Option Value} {k : Option Int} {t e : TypeId}
theorem mp (h : Rg w q r f k) : Mp w q f := by
  obtain ⟨es, clock, since, seen, c0, h1, h2, h3, _⟩ := h
  exact ⟨es, clock, h1, h2, h3⟩
theorem frm {D : List Nat} (h : Rg w q r f k) (hf : Frm D w w') (hq : q ∉ D) (hr : r ∉ D) : Rg w' q r f k := by
  obtain ⟨es, clock, since, seen, c0, h1, h2, h3, h4, r⟩ := h
  exact ⟨es, clock, since, seen, c0, hf.heap h1 hq, h2, h3, hf.heap h4 hr, r⟩
theorem lt (h : Rg w q r f k) : r < w.heap.size := by
  obtain ⟨es, clock, since, seen, c0, h1, h2, h3, h4, _⟩ := h
  exact lt_of_heap h4
theorem ne (h : Rg w q r f k) : q ≠ r := by
  obtain ⟨es, clock, since, seen, c0, h1, h2, h3, h4, _⟩ := h
  intro e
  rw [e, h4] at h1; cases h1
/-- The beginning. -/
theorem start (h : Mp w q f) (ht : Try.prog.underlying t = some (.map 3 e)) :
    ∃ w', (Instr.range t (.map (some q))).run Try.prog w = .ok (.pointer (some ⟨w.heap.size, 0, none⟩)) w' ∧ Rg w' q w.heap.size f none ∧ Frm [] w w' := by
  obtain ⟨es, c, hb, hs, hE⟩ := h
  refine ⟨_, run_range_map w t 3 e q es c ht hb, ⟨es, c, c, #[], c, heap_alloc_old _ hb, hs, hE, heap_alloc_new _ _, ((stamped_iff es c).1 hs).1, Nat.le_refl _, Nat.le_refl _, fun x _ hx => by simp at hx⟩, (Frm.refl _ _).alloc _⟩
/-- A step. -/
theorem next (h : Rg w q r f none) (ty : TypeId) :
    ((∀ j, f j = none) ∧ (Instr.next (.pointer (some ⟨r, 0, none⟩)) false ty).run Try.prog w = .ok (.tuple #[.bool false]) w) ∨
    ∃ j v w', (Lit.int .i64 j).wf = true ∧ f j = some v ∧ (Instr.next (.pointer (some ⟨r, 0, none⟩)) false ty).run Try.prog w = .ok (.tuple #[.bool true, .int .i64 j, v]) w' ∧ Rg w' q r f (some j) ∧ Frm [r] w w' ∧
      (Instr.entry (.pointer (some ⟨r, 0, none⟩))).run Try.prog w' = .ok (.tuple #[.int .i64 j, v]) w' ∧ mapSz w' q = mapSz w q := by
  have hne := h.ne
  obtain ⟨es, clock, since, seen, c0, hb, hs, hE, hr, hold, hsc, hsk, hun⟩ := h
  rcases run_next_at (P := Try.prog) w ty r q since c0 seen es clock hr hb hold hsc with ⟨h0, hrun⟩ | ⟨x, hx, w1, hal, hrun⟩
  · refine .inl ⟨fun j => ?_, hrun⟩
    cases hf : f j with
    | none => rfl
    | some v =>
      obtain ⟨y, hy, _⟩ := hE.2 j v hf
      obtain ⟨_, h1, _⟩ := hun y hy (all_seen es seen h0 y hy)
      cases h1
  · obtain ⟨hem, hes⟩ := mem_left hx
    obtain ⟨j, hwf, e1, e2⟩ := hE.1 x hem
    have hr1 : w1.heap[r]? = some (.mapIter (some q) since seen c0) := by rcases hal with rfl | rfl <;> exact hr
    have hb1 : w1.heap[q]? = some (.map es clock) := by rcases hal with rfl | rfl <;> exact hb
    have hset := heap_set (o' := .mapIter (some q) since (seen.push x.born) clock) hr1
    have hb' : (setBlock w1 r (.mapIter (some q) since (seen.push x.born) clock)).heap[q]? = some (.map es clock) := (hset.2 q hne).trans hb1
    rw [e1] at hrun
    have hent := run_entry_at (P := Try.prog) _ r q since seen es clock x hset.1 hb' hem ((stamped_iff es clock).1 hs).2.1
    rw [e1] at hent
    refine .inr ⟨j, x.val, _, hwf, e2, hrun, ⟨es, clock, since, seen.push x.born, clock, hb', hs, hE, hset.1, hold, hsk, hsk, fun y hy hsy => ?_⟩, ?_, hent, ?_⟩
    · rw [contains_push] at hsy
      rcases Bool.or_eq_true_iff.1 hsy with h1 | h1
      · obtain ⟨_, h2, _⟩ := hun y hy h1; cases h2
      · have hyx : y = x := born_inj ((stamped_iff es clock).1 hs).2.1 hy hem (by simpa using h1)
        subst hyx
        exact ⟨j, rfl, e1⟩
    · rcases hal with rfl | rfl <;> exact ⟨rfl, rfl, rfl, by simp [setBlock], fun i _ hi => hset.2 i (by simpa using hi)⟩
    · unfold mapSz; rw [hb', hb]
/-- The key that came is struck from the map. -/
theorem struck {j : Int} (h : Rg w q r f (some j)) (hd : MpDel w w' q j) {D : List Nat} (hf : Frm D w w') (hr : r ∉ D) {v : Value} (hv : f j = some v) : Rg w' q r (updI f j none) none ∧ mapSz w' q < mapSz w q := by
  obtain ⟨es, clock, since, seen, c0, hb, hs, hE, hr1, hold, hsc, hsk, hun⟩ := h
  obtain ⟨es', hb', hst, hw, hle, hlt⟩ := hd es clock hb
  have hE' : MpE es' (updI f j none) := by
    refine ⟨fun x hx => ?_, fun k' v' hv' => ?_⟩
    · obtain ⟨h1, h2⟩ := (hw x).1 hx
      obtain ⟨k', w1, e1, e2⟩ := hE.1 x h1
      refine ⟨k', w1, e1, ?_⟩
      rw [updI_ne _ _ (fun e0 => h2 (by rw [e1, e0]))]; exact e2
    · by_cases e0 : k' = j
      · subst e0; rw [updI_eq] at hv'; cases hv'
      · rw [updI_ne _ _ e0] at hv'
        obtain ⟨x, hx, e1, e2⟩ := hE.2 k' v' hv'
        exact ⟨x, (hw x).2 ⟨hx, fun e3 => by rw [e1] at e3; cases e3; exact e0 rfl⟩, e1, e2⟩
  refine ⟨⟨es', clock, since, seen, c0, hb', ?_, hE', hf.heap hr1 hr, fun x hx => hold x ((hw x).1 hx).1, hsc, hsk, fun x hx hsx => ?_⟩, ?_⟩
  · exact hst hs
  · obtain ⟨h1, h2⟩ := (hw x).1 hx
    obtain ⟨j', e1, e2⟩ := hun x h1 hsx
    cases e1
    exact absurd e2 h2
  · unfold mapSz; rw [hb, hb']
    obtain ⟨x, hx, e1, _⟩ := hE.2 j v hv
    exact hlt ⟨x, hx, e1⟩
end Rg
end Go.Proofs.Ytfkikaoojelddaa
