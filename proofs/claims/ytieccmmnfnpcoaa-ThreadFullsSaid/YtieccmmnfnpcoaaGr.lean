/- A row that a call makes for itself and that grows by one element at a time: each element has s cells; what lies there is said by a function of the place. No type of the program. -/
import Derived.Test.YtieccmmnfnpcoaaBase
import Derived.ArgAppend
import Derived.OwnWalk
import Derived.Test.YtieccmmnfnpcoaaLi
namespace Go.Proofs.Ytieccmmnfnpcoaa
open Go.ChangeShapes Go.WideShapes Go.ChangeAt Go.RowKit
set_option linter.unusedVariables false

/-- A function, but at one place. -/
def upd {α : Type} (f : Nat → α) (i : Nat) (v : α) : Nat → α := fun j => if j = i then v else f j
theorem upd_eq {α : Type} (f : Nat → α) (i : Nat) (v : α) : upd f i v i = v := by simp [upd]
theorem upd_ne {α : Type} (f : Nat → α) {i j : Nat} (v : α) (h : j ≠ i) : upd f i v j = f j := by simp [upd, h]

/-- The row: of type T, s cells an element, in a block from B on; n elements, room for c; f says the cells of each. -/
def Gr (T : TypeId) (s B : Nat) (w : World) (a : Option Addr) (n c : Nat) (f : Nat → List Value) : Prop :=
  (∀ i, i < n → (f i).length = s) ∧ n ≤ c ∧ ((a = none ∧ n = 0 ∧ c = 0) ∨ ∃ g cs, a = some ⟨g, 0, none⟩ ∧ B ≤ g ∧ w.heap[g]? = some (.cells cs T (0, 0)) ∧ c * s ≤ cs.size ∧ ∀ i, i < n → ∀ j v, (f i)[j]? = some v → cs[i * s + j]? = some v)
def bkG : Option Addr → List Nat
  | some a => [a.block]
  | none => []
section
variable {T : TypeId} {s B : Nat} {w w' : World} {a : Option Addr} {n c : Nat} {f : Nat → List Value}
theorem Gr.nil (T : TypeId) (s B : Nat) (w : World) (f : Nat → List Value) : Gr T s B w none 0 0 f := ⟨fun i h => by omega, Nat.le_refl _, .inl ⟨rfl, rfl, rfl⟩⟩
theorem Gr.frm {D : List Nat} (h : Gr T s B w a n c f) (hf : Frm D w w') (hd : ∀ x ∈ bkG a, x ∉ D) : Gr T s B w' a n c f := by
  obtain ⟨h1, h2, h | ⟨g, cs, rfl, hB, hh, hs, hq⟩⟩ := h
  · exact ⟨h1, h2, .inl h⟩
  · exact ⟨h1, h2, .inr ⟨g, cs, rfl, hB, hf.heap hh (hd g (by simp [bkG])), hs, hq⟩⟩
theorem Gr.frm0 (h : Gr T s B w a n c f) (hf : Frm [] w w') : Gr T s B w' a n c f := h.frm hf (by simp)
/-- Its block is none of another type. -/
theorem Gr.ne (h : Gr T s B w a n c f) {b : Nat} {cs : Array Value} {t : TypeId} (hb : w.heap[b]? = some (.cells cs t (0, 0))) (ht : t ≠ T) : ∀ x ∈ bkG a, x ≠ b := by
  obtain ⟨h1, h2, ⟨rfl, _⟩ | ⟨g, ds, rfl, hB, hh, hs, hq⟩⟩ := h
  · simp [bkG]
  · intro x hx e
    simp [bkG] at hx
    subst hx e
    rw [hh] at hb
    simp only [Option.some.injEq, Obj.cells.injEq] at hb
    exact ht hb.2.1.symm
theorem Gr.from_ (h : Gr T s B w a n c f) : ∀ x ∈ bkG a, B ≤ x ∧ x < w.heap.size := by
  obtain ⟨h1, h2, ⟨rfl, _⟩ | ⟨g, ds, rfl, hB, hh, hs, hq⟩⟩ := h
  · simp [bkG]
  · intro x hx; simp [bkG] at hx; subst hx; exact ⟨hB, lt_of_heap hh⟩
/-- Where an element lies. -/
theorem Gr.at_ (h : Gr T s B w a n c f) {i : Nat} (hi : i < n) : ∃ g, a = some ⟨g, 0, none⟩ ∧ B ≤ g ∧ g < w.heap.size ∧ (∀ k, w.frozen? ⟨g, k, none⟩ = false) ∧ ∀ i, i < n → ∀ j v, (f i)[j]? = some v → w.cell? ⟨g, i * s + j, none⟩ = some v := by
  obtain ⟨h1, h2, ⟨rfl, h3, _⟩ | ⟨g, cs, rfl, hB, hh, hs, hq⟩⟩ := h
  · omega
  · exact ⟨g, rfl, hB, lt_of_heap hh, fun k => frozen_of_heap hh, fun i hi j v hv => by rw [cell_of_heap hh]; exact hq i hi j v hv⟩
theorem Gr.congr {f' : Nat → List Value} (h : Gr T s B w a n c f) (he : ∀ i, i < n → f' i = f i) : Gr T s B w a n c f' := by
  obtain ⟨h1, h2, h | ⟨g, cs, rfl, hB, hh, hs, hq⟩⟩ := h
  · exact ⟨fun i hi => by rw [he i hi]; exact h1 i hi, h2, .inl h⟩
  · exact ⟨fun i hi => by rw [he i hi]; exact h1 i hi, h2, .inr ⟨g, cs, rfl, hB, hh, hs, fun i hi j v hv => by rw [he i hi] at hv; exact hq i hi j v hv⟩⟩

/-- Cells stored one after the other. -/
theorem heap_setCells {b : Nat} {t : TypeId} {fr : Nat × Nat} : ∀ (l : List Value) (o : Nat) (w : World) (cs : Array Value), w.heap[b]? = some (.cells cs t fr) → o + l.length ≤ cs.size →
    ∃ cs' : Array Value, (w.setCells b o l).heap[b]? = some (.cells cs' t fr) ∧ cs'.size = cs.size ∧ (∀ j, j < o ∨ o + l.length ≤ j → cs'[j]? = cs[j]?) ∧ ∀ j v, l[j]? = some v → cs'[o + j]? = some v
  | [], o, w, cs, h, _ => ⟨cs, h, rfl, fun _ _ => rfl, fun j v hv => by simp at hv⟩
  | x :: l, o, w, cs, h, hl => by
    simp only [List.length_cons] at hl
    obtain ⟨cs', h1, h2, h3, h4⟩ := heap_setCells l (o + 1) _ _ (heap_setCell_at (i := o) x h) (by simp; omega)
    refine ⟨cs', h1, by rw [h2]; simp, fun j hj => ?_, fun j v hv => ?_⟩
    · simp only [List.length_cons] at hj
      rw [h3 j (by omega), Array.getElem?_setIfInBounds, if_neg (by omega)]
    · rcases j with _ | j
      · simp at hv; subst hv
        rw [Nat.add_zero, h3 o (by omega), Array.getElem?_setIfInBounds, if_pos rfl, if_pos (by omega)]
      · have := h4 j v (by simpa using hv)
        rw [show o + (j + 1) = o + 1 + j by omega]; exact this
theorem Frm.setCells {D : List Nat} {a : World} {b : Nat} (hp : b ∈ D ∨ a.heap.size ≤ b) : ∀ (l : List Value) (o : Nat) (w : World), Frm D a w → Frm D a (w.setCells b o l)
  | [], _, _, h => h
  | v :: r, o, w, h => Frm.setCells hp r (o + 1) _ (h.setCell ⟨b, o, none⟩ v hp)
/-- An element is put down at its place. -/
theorem Gr.put (h : Gr T s B w a n c f) {g i : Nat} (ha : a = some ⟨g, 0, none⟩) (hi : i < n) {l : List Value} (hl : l.length = s) : Gr T s B (w.setCells g (i * s) l) a n c (upd f i l) := by
  obtain ⟨h1, h2, ⟨rfl, _⟩ | ⟨g', cs, rfl, hB, hh, hs, hq⟩⟩ := h
  · cases ha
  · cases ha
    have his : i * s + s ≤ c * s := by have := Nat.mul_le_mul_right s (show i + 1 ≤ c by omega); rw [Nat.add_mul, Nat.one_mul] at this; exact this
    obtain ⟨cs', k1, k2, k3, k4⟩ := heap_setCells l (i * s) w cs hh (by omega)
    refine ⟨fun j hj => ?_, h2, .inr ⟨g, cs', rfl, hB, k1, by omega, fun j hj m v hv => ?_⟩⟩
    · by_cases e : j = i
      · subst e; rw [upd_eq]; exact hl
      · rw [upd_ne _ _ e]; exact h1 j hj
    · by_cases e : j = i
      · subst e; rw [upd_eq] at hv; exact k4 m v hv
      · rw [upd_ne _ _ e] at hv
        have hm : m < s := by have := (List.getElem?_eq_some_iff.1 hv).1; have := h1 j hj; omega
        rw [k3 (j * s + m) ?_]
        · exact hq j hj m v hv
        · rcases Nat.lt_or_gt_of_ne e with e | e
          · have := Nat.mul_le_mul_right s (show j + 1 ≤ i by omega); rw [Nat.add_mul, Nat.one_mul] at this; omega
          · have := Nat.mul_le_mul_right s (show i + 1 ≤ j by omega); rw [Nat.add_mul, Nat.one_mul] at this; omega

/-- All cells, one after the other. -/
def flt (n : Nat) (f : Nat → List Value) : List Value := (List.range n).flatMap f
theorem flt_succ (n : Nat) (f : Nat → List Value) : flt (n + 1) f = flt n f ++ f n := by simp [flt, List.range_succ]
theorem flt_len : ∀ {n : Nat}, (∀ i, i < n → (f i).length = s) → (flt n f).length = n * s
  | 0, _ => by simp [flt]
  | n + 1, h => by rw [flt_succ, List.length_append, flt_len (fun i hi => h i (by omega)), h n (by omega), Nat.add_mul, Nat.one_mul]
theorem flt_get : ∀ {n : Nat}, (∀ i, i < n → (f i).length = s) → ∀ {i j : Nat}, i < n → j < s → (flt n f)[i * s + j]? = (f i)[j]?
  | 0, _, i, j, hi, _ => by omega
  | n + 1, h, i, j, hi, hj => by
    have hl := flt_len (n := n) (fun i hi => h i (by omega))
    rw [flt_succ]
    by_cases e : i = n
    · subst e
      rw [List.getElem?_append_right (by omega), hl]; congr 1; omega
    · have : i * s + j < n * s := by have := Nat.mul_le_mul_right s (show i + 1 ≤ n by omega); rw [Nat.add_mul, Nat.one_mul] at this; omega
      rw [List.getElem?_append_left (by omega)]
      exact flt_get (fun i hi => h i (by omega)) (by omega) hj
theorem gr_of_own {v : Value} (hs : 0 < s) {xs : List Value} (h : w.ownsRow B T s v n xs) (hf : ∀ i, i < n → (f i).length = s) (hx : ∀ i, i < n → ∀ j v, (f i)[j]? = some v → xs[i * s + j]? = some v) : ∃ a c, v = .slice a n c ∧ Gr T s B w a n c f := by
  obtain ⟨h0, ⟨rfl, rfl⟩ | ⟨g, cap, cur, rfl, hg, hh, hc, hm, hz, ht⟩⟩ := h
  · exact ⟨none, 0, rfl, Gr.nil _ _ _ _ _⟩
  · refine ⟨some ⟨g, 0, none⟩, cap, rfl, hf, hc, .inr ⟨g, cur, rfl, hg, hh, by omega, fun i hi j v hv => ?_⟩⟩
    have h1 := hx i hi j v hv
    have hlt := (List.getElem?_eq_some_iff.1 h1).1
    rw [← ht, List.getElem?_take, if_pos (by omega)] at h1
    rw [← Array.getElem?_toList]; exact h1
/-- One more. -/
theorem run_gr {TS : TypeId} {z : Value} {by_ : Nat} (hT : Try.prog.underlying TS = some (.slice T)) (hi0 : (Try.prog.info? T).map (fun i => (i.zero, i.size, i.bytes)) = some (some z, s, by_)) (hz : z.cells.size = s) (hs : 0 < s) (hby : by_ ≤ 1000)
    (h : Gr T s B w a n c f) {l : List Value} (hl : l.length = s) (h1 : ∀ u ∈ l, u.oneCell' = true) {g2 : Nat} (hg : w.heap[g2]? = some (.cells l.toArray T (0, 0))) (hn : n ≤ 1000000) (hB : B ≤ w.heap.size) (ty : TypeId) :
    ∃ a' c' w', (Builtin.append_ #[TS, TS] ty #[.slice a n c, .slice (some ⟨g2, 0, none⟩) 1 1]).run Try.prog w = .ok (.slice a' (n + 1) c') w' ∧ Gr T s B w' a' (n + 1) c' (upd f n l) ∧ Frm (bkG a) w w' ∧ ∀ x ∈ bkG a', x ∈ bkG a ∨ w.heap.size ≤ x := by
  obtain ⟨i0, hi, hz0, hz1, hz2⟩ := info_parts hi0
  have hnew : ∀ j u, l[j]? = some u → w.cell? ((⟨g2, 0, none⟩ : Addr).add j) = some u := fun j u hu => by
    rw [Addr.add_lit, cell_of_heap hg, Nat.zero_add, List.getElem?_toArray]; exact hu
  have hbytes : (n + 1) * by_ ≤ 140737488355328 := by have := Nat.mul_le_mul (show n + 1 ≤ 1000001 by omega) hby; omega
  obtain ⟨k1, k2, k3⟩ := h
  have lens : ∀ i, i < n + 1 → (upd f n l i).length = s := fun i hi => by
    by_cases e : i = n
    · subst e; rw [upd_eq]; exact hl
    · rw [upd_ne _ _ e]; exact k1 i (by omega)
  have cells_of : ∀ xs : List Value, xs = flt n f ++ l → ∀ i, i < n + 1 → ∀ j v, (upd f n l i)[j]? = some v → xs[i * s + j]? = some v := by
    intro xs hx i hi j v hv
    subst hx
    have hj : j < s := by have := (List.getElem?_eq_some_iff.1 hv).1; have := lens i hi; omega
    by_cases e : i = n
    · subst e; rw [upd_eq] at hv
      rw [List.getElem?_append_right (by rw [flt_len k1]; omega), flt_len k1, show i * s + j - i * s = j by omega]; exact hv
    · rw [upd_ne _ _ e] at hv
      have : i * s + j < n * s := by have := Nat.mul_le_mul_right s (show i + 1 ≤ n by omega); rw [Nat.add_mul, Nat.one_mul] at this; omega
      rw [List.getElem?_append_left (by rw [flt_len k1]; exact this), flt_get k1 (by omega) hj]; exact hv
  rcases k3 with ⟨rfl, rfl, rfl⟩ | ⟨g, cs, rfl, hBg, hh, hcs, hq⟩
  · obtain ⟨v', w', hr, hO, hgr, _⟩ := run_append_own (P := Try.prog) w w.heap.size TS ty T i0 z s by_ hT hi hz0 hz1 hz2 hz hs (.slice none 0 0) 0 [] (World.ownsRow_nil w _ _ _) ⟨g2, 0, none⟩ 1 1 l (by omega) hnew h1 (by unfold maxLen; omega) (by omega) (Nat.le_refl _)
    obtain ⟨a', c', rfl, hG⟩ := gr_of_own hs hO lens (cells_of _ (by simp [flt]))
    refine ⟨a', c', w', hr, ?_, Frm.grown hgr (by simp [Value.ownBlock]), fun x hx => .inr (hG.from_ x hx).1⟩
    obtain ⟨m1, m2, m3 | ⟨g', cs', hg', hB', r⟩⟩ := hG
    · exact ⟨m1, m2, .inl m3⟩
    · exact ⟨m1, m2, .inr ⟨g', cs', hg', by omega, r⟩⟩
  · by_cases hr : n + 1 ≤ c
    · have hns : n * s + s ≤ cs.size := by have := Nat.mul_le_mul_right s hr; rw [Nat.add_mul, Nat.one_mul] at this; omega
      have hrun := run_append_room_cells (P := Try.prog) w TS ty T i0 hT hi g 0 n c ⟨g2, 0, none⟩ 1 1 l (by rw [hz1, hl]; omega) hnew h1 hr
        (fun j hj => by
          rw [cell_of_heap hh, hz1, Array.getElem?_eq_getElem (by omega)]; rfl)
        (fun j hj => frozen_of_heap hh)
      rw [hz1, Nat.zero_add] at hrun
      obtain ⟨cs', j1, j2, j3, j4⟩ := heap_setCells l (n * s) w cs hh (by omega)
      refine ⟨_, c, _, hrun, ⟨lens, hr, .inr ⟨g, cs', rfl, hBg, j1, by omega, fun i hi j v hv => ?_⟩⟩, Frm.setCells (.inl (by simp [bkG])) l _ w (Frm.refl _ _), fun x hx => .inl hx⟩
      by_cases e : i = n
      · subst e; rw [upd_eq] at hv; exact j4 j v hv
      · rw [upd_ne _ _ e] at hv
        have hjs : j < s := by have := (List.getElem?_eq_some_iff.1 hv).1; have := k1 i (by omega); omega
        have : i * s + j < n * s := by have := Nat.mul_le_mul_right s (show i + 1 ≤ n by omega); rw [Nat.add_mul, Nat.one_mul] at this; omega
        rw [j3 _ (by omega)]; exact hq i (by omega) j v hv
    · obtain ⟨v', w', hrun, hO, hgr⟩ := run_append_arg_grows (P := Try.prog) w TS ty T i0 z s by_ hT hi hz0 hz1 hz2 hz hs ⟨g, 0, none⟩ n c (flt n f) (flt_len k1)
        (fun j u hj => by
          rw [Addr.add_lit, cell_of_heap hh, Nat.zero_add]
          have hjl := (List.getElem?_eq_some_iff.1 hj).1
          rw [flt_len k1] at hjl
          have hjd : j / s < n := Nat.div_lt_of_lt_mul (by rw [Nat.mul_comm]; exact hjl)
          have hjm : j % s < s := Nat.mod_lt _ hs
          have hjj : j / s * s + j % s = j := by rw [Nat.mul_comm]; exact Nat.div_add_mod j s
          rw [← hjj, flt_get k1 hjd hjm] at hj
          rw [← hjj]; exact hq _ hjd _ u hj) ⟨g2, 0, none⟩ 1 1 l (by omega) hnew (by omega) (by unfold maxLen; omega) hbytes
      obtain ⟨a', c', rfl, hG⟩ := gr_of_own hs hO lens (cells_of _ rfl)
      refine ⟨a', c', w', hrun, ?_, (Frm.grown hgr (D := []) (by simp)).nil, fun x hx => .inr (hG.from_ x hx).1⟩
      obtain ⟨m1, m2, m3 | ⟨g', cs', hg', hB', r⟩⟩ := hG
      · exact ⟨m1, m2, .inl m3⟩
      · exact ⟨m1, m2, .inr ⟨g', cs', hg', by omega, r⟩⟩
/-- The same at an operation of a region, and in a list of operations. -/
theorem step_gr {TS : TypeId} {z : Value} {by_ : Nat} (hT : Try.prog.underlying TS = some (.slice T)) (hi0 : (Try.prog.info? T).map (fun i => (i.zero, i.size, i.bytes)) = some (some z, s, by_)) (hz : z.cells.size = s) (hs : 0 < s) (hby : by_ ≤ 1000)
    {ops : Array Oper} {o : Oper} {x : Act} {K : Act → World → Prop} {Q : Exit → Act → World → Prop} {E : Prop} (hw : Region.wanted o (yielded ops x.tmps) = true) (p r : Operand)
    (ho : o.op = .call { callee := .builtin .append, args := #[p, r], argTypes := #[TS, TS] }) {g2 : Nat} {l : List Value}
    (hd : x.eval p = .slice a n c) (hr : x.eval r = .slice (some ⟨g2, 0, none⟩) 1 1) (h : Gr T s B w a n c f) (hl : l.length = s) (h1 : ∀ u ∈ l, u.oneCell' = true) (hg : w.heap[g2]? = some (.cells l.toArray T (0, 0))) (hn : n ≤ 1000000) (hB : B ≤ w.heap.size)
    (hK : ∀ a' c' w', Gr T s B w' a' (n + 1) c' (upd f n l) → Frm (bkG a) w w' → (∀ x ∈ bkG a', x ∈ bkG a ∨ w.heap.size ≤ x) → K (x.put o.dst (.slice a' (n + 1 : Nat) c')) w') :
    if Region.wanted o (yielded ops x.tmps) = true then Oper.wp Try.prog o x w K Q else E := by
  rw [if_pos hw]
  obtain ⟨a', c', w', hrun, h1, h2, h3⟩ := run_gr hT hi0 hz hs hby h hl h1 hg hn hB o.type
  unfold Oper.wp
  simp [execOp, ho, resolve, invoke, builtin, hd, hr, hrun, Result.andThen]
  exact hK _ _ _ h1 h2 h3
theorem wpl_gr {TS : TypeId} {z : Value} {by_ : Nat} (hT : Try.prog.underlying TS = some (.slice T)) (hi0 : (Try.prog.info? T).map (fun i => (i.zero, i.size, i.bytes)) = some (some z, s, by_)) (hz : z.cells.size = s) (hs : 0 < s) (hby : by_ ≤ 1000)
    {ops : Array Oper} {rest : List Oper} {o : Oper} {x : Act} {Q : Exit → Act → World → Prop} (hgd : o.guard = none) (p r : Operand)
    (ho : o.op = .call { callee := .builtin .append, args := #[p, r], argTypes := #[TS, TS] }) {g2 : Nat} {l : List Value}
    (hd : x.eval p = .slice a n c) (hr : x.eval r = .slice (some ⟨g2, 0, none⟩) 1 1) (h : Gr T s B w a n c f) (hl : l.length = s) (h1 : ∀ u ∈ l, u.oneCell' = true) (hg : w.heap[g2]? = some (.cells l.toArray T (0, 0))) (hn : n ≤ 1000000) (hB : B ≤ w.heap.size)
    (hK : ∀ a' c' w', Gr T s B w' a' (n + 1) c' (upd f n l) → Frm (bkG a) w w' → (∀ x ∈ bkG a', x ∈ bkG a ∨ w.heap.size ≤ x) → wpList Try.prog ops Q rest (x.put o.dst (.slice a' (n + 1 : Nat) c')) w') : wpList Try.prog ops Q (o :: rest) x w := by
  refine wpList_plain hgd fun K hK' => ?_
  obtain ⟨a', c', w', hrun, h1, h2, h3⟩ := run_gr hT hi0 hz hs hby h hl h1 hg hn hB o.type
  unfold Oper.wp
  simp [execOp, ho, resolve, invoke, builtin, hd, hr, hrun, Result.andThen]
  exact hK' _ _ (hK _ _ _ h1 h2 h3)
/-- An element's address. -/
theorem ix_gr {TS : TypeId} {z : Value} {by_ g k : Nat} (hT : Try.prog.underlying TS = some (.slice T)) (hi0 : (Try.prog.info? T).map (fun i => (i.zero, i.size, i.bytes)) = some (some z, s, by_)) (hk : k < n) (w : World) :
    (Instr.indexAt TS (.slice (some ⟨g, 0, none⟩) n c) (.int .i64 (k : Int))).run Try.prog w = .ok (.pointer (some ⟨g, k * s, none⟩)) w := by
  obtain ⟨i0, hi, hz0, hz1, hz2⟩ := info_parts hi0
  have h1 : (k : Int) < (n : Int) := by omega
  simp [go_sem, hT, h1, sizeOf, typeInfo, hi, hz1]
end
#print axioms run_gr
end Go.Proofs.Ytieccmmnfnpcoaa
