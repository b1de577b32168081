/- Lists of alarms and their cells: plain facts. No Go text, no dump. -/
import Derived.Test.YtbhnijkphkkalaaBase
import Derived.Laws.IdiomCopy
import Derived.Deep.AppendSrc
namespace Go.Proofs.Ytbhnijkphkkalaa
open Go.ChangeShapes Go.WideShapes Go.ChangeAt Go.RowKit

/-- An alarm: its ID, its tick. -/
abbrev Al := Int × Int
/-- The cells of a list of alarms. -/
def flat (l : List Al) : List Value := l.flatMap (fun a => [Value.int .i64 a.1, Value.int .i64 a.2])

theorem flat_nil : flat [] = [] := rfl
theorem flat_cons (a : Al) (l : List Al) : flat (a :: l) = Value.int .i64 a.1 :: Value.int .i64 a.2 :: flat l := rfl
theorem flat_append (l m : List Al) : flat (l ++ m) = flat l ++ flat m := by unfold flat; simp
theorem flat_length (l : List Al) : (flat l).length = l.length * 2 := by
  induction l with
  | nil => rfl
  | cons a l ih => rw [flat_cons]; simp [ih]; omega
theorem flat_take : ∀ (l : List Al) (i : Nat), flat (l.take i) = (flat l).take (i * 2)
  | l, 0 => by simp [flat]
  | [], i + 1 => by simp [flat]
  | a :: l, i + 1 => by
    rw [List.take_succ_cons, flat_cons, flat_cons, flat_take l i, show (i + 1) * 2 = i * 2 + 1 + 1 by omega]; rfl
theorem flat_drop : ∀ (l : List Al) (i : Nat), flat (l.drop i) = (flat l).drop (i * 2)
  | l, 0 => by simp
  | [], i + 1 => by simp [flat]
  | a :: l, i + 1 => by
    rw [List.drop_succ_cons, flat_cons, flat_drop l i, show (i + 1) * 2 = i * 2 + 1 + 1 by omega]; rfl
theorem flat_get0 : ∀ {l : List Al} {i : Nat} {a : Al}, l[i]? = some a → (flat l)[i * 2]? = some (Value.int .i64 a.1)
  | b :: l, 0, a, h => by cases h; rfl
  | b :: l, i + 1, a, h => by
    have := flat_get0 (l := l) (i := i) (by simpa using h)
    rw [flat_cons, show (i + 1) * 2 = i * 2 + 1 + 1 by omega]; simpa using this
theorem flat_get1 : ∀ {l : List Al} {i : Nat} {a : Al}, l[i]? = some a → (flat l)[i * 2 + 1]? = some (Value.int .i64 a.2)
  | b :: l, 0, a, h => by cases h; rfl
  | b :: l, i + 1, a, h => by
    have := flat_get1 (l := l) (i := i) (by simpa using h)
    rw [flat_cons, show (i + 1) * 2 + 1 = i * 2 + 1 + 1 + 1 by omega]; simpa using this
theorem flat_one (l : List Al) : ∀ u ∈ flat l, u.oneCell' = true := by
  intro u hu
  unfold flat at hu
  obtain ⟨a, _, ha⟩ := List.mem_flatMap.1 hu
  simp at ha
  rcases ha with rfl | rfl <;> rfl

/-- An array with a list written over it from a place on. -/
def wr (cs : Array Value) : Nat → List Value → Array Value
  | _, [] => cs
  | o, v :: r => wr (cs.setIfInBounds o v) (o + 1) r
theorem wr_size : ∀ (vs : List Value) (o : Nat) (cs : Array Value), (wr cs o vs).size = cs.size
  | [], _, _ => rfl
  | v :: r, o, cs => by rw [wr, wr_size r]; simp
theorem wr_get : ∀ (vs : List Value) (o : Nat) (cs : Array Value) (j : Nat), o + vs.length ≤ cs.size →
    (wr cs o vs)[j]? = if o ≤ j ∧ j < o + vs.length then vs[j - o]? else cs[j]?
  | [], o, cs, j, _ => by rw [if_neg (by rintro ⟨h1, h2⟩; simp at h2; omega)]; rfl
  | v :: r, o, cs, j, h => by
    simp only [List.length_cons] at h
    rw [wr, wr_get r (o + 1) _ j (by simp; omega)]
    by_cases h1 : j = o
    · subst h1
      rw [if_neg (by omega), if_pos (by simp), Nat.sub_self, Array.getElem?_setIfInBounds, if_pos rfl, if_pos (by omega)]; rfl
    · by_cases h2 : o + 1 ≤ j ∧ j < o + 1 + r.length
      · rw [if_pos h2, if_pos (by simp only [List.length_cons]; omega), show j - o = (j - (o + 1)) + 1 by omega]; rfl
      · rw [if_neg h2, if_neg (by simp only [List.length_cons]; omega), Array.getElem?_setIfInBounds, if_neg (by omega)]

theorem heap_setCells_at (b : Nat) {t : TypeId} {f : Nat × Nat} : ∀ (vs : List Value) (o : Nat) (w : World) (cs : Array Value), w.heap[b]? = some (.cells cs t f) →
    (w.setCells b o vs).heap[b]? = some (.cells (wr cs o vs) t f)
  | [], _, _, _, h => h
  | v :: r, o, w, cs, h => by rw [World.setCells, wr]; exact heap_setCells_at b r (o + 1) _ _ (heap_setCell_at v h)
theorem Frm.setCells {D : List Nat} {a : World} (b : Nat) (hp : b ∈ D ∨ a.heap.size ≤ b) : ∀ (vs : List Value) (o : Nat) (w : World), Frm D a w → Frm D a (w.setCells b o vs)
  | [], _, _, h => h
  | v :: r, o, w, h => by rw [World.setCells]; exact Frm.setCells b hp r (o + 1) _ (h.setCell ⟨b, o, none⟩ v hp)
theorem heap_setCells_far {w : World} {k : Nat} {o : Obj} (b : Nat) (hb : b ≠ k) (h : w.heap[k]? = some o) (vs : List Value) (i : Nat) : (w.setCells b i vs).heap[k]? = some o := by
  rw [(Frm.setCells (D := [b]) b (.inl (by simp)) vs i w (Frm.refl _ _)).block k (lt_of_heap h) (by simpa using hb.symm)]; exact h

section
variable {P : Program}
/-- copy of elements of two cells. -/
theorem run_copy2 (w : World) (dT sT ty elem : TypeId) (b o dLen dCap : Nat) (a : Addr) (sLen sCap : Nat) (cs : List Value)
    (hu : P.underlying dT = some (.slice elem)) (hs : (P.info? elem).map (·.size) = some 2) (n : Nat) (hn' : Nat.min sLen dLen = n) (hn : cs.length = n * 2)
    (hsrc : ∀ j v, cs[j]? = some v → w.cell? (a.add j) = some v) (hc : ∀ j, j < cs.length → (w.cell? ⟨b, o + j, none⟩).isSome = true) (hf : ∀ j, j < cs.length → w.frozen? ⟨b, o + j, none⟩ = false) (h1 : ∀ v ∈ cs, v.oneCell' = true) :
    (Builtin.copy_ #[dT, sT] ty #[.slice (some ⟨b, o, none⟩) dLen dCap, .slice (some a) sLen sCap]).run P w = .ok (goInt n) (w.setCells b o cs) := by
  have hl := run_loadCells_list (P := P) w a cs hsrc
  have hst := run_storeCells_cells (P := P) b o cs 0 w (by simpa using hc) (by simpa using hf) h1
  cases hq : P.info? elem with
  | none => simp [hq] at hs
  | some i =>
    have hi : i.size = 2 := by simpa [hq] using hs
    simp [Builtin.copy_, run_underlying hu, Builtin.lenOf, Builtin.firstCells, sizeOf, typeInfo, hq, hi, hn', ← hn, hl, hst]
/-- clear of elements of two cells. -/
theorem run_clear2 (w : World) (t e ty : TypeId) (ht : P.underlying t = some (.slice e)) (hv : ∀ w, (zeroValue e).run P w = .ok (.agg #[.int .i64 0, .int .i64 0]) w) (b o n c : Nat) (hn : 0 < n)
    (hc : ∀ j, j < n * 2 → (w.cell? ⟨b, o + j, none⟩).isSome = true) (hf : ∀ j, j < n * 2 → w.frozen? ⟨b, o + j, none⟩ = false) :
    (Builtin.clear_ #[t] ty #[.slice (some ⟨b, o, none⟩) n c]).run P w = .ok (.tuple #[]) (w.setCells b o (List.replicate (n * 2) (.int .i64 0))) := by
  have hzc : (Builtin.zeroCells (Value.agg #[.int .i64 0, .int .i64 0]).cells n).toList = List.replicate (n * 2) (.int .i64 0) := by
    simp [Builtin.zeroCells, Value.cells]
    apply List.ext_getElem
    · simp
    · intro i h1 h2
      simp
      have : i % 2 = 0 ∨ i % 2 = 1 := by omega
      rcases this with h | h <;> simp [h]
  have hst := run_storeCells_cells (P := P) b o (List.replicate (n * 2) (.int .i64 0)) 0 w (by simpa using hc) (by simpa using hf) (by intro v hv'; rw [List.eq_of_mem_replicate hv']; rfl)
  simp only [Nat.add_zero] at hst
  obtain ⟨m, rfl⟩ : ∃ m, n = m + 1 := ⟨n - 1, by omega⟩
  simp [Builtin.clear_, run_underlying ht, hv, hzc, hst]
end
#print axioms wr_get
end Go.Proofs.Ytbhnijkphkkalaa
