/- What a listed package-level variable gives the walks: tables of bools, of bools in rows, of strings. No type of the program in it. -/
import Derived.Test.YthnmjildeenecaaDoorBase
import Derived.LaidMore
import Derived.OpenShut
namespace Go.Proofs.YthnmjildeenecaaDoor
open Go.ChangeShapes Go.WideShapes Go.ChangeAt Go.RowKit

theorem one_at {α : Type} {cs : List α} {i k : Nat} {c : α} (hk : k = 1) (h : (cs.drop (i * k)).take k = [c]) : cs[i]? = some c := by
  subst hk
  have := congrArg (fun l : List α => l[0]?) h
  simpa [List.getElem?_take, List.getElem?_drop] using this

section
variable {H : Type} {enc : TypeId × Value → H} {P : Program} {w : World} {base : Nat} {sp : Nat → Bool} {held : Bool} {fuel : Nat} {t e : TypeId} {n : Nat} {cs : List Value} {q : List MemPlace}
/-- An array of bools. -/
theorem bools_of_trod {bs : List Bool} (ht : P.underlying t = some (.array n e)) (he : P.underlying e = some .bool) (hc : P.cellsOf e = 1)
    (h : DataW.trod enc P w base sp held fuel t cs = some (.agg (bs.map fun b => DataW.lit (.bool b)), q)) : ∀ (i : Nat) (b : Bool), bs[i]? = some b → cs[i]? = some (Value.bool b) := by
  obtain ⟨xs, m, rfl, hx, _, hn, hel⟩ := DataW.trod_array ht h
  simp only [Prod.mk.injEq, DataW.agg.injEq] at hx
  intro i b hb
  have hm : (bs.map fun b => (DataW.lit (.bool b) : DataW H))[i]? = some (.lit (.bool b)) := by rw [List.getElem?_map, hb]; rfl
  rw [hx.1, List.getElem?_map] at hm
  cases hy : xs[i]? with
  | none => rw [hy] at hm; cases hm
  | some y =>
    rw [hy] at hm
    have hi : i < n := by rw [← hn]; exact (List.getElem?_eq_some_iff.1 hy).1
    have h1 := hel i hi
    rw [hy] at h1
    obtain ⟨b', hb', rfl⟩ := DataW.trod_bool he h1
    simp only [Option.map_some, Option.some.injEq, DataW.lit.injEq, Lit.bool.injEq] at hm
    subst hm
    exact one_at hc hb'
/-- An array of strings. -/
theorem strings_of_trod {ss : List (List UInt8)} (ht : P.underlying t = some (.array n e)) (he : P.underlying e = some .string) (hc : P.cellsOf e = 1)
    (h : DataW.trod enc P w base sp held fuel t cs = some (.agg (ss.map fun s => DataW.lit (.string s)), q)) : ∀ (i : Nat) (s : List UInt8), ss[i]? = some s → cs[i]? = some (Value.string ⟨s.toArray⟩) := by
  obtain ⟨xs, m, rfl, hx, _, hn, hel⟩ := DataW.trod_array ht h
  simp only [Prod.mk.injEq, DataW.agg.injEq] at hx
  intro i s hs
  have hm : (ss.map fun s => (DataW.lit (.string s) : DataW H))[i]? = some (.lit (.string s)) := by rw [List.getElem?_map, hs]; rfl
  rw [hx.1, List.getElem?_map] at hm
  cases hy : xs[i]? with
  | none => rw [hy] at hm; cases hm
  | some y =>
    rw [hy] at hm
    have hi : i < n := by rw [← hn]; exact (List.getElem?_eq_some_iff.1 hy).1
    have h1 := hel i hi
    rw [hy] at h1
    obtain ⟨s', hs', rfl, _⟩ := DataW.trod_string he h1
    simp only [Option.map_some, Option.some.injEq, DataW.lit.injEq, Lit.string.injEq] at hm
    subst hm
    rw [one_at hc hs']
/-- An array of rows of bools: e is a row's type, of k cells, b a bool's. -/
theorem rows_of_trod {b : TypeId} {k : Nat} {rs : List (List Bool)} (ht : P.underlying t = some (.array n e)) (he : P.underlying e = some (.array k b)) (hb : P.underlying b = some .bool) (hcb : P.cellsOf b = 1) (hce : P.cellsOf e = k)
    (h : DataW.trod enc P w base sp held fuel t cs = some (.agg (rs.map fun r => DataW.agg (r.map fun b => DataW.lit (.bool b))), q)) : ∀ (i j : Nat) (r : List Bool) (x : Bool), rs[i]? = some r → r[j]? = some x → j < k → cs[i * k + j]? = some (Value.bool x) := by
  obtain ⟨xs, m, rfl, hx, _, hn, hel⟩ := DataW.trod_array ht h
  simp only [Prod.mk.injEq, DataW.agg.injEq] at hx
  intro i j r x hr hj hjk
  have hm : (rs.map fun r => (DataW.agg (r.map fun b => DataW.lit (.bool b)) : DataW H))[i]? = some (DataW.agg (r.map fun b => DataW.lit (.bool b))) := by rw [List.getElem?_map, hr]; rfl
  rw [hx.1, List.getElem?_map] at hm
  cases hy : xs[i]? with
  | none => rw [hy] at hm; cases hm
  | some y =>
    rw [hy] at hm
    have hi : i < n := by rw [← hn]; exact (List.getElem?_eq_some_iff.1 hy).1
    have h1 := hel i hi
    rw [hy, hce] at h1
    simp only [Option.map_some, Option.some.injEq] at hm
    obtain ⟨d, q'⟩ := y
    subst hm
    have := bools_of_trod he hb hcb h1 j x hj
    rw [List.getElem?_take, if_pos hjk, List.getElem?_drop] at this
    exact this
end
#print axioms rows_of_trod
end Go.Proofs.YthnmjildeenecaaDoor
