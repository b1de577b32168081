/- Arguments that came in: slices of arrays of four numbers. -/
import Derived.Test.YtbhnijkphkkalaaArgs
import Derived.Deep.Slices
import Derived.Deep.Fields
import Derived.Lib.SmallJoins
import Derived.Laws.IdiomArrays
import Derived.ChangeSame
namespace Go.Proofs.Ytbhnijkphkkalaa
open Go.ChangeShapes Go.WideShapes Go.ChangeAt Go.RowKit Go.Joins Go.Deep

/-- What is known of a slice of arrays of four words that came in. -/
def IsArrs (w : World) (a : Option Addr) (len : Nat) (xs : List (List Int)) : Prop :=
  xs.length = len ∧ (∀ l ∈ xs, l.length = 4 ∧ ∀ x ∈ l, (Lit.int .u64 x).wf = true) ∧ (0 < len → ∃ b o, a = some ⟨b, o, none⟩ ∧ b < w.heap.size ∧ ∀ (i : Nat) (l : List Int), xs[i]? = some l → ∀ (j : Nat) (x : Int), l[j]? = some x → w.cell? ⟨b, o + i * 4 + j, none⟩ = some (.int .u64 x))

theorem list_of {α : Type} {P : Nat → α → Prop} : ∀ {n : Nat}, (∀ i, i < n → ∃ y, P i y) → ∃ xs : List α, xs.length = n ∧ ∀ i y, xs[i]? = some y → P i y
  | 0, _ => ⟨[], rfl, fun i y hy => by simp at hy⟩
  | n + 1, h => by
    obtain ⟨xs, hxl, hx⟩ := list_of (n := n) (fun i hi => h i (by omega))
    obtain ⟨y, hy⟩ := h n (by omega)
    refine ⟨xs ++ [y], by simp [hxl], fun i z hz => ?_⟩
    rw [List.getElem?_append] at hz
    split at hz
    · exact hx i z hz
    · rename_i hge
      have : i = n := by
        have := (List.getElem?_eq_some_iff.1 hz).1
        simp at this; omega
      subst this
      rw [hxl, Nat.sub_self] at hz
      cases hz
      exact hy

set_option maxRecDepth 100000 in
theorem arr_trod {H : Type} {enc : TypeId × Value → H} {W : World} {base n : Nat} {spare : Nat → Bool} {held : Bool} {cs : List Value} {x : DataW H × List MemPlace}
    (hl : cs.length = 4) (h : DataW.trod enc Try.prog W base spare held n 78 cs = some x) : ∃ l : List Int, l.length = 4 ∧ (∀ y ∈ l, (Lit.int .u64 y).wf = true) ∧ cs = l.map (Value.int .u64) := by
  match cs, hl with
  | [v0, v1, v2, v3], _ =>
    obtain ⟨y0, y1, y2, y3, m, _, t0, t1, t2, t3⟩ := trod_array4 Try.underlying78 (show Try.prog.cellsOf 22 = 1 by kernel_rfl) h
    obtain ⟨a0, e0, _, w0⟩ := DataW.trod_int Try.underlying22 t0
    obtain ⟨a1, e1, _, w1⟩ := DataW.trod_int Try.underlying22 t1
    obtain ⟨a2, e2, _, w2⟩ := DataW.trod_int Try.underlying22 t2
    obtain ⟨a3, e3, _, w3⟩ := DataW.trod_int Try.underlying22 t3
    simp at e0 e1 e2 e3
    exact ⟨[a0, a1, a2, a3], rfl, by simp [w0, w1, w2, w3], by simp [e0, e1, e2, e3]⟩

set_option maxRecDepth 100000 in
theorem isArrs_of {H : Type} {enc : TypeId × Value → H} {W : World} {a : Option Addr} {len cap : Nat} {d : DataW H} {p : List MemPlace}
    (h0 : DataW.Trod enc Try.prog W 0 (fun _ => true) true 75 (.slice a len cap) d p) : ∃ xs, IsArrs W a len xs := by
  obtain ⟨fuel, hf⟩ := h0
  have hC : Try.prog.cellsOf 78 = 4 := by kernel_rfl
  rcases open_slice Try.underlying75 hf with ⟨hcs, _⟩ | ⟨x, l, c, m, n, D, Pl, hcs, _, hl, hm, hmm, _, hi⟩
  · simp [Value.cells] at hcs
    obtain ⟨rfl, rfl, rfl⟩ := hcs
    exact ⟨[], rfl, fun l hl => by simp at hl, fun h => absurd h (by omega)⟩
  · simp [Value.cells] at hcs
    obtain ⟨rfl, rfl, rfl⟩ := hcs
    have hm' : m = cap := by simpa using hmm
    rw [hC] at hi
    have hat : ∀ i, i < len → ∃ y : List Int, (y.length = 4 ∧ ∀ z ∈ y, (Lit.int .u64 z).wf = true) ∧ ∀ (j : Nat) (u : Int), y[j]? = some u → W.cell? (x.add (i * 4 + j)) = some (.int .u64 u) := by
      intro i hil
      obtain ⟨cs, hc, ht⟩ := hi i (by omega)
      obtain ⟨_, hcl, hat⟩ := World.cells?_some hc
      obtain ⟨y, hy4, hyw, rfl⟩ := arr_trod (by simpa using hcl) ht
      refine ⟨y, ⟨hy4, hyw⟩, fun j u hu => ?_⟩
      have hj : j < 4 := by have := (List.getElem?_eq_some_iff.1 hu).1; omega
      rw [← add_add, hat j hj]; rw [List.getElem?_map, hu]; rfl
    obtain ⟨xs, hxl, hx⟩ := list_of hat
    refine ⟨xs, hxl, fun l hl => ?_, fun hpos => ?_⟩
    · obtain ⟨i, hi⟩ := List.getElem?_of_mem hl
      exact (hx i l hi).1
    obtain ⟨y0, hy0⟩ : ∃ y, xs[0]? = some y := ⟨_, List.getElem?_eq_getElem (by omega)⟩
    have h40 := (hx 0 y0 hy0).1.1
    obtain ⟨z0, hz0⟩ : ∃ z, y0[0]? = some z := ⟨_, List.getElem?_eq_getElem (by omega)⟩
    have hc0 := (hx 0 y0 hy0).2 0 _ hz0
    have hx' : x.add (0 * 4 + 0) = x := by simp [Addr.add]
    rw [hx'] at hc0
    have hs := spot_of_cell hc0
    have hb := World.block_lt_of_cell? W _ hc0
    obtain ⟨b, o, sp⟩ := x
    simp only [Addr.mk.injEq, true_and] at hs
    subst hs
    have hadd : ∀ i, (⟨b, o, none⟩ : Addr).add i = ⟨b, o + i, none⟩ := by
      intro i
      by_cases h0 : i = 0
      · subst h0; simp [Addr.add]
      · simp [Addr.add, h0]
    refine ⟨b, o, rfl, hb, fun i y hy j u hu => ?_⟩
    have h0 := (hx i y hy).2 j u hu
    rw [hadd] at h0
    rw [Nat.add_assoc]; exact h0
end Go.Proofs.Ytbhnijkphkkalaa
