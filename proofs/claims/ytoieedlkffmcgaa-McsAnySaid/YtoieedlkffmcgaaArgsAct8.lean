/- Arguments that came in: slices of acts. -/
import Derived.Test.YtoieedlkffmcgaaArgs
import Derived.Deep.Slices
import Derived.Deep.Fields
import Derived.Lib.SmallJoins
import Derived.ChangeSame
namespace Go.Proofs.Ytoieedlkffmcgaa
open Go.ChangeShapes Go.WideShapes Go.ChangeAt Go.RowKit Go.Joins Go.Deep

/-- An act: what, a, b. -/
structure ActV where
  k : Int
  a : Int
  b : Int
def ActAt (w : World) (b o : Nat) (x : ActV) : Prop :=
  w.cell? ⟨b, o, none⟩ = some (.int .i64 x.k) ∧ w.cell? ⟨b, o + 1, none⟩ = some (.int .i64 x.a) ∧ w.cell? ⟨b, o + 2, none⟩ = some (.int .i64 x.b)
theorem ActAt.frm {D : List Nat} {w w' : World} {b o : Nat} {x : ActV} (h : ActAt w b o x) (hf : Frm D w w') (hb : b < w.heap.size) (hd : b ∉ D) : ActAt w' b o x := by
  obtain ⟨h0, h1, h2⟩ := h
  exact ⟨(hf.cell hb hd).trans h0, (hf.cell hb hd).trans h1, (hf.cell hb hd).trans h2⟩
/-- What is known of a slice of acts that came in. -/
def IsActs (w : World) (a : Option Addr) (len : Nat) (xs : List ActV) : Prop :=
  xs.length = len ∧ (0 < len → ∃ b o, a = some ⟨b, o, none⟩ ∧ b < w.heap.size ∧ ∀ i x, xs[i]? = some x → ActAt w b (o + i * 3) x)

theorem list_of {α : Type} {P : Nat → α → Prop} : ∀ {n : Nat}, (∀ i, i < n → ∃ y, P i y) → ∃ xs : List α, xs.length = n ∧ ∀ i y, xs[i]? = some y → P i y
  | 0, _ => ⟨[], rfl, fun i y hy => by simp at hy⟩
  | n + 1, h => by
    obtain ⟨xs, hxl, hx⟩ := list_of (n := n) (fun i hi => h i (by omega))
    obtain ⟨y, hy⟩ := h n (by omega)
    refine ⟨xs ++ [y], by simp [hxl], fun i z hz => ?_⟩
    rw [List.getElem?_append] at hz
    split at hz
    · exact hx i z hz
    · rename_i hge
      have : i = n := by
        have := (List.getElem?_eq_some_iff.1 hz).1
        simp at this; omega
      subst this
      rw [hxl, Nat.sub_self] at hz
      cases hz
      exact hy

set_option maxRecDepth 100000 in
theorem act_trod {H : Type} {enc : TypeId × Value → H} {W : World} {base n : Nat} {spare : Nat → Bool} {held : Bool} {cs : List Value} {x : DataW H × List MemPlace}
    (h : DataW.trod enc Try.prog W base spare held n 50 cs = some x) : ∃ y : ActV, cs = [.int .i64 y.k, .int .i64 y.a, .int .i64 y.b] := by
  obtain ⟨y0, y1, y2, m, _, hl, t0, t1, t2⟩ := trod_struct3 Try.underlying50 h
  have hC : Try.prog.cellsOf 50 = 3 := by kernel_rfl
  have c3 : Try.prog.cellsOf 3 = 1 := by kernel_rfl
  rw [hC] at hl
  match cs, hl with
  | [v0, v1, v2], _ =>
    simp only [c3] at t0 t1 t2
    obtain ⟨k, e0, _, _⟩ := DataW.trod_int Try.underlying3 t0
    obtain ⟨a1, e1, _, _⟩ := DataW.trod_int Try.underlying3 t1
    obtain ⟨a2, e2, _, _⟩ := DataW.trod_int Try.underlying3 t2
    simp at e0 e1 e2
    exact ⟨⟨k, a1, a2⟩, by simp [e0, e1, e2]⟩

set_option maxRecDepth 100000 in
theorem isActs_of {H : Type} {enc : TypeId × Value → H} {W : World} {a : Option Addr} {len cap : Nat} {d : DataW H} {p : List MemPlace}
    (h0 : DataW.Trod enc Try.prog W 0 (fun _ => true) true 48 (.slice a len cap) d p) : ∃ xs, IsActs W a len xs := by
  obtain ⟨fuel, hf⟩ := h0
  have hC : Try.prog.cellsOf 50 = 3 := by kernel_rfl
  rcases open_slice Try.underlying48 hf with ⟨hcs, _⟩ | ⟨x, l, c, m, n, D, Pl, hcs, _, hl, hm, hmm, _, hi⟩
  · simp [Value.cells] at hcs
    obtain ⟨rfl, rfl, rfl⟩ := hcs
    exact ⟨[], rfl, fun h => absurd h (by omega)⟩
  · simp [Value.cells] at hcs
    obtain ⟨rfl, rfl, rfl⟩ := hcs
    have hm' : m = cap := by simpa using hmm
    rw [hC] at hi
    have hat : ∀ i, i < len → ∃ y : ActV, ∀ j u, ([.int .i64 y.k, .int .i64 y.a, .int .i64 y.b] : List Value)[j]? = some u → W.cell? (x.add (i * 3 + j)) = some u := by
      intro i hil
      obtain ⟨cs, hc, ht⟩ := hi i (by omega)
      obtain ⟨_, hcl, hat⟩ := World.cells?_some hc
      obtain ⟨y, rfl⟩ := act_trod ht
      refine ⟨y, fun j u hu => ?_⟩
      have hj : j < 3 := (List.getElem?_eq_some_iff.1 hu).1
      rw [← add_add, hat j hj]; exact hu
    obtain ⟨xs, hxl, hx⟩ := list_of hat
    refine ⟨xs, hxl, fun hpos => ?_⟩
    obtain ⟨y0, hy0⟩ : ∃ y, xs[0]? = some y := ⟨_, List.getElem?_eq_getElem (by omega)⟩
    have hc0 := hx 0 y0 hy0 0 _ rfl
    have hx' : x.add (0 * 3 + 0) = x := by simp [Addr.add]
    rw [hx'] at hc0
    have hs := spot_of_cell hc0
    have hb := World.block_lt_of_cell? W _ hc0
    obtain ⟨b, o, sp⟩ := x
    simp only [Addr.mk.injEq, true_and] at hs
    subst hs
    have hadd : ∀ i, (⟨b, o, none⟩ : Addr).add i = ⟨b, o + i, none⟩ := by
      intro i
      by_cases h0 : i = 0
      · subst h0; simp [Addr.add]
      · simp [Addr.add, h0]
    refine ⟨b, o, rfl, hb, fun i y hy => ?_⟩
    have h0 := hx i y hy 0 _ rfl
    have h1 := hx i y hy 1 _ rfl
    have h2 := hx i y hy 2 _ rfl
    rw [hadd] at h0 h1 h2
    exact ⟨h0, by rw [Nat.add_assoc]; exact h1, by rw [Nat.add_assoc]; exact h2⟩
end Go.Proofs.Ytoieedlkffmcgaa
