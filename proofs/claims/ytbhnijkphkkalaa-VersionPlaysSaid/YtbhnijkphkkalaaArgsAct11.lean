/- Arguments that came in: slices of acts, each with a list. -/
import Derived.Test.YtbhnijkphkkalaaArgs
import Derived.Test.YtbhnijkphkkalaaLi
import Derived.Deep.Slices
import Derived.Deep.Fields
import Derived.Lib.SmallJoins
import Derived.ChangeSame
namespace Go.Proofs.Ytbhnijkphkkalaa
open Go.ChangeShapes Go.WideShapes Go.ChangeAt Go.RowKit Go.Joins Go.Deep

/-- An act: what, at, from, many, tries, and its list. -/
structure ActV where
  k : Int
  a : Int
  f : Int
  m : Int
  t : Int
  la : Option Addr
  ln : Nat
  lc : Nat
def ActV.cells (x : ActV) : List Value := [.int .i64 x.k, .int .i64 x.a, .int .i64 x.f, .int .i64 x.m, .int .i64 x.t, .slice x.la x.ln x.lc]
/-- Its list, and what its numbers keep to. -/
def ActOk (w : World) (x : ActV) : Prop := (Lit.int .i64 x.k).wf = true ∧ (Lit.int .i64 x.a).wf = true ∧ (Lit.int .i64 x.f).wf = true ∧ (Lit.int .i64 x.m).wf = true ∧ (Lit.int .i64 x.t).wf = true ∧ ∃ l lb lo, Li .u64 w x.la x.ln x.lc lb lo l ∧ ∀ y ∈ l, (Lit.int .u64 y).wf = true
/-- What is known of a slice of acts that came in. -/
def IsActs (w : World) (a : Option Addr) (len : Nat) (xs : List ActV) : Prop :=
  xs.length = len ∧ (∀ x ∈ xs, ActOk w x) ∧ (0 < len → ∃ b o, a = some ⟨b, o, none⟩ ∧ b < w.heap.size ∧ ∀ (i : Nat) (x : ActV), xs[i]? = some x → ∀ (j : Nat) (u : Value), x.cells[j]? = some u → w.cell? ⟨b, o + i * 6 + j, none⟩ = some u)

theorem acts_list {α : Type} {P : Nat → α → Prop} : ∀ {n : Nat}, (∀ i, i < n → ∃ y, P i y) → ∃ xs : List α, xs.length = n ∧ ∀ i y, xs[i]? = some y → P i y
  | 0, _ => ⟨[], rfl, fun i y hy => by simp at hy⟩
  | n + 1, h => by
    obtain ⟨xs, hxl, hx⟩ := acts_list (n := n) (fun i hi => h i (by omega))
    obtain ⟨y, hy⟩ := h n (by omega)
    refine ⟨xs ++ [y], by simp [hxl], fun i z hz => ?_⟩
    rw [List.getElem?_append] at hz
    split at hz
    · exact hx i z hz
    · rename_i hge
      have : i = n := by
        have := (List.getElem?_eq_some_iff.1 hz).1
        simp at this; omega
      subst this
      rw [hxl, Nat.sub_self] at hz
      cases hz
      exact hy


set_option maxRecDepth 100000 in
theorem act_trod {H : Type} {enc : TypeId × Value → H} {W : World} {base n : Nat} {held : Bool} {cs : List Value} {x : DataW H × List MemPlace}
    (h : DataW.trod enc Try.prog W base (fun _ => true) held n 44 cs = some x) : ∃ y : ActV, cs = y.cells ∧ ActOk W y := by
  obtain ⟨xs, m, _, _, hl, hxl, hg⟩ := DataW.trod_struct Try.underlying44 h
  have hC : Try.prog.cellsOf 44 = 6 := by kernel_rfl
  have ci : Try.prog.cellsOf 3 = 1 := by kernel_rfl
  have cl : Try.prog.cellsOf 23 = 1 := by kernel_rfl
  rw [hC] at hl
  match cs, hl with
  | [v0, v1, v2, v3, v4, v5], _ =>
    match xs, hxl with
    | [y0, y1, y2, y3, y4, y5], _ =>
      have t0 : DataW.trod enc Try.prog W base (fun _ => true) held m 3 (([v0, v1, v2, v3, v4, v5].drop 0).take (Try.prog.cellsOf 3)) = some y0 := hg 0 _ rfl
      have t1 : DataW.trod enc Try.prog W base (fun _ => true) held m 3 (([v0, v1, v2, v3, v4, v5].drop 1).take (Try.prog.cellsOf 3)) = some y1 := hg 1 _ rfl
      have t2 : DataW.trod enc Try.prog W base (fun _ => true) held m 3 (([v0, v1, v2, v3, v4, v5].drop 2).take (Try.prog.cellsOf 3)) = some y2 := hg 2 _ rfl
      have t3 : DataW.trod enc Try.prog W base (fun _ => true) held m 3 (([v0, v1, v2, v3, v4, v5].drop 3).take (Try.prog.cellsOf 3)) = some y3 := hg 3 _ rfl
      have t4 : DataW.trod enc Try.prog W base (fun _ => true) held m 3 (([v0, v1, v2, v3, v4, v5].drop 4).take (Try.prog.cellsOf 3)) = some y4 := hg 4 _ rfl
      have t5 : DataW.trod enc Try.prog W base (fun _ => true) held m 23 (([v0, v1, v2, v3, v4, v5].drop 5).take (Try.prog.cellsOf 23)) = some y5 := hg 5 _ rfl
      simp only [ci, cl] at t0 t1 t2 t3 t4 t5
      obtain ⟨a0, e0, _, w0⟩ := DataW.trod_int Try.underlying3 t0
      obtain ⟨a1, e1, _, w1⟩ := DataW.trod_int Try.underlying3 t1
      obtain ⟨a2, e2, _, w2⟩ := DataW.trod_int Try.underlying3 t2
      obtain ⟨a3, e3, _, w3⟩ := DataW.trod_int Try.underlying3 t3
      obtain ⟨a4, e4, _, w4⟩ := DataW.trod_int Try.underlying3 t4
      have h5 : ∃ a len cap zs, v5 = .slice a len cap ∧ IsRow .u64 W a len cap zs := by
        rcases open_ints Try.underlying23 Try.underlying22 (by kernel_rfl) t5 with ⟨hcs, _⟩ | ⟨x, l, c, zs, hcs, _, hl, hm, hz, _, hcell, hwz⟩
        · simp at hcs
          exact ⟨none, 0, 0, [], hcs, .inl ⟨rfl, rfl, rfl, rfl⟩⟩
        · simp at hcs
          exact ⟨_, _, _, zs, hcs, .inr ⟨_, rfl, hl, hm, by simpa using hz, hcell, hwz⟩⟩
      obtain ⟨a5, n5, c5, z5, e5, hz5⟩ := h5
      obtain ⟨lb, lo, hL, hLw, _⟩ := li_of_row hz5
      simp at e0 e1 e2 e3 e4
      exact ⟨⟨a0, a1, a2, a3, a4, a5, n5, c5⟩, by simp [ActV.cells, e0, e1, e2, e3, e4, e5], w0, w1, w2, w3, w4, _, lb, lo, hL, hLw⟩

set_option maxRecDepth 100000 in
theorem isActs_of {H : Type} {enc : TypeId × Value → H} {W : World} {a : Option Addr} {len cap : Nat} {d : DataW H} {p : List MemPlace}
    (h0 : DataW.Trod enc Try.prog W 0 (fun _ => true) true 37 (.slice a len cap) d p) : ∃ xs, IsActs W a len xs := by
  obtain ⟨fuel, hf⟩ := h0
  have hC : Try.prog.cellsOf 44 = 6 := by kernel_rfl
  rcases open_slice Try.underlying37 hf with ⟨hcs, _⟩ | ⟨x, l, c, m, n, D, Pl, hcs, _, hl, hm, hmm, _, hi⟩
  · simp [Value.cells] at hcs
    obtain ⟨rfl, rfl, rfl⟩ := hcs
    exact ⟨[], rfl, fun x hx => by simp at hx, fun h => absurd h (by omega)⟩
  · simp [Value.cells] at hcs
    obtain ⟨rfl, rfl, rfl⟩ := hcs
    have hm' : m = cap := by simpa using hmm
    rw [hC] at hi
    have hat : ∀ i, i < len → ∃ y : ActV, ActOk W y ∧ ∀ (j : Nat) (u : Value), y.cells[j]? = some u → W.cell? (x.add (i * 6 + j)) = some u := by
      intro i hil
      obtain ⟨cs, hc, ht⟩ := hi i (by omega)
      obtain ⟨_, hcl, hat⟩ := World.cells?_some hc
      obtain ⟨y, rfl, hy⟩ := act_trod ht
      refine ⟨y, hy, fun j u hu => ?_⟩
      have hj : j < 6 := (List.getElem?_eq_some_iff.1 hu).1
      rw [← add_add, hat j hj]; exact hu
    obtain ⟨xs, hxl, hx⟩ := acts_list hat
    refine ⟨xs, hxl, fun y hy => ?_, fun hpos => ?_⟩
    · obtain ⟨i, hi⟩ := List.getElem?_of_mem hy
      exact (hx i y hi).1
    obtain ⟨y0, hy0⟩ : ∃ y, xs[0]? = some y := ⟨_, List.getElem?_eq_getElem (by omega)⟩
    have hc0 := (hx 0 y0 hy0).2 0 _ rfl
    have hx' : x.add (0 * 6 + 0) = x := by simp [Addr.add]
    rw [hx'] at hc0
    have hs := spot_of_cell hc0
    have hb := World.block_lt_of_cell? W _ hc0
    obtain ⟨b, o, sp⟩ := x
    simp only [Addr.mk.injEq, true_and] at hs
    subst hs
    have hadd : ∀ i, (⟨b, o, none⟩ : Addr).add i = ⟨b, o + i, none⟩ := by
      intro i
      by_cases h0 : i = 0
      · subst h0; simp [Addr.add]
      · simp [Addr.add, h0]
    refine ⟨b, o, rfl, hb, fun i y hy j u hu => ?_⟩
    have h0 := (hx i y hy).2 j u hu
    rw [hadd] at h0
    rw [Nat.add_assoc]; exact h0
#print axioms isActs_of
end Go.Proofs.Ytbhnijkphkkalaa
