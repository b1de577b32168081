/- Arguments that came in: a slice of slices of instructions. -/
import Derived.Test.YtieccmmnfnpcoaaTij
import Derived.Test.YtieccmmnfnpcoaaArgs
import Derived.Deep.Slices
import Derived.Deep.Fields
import Derived.Lib.SmallJoins
import Derived.ChangeSame
namespace Go.Proofs.Ytieccmmnfnpcoaa
open Go.ChangeShapes Go.WideShapes Go.ChangeAt Go.RowKit Go.Joins Go.Deep
set_option linter.unusedVariables false

/-- What an instruction's numbers keep to. -/
def InsOk (x : Ins) : Prop := (Lit.int .i64 x.k).wf = true ∧ (Lit.int .i64 x.r).wf = true ∧ (Lit.int .i64 x.w).wf = true ∧ (Lit.int .u64 x.v).wf = true

theorem lst_list {α : Type} {P : Nat → α → Prop} : ∀ {n : Nat}, (∀ i, i < n → ∃ y, P i y) → ∃ xs : List α, xs.length = n ∧ ∀ i y, xs[i]? = some y → P i y
  | 0, _ => ⟨[], rfl, fun i y hy => by simp at hy⟩
  | n + 1, h => by
    obtain ⟨xs, hxl, hx⟩ := lst_list (n := n) (fun i hi => h i (by omega))
    obtain ⟨y, hy⟩ := h n (by omega)
    refine ⟨xs ++ [y], by simp [hxl], fun i z hz => ?_⟩
    rw [List.getElem?_append] at hz
    split at hz
    · exact hx i z hz
    · rename_i hge
      have : i = n := by
        have := (List.getElem?_eq_some_iff.1 hz).1
        simp at this; omega
      subst this
      rw [hxl, Nat.sub_self] at hz
      cases hz
      exact hy

set_option maxRecDepth 100000 in
theorem ins_trod {H : Type} {enc : TypeId × Value → H} {W : World} {base n : Nat} {held : Bool} {cs : List Value} {x : DataW H × List MemPlace}
    (h : DataW.trod enc Try.prog W base (fun _ => true) held n 74 cs = some x) : ∃ y : Ins, cs = y.cells ∧ InsOk y := by
  obtain ⟨xs, m, _, _, hl, hxl, hg⟩ := DataW.trod_struct Try.underlying74 h
  have hC : Try.prog.cellsOf 74 = 4 := by kernel_rfl
  have ck : Try.prog.cellsOf 72 = 1 := by kernel_rfl
  have ci : Try.prog.cellsOf 3 = 1 := by kernel_rfl
  have cu : Try.prog.cellsOf 28 = 1 := by kernel_rfl
  rw [hC] at hl
  match cs, hl with
  | [v0, v1, v2, v3], _ =>
    match xs, hxl with
    | [y0, y1, y2, y3], _ =>
      have t0 : DataW.trod enc Try.prog W base (fun _ => true) held m 72 (([v0, v1, v2, v3].drop 0).take (Try.prog.cellsOf 72)) = some y0 := hg 0 _ rfl
      have t1 : DataW.trod enc Try.prog W base (fun _ => true) held m 3 (([v0, v1, v2, v3].drop 1).take (Try.prog.cellsOf 3)) = some y1 := hg 1 _ rfl
      have t2 : DataW.trod enc Try.prog W base (fun _ => true) held m 3 (([v0, v1, v2, v3].drop 2).take (Try.prog.cellsOf 3)) = some y2 := hg 2 _ rfl
      have t3 : DataW.trod enc Try.prog W base (fun _ => true) held m 28 (([v0, v1, v2, v3].drop 3).take (Try.prog.cellsOf 28)) = some y3 := hg 3 _ rfl
      simp only [ck, ci, cu] at t0 t1 t2 t3
      obtain ⟨a0, e0, _, w0⟩ := DataW.trod_int Try.underlying72 t0
      obtain ⟨a1, e1, _, w1⟩ := DataW.trod_int Try.underlying3 t1
      obtain ⟨a2, e2, _, w2⟩ := DataW.trod_int Try.underlying3 t2
      obtain ⟨a3, e3, _, w3⟩ := DataW.trod_int Try.underlying28 t3
      simp at e0 e1 e2 e3
      exact ⟨⟨a0, a1, a2, a3⟩, by simp [Ins.cells, e0, e1, e2, e3], w0, w1, w2, w3⟩

theorem addr_add (b o i : Nat) : (⟨b, o, none⟩ : Addr).add i = ⟨b, o + i, none⟩ := by
  by_cases h0 : i = 0
  · subst h0; simp [Addr.add]
  · simp [Addr.add, h0]

set_option maxRecDepth 100000 in
theorem inl_trod {H : Type} {enc : TypeId × Value → H} {W : World} {base n : Nat} {held : Bool} {cs : List Value} {x : DataW H × List MemPlace}
    (h : DataW.trod enc Try.prog W base (fun _ => true) held n 71 cs = some x) : ∃ a len cap b o l, cs = [.slice a len cap] ∧ InL W a len cap b o l ∧ ∀ y ∈ l, InsOk y := by
  have hC : Try.prog.cellsOf 74 = 4 := by kernel_rfl
  rcases open_slice Try.underlying71 h with ⟨hcs, _⟩ | ⟨x, l, c, m, n, D, Pl, hcs, _, hl, hm, hmm, _, hi⟩
  · exact ⟨none, 0, 0, 0, 0, [], hcs, ⟨rfl, fun h => absurd h (by omega), fun i x hx => by simp at hx, Nat.le_refl _⟩, fun y hy => by simp at hy⟩
  · have hm' : m = c := by simpa using hmm
    rw [hC] at hi
    have hat : ∀ i, i < l → ∃ y : Ins, InsOk y ∧ ∀ (j : Nat) (u : Value), y.cells[j]? = some u → W.cell? (x.add (i * 4 + j)) = some u := by
      intro i hil
      obtain ⟨cs, hc, ht⟩ := hi i (by omega)
      obtain ⟨_, hcl, hat⟩ := World.cells?_some hc
      obtain ⟨y, rfl, hy⟩ := ins_trod ht
      refine ⟨y, hy, fun j u hu => ?_⟩
      have hj : j < 4 := (List.getElem?_eq_some_iff.1 hu).1
      rw [← add_add, hat j hj]; exact hu
    obtain ⟨xs, hxl, hx⟩ := lst_list hat
    have hok : ∀ y ∈ xs, InsOk y := fun y hy => by
      obtain ⟨i, hi⟩ := List.getElem?_of_mem hy
      exact (hx i y hi).1
    by_cases hpos : 0 < l
    · obtain ⟨y0, hy0⟩ : ∃ y, xs[0]? = some y := ⟨_, List.getElem?_eq_getElem (by omega)⟩
      have hc0 := (hx 0 y0 hy0).2 0 _ rfl
      have hx' : x.add (0 * 4 + 0) = x := by simp [Addr.add]
      rw [hx'] at hc0
      have hs := spot_of_cell hc0
      obtain ⟨b, o, sp⟩ := x
      simp only [Addr.mk.injEq, true_and] at hs
      subst hs
      refine ⟨_, _, _, b, o, xs, hcs, ⟨hxl, fun _ => rfl, fun i y hy j u hu => ?_, hl⟩, hok⟩
      have h0 := (hx i y hy).2 j u hu
      rw [addr_add] at h0
      exact h0
    · have h0 : xs = [] := List.eq_nil_of_length_eq_zero (by omega)
      subst h0
      exact ⟨_, _, _, 0, 0, [], hcs, ⟨by simpa using hxl, fun h => absurd h hpos, fun i x hx => by simp at hx, hl⟩, hok⟩

set_option maxRecDepth 100000 in
theorem lsl_of {H : Type} {enc : TypeId × Value → H} {W : World} {a : Option Addr} {len cap : Nat} {d : DataW H} {p : List MemPlace}
    (h0 : DataW.Trod enc Try.prog W 0 (fun _ => true) true 23 (.slice a len cap) d p) : ∃ b o Ls, LsL W a len cap b o Ls ∧ ∀ l ∈ Ls, ∀ y ∈ l, InsOk y := by
  obtain ⟨fuel, hf⟩ := h0
  have hC : Try.prog.cellsOf 71 = 1 := by kernel_rfl
  rcases open_slice Try.underlying23 hf with ⟨hcs, _⟩ | ⟨x, l, c, m, n, D, Pl, hcs, _, hl, hm, hmm, _, hi⟩
  · simp [Value.cells] at hcs
    obtain ⟨rfl, rfl, rfl⟩ := hcs
    exact ⟨0, 0, [], ⟨rfl, fun h => absurd h (by omega), fun i x hx => by simp at hx, Nat.le_refl _⟩, fun y hy => by simp at hy⟩
  · simp [Value.cells] at hcs
    obtain ⟨rfl, rfl, rfl⟩ := hcs
    have hm' : m = cap := by simpa using hmm
    rw [hC] at hi
    have hat : ∀ i, i < len → ∃ y : List Ins, (∀ z ∈ y, InsOk z) ∧ ∃ a' n' c' b' o', W.cell? (x.add i) = some (.slice a' n' c') ∧ InL W a' n' c' b' o' y := by
      intro i hil
      obtain ⟨cs, hc, ht⟩ := hi i (by omega)
      obtain ⟨_, hcl, hat⟩ := World.cells?_some hc
      obtain ⟨a', n', c', b', o', l, rfl, hI, hok⟩ := inl_trod ht
      refine ⟨l, hok, a', n', c', b', o', ?_, hI⟩
      have h1 := hat 0 (by omega)
      rw [add_add] at h1
      simpa using h1
    obtain ⟨xs, hxl, hx⟩ := lst_list hat
    have hok : ∀ l ∈ xs, ∀ y ∈ l, InsOk y := fun y hy => by
      obtain ⟨i, hi⟩ := List.getElem?_of_mem hy
      exact (hx i y hi).1
    by_cases hpos : 0 < len
    · obtain ⟨y0, hy0⟩ : ∃ y, xs[0]? = some y := ⟨_, List.getElem?_eq_getElem (by omega)⟩
      obtain ⟨_, _, _, _, _, _, hc0, _⟩ := hx 0 y0 hy0
      have hx' : x.add 0 = x := by simp [Addr.add]
      rw [hx'] at hc0
      have hs := spot_of_cell hc0
      obtain ⟨b, o, sp⟩ := x
      simp only [Addr.mk.injEq, true_and] at hs
      subst hs
      refine ⟨b, o, xs, ⟨hxl, fun _ => rfl, fun i y hy => ?_, hl⟩, hok⟩
      obtain ⟨_, a', n', c', b', o', h1, h2⟩ := hx i y hy
      rw [addr_add] at h1
      exact ⟨a', n', c', b', o', h1, h2⟩
    · have h0 : xs = [] := List.eq_nil_of_length_eq_zero (by omega)
      subst h0
      exact ⟨0, 0, [], ⟨by simpa using hxl, fun h => absurd h hpos, fun i x hx => by simp at hx, hl⟩, hok⟩
#print axioms lsl_of
end Go.Proofs.Ytieccmmnfnpcoaa
