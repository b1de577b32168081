/- Stage 13: what has been done, as data; slices of it that are read alone; where an element lies. -/
import Derived.Test.YtfkikaoojelddaaArgs
import Derived.Test.YtfkikaoojelddaaLi
import Derived.Test.YtfkikaoojelddaaGr
import Derived.Deep.Slices
import Derived.Deep.Fields
import Derived.Lib.SmallJoins
import Derived.ChangeSame
namespace Go.Proofs.Ytfkikaoojelddaa
open Go.ChangeShapes Go.WideShapes Go.ChangeAt Go.RowKit Go.Joins Go.Deep
set_option linter.unusedVariables false
set_option linter.unusedSimpArgs false
/-- An access: its kind, its word, the word before and after it. -/
structure Acc where
  k : Int
  w : Int
  b : Int
  a : Int
deriving DecidableEq, BEq
def acc0 : Acc := ⟨0, 0, 0, 0⟩
/-- What a step has done. -/
structure Dd where
  i : Int
  a : Acc
  wt : Bool
  en : Bool
deriving DecidableEq
def dd0 : Dd := ⟨0, acc0, false, false⟩
def Acc.cells (a : Acc) : List Value := [.int .i64 a.k, .int .i64 a.w, .int .u64 a.b, .int .u64 a.a]
def Acc.val (a : Acc) : Value := .agg #[.int .i64 a.k, .int .i64 a.w, .int .u64 a.b, .int .u64 a.a]
def Dd.cells (d : Dd) : List Value := [.int .i64 d.i, .int .i64 d.a.k, .int .i64 d.a.w, .int .u64 d.a.b, .int .u64 d.a.a, .bool d.wt, .bool d.en]
def didV (i : Int) (a : Acc) (wt en : Bool) : Value := .agg #[.int .i64 i, .int .i64 a.k, .int .i64 a.w, .int .u64 a.b, .int .u64 a.a, .bool wt, .bool en]
def Dd.val (d : Dd) : Value := didV d.i d.a d.wt d.en
def ddF (l : List Dd) (i : Nat) : List Value := (l.getD i dd0).cells
theorem u_did : Try.prog.underlying 22 = some (.slice 40) := by kernel_rfl
theorem i_did : (Try.prog.info? 40).map (fun i => (i.zero, i.size, i.bytes)) = some (some (.agg #[.int .i64 0, .int .i64 0, .int .i64 0, .int .u64 0, .int .u64 0, .bool false, .bool false]), 7, 48) := by kernel_rfl
/-- What its numbers keep to. -/
def DdOk (d : Dd) : Prop := (Lit.int .i64 d.i).wf = true ∧ (Lit.int .i64 d.a.k).wf = true ∧ (Lit.int .i64 d.a.w).wf = true ∧ (Lit.int .u64 d.a.b).wf = true ∧ (Lit.int .u64 d.a.a).wf = true
def ddsC (l : List (Dd)) : List Value := l.flatMap Dd.cells
theorem dC_length (x : Dd) : (x.cells).length = 7 := rfl
theorem ddsC_cons (x : Dd) (l : List (Dd)) : ddsC (x :: l) = x.cells ++ ddsC l := rfl
theorem ddsC_append (l m : List (Dd)) : ddsC (l ++ m) = ddsC l ++ ddsC m := by unfold ddsC; simp
theorem ddsC_length (l : List (Dd)) : (ddsC l).length = l.length * 7 := by
  induction l with
  | nil => rfl
  | cons x l ih => rw [ddsC_cons, List.length_append, dC_length, ih]; simp; omega
theorem ddsC_one (l : List (Dd)) : ∀ u ∈ ddsC l, u.oneCell' = true := by
  intro u hu
  unfold ddsC at hu
  obtain ⟨a, _, ha⟩ := List.mem_flatMap.1 hu
  simp [Dd.cells] at ha
  rcases ha with rfl | rfl | rfl | rfl | rfl | rfl | rfl <;> rfl
theorem dd_one (d : Dd) : ∀ u ∈ d.cells, u.oneCell' = true := by
  intro u hu
  simp [Dd.cells] at hu
  rcases hu with rfl | rfl | rfl | rfl | rfl | rfl | rfl <;> rfl
theorem ddsC_get : ∀ {l : List (Dd)} {i j : Nat} {x : Dd}, l[i]? = some x → j < 7 → (ddsC l)[i * 7 + j]? = (x.cells)[j]?
  | y :: l, 0, j, x, h, hj => by
    cases h
    rw [ddsC_cons, Nat.zero_mul, Nat.zero_add, List.getElem?_append_left (by rw [dC_length]; exact hj)]
  | y :: l, i + 1, j, x, h, hj => by
    have := ddsC_get (l := l) (i := i) (j := j) (by simpa using h) hj
    rw [ddsC_cons, List.getElem?_append_right (by rw [dC_length]; omega), dC_length, show (i + 1) * 7 + j - 7 = i * 7 + j by omega]
    exact this
theorem ddF_app (l : List Dd) (d : Dd) {k : Nat} (hk : k < l.length + 1) : ddF (l ++ [d]) k = upd (ddF l) l.length d.cells k := by
  unfold ddF
  by_cases e : k = l.length
  · subst e
    rw [upd_eq, List.getD_eq_getElem?_getD, List.getElem?_append_right (Nat.le_refl _), Nat.sub_self]; rfl
  · rw [upd_ne _ _ e, List.getD_eq_getElem?_getD, List.getElem?_append_left (by omega), List.getD_eq_getElem?_getD]
/-- A slice of things done that is read alone. -/
structure DL (w : World) (a : Option Addr) (n c b o : Nat) (l : List (Dd)) : Prop where
  len : l.length = n
  ad : 0 < n → a = some ⟨b, o, none⟩
  cell : ∀ j v, (ddsC l)[j]? = some v → w.cell? ⟨b, o + j, none⟩ = some v
  cap : n ≤ c
  no : a = none → n = 0
namespace DL
variable {w w' : World} {a : Option Addr} {n c b o : Nat} {l : List (Dd)}
theorem nil (w : World) : DL w none 0 0 0 0 [] := ⟨rfl, fun h => by omega, fun i x hx => by simp [ddsC] at hx, by omega, fun _ => rfl⟩
theorem frm {D : List Nat} (h : DL w a n c b o l) (hf : Frm D w w') (hd : ∀ x ∈ blk (.slice a n c), x ∉ D) : DL w' a n c b o l := by
  refine ⟨h.len, h.ad, fun j v hv => ?_, h.cap, h.no⟩
  have hn : 0 < n := by have := (List.getElem?_eq_some_iff.1 hv).1; rw [ddsC_length, h.len] at this; omega
  have hc := h.cell j v hv
  refine (hf.cell (World.block_lt_of_cell? w _ hc) ?_).trans hc
  apply hd
  rw [h.ad hn]
  simp [blk]
theorem frm0 (h : DL w a n c b o l) (hf : Frm [] w w') : DL w' a n c b o l := h.frm hf (by simp)
theorem frmN {D : List Nat} (h : DL w a n c b o l) (hf : Frm D w w') (hd : 0 < n → b ∉ D) : DL w' a n c b o l := by
  refine ⟨h.len, h.ad, fun j v hv => ?_, h.cap, h.no⟩
  have hn : 0 < n := by have := (List.getElem?_eq_some_iff.1 hv).1; rw [ddsC_length, h.len] at this; omega
  have hc := h.cell j v hv
  exact (hf.cell (World.block_lt_of_cell? w _ hc) (hd hn)).trans hc
theorem get (h : DL w a n c b o l) {k : Nat} {d : Dd} (hd : l[k]? = some d) : ∀ j v, d.cells[j]? = some v → w.cell? ⟨b, o + k * 7 + j, none⟩ = some v := by
  intro j v hv
  have hj : j < 7 := (List.getElem?_eq_some_iff.1 hv).1
  rw [Nat.add_assoc]
  exact h.cell _ _ (by rw [ddsC_get hd hj]; exact hv)
end DL
theorem dl_new {w : World} {g n : Nat} {l : List (Dd)} (hl : l.length = n) (h : w.heap[g]? = some (.cells (ddsC l).toArray 40 (0, 0))) : DL w (some ⟨g, 0, none⟩) n n g 0 l :=
  ⟨hl, fun _ => rfl, fun j v hv => by rw [cell_of_heap h, Nat.zero_add, List.getElem?_toArray]; exact hv, Nat.le_refl _, fun h => by cases h⟩
theorem Gr.dl {B : Nat} {w : World} {a : Option Addr} {n c : Nat} {l : List Dd} (h : Gr 40 7 B w a n c (ddF l)) (hl : l.length = n) : ∃ b, DL w a n c b 0 l := by
  by_cases hp : 0 < n
  · obtain ⟨g, rfl, _, _, _, hc⟩ := h.at_ hp
    refine ⟨g, hl, fun _ => rfl, fun j v hv => ?_, h.2.1, fun h => by cases h⟩
    have hj := (List.getElem?_eq_some_iff.1 hv).1
    rw [ddsC_length] at hj
    have hi : j / 7 < n := by omega
    have e : j = j / 7 * 7 + j % 7 := by omega
    rw [e] at hv ⊢
    have hx : l[j / 7]? = some (l[j / 7]'(by omega)) := List.getElem?_eq_getElem _
    rw [ddsC_get hx (by omega)] at hv
    rw [Nat.zero_add]
    exact hc (j / 7) hi (j % 7) v (by unfold ddF; rw [List.getD_eq_getElem?_getD, hx]; exact hv)
  · obtain rfl : n = 0 := by omega
    obtain rfl : l = [] := List.eq_nil_of_length_eq_zero hl
    refine ⟨match a with | some x => x.block | none => 0, rfl, fun h => by omega, fun j v hv => by simp [ddsC] at hv, h.2.1, fun _ => rfl⟩
theorem ix_did {a : Option Addr} {n c b o k : Nat} (ha : 0 < n → a = some ⟨b, o, none⟩) (hk : k < n) (w : World) : (Instr.indexAt 22 (.slice a n c) (.int .i64 (k : Int))).run Try.prog w = .ok (.pointer (some ⟨b, o + k * 7, none⟩)) w := by
  obtain rfl := ha (by omega)
  obtain ⟨i0, hi, hz0, hz1, hz2⟩ := info_parts i_did
  have h1 : (k : Int) < (n : Int) := by omega
  simp [go_sem, u_did, h1, sizeOf, typeInfo, hi, hz1]

/-! A slice that came in. -/
theorem lst_list {α : Type} {P : Nat → α → Prop} : ∀ {n : Nat}, (∀ i, i < n → ∃ y, P i y) → ∃ xs : List α, xs.length = n ∧ ∀ i y, xs[i]? = some y → P i y
  | 0, _ => ⟨[], rfl, fun i y hy => by simp at hy⟩
  | n + 1, h => by
    obtain ⟨xs, hxl, hx⟩ := lst_list (n := n) (fun i hi => h i (by omega))
    obtain ⟨y, hy⟩ := h n (by omega)
    refine ⟨xs ++ [y], by simp [hxl], fun i z hz => ?_⟩
    rw [List.getElem?_append] at hz
    split at hz
    · exact hx i z hz
    · rename_i hge
      have : i = n := by
        have := (List.getElem?_eq_some_iff.1 hz).1
        simp at this; omega
      subst this
      rw [hxl, Nat.sub_self] at hz
      cases hz
      exact hy
theorem addr_add (b o i : Nat) : (⟨b, o, none⟩ : Addr).add i = ⟨b, o + i, none⟩ := by
  by_cases h0 : i = 0
  · subst h0; simp [Addr.add]
  · simp [Addr.add, h0]
set_option maxRecDepth 100000 in
theorem acc_trod {H : Type} {enc : TypeId × Value → H} {W : World} {base n : Nat} {spare : Nat → Bool} {held : Bool} {cs : List Value} {x : DataW H × List MemPlace}
    (h : DataW.trod enc Try.prog W base spare held n 38 cs = some x) : ∃ y : Acc, cs = y.cells ∧ (Lit.int .i64 y.k).wf = true ∧ (Lit.int .i64 y.w).wf = true ∧ (Lit.int .u64 y.b).wf = true ∧ (Lit.int .u64 y.a).wf = true := by
  obtain ⟨y0, y1, y2, y3, m, _, hl, t0, t1, t2, t3⟩ := trod_struct4 Try.underlying38 h
  have hC : Try.prog.cellsOf 38 = 4 := by kernel_rfl
  have c28 : Try.prog.cellsOf 36 = 1 := by kernel_rfl
  have c3 : Try.prog.cellsOf 3 = 1 := by kernel_rfl
  have c23 : Try.prog.cellsOf 30 = 1 := by kernel_rfl
  rw [hC] at hl
  match cs, hl with
  | [v0, v1, v2, v3], _ =>
    simp only [c28, c3, c23] at t0 t1 t2 t3
    obtain ⟨k, e0, _, w0⟩ := DataW.trod_int Try.underlying36 t0
    obtain ⟨a1, e1, _, w1⟩ := DataW.trod_int Try.underlying3 t1
    obtain ⟨a2, e2, _, w2⟩ := DataW.trod_int Try.underlying30 t2
    obtain ⟨a3, e3, _, w3⟩ := DataW.trod_int Try.underlying30 t3
    simp at e0 e1 e2 e3
    exact ⟨⟨k, a1, a2, a3⟩, by simp [Acc.cells, e0, e1, e2, e3], w0, w1, w2, w3⟩
set_option maxRecDepth 100000 in
theorem did_trod {H : Type} {enc : TypeId × Value → H} {W : World} {base n : Nat} {held : Bool} {cs : List Value} {x : DataW H × List MemPlace}
    (h : DataW.trod enc Try.prog W base (fun _ => true) held n 40 cs = some x) : ∃ y : Dd, cs = y.cells ∧ DdOk y := by
  obtain ⟨xs, m, _, _, hl, hxl, hg⟩ := DataW.trod_struct Try.underlying40 h
  have hC : Try.prog.cellsOf 40 = 7 := by kernel_rfl
  have ca : Try.prog.cellsOf 38 = 4 := by kernel_rfl
  have ci : Try.prog.cellsOf 3 = 1 := by kernel_rfl
  have cb : Try.prog.cellsOf 4 = 1 := by kernel_rfl
  rw [hC] at hl
  match cs, hl with
  | [v0, v1, v2, v3, v4, v5, v6], _ =>
    match xs, hxl with
    | [y0, y1, y2, y3], _ =>
      have t0 : DataW.trod enc Try.prog W base (fun _ => true) held m 3 (([v0, v1, v2, v3, v4, v5, v6].drop 0).take (Try.prog.cellsOf 3)) = some y0 := hg 0 _ rfl
      have t1 : DataW.trod enc Try.prog W base (fun _ => true) held m 38 (([v0, v1, v2, v3, v4, v5, v6].drop 1).take (Try.prog.cellsOf 38)) = some y1 := hg 1 _ rfl
      have t2 : DataW.trod enc Try.prog W base (fun _ => true) held m 4 (([v0, v1, v2, v3, v4, v5, v6].drop 5).take (Try.prog.cellsOf 4)) = some y2 := hg 2 _ rfl
      have t3 : DataW.trod enc Try.prog W base (fun _ => true) held m 4 (([v0, v1, v2, v3, v4, v5, v6].drop 6).take (Try.prog.cellsOf 4)) = some y3 := hg 3 _ rfl
      simp only [ca, ci, cb] at t0 t1 t2 t3
      obtain ⟨a0, e0, _, w0⟩ := DataW.trod_int Try.underlying3 t0
      obtain ⟨a1, e1, k1, k2, k3, k4⟩ := acc_trod t1
      obtain ⟨a2, e2, _⟩ := DataW.trod_bool Try.underlying4 t2
      obtain ⟨a3, e3, _⟩ := DataW.trod_bool Try.underlying4 t3
      simp [Acc.cells] at e0 e1 e2 e3
      obtain ⟨e11, e12, e13, e14⟩ := e1
      exact ⟨⟨a0, a1, a2, a3⟩, by simp [Dd.cells, e0, e11, e12, e13, e14, e2, e3], w0, k1, k2, k3, k4⟩
set_option maxRecDepth 100000 in
theorem dids_of {H : Type} {enc : TypeId × Value → H} {W : World} {a : Option Addr} {len cap : Nat} {d : DataW H} {p : List MemPlace}
    (h0 : DataW.Trod enc Try.prog W 0 (fun _ => true) true 22 (.slice a len cap) d p) : ∃ b o l, DL W a len cap b o l ∧ (∀ y ∈ l, DdOk y) ∧ (0 < len → b < W.heap.size) ∧ len ≤ maxLen := by
  obtain ⟨fuel, hf⟩ := h0
  have hC : Try.prog.cellsOf 40 = 7 := by kernel_rfl
  rcases open_slice Try.underlying22 hf with ⟨hcs, _⟩ | ⟨x, l, c, m, n, D, Pl, hcs, _, hl, hm, hmm, _, hi⟩
  · simp [Value.cells] at hcs
    obtain ⟨rfl, rfl, rfl⟩ := hcs
    exact ⟨0, 0, [], DL.nil W, fun y hy => by simp at hy, fun h => absurd h (by omega), by omega⟩
  · simp [Value.cells] at hcs
    obtain ⟨rfl, rfl, rfl⟩ := hcs
    have hm' : m = cap := by simpa using hmm
    rw [hC] at hi
    have hat : ∀ i, i < len → ∃ y : Dd, DdOk y ∧ ∀ (j : Nat) (u : Value), y.cells[j]? = some u → W.cell? (x.add (i * 7 + j)) = some u := by
      intro i hil
      obtain ⟨cs, hc, ht⟩ := hi i (by omega)
      obtain ⟨_, hcl, hat⟩ := World.cells?_some hc
      obtain ⟨y, rfl, hy⟩ := did_trod ht
      refine ⟨y, hy, fun j u hu => ?_⟩
      have hj : j < 7 := (List.getElem?_eq_some_iff.1 hu).1
      rw [← add_add, hat j hj]; exact hu
    obtain ⟨xs, hxl, hx⟩ := lst_list hat
    have hok : ∀ y ∈ xs, DdOk y := fun y hy => by
      obtain ⟨i, hi⟩ := List.getElem?_of_mem hy
      exact (hx i y hi).1
    by_cases hpos : 0 < len
    · obtain ⟨y0, hy0⟩ : ∃ y, xs[0]? = some y := ⟨_, List.getElem?_eq_getElem (by omega)⟩
      have hc0 := (hx 0 y0 hy0).2 0 _ rfl
      have hx' : x.add (0 * 7 + 0) = x := by simp [Addr.add]
      rw [hx'] at hc0
      have hs := spot_of_cell hc0
      have hb := World.block_lt_of_cell? W _ hc0
      obtain ⟨b, o, sp⟩ := x
      simp only [Addr.mk.injEq, true_and] at hs
      subst hs
      refine ⟨b, o, xs, ⟨hxl, fun _ => rfl, fun j u hu => ?_, hl, fun h => by cases h⟩, hok, fun _ => hb, by omega⟩
      have hj := (List.getElem?_eq_some_iff.1 hu).1
      rw [ddsC_length] at hj
      have e : j = j / 7 * 7 + j % 7 := by omega
      have hxj : xs[j / 7]? = some (xs[j / 7]'(by omega)) := List.getElem?_eq_getElem _
      rw [e, ddsC_get hxj (by omega)] at hu
      have h0 := (hx _ _ hxj).2 _ _ hu
      rw [addr_add, ← e] at h0
      exact h0
    · have h0 : xs = [] := List.eq_nil_of_length_eq_zero (by omega)
      subst h0
      exact ⟨0, 0, [], ⟨by simpa using hxl, fun h => absurd h hpos, fun i x hx => by simp [ddsC] at hx, hl, fun h => by cases h⟩, hok, fun h => absurd h hpos, by omega⟩
#print axioms dids_of
end Go.Proofs.Ytfkikaoojelddaa
