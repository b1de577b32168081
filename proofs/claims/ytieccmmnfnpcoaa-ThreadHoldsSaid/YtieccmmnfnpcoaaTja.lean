/- Stage 12: rows of what has been done, that are read, joined and compared. -/
import Derived.Test.YtieccmmnfnpcoaaTig
import Derived.Test.YtieccmmnfnpcoaaRw
import Derived.Deep.AppendSrc
import Derived.Lib.AppendZerosOnto
import Derived.BigQuiet
namespace Go.Proofs.Ytieccmmnfnpcoaa
open Go.ChangeShapes Go.WideShapes Go.ChangeAt Go.RowKit
set_option linter.unusedVariables false
set_option linter.unusedSimpArgs false
def ddsC (l : List (Dd)) : List Value := l.flatMap Dd.cells
theorem dC_length (x : Dd) : (x.cells).length = 7 := rfl
theorem ddsC_cons (x : Dd) (l : List (Dd)) : ddsC (x :: l) = x.cells ++ ddsC l := rfl
theorem ddsC_append (l m : List (Dd)) : ddsC (l ++ m) = ddsC l ++ ddsC m := by unfold ddsC; simp
theorem ddsC_length (l : List (Dd)) : (ddsC l).length = l.length * 7 := by
  induction l with
  | nil => rfl
  | cons x l ih => rw [ddsC_cons, List.length_append, dC_length, ih]; simp; omega
theorem ddsC_one (l : List (Dd)) : ∀ u ∈ ddsC l, u.oneCell' = true := by
  intro u hu
  unfold ddsC at hu
  obtain ⟨a, _, ha⟩ := List.mem_flatMap.1 hu
  simp [Dd.cells] at ha
  rcases ha with rfl | rfl | rfl | rfl | rfl | rfl | rfl <;> rfl
theorem ddsC_get : ∀ {l : List (Dd)} {i j : Nat} {x : Dd}, l[i]? = some x → j < 7 → (ddsC l)[i * 7 + j]? = (x.cells)[j]?
  | y :: l, 0, j, x, h, hj => by
    cases h
    rw [ddsC_cons, Nat.zero_mul, Nat.zero_add, List.getElem?_append_left (by rw [dC_length]; exact hj)]
  | y :: l, i + 1, j, x, h, hj => by
    have := ddsC_get (l := l) (i := i) (j := j) (by simpa using h) hj
    rw [ddsC_cons, List.getElem?_append_right (by rw [dC_length]; omega), dC_length, show (i + 1) * 7 + j - 7 = i * 7 + j by omega]
    exact this
/-- A slice of stores that is read alone. -/
structure DL (w : World) (a : Option Addr) (n c b o : Nat) (l : List (Dd)) : Prop where
  len : l.length = n
  ad : 0 < n → a = some ⟨b, o, none⟩
  cell : ∀ j v, (ddsC l)[j]? = some v → w.cell? ⟨b, o + j, none⟩ = some v
  cap : n ≤ c
  no : a = none → n = 0
namespace DL
variable {w w' : World} {a : Option Addr} {n c b o : Nat} {l : List (Dd)}
theorem nil (w : World) : DL w none 0 0 0 0 [] := ⟨rfl, fun h => by omega, fun i x hx => by simp [ddsC] at hx, by omega, fun _ => rfl⟩
theorem frm {D : List Nat} (h : DL w a n c b o l) (hf : Frm D w w') (hd : ∀ x ∈ blk (.slice a n c), x ∉ D) : DL w' a n c b o l := by
  refine ⟨h.len, h.ad, fun j v hv => ?_, h.cap, h.no⟩
  have hn : 0 < n := by have := (List.getElem?_eq_some_iff.1 hv).1; rw [ddsC_length, h.len] at this; omega
  have hc := h.cell j v hv
  refine (hf.cell (World.block_lt_of_cell? w _ hc) ?_).trans hc
  apply hd
  rw [h.ad hn]
  simp [blk]
theorem frm0 (h : DL w a n c b o l) (hf : Frm [] w w') : DL w' a n c b o l := h.frm hf (by simp)
end DL
def RowD (B : Nat) (w : World) (a : Option Addr) (n c : Nat) (l : List (Dd)) : Prop := w.ownsRow B 64 7 (.slice a n c) l.length (ddsC l) ∧ n = l.length
theorem RowD.nil (B : Nat) (w : World) : RowD B w none 0 0 [] := ⟨World.ownsRow_nil _ _ _ _, rfl⟩
theorem RowD.frm {D : List Nat} {B : Nat} {w w' : World} {a : Option Addr} {n c : Nat} {l : List (Dd)} (h : RowD B w a n c l) (hf : Frm D w w') (hd : ∀ x ∈ blk (.slice a n c), x ∉ D) : RowD B w' a n c l := ⟨own_frm h.1 hf hd, h.2⟩
theorem RowD.frm0 {B : Nat} {w w' : World} {a : Option Addr} {n c : Nat} {l : List (Dd)} (h : RowD B w a n c l) (hf : Frm [] w w') : RowD B w' a n c l := h.frm hf (by simp)
theorem RowD.blk {B : Nat} {w : World} {a : Option Addr} {n c : Nat} {l : List (Dd)} (h : RowD B w a n c l) : ∀ x ∈ blk (.slice a n c), B ≤ x ∧ x < w.heap.size := own_blk h.1
theorem RowD.dl {B : Nat} {w : World} {a : Option Addr} {n c : Nat} {l : List (Dd)} (h : RowD B w a n c l) : ∃ b, DL w a n c b 0 l := by
  obtain ⟨⟨h0, hh⟩, h2⟩ := h
  rcases hh with ⟨hv, hn⟩ | ⟨g, cap, cur, hv, hg, hc, hn, hm, hs, ht⟩
  · cases hv
    obtain rfl : l = [] := List.eq_nil_of_length_eq_zero hn
    exact ⟨0, DL.nil w⟩
  · cases hv
    refine ⟨g, h2.symm, fun _ => rfl, fun j v hv => ?_, by omega, fun h => by cases h⟩
    have hlt := (List.getElem?_eq_some_iff.1 hv).1
    rw [ddsC_length] at hlt
    rw [cell_of_heap hc, Nat.zero_add, ← Array.getElem?_toList]
    rw [← ht, List.getElem?_take, if_pos (by omega)] at hv
    exact hv
theorem info_did : (Try.prog.info? 64).map (fun i => (i.zero, i.size, i.bytes)) = some (some (.agg #[.int .i64 0, .int .i64 0, .int .i64 0, .int .u64 0, .int .u64 0, .bool false, .bool false]), 7, 48) := by kernel_rfl
/-- append of stores that are read somewhere. -/
theorem run_appD {B : Nat} {w : World} {a a2 : Option Addr} {n c m c2 b2 o2 : Nat} {l l2 : List (Dd)} (hR : RowD B w a n c l) (hL : DL w a2 m c2 b2 o2 l2) (hn : l.length + m ≤ 1000000) (hB : B ≤ w.heap.size) (ty : TypeId) :
    ∃ a' c' w', (Builtin.append_ #[79, 79] ty #[.slice a n c, .slice a2 m c2]).run Try.prog w = .ok (.slice a' (n + m) c') w' ∧ RowD B w' a' (n + m) c' (l ++ l2) ∧ Frm (Go.Proofs.Ytieccmmnfnpcoaa.blk (.slice a n c)) w w' := by
  obtain ⟨i0, hi, hz0, hz1, hz2⟩ := info_parts info_did
  obtain ⟨hO, rfl⟩ := hR
  have hlen := hL.len
  by_cases hm : 0 < m
  · obtain rfl := hL.ad hm
    obtain ⟨v', w', hr, hO2, hg, _⟩ := run_append_own (P := Try.prog) w B 79 ty 64 i0 _ 7 48 Try.underlying79 hi hz0 hz1 hz2 rfl (by decide) _ _ _ hO ⟨b2, o2, none⟩ m c2 (ddsC l2) (by rw [ddsC_length]; omega)
      (fun j u hj => by rw [Addr.add_lit]; exact hL.cell j u hj) (ddsC_one l2) (by unfold maxLen; omega) (by omega) hB
    obtain ⟨a', c', rfl, _, _⟩ := own_form hO2
    refine ⟨a', c', w', hr, ⟨?_, by simp [hlen]⟩, Frm.grown hg (fun k hk => own_ownb hO k hk)⟩
    rw [ddsC_append, List.length_append, hlen]; exact hO2
  · obtain rfl : m = 0 := by omega
    obtain rfl : l2 = [] := List.eq_nil_of_length_eq_zero hlen
    obtain ⟨a', c', hv, hnc, hn0⟩ := own_form hO
    have := run_append_none (P := Try.prog) w 79 ty 64 i0 Try.underlying79 hi a l.length c a2 c2 (by cases hv; exact hnc) (by cases hv; exact hn0)
    exact ⟨a, c, w, this, ⟨by simpa using hO, by simp⟩, Frm.refl _ _⟩
theorem wpl_appD {w : World} {ops : Array Oper} {rest : List Oper} {o : Oper} {x : Act} {Q : Exit → Act → World → Prop} (hgd : o.guard = none) (p q : Operand)
    (ho : o.op = .call { callee := .builtin .append, args := #[p, q], argTypes := #[79, 79] }) {B : Nat} {a a2 : Option Addr} {n c m c2 b2 o2 : Nat} {l l2 : List (Dd)}
    (hd : x.eval p = .slice a n c) (hq : x.eval q = .slice a2 m c2) (hR : RowD B w a n c l) (hL : DL w a2 m c2 b2 o2 l2) (hn : l.length + m ≤ 1000000) (hB : B ≤ w.heap.size)
    (hK : ∀ a' c' w', RowD B w' a' (n + m) c' (l ++ l2) → Frm (blk (.slice a n c)) w w' → wpList Try.prog ops Q rest (x.put o.dst (.slice a' (n + m : Nat) c')) w') : wpList Try.prog ops Q (o :: rest) x w := by
  refine wpList_plain hgd fun K hK' => ?_
  obtain ⟨a', c', w', hr, h1, h2⟩ := run_appD hR hL hn hB o.type
  unfold Oper.wp
  simp [execOp, ho, resolve, invoke, builtin, hd, hq, hr, Result.andThen]
  exact hK' _ _ (hK _ _ _ h1 h2)
theorem dl_new {w : World} {g n : Nat} {l : List (Dd)} (hl : l.length = n) (h : w.heap[g]? = some (.cells (ddsC l).toArray 64 (0, 0))) : DL w (some ⟨g, 0, none⟩) n n g 0 l :=
  ⟨hl, fun _ => rfl, fun j v hv => by rw [cell_of_heap h, Nat.zero_add, List.getElem?_toArray]; exact hv, Nat.le_refl _, fun h => by cases h⟩

/-- A row that Run has made is one that can be read. -/
theorem Gr.dl {B : Nat} {w : World} {a : Option Addr} {n c : Nat} {l : List Dd} (h : Gr 64 7 B w a n c (ddF l)) (hl : l.length = n) : ∃ b, DL w a n c b 0 l := by
  by_cases hp : 0 < n
  · obtain ⟨g, rfl, _, _, _, hc⟩ := h.at_ hp
    refine ⟨g, hl, fun _ => rfl, fun j v hv => ?_, h.2.1, fun h => by cases h⟩
    have hj := (List.getElem?_eq_some_iff.1 hv).1
    rw [ddsC_length] at hj
    have hi : j / 7 < n := by omega
    have e : j = j / 7 * 7 + j % 7 := by omega
    rw [e] at hv ⊢
    have hx : l[j / 7]? = some (l[j / 7]'(by omega)) := List.getElem?_eq_getElem _
    rw [ddsC_get hx (by omega)] at hv
    rw [Nat.zero_add]
    exact hc (j / 7) hi (j % 7) v (by unfold ddF; rw [List.getD_eq_getElem?_getD, hx]; exact hv)
  · obtain rfl : n = 0 := by omega
    obtain rfl : l = [] := List.eq_nil_of_length_eq_zero hl
    refine ⟨match a with | some x => x.block | none => 0, rfl, fun h => by omega, fun j v hv => by simp [ddsC] at hv, h.2.1, fun _ => rfl⟩

theorem ix_did {a : Option Addr} {n c b o k : Nat} (ha : 0 < n → a = some ⟨b, o, none⟩) (hk : k < n) (w : World) : (Instr.indexAt 79 (.slice a n c) (.int .i64 (k : Int))).run Try.prog w = .ok (.pointer (some ⟨b, o + k * 7, none⟩)) w := by
  obtain rfl := ha (by omega)
  obtain ⟨i0, hi, hz0, hz1, hz2⟩ := info_parts i_did
  have h1 : (k : Int) < (n : Int) := by omega
  simp [go_sem, u_did, h1, sizeOf, typeInfo, hi, hz1]

end Go.Proofs.Ytieccmmnfnpcoaa
