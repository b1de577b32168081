/- A queue: a slice of ints that a call makes for itself, to which is appended, and from the front of which is cut. -/
import Derived.Test.YtoieedlkffmcgaaMcSo
import Derived.ArgAppend
namespace Go.Proofs.Ytoieedlkffmcgaa
open Go.ChangeShapes Go.WideShapes Go.ChangeAt Go.RowKit
set_option linter.unusedVariables false

/-- A queue of threads, in blocks from B on. -/
def Qu (B : Nat) (w : World) (a : Option Addr) (n c : Nat) (q : List Nat) : Prop :=
  q.length = n ∧ n ≤ c ∧ ((a = none ∧ n = 0 ∧ c = 0) ∨ ∃ g off cs, a = some ⟨g, off, none⟩ ∧ B ≤ g ∧ w.heap[g]? = some (.cells cs 3 (0, 0)) ∧ off + c ≤ cs.size ∧ ∀ (i : Nat) (x : Nat), q[i]? = some x → cs[off + i]? = some (Value.int .i64 (x : Int)))
def bkQ : Option Addr → List Nat
  | some a => [a.block]
  | none => []
theorem Qu.frm {B : Nat} {D : List Nat} {w w' : World} {a : Option Addr} {n c : Nat} {q : List Nat} (h : Qu B w a n c q) (hf : Frm D w w') (hd : ∀ x ∈ bkQ a, x ∉ D) : Qu B w' a n c q := by
  obtain ⟨h1, h2, h | ⟨g, off, cs, rfl, hB, hh, hs, hq⟩⟩ := h
  · exact ⟨h1, h2, .inl h⟩
  · exact ⟨h1, h2, .inr ⟨g, off, cs, rfl, hB, hf.heap hh (hd g (by simp [bkQ])), hs, hq⟩⟩
theorem Qu.frm0 {B : Nat} {w w' : World} {a : Option Addr} {n c : Nat} {q : List Nat} (h : Qu B w a n c q) (hf : Frm [] w w') : Qu B w' a n c q := h.frm hf (by simp)
/-- Its block is none of another type. -/
theorem Qu.ne {B : Nat} {w : World} {a : Option Addr} {n c : Nat} {q : List Nat} (h : Qu B w a n c q) {b : Nat} {cs : Array Value} {t : TypeId} (hb : w.heap[b]? = some (.cells cs t (0, 0))) (ht : t ≠ 3) : ∀ x ∈ bkQ a, x ≠ b := by
  obtain ⟨h1, h2, ⟨rfl, _⟩ | ⟨g, off, ds, rfl, hB, hh, hs, hq⟩⟩ := h
  · simp [bkQ]
  · intro x hx e
    simp [bkQ] at hx
    subst hx e
    rw [hh] at hb
    simp only [Option.some.injEq, Obj.cells.injEq] at hb
    exact ht hb.2.1.symm
theorem Qu.from_ {B : Nat} {w : World} {a : Option Addr} {n c : Nat} {q : List Nat} (h : Qu B w a n c q) : ∀ x ∈ bkQ a, B ≤ x ∧ x < w.heap.size := by
  obtain ⟨h1, h2, ⟨rfl, _⟩ | ⟨g, off, ds, rfl, hB, hh, hs, hq⟩⟩ := h
  · simp [bkQ]
  · intro x hx; simp [bkQ] at hx; subst hx; exact ⟨hB, lt_of_heap hh⟩
theorem Qu.nil (B : Nat) (w : World) : Qu B w none 0 0 [] := ⟨rfl, Nat.le_refl _, .inl ⟨rfl, rfl, rfl⟩⟩
/-- The first one, and the others. -/
theorem Qu.front {B : Nat} {w : World} {a : Option Addr} {n c : Nat} {x : Nat} {q : List Nat} (h : Qu B w a n c (x :: q)) : ∃ g off, a = some ⟨g, off, none⟩ ∧ 0 < n ∧ w.cell? ⟨g, off, none⟩ = some (.int .i64 (x : Int)) ∧ Qu B w (some ⟨g, off + 1, none⟩) (n - 1) (c - 1) q ∧ (c = 1 → Qu B w (some ⟨g, off, none⟩) 0 0 q) := by
  obtain ⟨h1, h2, ⟨rfl, h3, _⟩ | ⟨g, off, cs, rfl, hB, hh, hs, hq⟩⟩ := h
  · simp at h1; omega
  · simp at h1
    have hc := hq 0 x rfl
    refine ⟨g, off, rfl, by omega, by rw [cell_of_heap hh]; exact hc, ⟨by omega, by omega, .inr ⟨g, off + 1, cs, rfl, hB, hh, by omega, fun i y hy => ?_⟩⟩, fun hc1 => ⟨by omega, by omega, .inr ⟨g, off, cs, rfl, hB, hh, by omega, fun i y hy => ?_⟩⟩⟩
    · have := hq (i + 1) y (by simpa using hy)
      rw [show off + 1 + i = off + (i + 1) by omega]; exact this
    · have : q = [] := List.eq_nil_of_length_eq_zero (by omega)
      subst this; simp at hy
theorem info_int : (Try.prog.info? 3).map (fun i => (i.zero, i.size, i.bytes)) = some (some (.int .i64 0), 1, 8) := by kernel_rfl
theorem own_ints {w : World} {B n : Nat} {v : Value} {xs : List Value} (h : w.ownsRow B 3 1 v n xs) (q : List Nat) (hq : q.length = n) (hx : xs = q.map (fun (x : Nat) => Value.int .i64 (x : Int))) : ∃ a c, v = .slice a n c ∧ Qu B w a n c q ∧ ∀ y ∈ bkQ a, B ≤ y := by
  obtain ⟨h0, ⟨rfl, rfl⟩ | ⟨g, cap, cur, rfl, hg, hh, hc, hm, hz, ht⟩⟩ := h
  · exact ⟨none, 0, rfl, ⟨hq, by omega, .inl ⟨rfl, rfl, rfl⟩⟩, by simp [bkQ]⟩
  · refine ⟨some ⟨g, 0, none⟩, cap, rfl, ⟨hq, hc, .inr ⟨g, 0, cur, rfl, hg, hh, by omega, fun i x hi => ?_⟩⟩, by simp [bkQ]; exact hg⟩
    have hil := (List.getElem?_eq_some_iff.1 hi).1
    rw [Nat.zero_add, ← Array.getElem?_toList]
    rw [← h0] at ht
    have : (cur.toList.take (xs.length))[i]? = some (Value.int .i64 (x : Int)) := by rw [ht, hx, List.getElem?_map, hi]; rfl
    rw [List.getElem?_take, if_pos (by rw [hx, List.length_map]; exact hil)] at this
    exact this
/-- Somebody is appended. -/
theorem run_queue {B : Nat} {w : World} {a : Option Addr} {n c g2 : Nat} {q : List Nat} (hQ : Qu B w a n c q) (t : Nat) (hg : w.heap[g2]? = some (.cells #[.int .i64 (t : Int)] 3 (0, 0))) (hn : n ≤ 100000) (hB : B ≤ w.heap.size) (ty : TypeId) :
    ∃ a' c' w', (Builtin.append_ #[72, 72] ty #[.slice a n c, .slice (some ⟨g2, 0, none⟩) 1 1]).run Try.prog w = .ok (.slice a' (n + 1) c') w' ∧ Qu B w' a' (n + 1) c' (q ++ [t]) ∧ Frm (bkQ a) w w' := by
  obtain ⟨i0, hi, hz0, hz1, hz2⟩ := info_parts info_int
  obtain ⟨h1, h2, h3⟩ := hQ
  have hnew : ∀ j u, [Value.int .i64 (t : Int)][j]? = some u → w.cell? ((⟨g2, 0, none⟩ : Addr).add j) = some u := fun j u hu => by
    rw [Addr.add_lit, cell_of_heap hg, Nat.zero_add, List.getElem?_toArray]; exact hu
  have hone : ∀ u ∈ [Value.int .i64 (t : Int)], u.oneCell' = true := by simp [Value.oneCell']
  rcases h3 with ⟨rfl, rfl, rfl⟩ | ⟨g, off, cs, rfl, hBg, hh, hs, hq⟩
  · obtain rfl : q = [] := List.eq_nil_of_length_eq_zero h1
    obtain ⟨v', w', hr, hO, hgr, _⟩ := run_append_own (P := Try.prog) w w.heap.size 72 ty 3 i0 (.int .i64 0) 1 8 Try.underlying72 hi hz0 hz1 hz2 rfl (by decide) (.slice none 0 0) 0 [] (World.ownsRow_nil w _ _ _) ⟨g2, 0, none⟩ 1 1 [.int .i64 (t : Int)] rfl hnew hone (by unfold maxLen; omega) (by omega) (Nat.le_refl _)
    obtain ⟨a', c', rfl, hQ', hb⟩ := own_ints hO [t] rfl rfl
    refine ⟨a', c', w', hr, ?_, Frm.grown hgr (by simp [Value.ownBlock])⟩
    obtain ⟨k1, k2, k3 | ⟨g', off, cs, hg', hB', r⟩⟩ := hQ'
    · exact ⟨k1, k2, .inl k3⟩
    · exact ⟨k1, k2, .inr ⟨g', off, cs, hg', by omega, r⟩⟩
  · by_cases hr : n + 1 ≤ c
    · have hrun := run_append_room_cells (P := Try.prog) w 72 ty 3 i0 Try.underlying72 hi g off n c ⟨g2, 0, none⟩ 1 1 [.int .i64 (t : Int)] (by rw [hz1]; rfl) hnew hone hr
        (fun j hj => by
          simp at hj; subst hj
          rw [cell_of_heap hh, hz1, Array.getElem?_eq_getElem (by omega)]; rfl)
        (fun j hj => frozen_of_heap hh)
      rw [hz1] at hrun
      refine ⟨_, c, _, hrun, ⟨by simp [h1], hr, .inr ⟨g, off, cs.setIfInBounds (off + n) (.int .i64 (t : Int)), rfl, hBg, ?_, by simp; omega, fun i x hx => ?_⟩⟩, ?_⟩
      · have := heap_setCell_at (i := off + n * 1) (.int .i64 (t : Int)) hh
        simpa [World.setCells] using this
      · rw [Array.getElem?_setIfInBounds]
        by_cases hin : i < q.length
        · rw [List.getElem?_append_left hin] at hx
          rw [if_neg (by omega)]; exact hq i x hx
        · rw [List.getElem?_append_right (by omega)] at hx
          have : i = q.length := by
            have := (List.getElem?_eq_some_iff.1 hx).1; simp at this; omega
          subst this
          simp at hx; subst hx
          rw [if_pos (by omega), if_pos (by omega)]
      · show Frm [g] w _
        have : Frm [g] w (w.setCell ⟨g, off + n * 1, none⟩ (.int .i64 (t : Int))) := (Frm.refl [g] w).setCell _ _ (.inl (by simp))
        simpa [World.setCells] using this
    · obtain ⟨v', w', hrun, hO, hgr⟩ := run_append_arg_grows (P := Try.prog) w 72 ty 3 i0 (.int .i64 0) 1 8 Try.underlying72 hi hz0 hz1 hz2 rfl (by decide) ⟨g, off, none⟩ n c (q.map (fun (x : Nat) => Value.int .i64 (x : Int))) (by simp [h1])
        (fun j u hj => by
          rw [Addr.add_lit, cell_of_heap hh]
          rw [List.getElem?_map] at hj
          cases hx : q[j]? with
          | none => rw [hx] at hj; cases hj
          | some x => rw [hx] at hj; cases hj; exact hq j x hx) ⟨g2, 0, none⟩ 1 1 [.int .i64 (t : Int)] rfl hnew (by omega) (by unfold maxLen; omega) (by omega)
      obtain ⟨a', c', rfl, hQ', hb⟩ := own_ints hO (q ++ [t]) (by simp [h1]) (by simp)
      refine ⟨a', c', w', hrun, ?_, (Frm.grown hgr (D := []) (by simp)).nil⟩
      obtain ⟨k1, k2, k3 | ⟨g', off', cs', hg', hB', r⟩⟩ := hQ'
      · exact ⟨k1, k2, .inl k3⟩
      · exact ⟨k1, k2, .inr ⟨g', off', cs', hg', by omega, r⟩⟩
theorem wpl_queue {w : World} {ops : Array Oper} {rest : List Oper} {o : Oper} {x : Act} {Q : Exit → Act → World → Prop} (hgd : o.guard = none) (p r : Operand)
    (ho : o.op = .call { callee := .builtin .append, args := #[p, r], argTypes := #[72, 72] }) {B : Nat} {a : Option Addr} {n c g2 t : Nat} {q : List Nat}
    (hd : x.eval p = .slice a n c) (hr : x.eval r = .slice (some ⟨g2, 0, none⟩) 1 1) (hQ : Qu B w a n c q) (hg : w.heap[g2]? = some (.cells #[.int .i64 (t : Int)] 3 (0, 0))) (hn : n ≤ 100000) (hB : B ≤ w.heap.size)
    (hK : ∀ a' c' w', Qu B w' a' (n + 1) c' (q ++ [t]) → Frm (bkQ a) w w' → wpList Try.prog ops Q rest (x.put o.dst (.slice a' (n + 1 : Nat) c')) w') : wpList Try.prog ops Q (o :: rest) x w := by
  refine wpList_plain hgd fun K hK' => ?_
  obtain ⟨a', c', w', hrun, h1, h2⟩ := run_queue hQ t hg hn hB o.type
  unfold Oper.wp
  simp [execOp, ho, resolve, invoke, builtin, hd, hr, hrun, Result.andThen]
  exact hK' _ _ (hK _ _ _ h1 h2)
#print axioms wpl_queue
end Go.Proofs.Ytoieedlkffmcgaa
