/- Rows of integers of any kind that a call has made for itself: as they lie, as they are read, as they grow. -/
import Derived.Test.YtieccmmnfnpcoaaLi
import Derived.Deep.AppendSrc
import Derived.Lib.AppendZerosOnto
namespace Go.Proofs.Ytieccmmnfnpcoaa
open Go.ChangeShapes Go.WideShapes Go.ChangeAt Go.RowKit

theorem own_frm {D : List Nat} {B s m : Nat} {t : TypeId} {w w' : World} {v : Value} {xs : List Value} (h : w.ownsRow B t s v m xs) (hf : Frm D w w') (hd : ∀ x ∈ blk v, x ∉ D) : w'.ownsRow B t s v m xs := by
  obtain ⟨h0, hh⟩ := h
  refine ⟨h0, ?_⟩
  rcases hh with hh | ⟨g, cap, cur, hv, hg, hc, r⟩
  · exact .inl hh
  · exact .inr ⟨g, cap, cur, hv, hg, hf.heap hc (hd g (by rw [hv]; simp [blk])), r⟩
theorem own_blk {B s m : Nat} {t : TypeId} {w : World} {v : Value} {xs : List Value} (h : w.ownsRow B t s v m xs) : ∀ x ∈ blk v, B ≤ x ∧ x < w.heap.size := by
  obtain ⟨h0, hh⟩ := h
  intro x hx
  rcases hh with ⟨hv, _⟩ | ⟨g, cap, cur, hv, hg, hc, r⟩
  · rw [hv] at hx; cases hx
  · rw [hv] at hx; simp [blk] at hx; subst hx; exact ⟨hg, lt_of_heap hc⟩
theorem own_form {B s m : Nat} {t : TypeId} {w : World} {v : Value} {xs : List Value} (h : w.ownsRow B t s v m xs) : ∃ a c, v = .slice a m c ∧ m ≤ c ∧ (a = none → m = 0) := by
  rcases h.2 with ⟨hv, hn⟩ | ⟨g, cap, cur, hv, _, _, hc, _⟩
  · exact ⟨none, 0, by rw [hv, hn], by omega, fun _ => hn⟩
  · exact ⟨_, cap, hv, hc, fun h => by cases h⟩
theorem own_ownb {B s m : Nat} {t : TypeId} {w : World} {v : Value} {xs : List Value} (h : w.ownsRow B t s v m xs) : ∀ k, v.ownBlock = some k → k ∈ blk v := by
  obtain ⟨a, c, rfl, _, _⟩ := own_form h
  intro k hk
  cases a with
  | none => simp [Value.ownBlock] at hk
  | some a => simp [Value.ownBlock] at hk; subst hk; simp [blk]

/-- Integers as cells. -/
def ns (k : IntKind) (l : List Int) : List Value := l.map (Value.int k)
theorem ns_length (k : IntKind) (l : List Int) : (ns k l).length = l.length := by simp [ns]
theorem ns_one (k : IntKind) (l : List Int) : ∀ u ∈ ns k l, u.oneCell' = true := by
  intro u hu
  obtain ⟨x, _, rfl⟩ := List.mem_map.1 hu
  rfl
/-- A row of integers of the call's own, from block B on. -/
def Row (k : IntKind) (t : TypeId) (B : Nat) (w : World) (a : Option Addr) (n c : Nat) (l : List Int) : Prop := w.ownsRow B t 1 (.slice a n c) l.length (ns k l) ∧ n = l.length
namespace Row
variable {k : IntKind} {t : TypeId} {B : Nat} {w w' : World} {a : Option Addr} {n c : Nat} {l : List Int}
theorem nil (k : IntKind) (t : TypeId) (B : Nat) (w : World) : Row k t B w none 0 0 [] := ⟨World.ownsRow_nil _ _ _ _, rfl⟩
theorem frm {D : List Nat} (h : Row k t B w a n c l) (hf : Frm D w w') (hd : ∀ x ∈ Go.Proofs.Ytieccmmnfnpcoaa.blk (.slice a n c), x ∉ D) : Row k t B w' a n c l := ⟨own_frm h.1 hf hd, h.2⟩
theorem frm0 (h : Row k t B w a n c l) (hf : Frm [] w w') : Row k t B w' a n c l := h.frm hf (by simp)
theorem blk (h : Row k t B w a n c l) : ∀ x ∈ Go.Proofs.Ytieccmmnfnpcoaa.blk (.slice a n c), B ≤ x ∧ x < w.heap.size := own_blk h.1
theorem form (h : Row k t B w a n c l) : n ≤ c ∧ (a = none → n = 0) := by
  obtain ⟨a', c', e, h1, h2⟩ := own_form h.1
  obtain ⟨h3, h4⟩ := h
  cases e
  exact ⟨h1, h2⟩
/-- It lies in a block of its own, from its head on; a row that is not empty. -/
theorem block (h : Row k t B w a n c l) (hn : 0 < n) : ∃ g cs, a = some ⟨g, 0, none⟩ ∧ B ≤ g ∧ w.heap[g]? = some (.cells cs t (0, 0)) ∧ n ≤ cs.size ∧ cs.toList.take n = ns k l := by
  obtain ⟨⟨h0, hh⟩, h2⟩ := h
  rcases hh with ⟨hv, hn'⟩ | ⟨g, cap, cur, hv, hg, hc, h3, hm, hs, ht⟩
  · omega
  · cases hv
    have e : cur.toList.take l.length = ns k l := by simpa using ht
    refine ⟨g, cur, rfl, hg, hc, ?_, e⟩
    have := congrArg List.length e
    rw [List.length_take, ns_length, Array.length_toList] at this
    omega
theorem li (h : Row k t B w a n c l) : ∃ b, Li k w a n c b 0 l := by
  have hf := h.form
  by_cases hn : 0 < n
  · obtain ⟨g, cs, rfl, _, hc, hs, ht⟩ := h.block hn
    refine ⟨g, h.2.symm, fun _ => rfl, fun i x hx => ?_, hf.1⟩
    have hj : (ns k l)[i]? = some (.int k x) := by simp [ns, hx]
    have hlt := (List.getElem?_eq_some_iff.1 hx).1
    have hln := h.2
    rw [cell_of_heap hc, Nat.zero_add, ← Array.getElem?_toList]
    rw [← ht, List.getElem?_take, if_pos (by omega)] at hj
    exact hj
  · obtain rfl : n = 0 := by omega
    obtain rfl : l = [] := List.eq_nil_of_length_eq_zero h.2.symm
    exact ⟨0, rfl, fun h => by omega, fun i x hx => by simp at hx, hf.1⟩
end Row

theorem run_append_none {P : Program} (w : World) (t ty e : TypeId) (i : TypeInfo) (ht : P.underlying t = some (.slice e)) (hi : P.info? e = some i) (a : Option Addr) (n c : Nat) (a2 : Option Addr) (c2 : Nat) (hnc : n ≤ c) (hn : a = none → n = 0) :
    (Builtin.append_ #[t, t] ty #[.slice a n c, .slice a2 0 c2]).run P w = .ok (.slice a n c) w := by
  cases a with
  | none => obtain rfl := hn rfl; cases a2 <;> simp [Builtin.append_, run_underlying ht, sizeOf, typeInfo, hi, Builtin.lenOf, Builtin.firstCells, loadCells, loadCellsFrom]
  | some a => cases a2 <;> simp [Builtin.append_, run_underlying ht, sizeOf, typeInfo, hi, Builtin.lenOf, Builtin.firstCells, hnc, storeCells, loadCells, loadCellsFrom]

/-- append of integers that are read somewhere. T: the slice's type, by: how many bytes an element has. -/
theorem run_app {k : IntKind} {t T : TypeId} {z : Value} {by_ : Nat} (hT : Try.prog.underlying T = some (.slice t)) (hi0 : (Try.prog.info? t).map (fun i => (i.zero, i.size, i.bytes)) = some (some z, 1, by_)) (hz : z.cells.size = 1) (hby : by_ ≤ 8)
    {B : Nat} {w : World} {a a2 : Option Addr} {n c m c2 b2 o2 : Nat} {l l2 : List Int} (hR : Row k t B w a n c l) (hL : Li k w a2 m c2 b2 o2 l2) (hn : l.length + m ≤ 10000000) (hB : B ≤ w.heap.size) (ty : TypeId) :
    ∃ a' c' w', (Builtin.append_ #[T, T] ty #[.slice a n c, .slice a2 m c2]).run Try.prog w = .ok (.slice a' (n + m) c') w' ∧ Row k t B w' a' (n + m) c' (l ++ l2) ∧ Frm (Go.Proofs.Ytieccmmnfnpcoaa.blk (.slice a n c)) w w' := by
  obtain ⟨i0, hi, hz0, hz1, hz2⟩ := info_parts hi0
  have hfm := hR.form
  obtain ⟨hO, rfl⟩ := hR
  have hlen := hL.len
  by_cases hm : 0 < m
  · obtain rfl := hL.ad hm
    obtain ⟨v', w', hr, hO2, hg, _⟩ := run_append_own (P := Try.prog) w B T ty t i0 z 1 by_ hT hi hz0 hz1 hz2 hz (by decide) _ _ _ hO ⟨b2, o2, none⟩ m c2 (ns k l2) (by rw [ns_length]; omega)
      (fun j u hj => by
        rw [Addr.add_lit]
        have hjl := (List.getElem?_eq_some_iff.1 hj).1
        rw [ns_length] at hjl
        rw [hL.cell j (l2[j]) (List.getElem?_eq_getElem hjl), ← hj]
        simp [ns, List.getElem?_eq_getElem hjl]) (ns_one k l2) (by unfold maxLen; omega) (by
          have : (l.length + m) * by_ ≤ (l.length + m) * 8 := Nat.mul_le_mul_left _ hby
          omega) hB
    obtain ⟨a', c', rfl, _, _⟩ := own_form hO2
    refine ⟨a', c', w', hr, ⟨?_, by simp [hlen]⟩, Frm.grown hg (fun k hk => own_ownb hO k hk)⟩
    have e : ns k (l ++ l2) = ns k l ++ ns k l2 := by simp [ns]
    rw [e, List.length_append, hlen]; exact hO2
  · obtain rfl : m = 0 := by omega
    obtain rfl : l2 = [] := List.eq_nil_of_length_eq_zero hlen
    have := run_append_none (P := Try.prog) w T ty t i0 hT hi a l.length c a2 c2 hfm.1 hfm.2
    exact ⟨a, c, w, this, ⟨by simpa using hO, by simp⟩, Frm.refl _ _⟩
theorem wpl_app {k : IntKind} {t T : TypeId} {z : Value} {by_ : Nat} (hT : Try.prog.underlying T = some (.slice t)) (hi0 : (Try.prog.info? t).map (fun i => (i.zero, i.size, i.bytes)) = some (some z, 1, by_)) (hz : z.cells.size = 1) (hby : by_ ≤ 8)
    {w : World} {ops : Array Oper} {rest : List Oper} {o : Oper} {x : Act} {Q : Exit → Act → World → Prop} (hgd : o.guard = none) (p q : Operand)
    (ho : o.op = .call { callee := .builtin .append, args := #[p, q], argTypes := #[T, T] }) {B : Nat} {a a2 : Option Addr} {n c m c2 b2 o2 : Nat} {l l2 : List Int}
    (hd : x.eval p = .slice a n c) (hq : x.eval q = .slice a2 m c2) (hR : Row k t B w a n c l) (hL : Li k w a2 m c2 b2 o2 l2) (hn : l.length + m ≤ 10000000) (hB : B ≤ w.heap.size)
    (hK : ∀ a' c' w', Row k t B w' a' (n + m) c' (l ++ l2) → Frm (blk (.slice a n c)) w w' → wpList Try.prog ops Q rest (x.put o.dst (.slice a' (n + m : Nat) c')) w') : wpList Try.prog ops Q (o :: rest) x w := by
  refine wpList_plain hgd fun K hK' => ?_
  obtain ⟨a', c', w', hr, h1, h2⟩ := run_app hT hi0 hz hby hR hL hn hB o.type
  unfold Oper.wp
  simp [execOp, ho, resolve, invoke, builtin, hd, hq, hr, Result.andThen]
  exact hK' _ _ (hK _ _ _ h1 h2)

/-- A new row: the block is known whole. -/
theorem row_new {k : IntKind} {t : TypeId} {B g n : Nat} {w : World} {l : List Int} (hl : l.length = n) (h : w.heap[g]? = some (.cells (ns k l).toArray t (0, 0))) (hB : B ≤ g) (hn : n ≤ maxLen) : Row k t B w (some ⟨g, 0, none⟩) n n l := by
  subst hl
  refine ⟨⟨?_, .inr ⟨g, l.length, (ns k l).toArray, rfl, hB, h, Nat.le_refl _, hn, ?_, ?_⟩⟩, rfl⟩
  · simp [ns]
  · simp [ns]
  · rw [List.take_of_length_le (by simp [ns])]
theorem li_new {k : IntKind} {t : TypeId} {g n : Nat} {w : World} {l : List Int} (hl : l.length = n) (h : w.heap[g]? = some (.cells (ns k l).toArray t (0, 0))) : Li k w (some ⟨g, 0, none⟩) n n g 0 l :=
  ⟨hl, fun _ => rfl, fun i x hx => by rw [cell_of_heap h, Nat.zero_add, List.getElem?_toArray]; simp [ns, hx], Nat.le_refl _⟩
/-- make of so many integers. -/
theorem run_mk {k : IntKind} {t T : TypeId} {by_ : Nat} (hT : Try.prog.underlying T = some (.slice t)) (hi0 : (Try.prog.info? t).map (fun i => (i.zero, i.size, i.bytes)) = some (some (Value.int k 0), 1, by_)) (hby : by_ ≤ 8) (n : Nat) (h : n ≤ 2147483647) (w : World) :
    (Instr.makeSlice T (.int .i64 n) (.int .i64 n)).run Try.prog w = .ok (.slice (some ⟨w.heap.size, 0, none⟩) n n) (w.alloc (.cells (ns k (List.replicate n 0)).toArray t)) := by
  obtain ⟨i0, hi, hz0, hz1, hz2⟩ := info_parts hi0
  have := run_make (P := Try.prog) w T t i0 (.int k 0) hT hi hz0 .i64 .i64 (n : Int) (n : Int) (by omega) (by omega) (by
    rw [hz2]
    have : n * by_ ≤ n * 8 := Nat.mul_le_mul_left _ hby
    rw [Nat.mul_comm] at this
    simp; omega) (by omega)
  rw [this, hz1]
  have e : madeCells (Value.int k 0).cells (Int.toNat (n : Int) * 1) = (ns k (List.replicate n 0)).toArray := by
    apply Array.ext
    · simp [madeCells, ns]
    · intro j h1 h2
      simp [madeCells, ns, Value.cells, Nat.mod_one]
  rw [e]; simp
theorem set_ns (k : IntKind) (l : List Int) (i : Nat) (v : Int) : (ns k l).toArray.setIfInBounds i (.int k v) = (ns k (l.set i v)).toArray := by
  rw [List.setIfInBounds_toArray]; unfold ns; rw [List.map_set]
/-- A store into a row of the call's own. -/
theorem row_set {k : IntKind} {t : TypeId} {B g i n c : Nat} {w : World} {l : List Int} (h : Row k t B w (some ⟨g, 0, none⟩) n c l) (v : Int) : Row k t B (w.setCell ⟨g, i, none⟩ (.int k v)) (some ⟨g, 0, none⟩) n c (l.set i v) := by
  obtain ⟨⟨h0, hh⟩, h2⟩ := h
  rcases hh with ⟨hv, _⟩ | ⟨g', cap, cur, hv, hg, hc, h3, hm, hs, ht⟩
  · cases hv
  · cases hv
    refine ⟨⟨by simp [ns], .inr ⟨g, c, cur.setIfInBounds i (.int k v), by rw [List.length_set], hg, heap_setCell_at _ hc, ?_, hm, ?_, ?_⟩⟩, by rw [List.length_set]⟩
    · rw [List.length_set]; exact h3
    · simpa using hs
    · rw [Array.toList_setIfInBounds, List.length_set, List.take_set]
      rw [Nat.mul_one] at ht ⊢
      rw [ht]
      unfold ns
      rw [List.map_set]
theorem row_frozen {k : IntKind} {t : TypeId} {B g n c : Nat} {w : World} {l : List Int} (h : Row k t B w (some ⟨g, 0, none⟩) n c l) (hn : 0 < n) (i : Nat) : w.frozen? ⟨g, i, none⟩ = false := by
  obtain ⟨g', cs, e, _, hc, _⟩ := h.block hn
  cases e
  exact frozen_of_heap hc
#print axioms row_set
end Go.Proofs.Ytieccmmnfnpcoaa
