/- Rows of bytes and of operations: as they lie, as they are read, as they grow. -/
import Derived.Test.YtegoggnocpgoiaaScrM
import Derived.Test.YtegoggnocpgoiaaLi
import Derived.Deep.AppendSrc
import Derived.Lib.AppendZerosOnto
namespace Go.Proofs.Ytegoggnocpgoiaa
open Go.ChangeShapes Go.WideShapes Go.ChangeAt Go.RowKit

/-- An operation. -/
structure Opr where
  k : Int
  t : Int
  n : Int
  v : Int
  key : ByteArray
  val : ByteArray
  old : ByteArray
  tk : Int
/-- The cells of an operation. -/
def opC (x : Opr) : List Value := [.int .i64 x.k, .int .i64 x.t, .int .i64 x.n, .int .i64 x.v, .string x.key, .string x.val, .string x.old, .int .i64 x.tk]
def opsC (l : List Opr) : List Value := l.flatMap opC
theorem opC_length (x : Opr) : (opC x).length = 8 := rfl
theorem opsC_cons (x : Opr) (l : List Opr) : opsC (x :: l) = opC x ++ opsC l := rfl
theorem opsC_append (l m : List Opr) : opsC (l ++ m) = opsC l ++ opsC m := by unfold opsC; simp
theorem opsC_length (l : List Opr) : (opsC l).length = l.length * 8 := by
  induction l with
  | nil => rfl
  | cons x l ih => rw [opsC_cons, List.length_append, opC_length, ih]; simp; omega
theorem opsC_one (l : List Opr) : ∀ u ∈ opsC l, u.oneCell' = true := by
  intro u hu
  unfold opsC at hu
  obtain ⟨a, _, ha⟩ := List.mem_flatMap.1 hu
  simp [opC] at ha
  rcases ha with rfl | rfl | rfl | rfl | rfl | rfl | rfl | rfl <;> rfl
theorem opsC_get : ∀ {l : List Opr} {i j : Nat} {x : Opr}, l[i]? = some x → j < 8 → (opsC l)[i * 8 + j]? = (opC x)[j]?
  | y :: l, 0, j, x, h, hj => by
    cases h
    rw [opsC_cons, Nat.zero_mul, Nat.zero_add, List.getElem?_append_left (by rw [opC_length]; exact hj)]
  | y :: l, i + 1, j, x, h, hj => by
    have := opsC_get (l := l) (i := i) (j := j) (by simpa using h) hj
    rw [opsC_cons, List.getElem?_append_right (by rw [opC_length]; omega), opC_length, show (i + 1) * 8 + j - 8 = i * 8 + j by omega]
    exact this

/-- The eight cells of an operation from a place on. -/
def OpAt (w : World) (b o : Nat) (x : Opr) : Prop :=
  w.cell? ⟨b, o, none⟩ = some (.int .i64 x.k) ∧ w.cell? ⟨b, o + 1, none⟩ = some (.int .i64 x.t) ∧ w.cell? ⟨b, o + 2, none⟩ = some (.int .i64 x.n) ∧ w.cell? ⟨b, o + 3, none⟩ = some (.int .i64 x.v) ∧
  w.cell? ⟨b, o + 4, none⟩ = some (.string x.key) ∧ w.cell? ⟨b, o + 5, none⟩ = some (.string x.val) ∧ w.cell? ⟨b, o + 6, none⟩ = some (.string x.old) ∧ w.cell? ⟨b, o + 7, none⟩ = some (.int .i64 x.tk)
theorem OpAt.frm {D : List Nat} {w w' : World} {b o : Nat} {x : Opr} (h : OpAt w b o x) (hf : Frm D w w') (hb : b < w.heap.size) (hd : b ∉ D) : OpAt w' b o x := by
  obtain ⟨h0, h1, h2, h3, h4, h5, h6, h7⟩ := h
  exact ⟨(hf.cell hb hd).trans h0, (hf.cell hb hd).trans h1, (hf.cell hb hd).trans h2, (hf.cell hb hd).trans h3, (hf.cell hb hd).trans h4, (hf.cell hb hd).trans h5, (hf.cell hb hd).trans h6, (hf.cell hb hd).trans h7⟩
theorem OpAt.of {w : World} {b o : Nat} {x : Opr} (h : ∀ j, j < 8 → w.cell? ⟨b, o + j, none⟩ = (opC x)[j]?) : OpAt w b o x :=
  ⟨h 0 (by omega), h 1 (by omega), h 2 (by omega), h 3 (by omega), h 4 (by omega), h 5 (by omega), h 6 (by omega), h 7 (by omega)⟩
theorem OpAt.block {w : World} {b : Nat} {x : Opr} {t : TypeId} (h : w.heap[b]? = some (.cells #[.int .i64 x.k, .int .i64 x.t, .int .i64 x.n, .int .i64 x.v, .string x.key, .string x.val, .string x.old, .int .i64 x.tk] t (0, 0))) : OpAt w b 0 x :=
  ⟨by rw [cell_of_heap h]; rfl, by rw [cell_of_heap h]; rfl, by rw [cell_of_heap h]; rfl, by rw [cell_of_heap h]; rfl, by rw [cell_of_heap h]; rfl, by rw [cell_of_heap h]; rfl, by rw [cell_of_heap h]; rfl, by rw [cell_of_heap h]; rfl⟩

/-- A slice of operations that is read alone. -/
structure Lo (w : World) (a : Option Addr) (n c b o : Nat) (l : List Opr) : Prop where
  len : l.length = n
  ad : 0 < n → a = some ⟨b, o, none⟩
  cell : ∀ i x, l[i]? = some x → OpAt w b (o + i * 8) x
  cap : n ≤ c

namespace Lo
variable {w w' : World} {a : Option Addr} {n c b o : Nat} {l : List Opr}
theorem lt (h : Lo w a n c b o l) (hn : 0 < n) : b < w.heap.size := by
  have hl := h.len
  have := h.cell 0 (l[0]'(by omega)) (List.getElem?_eq_getElem _)
  exact World.block_lt_of_cell? w _ this.1
theorem frm {D : List Nat} (h : Lo w a n c b o l) (hf : Frm D w w') (hd : 0 < n → b ∉ D) : Lo w' a n c b o l := by
  refine ⟨h.len, h.ad, fun i x hx => ?_, h.cap⟩
  have hn : 0 < n := by have := (List.getElem?_eq_some_iff.1 hx).1; have := h.len; omega
  exact (h.cell i x hx).frm hf (h.lt hn) (hd hn)
theorem frm0 (h : Lo w a n c b o l) (hf : Frm [] w w') : Lo w' a n c b o l := h.frm hf (by simp)
theorem nil (w : World) (b o : Nat) : Lo w none 0 0 b o [] := ⟨rfl, fun h => by omega, fun i x hx => by simp at hx, by omega⟩
theorem get (h : Lo w a n c b o l) {i : Nat} (hi : i < n) : ∃ x, l[i]? = some x ∧ OpAt w b (o + i * 8) x := by
  have hl := h.len
  have e : l[i]? = some (l[i]'(by omega)) := List.getElem?_eq_getElem _
  exact ⟨_, e, h.cell _ _ e⟩
/-- The first i. -/
theorem take (h : Lo w a n c b o l) {i : Nat} (hi : i ≤ n) : Lo w a i c b o (l.take i) := by
  have hc := h.cap
  refine ⟨by rw [List.length_take, h.len]; omega, fun hp => h.ad (by omega), fun j x hx => ?_, by omega⟩
  rw [List.getElem?_take] at hx
  split at hx
  · exact h.cell _ _ hx
  · cases hx
end Lo
theorem ix_op {a : Option Addr} {n c b o k : Nat} (ha : 0 < n → a = some ⟨b, o, none⟩) (hk : k < n) (w : World) : (Instr.indexAt 31 (.slice a n c) (.int .i64 (k : Int))).run Try.prog w = .ok (.pointer (some ⟨b, o + k * 8, none⟩)) w := by
  obtain rfl := ha (by omega)
  have h1 : (k : Int) < (n : Int) := by omega
  simp [go_sem, h1]

/-- A row that a call has made for itself from block B on: of elements of type t, with s cells each. -/
theorem own_frm {D : List Nat} {B s m : Nat} {t : TypeId} {w w' : World} {v : Value} {xs : List Value} (h : w.ownsRow B t s v m xs) (hf : Frm D w w') (hd : ∀ x ∈ blk v, x ∉ D) : w'.ownsRow B t s v m xs := by
  obtain ⟨h0, hh⟩ := h
  refine ⟨h0, ?_⟩
  rcases hh with hh | ⟨g, cap, cur, hv, hg, hc, r⟩
  · exact .inl hh
  · exact .inr ⟨g, cap, cur, hv, hg, hf.heap hc (hd g (by rw [hv]; simp [blk])), r⟩
theorem own_blk {B s m : Nat} {t : TypeId} {w : World} {v : Value} {xs : List Value} (h : w.ownsRow B t s v m xs) : ∀ x ∈ blk v, B ≤ x ∧ x < w.heap.size := by
  obtain ⟨h0, hh⟩ := h
  intro x hx
  rcases hh with ⟨hv, _⟩ | ⟨g, cap, cur, hv, hg, hc, r⟩
  · rw [hv] at hx; cases hx
  · rw [hv] at hx; simp [blk] at hx; subst hx; exact ⟨hg, lt_of_heap hc⟩
theorem own_form {B s m : Nat} {t : TypeId} {w : World} {v : Value} {xs : List Value} (h : w.ownsRow B t s v m xs) : ∃ a c, v = .slice a m c ∧ m ≤ c ∧ (a = none → m = 0) := by
  rcases h.2 with ⟨hv, hn⟩ | ⟨g, cap, cur, hv, _, _, hc, _⟩
  · exact ⟨none, 0, by rw [hv, hn], by omega, fun _ => hn⟩
  · exact ⟨_, cap, hv, hc, fun h => by cases h⟩
theorem own_ownb {B s m : Nat} {t : TypeId} {w : World} {v : Value} {xs : List Value} (h : w.ownsRow B t s v m xs) : ∀ k, v.ownBlock = some k → k ∈ blk v := by
  obtain ⟨a, c, rfl, _, _⟩ := own_form h
  intro k hk
  cases a with
  | none => simp [Value.ownBlock] at hk
  | some a => simp [Value.ownBlock] at hk; subst hk; simp [blk]

def u8s (l : List Int) : List Value := l.map (Value.int .u8)
theorem u8s_length (l : List Int) : (u8s l).length = l.length := by simp [u8s]
theorem u8s_one (l : List Int) : ∀ u ∈ u8s l, u.oneCell' = true := by
  intro u hu
  obtain ⟨x, _, rfl⟩ := List.mem_map.1 hu
  rfl
def RowU (B : Nat) (w : World) (a : Option Addr) (n c : Nat) (l : List Int) : Prop := w.ownsRow B 5 1 (.slice a n c) l.length (u8s l) ∧ n = l.length
def RowP (B : Nat) (w : World) (a : Option Addr) (n c : Nat) (l : List Opr) : Prop := w.ownsRow B 30 8 (.slice a n c) l.length (opsC l) ∧ n = l.length
theorem RowU.nil (B : Nat) (w : World) : RowU B w none 0 0 [] := ⟨World.ownsRow_nil _ _ _ _, rfl⟩
theorem RowP.nil (B : Nat) (w : World) : RowP B w none 0 0 [] := ⟨World.ownsRow_nil _ _ _ _, rfl⟩
theorem RowU.frm {D : List Nat} {B : Nat} {w w' : World} {a : Option Addr} {n c : Nat} {l : List Int} (h : RowU B w a n c l) (hf : Frm D w w') (hd : ∀ x ∈ blk (.slice a n c), x ∉ D) : RowU B w' a n c l := ⟨own_frm h.1 hf hd, h.2⟩
theorem RowP.frm {D : List Nat} {B : Nat} {w w' : World} {a : Option Addr} {n c : Nat} {l : List Opr} (h : RowP B w a n c l) (hf : Frm D w w') (hd : ∀ x ∈ blk (.slice a n c), x ∉ D) : RowP B w' a n c l := ⟨own_frm h.1 hf hd, h.2⟩
theorem RowU.frm0 {B : Nat} {w w' : World} {a : Option Addr} {n c : Nat} {l : List Int} (h : RowU B w a n c l) (hf : Frm [] w w') : RowU B w' a n c l := h.frm hf (by simp)
theorem RowP.frm0 {B : Nat} {w w' : World} {a : Option Addr} {n c : Nat} {l : List Opr} (h : RowP B w a n c l) (hf : Frm [] w w') : RowP B w' a n c l := h.frm hf (by simp)
theorem RowU.blk {B : Nat} {w : World} {a : Option Addr} {n c : Nat} {l : List Int} (h : RowU B w a n c l) : ∀ x ∈ blk (.slice a n c), B ≤ x ∧ x < w.heap.size := own_blk h.1
theorem RowP.blk {B : Nat} {w : World} {a : Option Addr} {n c : Nat} {l : List Opr} (h : RowP B w a n c l) : ∀ x ∈ blk (.slice a n c), B ≤ x ∧ x < w.heap.size := own_blk h.1
theorem RowU.li {B : Nat} {w : World} {a : Option Addr} {n c : Nat} {l : List Int} (h : RowU B w a n c l) : ∃ b, Li .u8 w a n c b 0 l := by
  obtain ⟨⟨h0, hh⟩, h2⟩ := h
  rcases hh with ⟨hv, hn⟩ | ⟨g, cap, cur, hv, hg, hc, hn, hm, hs, ht⟩
  · cases hv
    obtain rfl : l = [] := List.eq_nil_of_length_eq_zero hn
    exact ⟨0, Li.nil w 0 0⟩
  · cases hv
    refine ⟨g, h2.symm, fun _ => rfl, fun i x hx => ?_, by omega⟩
    have hj : (u8s l)[i]? = some (.int .u8 x) := by simp [u8s, hx]
    have hlt := (List.getElem?_eq_some_iff.1 hx).1
    rw [cell_of_heap hc, Nat.zero_add, ← Array.getElem?_toList]
    rw [← ht, List.getElem?_take, if_pos (by omega)] at hj
    exact hj
theorem RowP.lo {B : Nat} {w : World} {a : Option Addr} {n c : Nat} {l : List Opr} (h : RowP B w a n c l) : ∃ b, Lo w a n c b 0 l := by
  obtain ⟨⟨h0, hh⟩, h2⟩ := h
  rcases hh with ⟨hv, hn⟩ | ⟨g, cap, cur, hv, hg, hc, hn, hm, hs, ht⟩
  · cases hv
    obtain rfl : l = [] := List.eq_nil_of_length_eq_zero hn
    exact ⟨0, Lo.nil w 0 0⟩
  · cases hv
    refine ⟨g, h2.symm, fun _ => rfl, fun i x hx => OpAt.of (fun j hj => ?_), by omega⟩
    have hlt := (List.getElem?_eq_some_iff.1 hx).1
    have hg := opsC_get hx hj
    rw [cell_of_heap hc, Nat.zero_add, ← Array.getElem?_toList, ← hg]
    rw [← ht, List.getElem?_take, if_pos (by omega)]

theorem info_u8 : (Try.prog.info? 5).map (fun i => (i.zero, i.size, i.bytes)) = some (some (.int .u8 0), 1, 1) := by kernel_rfl
theorem info_op : (Try.prog.info? 30).map (fun i => (i.zero, i.size, i.bytes)) = some (some (.agg #[.int .i64 0, .int .i64 0, .int .i64 0, .int .i64 0, .string ⟨#[]⟩, .string ⟨#[]⟩, .string ⟨#[]⟩, .int .i64 0]), 8, 88) := by kernel_rfl

theorem run_append_none {P : Program} (w : World) (t ty e : TypeId) (i : TypeInfo) (ht : P.underlying t = some (.slice e)) (hi : P.info? e = some i) (a : Option Addr) (n c : Nat) (a2 : Option Addr) (c2 : Nat) (hnc : n ≤ c) (hn : a = none → n = 0) :
    (Builtin.append_ #[t, t] ty #[.slice a n c, .slice a2 0 c2]).run P w = .ok (.slice a n c) w := by
  cases a with
  | none => obtain rfl := hn rfl; cases a2 <;> simp [Builtin.append_, run_underlying ht, sizeOf, typeInfo, hi, Builtin.lenOf, Builtin.firstCells, loadCells, loadCellsFrom]
  | some a => cases a2 <;> simp [Builtin.append_, run_underlying ht, sizeOf, typeInfo, hi, Builtin.lenOf, Builtin.firstCells, hnc, storeCells, loadCells, loadCellsFrom]

/-- append of bytes that are read somewhere. -/
theorem run_appU {B : Nat} {w : World} {a a2 : Option Addr} {n c m c2 b2 o2 : Nat} {l l2 : List Int} (hR : RowU B w a n c l) (hL : Li .u8 w a2 m c2 b2 o2 l2) (hn : l.length + m ≤ 10000000) (hB : B ≤ w.heap.size) (ty : TypeId) :
    ∃ a' c' w', (Builtin.append_ #[22, 22] ty #[.slice a n c, .slice a2 m c2]).run Try.prog w = .ok (.slice a' (n + m) c') w' ∧ RowU B w' a' (n + m) c' (l ++ l2) ∧ Frm (Go.Proofs.Ytegoggnocpgoiaa.blk (.slice a n c)) w w' := by
  obtain ⟨i0, hi, hz0, hz1, hz2⟩ := info_parts info_u8
  obtain ⟨hO, rfl⟩ := hR
  have hlen := hL.len
  by_cases hm : 0 < m
  · obtain rfl := hL.ad hm
    obtain ⟨v', w', hr, hO2, hg, _⟩ := run_append_own (P := Try.prog) w B 22 ty 5 i0 _ 1 1 Try.underlying22 hi hz0 hz1 hz2 rfl (by decide) _ _ _ hO ⟨b2, o2, none⟩ m c2 (u8s l2) (by rw [u8s_length]; omega)
      (fun j u hj => by
        rw [Addr.add_lit]
        have hjl := (List.getElem?_eq_some_iff.1 hj).1
        rw [u8s_length] at hjl
        rw [hL.cell j (l2[j]) (List.getElem?_eq_getElem hjl), ← hj]
        simp [u8s, List.getElem?_eq_getElem hjl]) (u8s_one l2) (by unfold maxLen; omega) (by omega) hB
    obtain ⟨a', c', rfl, _, _⟩ := own_form hO2
    refine ⟨a', c', w', hr, ⟨?_, by simp [hlen]⟩, Frm.grown hg (fun k hk => own_ownb hO k hk)⟩
    have e : u8s (l ++ l2) = u8s l ++ u8s l2 := by simp [u8s]
    rw [e, List.length_append, hlen]; exact hO2
  · obtain rfl : m = 0 := by omega
    obtain rfl : l2 = [] := List.eq_nil_of_length_eq_zero hlen
    obtain ⟨a', c', hv, hnc, hn0⟩ := own_form hO
    have := run_append_none (P := Try.prog) w 22 ty 5 i0 Try.underlying22 hi a l.length c a2 c2 (by cases hv; exact hnc) (by cases hv; exact hn0)
    exact ⟨a, c, w, this, ⟨by simpa using hO, by simp⟩, Frm.refl _ _⟩
theorem wpl_appU {w : World} {ops : Array Oper} {rest : List Oper} {o : Oper} {x : Act} {Q : Exit → Act → World → Prop} (hgd : o.guard = none) (p q : Operand)
    (ho : o.op = .call { callee := .builtin .append, args := #[p, q], argTypes := #[22, 22] }) {B : Nat} {a a2 : Option Addr} {n c m c2 b2 o2 : Nat} {l l2 : List Int}
    (hd : x.eval p = .slice a n c) (hq : x.eval q = .slice a2 m c2) (hR : RowU B w a n c l) (hL : Li .u8 w a2 m c2 b2 o2 l2) (hn : l.length + m ≤ 10000000) (hB : B ≤ w.heap.size)
    (hK : ∀ a' c' w', RowU B w' a' (n + m) c' (l ++ l2) → Frm (blk (.slice a n c)) w w' → wpList Try.prog ops Q rest (x.put o.dst (.slice a' (n + m : Nat) c')) w') : wpList Try.prog ops Q (o :: rest) x w := by
  refine wpList_plain hgd fun K hK' => ?_
  obtain ⟨a', c', w', hr, h1, h2⟩ := run_appU hR hL hn hB o.type
  unfold Oper.wp
  simp [execOp, ho, resolve, invoke, builtin, hd, hq, hr, Result.andThen]
  exact hK' _ _ (hK _ _ _ h1 h2)
/-- append of one operation. -/
theorem run_appP {B : Nat} {w : World} {a : Option Addr} {n c q : Nat} {l : List Opr} {x : Opr} (hR : RowP B w a n c l) (hq : w.heap[q]? = some (.cells #[.int .i64 x.k, .int .i64 x.t, .int .i64 x.n, .int .i64 x.v, .string x.key, .string x.val, .string x.old, .int .i64 x.tk] 30 (0, 0))) (hn : l.length ≤ 100000) (hB : B ≤ w.heap.size) (ty : TypeId) :
    ∃ a' c' w', (Builtin.append_ #[31, 31] ty #[.slice a n c, .slice (some ⟨q, 0, none⟩) 1 1]).run Try.prog w = .ok (.slice a' (n + 1) c') w' ∧ RowP B w' a' (n + 1) c' (l ++ [x]) ∧ Frm (Go.Proofs.Ytegoggnocpgoiaa.blk (.slice a n c)) w w' := by
  obtain ⟨i0, hi, hz0, hz1, hz2⟩ := info_parts info_op
  obtain ⟨hO, rfl⟩ := hR
  obtain ⟨v', w', hr, hO2, hg, _⟩ := run_append_own (P := Try.prog) w B 31 ty 30 i0 _ 8 88 Try.underlying31 hi hz0 hz1 hz2 rfl (by decide) _ _ _ hO ⟨q, 0, none⟩ 1 1 (opsC [x]) rfl
      (fun j u hj => by
        rw [Addr.add_lit, Nat.zero_add, cell_of_heap hq]
        have : (#[.int .i64 x.k, .int .i64 x.t, .int .i64 x.n, .int .i64 x.v, .string x.key, .string x.val, .string x.old, .int .i64 x.tk] : Array Value) = (opsC [x]).toArray := rfl
        rw [this, List.getElem?_toArray]; exact hj) (opsC_one [x]) (by unfold maxLen; omega) (by omega) hB
  obtain ⟨a', c', rfl, _, _⟩ := own_form hO2
  refine ⟨a', c', w', hr, ⟨?_, by simp⟩, Frm.grown hg (fun k hk => own_ownb hO k hk)⟩
  rw [opsC_append, List.length_append]; exact hO2
theorem wpl_appP {w : World} {ops : Array Oper} {rest : List Oper} {o : Oper} {x : Act} {Q : Exit → Act → World → Prop} (hgd : o.guard = none) (p q : Operand)
    (ho : o.op = .call { callee := .builtin .append, args := #[p, q], argTypes := #[31, 31] }) {B : Nat} {a : Option Addr} {n c g : Nat} {l : List Opr} {y : Opr}
    (hd : x.eval p = .slice a n c) (hq : x.eval q = .slice (some ⟨g, 0, none⟩) 1 1) (hR : RowP B w a n c l) (hs : w.heap[g]? = some (.cells #[.int .i64 y.k, .int .i64 y.t, .int .i64 y.n, .int .i64 y.v, .string y.key, .string y.val, .string y.old, .int .i64 y.tk] 30 (0, 0))) (hn : l.length ≤ 100000) (hB : B ≤ w.heap.size)
    (hK : ∀ a' c' w', RowP B w' a' (n + 1) c' (l ++ [y]) → Frm (blk (.slice a n c)) w w' → wpList Try.prog ops Q rest (x.put o.dst (.slice a' (n + 1 : Nat) c')) w') : wpList Try.prog ops Q (o :: rest) x w := by
  refine wpList_plain hgd fun K hK' => ?_
  obtain ⟨a', c', w', hr, h1, h2⟩ := run_appP hR hs hn hB o.type
  unfold Oper.wp
  simp [execOp, ho, resolve, invoke, builtin, hd, hq, hr, Result.andThen]
  exact hK' _ _ (hK _ _ _ h1 h2)

/-- A new row of bytes. -/
theorem li_u8 {w : World} {g n : Nat} {l : List Int} (hl : l.length = n) (h : w.heap[g]? = some (.cells (u8s l).toArray 5 (0, 0))) : Li .u8 w (some ⟨g, 0, none⟩) n n g 0 l :=
  ⟨hl, fun _ => rfl, fun i x hx => by rw [cell_of_heap h, Nat.zero_add, List.getElem?_toArray]; simp [u8s, hx], Nat.le_refl _⟩
theorem lo_block {w : World} {g n : Nat} {l : List Opr} (hl : l.length = n) (h : w.heap[g]? = some (.cells (opsC l).toArray 30 (0, 0))) : Lo w (some ⟨g, 0, none⟩) n n g 0 l :=
  ⟨hl, fun _ => rfl, fun i x hx => OpAt.of (fun j hj => by rw [cell_of_heap h, Nat.zero_add, List.getElem?_toArray]; exact opsC_get hx hj), Nat.le_refl _⟩
/-- What is behind the first k of some bytes. -/
theorem cut_from {w : World} {a : Option Addr} {n c b o : Nat} {l : List Int} (hL : Li .u8 w a n c b o l) (k : Nat) (hk : k ≤ n) :
    ∃ a', (∀ W : World, (Instr.sliceAt 22 (.slice a n c) (some (.int .i64 (k : Int))) none none).run Try.prog W = .ok (.slice a' (n - k) (c - k)) W) ∧ Li .u8 w a' (n - k) (c - k) b (o + k) (l.drop k) := by
  have hc := hL.cap
  refine ⟨if c = k then a else a.map (·.add k), fun W => ?_, ?_⟩
  · have h1 : (k : Int) ≤ (n : Int) := by omega
    simp [go_sem, h1]
  · have hD := hL.drop hk
    refine ⟨hD.len, fun hp => ?_, hD.cell, hD.cap⟩
    rw [if_neg (by omega)]; exact hD.ad hp
#print axioms cut_from
end Go.Proofs.Ytegoggnocpgoiaa
