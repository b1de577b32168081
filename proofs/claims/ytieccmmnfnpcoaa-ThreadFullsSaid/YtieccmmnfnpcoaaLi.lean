/- Slices that are read alone, as lists of numbers. -/
import Derived.Test.YtieccmmnfnpcoaaArgs
namespace Go.Proofs.Ytieccmmnfnpcoaa
open Go.ChangeShapes Go.WideShapes Go.ChangeAt Go.RowKit

/-- A slice of integers that is read alone. -/
structure Li (k : IntKind) (w : World) (a : Option Addr) (n c b o : Nat) (l : List Int) : Prop where
  len : l.length = n
  ad : 0 < n → a = some ⟨b, o, none⟩
  cell : ∀ i x, l[i]? = some x → w.cell? ⟨b, o + i, none⟩ = some (.int k x)
  cap : n ≤ c

namespace Li
variable {k : IntKind} {w w' : World} {a : Option Addr} {n c b o : Nat} {l : List Int}
theorem lt (h : Li k w a n c b o l) (hn : 0 < n) : b < w.heap.size := by
  have hl := h.len
  have := h.cell 0 (l[0]'(by omega)) (List.getElem?_eq_getElem _)
  exact World.block_lt_of_cell? w _ this
theorem frm {D : List Nat} (h : Li k w a n c b o l) (hf : Frm D w w') (hd : 0 < n → b ∉ D) : Li k w' a n c b o l := by
  refine ⟨h.len, h.ad, fun i x hx => ?_, h.cap⟩
  have hn : 0 < n := by have := (List.getElem?_eq_some_iff.1 hx).1; have := h.len; omega
  rw [hf.cell (h.lt hn) (hd hn)]; exact h.cell i x hx
theorem frm0 (h : Li k w a n c b o l) (hf : Frm [] w w') : Li k w' a n c b o l := h.frm hf (by simp)
theorem nil (w : World) (b o : Nat) : Li k w none 0 0 b o [] := ⟨rfl, fun h => by omega, fun i x hx => by simp at hx, by omega⟩
theorem get (h : Li k w a n c b o l) {i : Nat} (hi : i < n) : ∃ x, l[i]? = some x ∧ l.getD i 0 = x ∧ w.cell? ⟨b, o + i, none⟩ = some (.int k x) := by
  have hl := h.len
  have e : l[i]? = some (l[i]'(by omega)) := List.getElem?_eq_getElem _
  exact ⟨_, e, by rw [List.getD_eq_getElem?_getD, e]; rfl, h.cell _ _ e⟩
/-- What is behind the first i. -/
theorem drop (h : Li k w a n c b o l) {i : Nat} (hi : i ≤ n) : Li k w (a.map (fun x => x.add i)) (n - i) (c - i) b (o + i) (l.drop i) := by
  have hc := h.cap
  refine ⟨by rw [List.length_drop, h.len], fun hp => ?_, fun j x hx => ?_, by omega⟩
  · rw [h.ad (by omega)]
    simp only [Option.map_some, Option.some.injEq]
    by_cases e : i = 0
    · subst e; simp [Addr.add]
    · simp [Addr.add, e]
  · rw [List.getElem?_drop] at hx
    rw [Nat.add_assoc]; exact h.cell _ _ hx
end Li

theorem ix_u8 {a : Option Addr} {n c b o k : Nat} (ha : 0 < n → a = some ⟨b, o, none⟩) (hk : k < n) (w : World) : (Instr.indexAt 99 (.slice a n c) (.int .i64 (k : Int))).run Try.prog w = .ok (.pointer (some ⟨b, o + k, none⟩)) w := by
  obtain rfl := ha (by omega)
  have h1 : (k : Int) < (n : Int) := by omega
  simp [go_sem, h1]
theorem li_of_row {k : IntKind} {w : World} {a : Option Addr} {n c : Nat} {zs : List Int} (h : IsRow k w a n c zs) : ∃ b o, Li k w a n c b o (zs.take n) ∧ (∀ x ∈ zs.take n, (Lit.int k x).wf = true) ∧ (0 < n → b < w.heap.size) := by
  by_cases hl : 0 < n
  · obtain ⟨_, h2, h3, _, h5, b, o, rfl, hb, hr⟩ := h.rd hl
    exact ⟨b, o, ⟨h2, fun _ => rfl, hr, h3⟩, h5, fun _ => hb⟩
  · obtain rfl : n = 0 := by omega
    exact ⟨0, 0, ⟨by simp, fun h => by omega, fun i x hx => by simp at hx, by omega⟩, fun x hx => by simp at hx, fun h => by omega⟩

/-- The block of a slice. -/
def blk : Value → List Nat
  | .slice (some a) _ _ => [a.block]
  | _ => []
theorem blk_none (n c : Nat) : blk (.slice none n c) = [] := rfl
end Go.Proofs.Ytieccmmnfnpcoaa
