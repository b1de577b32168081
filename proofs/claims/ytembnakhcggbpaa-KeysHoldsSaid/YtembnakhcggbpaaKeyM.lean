/- Strings byte by byte: the order, what two have in common. Plain facts, no Go text. -/
import Derived.Test.YtembnakhcggbpaaBase
import Derived.Lib.Bytealg
namespace Go.Proofs.Ytembnakhcggbpaa
open Go.ChangeShapes Go.WideShapes Go.ChangeAt Go.RowKit
open Go.Lib (compareBytes)

theorem cmp_self : ∀ a : List UInt8, compareBytes a a = 0
  | [] => rfl
  | x :: a => by
    have hl : ¬ x < x := UInt8.lt_irrefl x
    rw [compareBytes, if_neg hl, if_neg hl]; exact cmp_self a
theorem cmp_cases : ∀ a b : List UInt8, compareBytes a b = -1 ∨ compareBytes a b = 0 ∨ compareBytes a b = 1
  | [], [] => .inr (.inl rfl)
  | [], _ :: _ => .inl rfl
  | _ :: _, [] => .inr (.inr rfl)
  | x :: a, y :: b => by
    rw [compareBytes]
    split
    · exact .inl rfl
    · split
      · exact .inr (.inr rfl)
      · exact cmp_cases a b
theorem cmp_neg : ∀ a b : List UInt8, compareBytes b a = - compareBytes a b
  | [], [] => rfl
  | [], _ :: _ => rfl
  | _ :: _, [] => rfl
  | x :: a, y :: b => by
    rw [compareBytes, compareBytes]
    by_cases h1 : x < y
    · have h2 : ¬ y < x := fun h => UInt8.lt_irrefl x (UInt8.lt_trans h1 h)
      rw [if_neg h2, if_pos h1, if_pos h1]; rfl
    · by_cases h2 : y < x
      · rw [if_pos h2, if_neg h1, if_pos h2]
      · rw [if_neg h2, if_neg h1, if_neg h1, if_neg h2]; exact cmp_neg a b
theorem u8_tri {x y : UInt8} (h1 : ¬ x < y) (h2 : ¬ y < x) : x = y := UInt8.le_antisymm (UInt8.not_lt.1 h2) (UInt8.not_lt.1 h1)
theorem cmp_zero : ∀ {a b : List UInt8}, compareBytes a b = 0 → a = b
  | [], [], _ => rfl
  | [], _ :: _, h => by simp [compareBytes] at h
  | _ :: _, [], h => by simp [compareBytes] at h
  | x :: a, y :: b, h => by
    rw [compareBytes] at h
    split at h
    · simp at h
    · split at h
      · simp at h
      · rename_i h1 h2
        rw [u8_tri h1 h2, cmp_zero h]
theorem cmp_trans : ∀ {a b c : List UInt8}, compareBytes a b ≤ 0 → compareBytes b c ≤ 0 → compareBytes a c ≤ 0
  | [], _, [], _, _ => by decide
  | [], _, _ :: _, _, _ => by rw [compareBytes]; decide
  | _ :: _, [], _, h, _ => by simp [compareBytes] at h
  | _ :: _, _ :: _, [], _, h => by simp [compareBytes] at h
  | x :: a, y :: b, z :: c, h, k => by
    rw [compareBytes] at h k ⊢
    by_cases h1 : x < y
    · by_cases k1 : y < z
      · rw [if_pos (UInt8.lt_trans h1 k1)]; decide
      · by_cases k2 : z < y
        · rw [if_neg k1, if_pos k2] at k; simp at k
        · obtain rfl := u8_tri k1 k2
          rw [if_pos h1]; decide
    · by_cases h2 : y < x
      · rw [if_neg h1, if_pos h2] at h; simp at h
      · obtain rfl := u8_tri h1 h2
        rw [if_neg h1, if_neg h1] at h
        by_cases k1 : x < z
        · rw [if_pos k1]; decide
        · by_cases k2 : z < x
          · rw [if_neg k1, if_pos k2] at k; simp at k
          · rw [if_neg k1, if_neg k2] at k ⊢
            exact cmp_trans h k
theorem cmp_app : ∀ p a b : List UInt8, compareBytes (p ++ a) (p ++ b) = compareBytes a b
  | [], _, _ => rfl
  | x :: p, a, b => by
    have hl : ¬ x < x := UInt8.lt_irrefl x
    rw [List.cons_append, List.cons_append, compareBytes, if_neg hl, if_neg hl]; exact cmp_app p a b
theorem cmp_drop {a b : List UInt8} {k : Nat} (h : a.take k = b.take k) : compareBytes a b = compareBytes (a.drop k) (b.drop k) := by
  have := cmp_app (a.take k) (a.drop k) (b.drop k)
  rw [List.take_append_drop] at this
  rw [h, List.take_append_drop] at this
  exact this
theorem cmp_nil_r (a : List UInt8) : compareBytes a [] = if a = [] then 0 else 1 := by cases a <;> simp [compareBytes]
theorem cmp_nil_l (a : List UInt8) : compareBytes [] a = if a = [] then 0 else -1 := by cases a <;> simp [compareBytes]
theorem cmp_prefix (a b : List UInt8) : compareBytes a (a ++ b) ≤ 0 := by
  have := cmp_app a [] b
  rw [List.append_nil] at this
  rw [this, cmp_nil_l]; split <;> decide

/-- How many bytes two strings have in common at the front. -/
def pfx : List UInt8 → List UInt8 → Nat
  | x :: a, y :: b => if x = y then pfx a b + 1 else 0
  | _, _ => 0
theorem pfx_le : ∀ a b : List UInt8, pfx a b ≤ a.length ∧ pfx a b ≤ b.length
  | [], b => by cases b <;> simp [pfx]
  | _ :: _, [] => by simp [pfx]
  | x :: a, y :: b => by
    have := pfx_le a b
    rw [pfx]
    split <;> simp <;> omega
theorem pfx_take : ∀ a b : List UInt8, a.take (pfx a b) = b.take (pfx a b)
  | [], b => by cases b <;> simp [pfx]
  | _ :: _, [] => by simp [pfx]
  | x :: a, y :: b => by
    rw [pfx]
    split
    · rename_i h; subst h; simp [pfx_take a b]
    · simp
theorem pfx_stop : ∀ (a b : List UInt8) (h1 : pfx a b < a.length) (h2 : pfx a b < b.length), a[pfx a b] ≠ b[pfx a b]
  | [], b, h1, _ => by simp at h1
  | _ :: _, [], _, h2 => by simp at h2
  | x :: a, y :: b, h1, h2 => by
    have e : pfx (x :: a) (y :: b) = if x = y then pfx a b + 1 else 0 := by rw [pfx]
    by_cases h : x = y
    · rw [if_pos h] at e
      have h1' : pfx a b < a.length := by rw [e] at h1; simpa using h1
      have h2' : pfx a b < b.length := by rw [e] at h2; simpa using h2
      have := pfx_stop a b h1' h2'
      simp only [e, List.getElem_cons_succ]; exact this
    · rw [if_neg h] at e
      simp only [e, List.getElem_cons_zero]; exact h
theorem pfx_uniq : ∀ {a b : List UInt8} {k : Nat}, k ≤ a.length → k ≤ b.length → a.take k = b.take k → (∀ (h1 : k < a.length) (h2 : k < b.length), a[k] ≠ b[k]) → pfx a b = k
  | [], b, k, h1, _, _, _ => by have : k = 0 := by simpa using h1
                                subst this; cases b <;> simp [pfx]
  | _ :: _, [], k, _, h2, _, _ => by have : k = 0 := by simpa using h2
                                     subst this; simp [pfx]
  | x :: a, y :: b, 0, _, _, _, h => by
    have := h (by simp) (by simp)
    simp at this
    simp [pfx, this]
  | x :: a, y :: b, k + 1, h1, h2, ht, h => by
    simp only [List.take_succ_cons, List.cons.injEq] at ht
    have := pfx_uniq (a := a) (b := b) (k := k) (by simpa using h1) (by simpa using h2) ht.2 (fun g1 g2 => by
      have := h (by simpa using g1) (by simpa using g2)
      simpa using this)
    rw [pfx, if_pos ht.1, this]
theorem pfx_comm (a b : List UInt8) : pfx a b = pfx b a := by
  refine pfx_uniq (pfx_le b a).2 (pfx_le b a).1 (pfx_take b a).symm (fun h1 h2 => ?_)
  exact (pfx_stop b a h2 h1).symm
/-- Both begin with the same k bytes just if k is not more than they have in common. -/
theorem take_pfx {a b : List UInt8} {k : Nat} (h1 : k ≤ a.length) (h2 : k ≤ b.length) (ht : a.take k = b.take k) : k ≤ pfx a b := by
  rcases Nat.lt_or_ge (pfx a b) k with hlt | hge
  · exfalso
    have g1 : pfx a b < a.length := by omega
    have g2 : pfx a b < b.length := by omega
    refine pfx_stop a b g1 g2 ?_
    have e1 : (a.take k)[pfx a b]'(by rw [List.length_take]; omega) = a[pfx a b] := by simp
    have e2 : (b.take k)[pfx a b]'(by rw [List.length_take]; omega) = b[pfx a b] := by simp
    rw [← e1, ← e2]
    simp [ht]
  · exact hge
theorem take_of_pfx {a b : List UInt8} {k : Nat} (h : k ≤ pfx a b) : a.take k = b.take k := by
  have := congrArg (List.take k) (pfx_take a b)
  rw [List.take_take, List.take_take, Nat.min_eq_left h] at this
  exact this

/-- A separator: the shortest beginning of b behind a. -/
theorem sep_len {a b : List UInt8} (h : compareBytes a b = -1) : pfx a b < b.length := by
  rcases Nat.lt_or_ge (pfx a b) b.length with hlt | hge
  · exact hlt
  · exfalso
    have e : pfx a b = b.length := by have := (pfx_le a b).2; omega
    have ht := pfx_take a b
    rw [e, List.take_length] at ht
    have := cmp_prefix b (a.drop b.length)
    rw [← ht, List.length_take] at this
    have h3 : a.take b.length ++ a.drop (min b.length a.length) = a := by
      have := (pfx_le a b).1
      rw [Nat.min_eq_left (by omega), List.take_append_drop]
    rw [h3, ht, cmp_neg, h] at this
    omega
theorem sep_at {a b : List UInt8} (h : compareBytes a b = -1) (h1 : pfx a b < a.length) : a[pfx a b] < b[pfx a b]'(sep_len h) := by
  have h2 := sep_len h
  rw [cmp_drop (pfx_take a b), List.drop_eq_getElem_cons h1, List.drop_eq_getElem_cons h2, compareBytes] at h
  split at h
  · assumption
  · split at h
    · simp at h
    · rename_i g1 g2
      exact absurd (u8_tri g1 g2) (pfx_stop a b h1 h2)
theorem sep_gt {a b : List UInt8} (h : compareBytes a b = -1) : compareBytes (b.take (pfx a b + 1)) a = 1 := by
  have h2 := sep_len h
  have e1 : b.take (pfx a b + 1) = a.take (pfx a b) ++ [b[pfx a b]] := by
    rw [List.take_succ_eq_append_getElem h2, pfx_take a b]
  have e2 : compareBytes (a.take (pfx a b) ++ [b[pfx a b]]) a = compareBytes (a.take (pfx a b) ++ [b[pfx a b]]) (a.take (pfx a b) ++ a.drop (pfx a b)) := by rw [List.take_append_drop]
  rw [e1, e2, cmp_app]
  rcases Nat.lt_or_ge (pfx a b) a.length with h1 | h1
  · have hlt := sep_at h h1
    have hn : ¬ b[pfx a b] < a[pfx a b] := fun g => UInt8.lt_irrefl _ (UInt8.lt_trans hlt g)
    rw [List.drop_eq_getElem_cons h1, compareBytes, if_neg hn, if_pos hlt]
  · rw [List.drop_eq_nil_of_le h1]; rfl
theorem sep_le {a b : List UInt8} {k : Nat} (hk : k ≤ pfx a b) : compareBytes (b.take k) a ≤ 0 := by
  rw [← take_of_pfx hk]
  have := cmp_prefix (a.take k) (a.drop k)
  rw [List.take_append_drop] at this
  exact this

/-- Behind the bytes 255 at the end. -/
def trN (l : List UInt8) : Nat → Nat
  | 0 => 0
  | k + 1 => if l.getD k 0 = 255 then trN l k else k + 1
theorem trN_le (l : List UInt8) : ∀ k, trN l k ≤ k
  | 0 => Nat.le_refl _
  | k + 1 => by
    have := trN_le l k
    rw [trN]; split <;> omega
theorem trN_ff (l : List UInt8) : ∀ k i, trN l k ≤ i → i < k → l.getD i 0 = 255
  | 0, i, _, h => by omega
  | k + 1, i, h1, h2 => by
    rw [trN] at h1
    split at h1
    · rename_i h
      by_cases e : i = k
      · subst e; exact h
      · exact trN_ff l k i h1 (by omega)
    · omega
theorem trN_stop (l : List UInt8) : ∀ k, 0 < trN l k → l.getD (trN l k - 1) 0 ≠ 255
  | 0, h => by simp [trN] at h
  | k + 1, h => by
    rw [trN] at h ⊢
    split
    · rename_i g
      rw [if_pos g] at h
      exact trN_stop l k h
    · simpa using ‹_›
#print axioms sep_gt
end Go.Proofs.Ytembnakhcggbpaa
