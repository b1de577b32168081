/- What bytes say: plain definitions. No Go text. -/
import Derived.Test.YtegoggnocpgoiaaScrL
namespace Go.Proofs.Ytegoggnocpgoiaa
open Go.ChangeShapes Go.WideShapes Go.ChangeAt Go.RowKit

/-- Bytes. -/
def Byt (l : List Int) : Prop := ∀ x ∈ l, 0 ≤ x ∧ x ≤ 255
theorem Byt.drop {l : List Int} (h : Byt l) (i : Nat) : Byt (l.drop i) := fun x hx => h x (List.mem_of_mem_drop hx)
theorem Byt.take {l : List Int} (h : Byt l) (i : Nat) : Byt (l.take i) := fun x hx => h x (List.mem_of_mem_take hx)
theorem Byt.getD {l : List Int} (h : Byt l) (i : Nat) : 0 ≤ l.getD i 0 ∧ l.getD i 0 ≤ 255 := by
  rw [List.getD_eq_getElem?_getD]
  cases hx : l[i]? with
  | none => simp
  | some x => exact h x (List.mem_of_getElem? hx)
theorem Byt.append {l m : List Int} (h : Byt l) (k : Byt m) : Byt (l ++ m) := fun x hx => by
  rcases List.mem_append.1 hx with h1 | h1
  · exact h x h1
  · exact k x h1
theorem getD_drop (l : List Int) (i j : Nat) : (l.drop i).getD j 0 = l.getD (i + j) 0 := by
  rw [List.getD_eq_getElem?_getD, List.getD_eq_getElem?_getD, List.getElem?_drop]

/-- Which bytes a verb needs: 0 none, 1 a key, 2 a key and a value, 3 a key, an old value and a value, 4 a key and a number. -/
def vc (v : Int) : Nat := if v = 1 ∨ v = 4 then 1 else if v = 2 ∨ v = 3 then 2 else if v = 5 then 3 else if v = 6 then 4 else 0
def vlen (v : Int) : Nat := if vc v = 4 then 2 else vc v
abbrev noB : ByteArray := ⟨#[]⟩
/-- The request whose second byte is q, of the thread th; l: what is behind the second byte. -/
def rq (th q : Int) (l : List Int) : Opr :=
  ⟨3, th, if vc (q % 8 + 1) = 4 then l.getD 1 0 % 32 + 1 else 0, q % 8 + 1, if vc (q % 8 + 1) = 0 then noB else keyB (l.getD 0 0),
    if vc (q % 8 + 1) = 2 then valB (l.getD 1 0) else if vc (q % 8 + 1) = 3 then valB (l.getD 2 0) else noB, if vc (q % 8 + 1) = 3 then valB (l.getD 1 0) else noB, q / 8⟩
/-- The first operation of some bytes, and how many bytes it has. -/
def nx (l : List Int) (t : Int) : Opr :=
  if 5 ≤ l.getD 0 0 % 8 then rq (l.getD 0 0 / 8 % t) (l.getD 1 0) (l.drop 2)
  else if l.getD 0 0 % 8 = 4 then ⟨4, 0, l.getD 1 0 % 8 + 1, 0, noB, noB, noB, 0⟩
  else if l.getD 0 0 % 8 = 3 then ⟨2, 0, l.getD 1 0, 0, noB, noB, noB, 0⟩
  else ⟨1, l.getD 0 0 / 8 % t, l.getD 1 0 % 16 + 1, 0, noB, noB, noB, 0⟩
def nxN (l : List Int) : Nat := 2 + if 5 ≤ l.getD 0 0 % 8 then vlen (l.getD 1 0 % 8 + 1) else 0
theorem nxN_ge (l : List Int) : 2 ≤ nxN l := by unfold nxN; omega
theorem vlen_le (v : Int) : vlen v ≤ 3 := by
  unfold vlen vc; split <;> (try split) <;> (try split) <;> (try split) <;> (try split) <;> omega
theorem nxN_le (l : List Int) : nxN l ≤ 5 := by
  unfold nxN
  have := vlen_le (l.getD 1 0 % 8 + 1)
  split <;> omega
/-- All operations of some bytes. -/
def pr : Nat → List Int → Int → List Opr
  | 0, _, _ => []
  | f + 1, l, t => if l = [] then [] else nx l t :: pr f (l.drop (nxN l)) t
def prs (l : List Int) (t : Int) : List Opr := pr l.length l t
theorem pr_fuel : ∀ (f g : Nat) (l : List Int) (t : Int), l.length ≤ f → l.length ≤ g → pr f l t = pr g l t
  | 0, 0, _, _, _, _ => rfl
  | 0, g + 1, l, t, h, _ => by
    obtain rfl : l = [] := List.eq_nil_of_length_eq_zero (by omega)
    simp [pr]
  | f + 1, 0, l, t, _, h => by
    obtain rfl : l = [] := List.eq_nil_of_length_eq_zero (by omega)
    simp [pr]
  | f + 1, g + 1, l, t, h, k => by
    unfold pr
    have := nxN_ge l
    by_cases e : l = []
    · rw [if_pos e, if_pos e]
    · rw [if_neg e, if_neg e, pr_fuel f g _ t (by rw [List.length_drop]; omega) (by rw [List.length_drop]; omega)]
theorem prs_nil (t : Int) : prs [] t = [] := rfl
theorem prs_cons {l : List Int} {t : Int} (h : l ≠ []) : prs l t = nx l t :: prs (l.drop (nxN l)) t := by
  have hl : 0 < l.length := List.length_pos_iff.2 h
  have := nxN_ge l
  unfold prs
  obtain ⟨m, hm⟩ : ∃ m, l.length = m + 1 := ⟨l.length - 1, by omega⟩
  rw [hm, pr, if_neg h, pr_fuel m (l.drop (nxN l)).length _ t (by rw [List.length_drop]; omega) (Nat.le_refl _)]
theorem prs_length (t : Int) : ∀ (n : Nat) (l : List Int), l.length ≤ n → (prs l t).length ≤ l.length
  | 0, l, h => by
    obtain rfl : l = [] := List.eq_nil_of_length_eq_zero (by omega)
    simp [prs_nil]
  | n + 1, l, h => by
    by_cases e : l = []
    · subst e; simp [prs_nil]
    · have hl : 0 < l.length := List.length_pos_iff.2 e
      have h2 := nxN_ge l
      have := prs_length t n (l.drop (nxN l)) (by rw [List.length_drop]; omega)
      rw [prs_cons e, List.length_cons]
      rw [List.length_drop] at this
      omega
theorem prs_le (l : List Int) (t : Int) : (prs l t).length ≤ l.length := prs_length t _ l (Nat.le_refl _)

theorem ba_tl {a b : ByteArray} : a.toList = b.toList ↔ a = b := by
  rw [ByteArray.toList_eq, ByteArray.toList_eq]
  constructor
  · intro h; exact ByteArray.ext (Array.toList_inj.1 h)
  · rintro rfl; rfl
/-- The test of two strings, in the walk's words. -/
theorem str_eq {a b : ByteArray} : (a.toList == b.toList) = decide (a = b) := by
  by_cases e : a = b
  · subst e; simp
  · have : ¬ a.toList = b.toList := fun h => e (ba_tl.1 h)
    simp [e, this]
/-- Whether two operations are equal. -/
def opEq (a b : Opr) : Bool := a.k == b.k && a.t == b.t && a.n == b.n && a.v == b.v && decide (a.key = b.key) && decide (a.val = b.val) && decide (a.old = b.old) && a.tk == b.tk
theorem opEq_iff {a b : Opr} : opEq a b = true ↔ a = b := by
  cases a; cases b; simp [opEq, and_assoc]
theorem equal_op (a b : Opr) (w : World) : (Op.equalIn 10000 30 (.agg #[.int .i64 a.k, .int .i64 a.t, .int .i64 a.n, .int .i64 a.v, .string a.key, .string a.val, .string a.old, .int .i64 a.tk]) (.agg #[.int .i64 b.k, .int .i64 b.t, .int .i64 b.n, .int .i64 b.v, .string b.key, .string b.val, .string b.old, .int .i64 b.tk])).run Try.prog w = .ok (opEq a b) w := by
  simp [go_sem, opEq, ba_tl]
  by_cases h1 : a.k = b.k <;> simp [h1]
  by_cases h2 : a.t = b.t <;> simp [h2]
  by_cases h3 : a.n = b.n <;> simp [h3]
  by_cases h4 : a.v = b.v <;> simp [h4]
  by_cases h5 : a.key = b.key <;> simp [h5]
  by_cases h6 : a.val = b.val <;> simp [h6]
  by_cases h7 : a.old = b.old <;> simp [h7]
  by_cases h8 : a.tk = b.tk <;> simp [h8]
theorem eql_op (a b : Opr) (w : World) : (binOp .eql 30 (.agg #[.int .i64 a.k, .int .i64 a.t, .int .i64 a.n, .int .i64 a.v, .string a.key, .string a.val, .string a.old, .int .i64 a.tk]) (.agg #[.int .i64 b.k, .int .i64 b.t, .int .i64 b.n, .int .i64 b.v, .string b.key, .string b.val, .string b.old, .int .i64 b.tk])).run Try.prog w = .ok (.bool (opEq a b)) w := by
  rw [run_eql_struct, equal_op]; rfl
theorem neq_op (a b : Opr) (w : World) : (binOp .neq 30 (.agg #[.int .i64 a.k, .int .i64 a.t, .int .i64 a.n, .int .i64 a.v, .string a.key, .string a.val, .string a.old, .int .i64 a.tk]) (.agg #[.int .i64 b.k, .int .i64 b.t, .int .i64 b.n, .int .i64 b.v, .string b.key, .string b.val, .string b.old, .int .i64 b.tk])).run Try.prog w = .ok (.bool (!opEq a b)) w := by
  rw [run_neq_struct, equal_op]; rfl
#print axioms neq_op
end Go.Proofs.Ytegoggnocpgoiaa
