/- Stage 13: the waits of a trace, as data. No Go text. -/
import Derived.Test.YtfkikaoojelddaaTrH
import Derived.Test.YtfkikaoojelddaaTrK
namespace Go.Proofs.Ytfkikaoojelddaa
open Go.ChangeShapes Go.WideShapes Go.ChangeAt Go.RowKit
set_option linter.unusedVariables false
/-- A wait. -/
structure Wd where
  t : Int
  w : Int
  f : Int
  to : Int
  by_ : Int
def Wd.cells (x : Wd) : List Value := [.int .i64 x.t, .int .i64 x.w, .int .i64 x.f, .int .i64 x.to, .int .i64 x.by_]
def wd0 : Wd := ⟨0, 0, 0, 0, 0⟩
/-- One more thing was done: what becomes of a wait that may still go on. -/
def ext (n : Nat) (d : Dd) (y : Wd × Bool) : Wd × Bool :=
  if y.2 = true then (if d.i = y.1.t then (if atW d = y.1.w then y else (y.1, false)) else if chW d y.1.w = true then ({ y.1 with to := n, by_ := d.i }, true) else y) else y
def hasO (E : List (Wd × Bool)) (t w : Int) : Bool := E.any (fun y => y.2 && y.1.t == t && y.1.w == w)
def estep (n : Nat) (E : List (Wd × Bool)) (d : Dd) : List (Wd × Bool) := E.map (ext n d) ++ if 0 ≤ atW d ∧ hasO E d.i (atW d) = false then [(⟨d.i, atW d, n, -1, -1⟩, true)] else []
def eag (l : List Dd) : Nat → List (Wd × Bool)
  | 0 => []
  | k + 1 => match l[k]? with | some d => estep k (eag l k) d | none => eag l k
/-- The waits. -/
def wts (l : List Dd) : List Wd := (eag l l.length).map (·.1)
/-- The wait of the thing i, as far as k things say it. -/
def ent (l : List Dd) (i : Nat) : Nat → Wd × Bool
  | 0 => (⟨(l.getD i dd0).i, atW (l.getD i dd0), i, -1, -1⟩, true)
  | k + 1 => if i < k then ext k (l.getD k dd0) (ent l i k) else (⟨(l.getD i dd0).i, atW (l.getD i dd0), i, -1, -1⟩, true)
def lastAt (l : List Dd) (t : Int) : Nat → Int
  | 0 => -1
  | k + 1 => if (l.getD k dd0).i = t then atW (l.getD k dd0) else lastAt l t k
def strt (l : List Dd) (i : Nat) : Bool := decide (0 ≤ atW (l.getD i dd0)) && !decide (lastAt l (l.getD i dd0).i i = atW (l.getD i dd0))
/-- The waits, as the reference has them. -/
def rwt (l : List Dd) (k : Nat) : List Wd := ((List.range k).filter (strt l)).map (fun i => (ent l i l.length).1)
theorem getD_of {l : List Dd} {k : Nat} {d : Dd} (hd : l[k]? = some d) : l.getD k dd0 = d := by rw [List.getD_eq_getElem?_getD, hd]; rfl
theorem ext_t (n : Nat) (d : Dd) (y : Wd × Bool) : (ext n d y).1.t = y.1.t ∧ (ext n d y).1.w = y.1.w ∧ (ext n d y).1.f = y.1.f := by
  unfold ext; repeat' split
  all_goals exact ⟨rfl, rfl, rfl⟩
theorem ext_no (n : Nat) (d : Dd) (y : Wd × Bool) (h : y.2 = false) : ext n d y = y := by unfold ext; rw [if_neg (by simp [h])]
theorem ext_flag (n : Nat) (d : Dd) (y : Wd × Bool) : (ext n d y).2 = (y.2 && !(decide (d.i = y.1.t) && !decide (atW d = y.1.w))) := by
  unfold ext
  cases hy : y.2
  · simp [hy]
  · simp only [if_true]
    by_cases h1 : d.i = y.1.t
    · by_cases h2 : atW d = y.1.w <;> simp [h1, h2, hy]
    · simp only [if_neg h1]
      split <;> simp [h1, hy]
theorem ent_step {l : List Dd} {i k : Nat} (h : i < k) : ent l i (k + 1) = ext k (l.getD k dd0) (ent l i k) := by
  conv => lhs; unfold ent
  rw [if_pos h]
theorem ent_base {l : List Dd} {i : Nat} : ent l i (i + 1) = (⟨(l.getD i dd0).i, atW (l.getD i dd0), i, -1, -1⟩, true) := by
  conv => lhs; unfold ent
  rw [if_neg (by omega)]
theorem ent_t (l : List Dd) (i : Nat) : ∀ k, (ent l i k).1.t = (l.getD i dd0).i ∧ (ent l i k).1.w = atW (l.getD i dd0) ∧ (ent l i k).1.f = i
  | 0 => ⟨rfl, rfl, rfl⟩
  | k + 1 => by
    unfold ent
    split
    · obtain ⟨h1, h2, h3⟩ := ext_t k (l.getD k dd0) (ent l i k)
      obtain ⟨g1, g2, g3⟩ := ent_t l i k
      exact ⟨h1.trans g1, h2.trans g2, h3.trans g3⟩
    · exact ⟨rfl, rfl, rfl⟩
/-- What is over stays as it is. -/
theorem ent_over {l : List Dd} {i : Nat} : ∀ {m k : Nat}, i < k → (ent l i k).2 = false → k ≤ m → ent l i m = ent l i k
  | 0, k, h, h2, hm => by omega
  | m + 1, k, h, h2, hm => by
    by_cases e : k = m + 1
    · rw [e]
    · have := ent_over (m := m) h h2 (by omega)
      rw [ent_step (by omega), this]
      exact ext_no _ _ _ h2
theorem hasO_map {E : List (Wd × Bool)} (n : Nat) (d : Dd) (t w : Int) : hasO (E.map (ext n d)) t w = if d.i = t then decide (atW d = w) && hasO E t w else hasO E t w := by
  unfold hasO
  rw [List.any_map]
  have e : ∀ y : Wd × Bool, ((fun y : Wd × Bool => y.2 && y.1.t == t && y.1.w == w) ∘ ext n d) y = (if d.i = t then decide (atW d = w) && (y.2 && y.1.t == t && y.1.w == w) else (y.2 && y.1.t == t && y.1.w == w)) := fun y => by
    obtain ⟨h1, h2, h3⟩ := ext_t n d y
    simp only [Function.comp, h1, h2, ext_flag]
    by_cases ht : y.1.t = t
    · by_cases hw : y.1.w = w
      · subst ht hw
        by_cases hd : d.i = y.1.t
        · by_cases ha : atW d = y.1.w <;> simp [hd, ha]
        · simp [hd]
      · have : (y.1.w == w) = false := by simpa using hw
        rw [this]; simp
    · have : (y.1.t == t) = false := by simpa using ht
      rw [this]; simp
  rw [show ((fun y : Wd × Bool => y.2 && y.1.t == t && y.1.w == w) ∘ ext n d) = fun y => _ from funext e]
  by_cases hd : d.i = t
  · simp only [if_pos hd]
    by_cases ha : atW d = w <;> simp [ha]
  · simp only [if_neg hd]
theorem hasO_step {E : List (Wd × Bool)} (n : Nat) (d : Dd) (t w : Int) (hw : 0 ≤ w) : hasO (estep n E d) t w = if d.i = t then decide (atW d = w) else hasO E t w := by
  have hm := hasO_map (E := E) n d t w
  unfold hasO at hm
  unfold estep hasO
  rw [List.any_append, hm]
  by_cases hd : d.i = t
  · subst hd
    simp only [if_pos]
    by_cases ha : atW d = w
    · subst ha
      cases hh : E.any (fun y => y.2 && y.1.t == d.i && y.1.w == atW d) with
      | true => simp
      | false => simp [hw]
    · by_cases h0 : 0 ≤ atW d ∧ E.any (fun y => y.2 && y.1.t == d.i && y.1.w == atW d) = false
      · rw [if_pos h0]; simp [ha]
      · rw [if_neg h0]; simp [ha]
  · simp only [if_neg hd]
    by_cases h0 : 0 ≤ atW d ∧ E.any (fun y => y.2 && y.1.t == d.i && y.1.w == atW d) = false
    · rw [if_pos h0]; simp [hd]
    · rw [if_neg h0]; simp
/-- A wait of a thread goes on just if it has waited last. -/
theorem last_has (l : List Dd) (t w : Int) (hw : 0 ≤ w) : ∀ k, k ≤ l.length → (hasO (eag l k) t w = decide (lastAt l t k = w))
  | 0, _ => by
    have : ¬ ((-1 : Int) = w) := by omega
    simp [eag, hasO, lastAt, this]
  | k + 1, h => by
    have hd : l[k]? = some (l[k]'(by omega)) := List.getElem?_eq_getElem _
    unfold eag lastAt
    rw [hd, getD_of hd]
    dsimp only
    rw [hasO_step _ _ _ _ hw]
    by_cases ht : l[k].i = t
    · rw [if_pos ht, if_pos ht]
    · rw [if_neg ht, if_neg ht]; exact last_has l t w hw k (by omega)
/-- Both say the same. -/
theorem eag_ent (l : List Dd) : ∀ k, k ≤ l.length → eag l k = ((List.range k).filter (strt l)).map (fun i => ent l i k)
  | 0, _ => rfl
  | k + 1, h => by
    have hd : l[k]? = some (l[k]'(by omega)) := List.getElem?_eq_getElem _
    have ih := eag_ent l k (by omega)
    unfold eag
    rw [hd]
    dsimp only
    unfold estep
    rw [List.range_succ, List.filter_append, List.map_append]
    congr 1
    · rw [ih, List.map_map]
      apply List.map_congr_left
      intro i hi
      have hik : i < k := List.mem_range.1 (List.mem_filter.1 hi).1
      show ext k l[k] (ent l i k) = ent l i (k + 1)
      rw [ent_step hik, getD_of hd]
    · have hs : strt l k = (decide (0 ≤ atW l[k]) && !decide (lastAt l l[k].i k = atW l[k])) := by unfold strt; rw [getD_of hd]
      by_cases h0 : 0 ≤ atW l[k]
      · have := last_has l l[k].i (atW l[k]) h0 k (by omega)
        rw [this]
        by_cases h1 : lastAt l l[k].i k = atW l[k]
        · rw [if_neg (by simp [h1]), List.filter_cons_of_neg (by rw [hs]; simp [h1])]; rfl
        · rw [if_pos ⟨h0, by simpa using h1⟩, List.filter_cons_of_pos (by rw [hs]; simp [h0, h1])]
          simp only [List.filter_nil, List.map_cons, List.map_nil]
          rw [ent_base, getD_of hd]
      · rw [if_neg (fun hh => h0 hh.1), List.filter_cons_of_neg (by rw [hs]; simp [h0])]; rfl
theorem wts_rwt (l : List Dd) : wts l = rwt l l.length := by
  unfold wts rwt
  rw [eag_ent l l.length (Nat.le_refl _), List.map_map]; rfl
end Go.Proofs.Ytfkikaoojelddaa
