/- Lists of picks: plain facts. No Go text, no dump. -/
import Derived.Test.YtjgnmmlbnkmgfaaBase
namespace Go.Proofs.Ytjgnmmlbnkmgfaa

def mb (n : Int) : Bool := decide (1 ≤ n ∧ n ≤ 64)
theorem mb_iff {n : Int} : mb n = true ↔ 1 ≤ n ∧ n ≤ 64 := by unfold mb; simp
theorem mb_not {n : Int} : mb n = false ↔ n < 1 ∨ 64 < n := by unfold mb; simp; omega
def inR (t x : Int) : Bool := decide (0 ≤ x ∧ x < t)
theorem inR_iff {t x : Int} : inR t x = true ↔ 0 ≤ x ∧ x < t := by unfold inR; simp
theorem inR_not {t x : Int} : inR t x = false ↔ x < 0 ∨ t ≤ x := by unfold inR; simp; omega
/-- Why picks are no schedule. -/
def ck (l : List Int) (t : Int) : Int := if mb t = false then 2 else if 100000 < l.length then 5 else if l.all (inR t) = true then 0 else 2
def vld (l : List Int) (t : Int) : Bool := ck l t == 0
theorem ck_zero {l : List Int} {t : Int} (h : ck l t = 0) : mb t = true ∧ l.length ≤ 100000 ∧ ∀ x ∈ l, 0 ≤ x ∧ x < t := by
  unfold ck at h
  split at h
  · omega
  · rename_i h1
    split at h
    · omega
    · split at h
      · rename_i h2 h3
        refine ⟨by simpa using h1, by omega, fun x hx => ?_⟩
        exact inR_iff.1 (List.all_eq_true.1 h3 x hx)
      · omega
theorem ck_mk {l : List Int} {t : Int} (h1 : mb t = true) (h2 : l.length ≤ 100000) (h3 : ∀ x ∈ l, 0 ≤ x ∧ x < t) : ck l t = 0 := by
  unfold ck
  rw [if_neg (by simp [h1]), if_neg (by omega), if_pos (List.all_eq_true.2 fun x hx => inR_iff.2 (h3 x hx))]

/-- The picks one thread after the other. -/
def rnd (t : Int) (m : Nat) : List Int := (List.range m).map (fun i : Nat => (i : Int) % t)
theorem rnd_length (t : Int) (m : Nat) : (rnd t m).length = m := by simp [rnd]
theorem rnd_get {t : Int} {m i : Nat} (h : i < m) : (rnd t m)[i]? = some ((i : Int) % t) := by simp [rnd, h]
theorem rnd_succ (t : Int) (m : Nat) : rnd t (m + 1) = rnd t m ++ [(m : Int) % t] := by simp [rnd, List.range_succ]
/-- The picks that bytes say. -/
def sayB (b : List Int) (t : Int) : List Int := b.map (fun x => x % t)

/-- How often each thread is picked. -/
def cnt (l : List Int) (x : Int) : Int := (l.count x : Nat)
def cnts (l : List Int) (t : Nat) : List Int := (List.range t).map (fun i : Nat => cnt l (i : Int))
theorem cnts_length (l : List Int) (t : Nat) : (cnts l t).length = t := by simp [cnts]
theorem cnts_get {l : List Int} {t i : Nat} (h : i < t) : (cnts l t)[i]? = some (cnt l i) := by simp [cnts, h]
theorem cnts_nil (t : Nat) : cnts [] t = List.replicate t 0 := by
  apply List.ext_getElem?
  intro i
  by_cases h : i < t
  · rw [cnts_get h]; simp [h, cnt]
  · rw [List.getElem?_eq_none (by rw [cnts_length]; omega), List.getElem?_eq_none (by simp; omega)]
theorem cnts_snoc (l : List Int) (t i : Nat) (h : i < t) : (cnts l t).set i (cnt l i + 1) = cnts (l ++ [(i : Int)]) t := by
  apply List.ext_getElem?
  intro j
  rw [List.getElem?_set]
  by_cases hj : j < t
  · rw [cnts_get hj, cnts_length]
    by_cases e : i = j
    · subst e; rw [if_pos rfl, if_pos h]; simp [cnt, cnts_get h]
    · rw [if_neg e, cnts_get hj]
      have : ¬ ((i : Int) = (j : Int)) := by omega
      simp [cnt, List.count_append, this]
  · rw [List.getElem?_eq_none (l := cnts (l ++ [(i : Int)]) t) (by rw [cnts_length]; omega)]
    rw [if_neg (by omega), List.getElem?_eq_none (by rw [cnts_length]; omega)]
theorem cnt_bd (l : List Int) (x : Int) : 0 ≤ cnt l x ∧ cnt l x ≤ l.length := by
  unfold cnt; have := List.count_le_length (a := x) (l := l); omega
theorem cnt_pos {l : List Int} {x : Int} : cnt l x = 0 ↔ x ∉ l := by
  unfold cnt; rw [← List.count_eq_zero]; omega

/-- The last pick of a thread among the first k. -/
def lastAt (l : List Int) (x : Int) : Nat → Int
  | 0 => -1
  | k + 1 => if l[k]? = some x then (k : Int) else lastAt l x k
theorem lastAt_bd (l : List Int) (x : Int) : ∀ k : Nat, -1 ≤ lastAt l x k ∧ lastAt l x k < k
  | 0 => by unfold lastAt; omega
  | k + 1 => by
    have := lastAt_bd l x k
    unfold lastAt; split <;> omega
theorem lastAt_far (l : List Int) (x : Int) : ∀ (k i : Nat), lastAt l x k < i → i < k → l[i]? ≠ some x
  | 0, i, _, h => by omega
  | k + 1, i, h, hk => by
    unfold lastAt at h
    split at h
    · omega
    · rename_i hn
      by_cases e : i = k
      · subst e; exact hn
      · exact lastAt_far l x k i h (by omega)
theorem lastAt_ge (l : List Int) (x : Int) : ∀ (k i : Nat), i < k → l[i]? = some x → (i : Int) ≤ lastAt l x k
  | 0, i, h, _ => by omega
  | k + 1, i, h, hi => by
    unfold lastAt
    split
    · omega
    · rename_i hn
      by_cases e : i = k
      · subst e; exact absurd hi hn
      · exact lastAt_ge l x k i (by omega) hi
theorem lastAt_is (l : List Int) (x : Int) : ∀ (k : Nat), 0 ≤ lastAt l x k → l[(lastAt l x k).toNat]? = some x
  | 0, h => by exfalso; unfold lastAt at h; omega
  | k + 1, h => by
    unfold lastAt at h ⊢
    split
    · rename_i hk; rw [Int.toNat_natCast]; exact hk
    · rename_i hn; rw [if_neg hn] at h; exact lastAt_is l x k h
theorem lastAt_app (l m : List Int) (x : Int) : ∀ (k : Nat), k ≤ l.length → lastAt (l ++ m) x k = lastAt l x k
  | 0, _ => rfl
  | k + 1, h => by
    unfold lastAt
    rw [lastAt_app l m x k (by omega), List.getElem?_append_left (by omega)]
def lasts (l : List Int) (t k : Nat) : List Int := (List.range t).map (fun j : Nat => lastAt l (j : Int) k)
theorem lasts_length (l : List Int) (t k : Nat) : (lasts l t k).length = t := by simp [lasts]
theorem lasts_get {l : List Int} {t k j : Nat} (h : j < t) : (lasts l t k)[j]? = some (lastAt l j k) := by simp [lasts, h]
theorem lasts_zero (l : List Int) (t : Nat) : lasts l t 0 = List.replicate t (-1) := by
  apply List.ext_getElem?
  intro i
  by_cases h : i < t
  · rw [lasts_get h]; simp [h, lastAt]
  · rw [List.getElem?_eq_none (by rw [lasts_length]; omega), List.getElem?_eq_none (by simp; omega)]
theorem lasts_succ {l : List Int} {t k j : Nat} (hj : l[k]? = some (j : Int)) (h : j < t) : (lasts l t k).set j (k : Int) = lasts l t (k + 1) := by
  apply List.ext_getElem?
  intro i
  rw [List.getElem?_set]
  by_cases hi : i < t
  · rw [lasts_get (k := k + 1) hi, lasts_length]
    by_cases e : j = i
    · subst e; rw [if_pos rfl, if_pos h]; simp only [lastAt, hj, if_true]
    · rw [if_neg e, lasts_get hi]
      have : ¬ ((j : Int) = (i : Int)) := by omega
      simp only [lastAt, hj, Option.some.injEq, if_neg this]
  · rw [List.getElem?_eq_none (l := lasts l t (k + 1)) (by rw [lasts_length]; omega)]
    rw [if_neg (by omega), List.getElem?_eq_none (by rw [lasts_length]; omega)]

/-- The least size so far. -/
def leastAt (l : List Int) : Nat → Int
  | 0 => 1
  | k + 1 => max (leastAt l k) ((k : Int) - lastAt l (l.getD k 0) k)
theorem leastAt_bd (l : List Int) : ∀ k : Nat, 1 ≤ leastAt l k ∧ leastAt l k ≤ k + 1
  | 0 => by unfold leastAt; omega
  | k + 1 => by
    have h1 := leastAt_bd l k
    have h2 := lastAt_bd l (l.getD k 0) k
    unfold leastAt; omega
theorem leastAt_le (l : List Int) (s : Int) : ∀ k : Nat, leastAt l k ≤ s ↔ 1 ≤ s ∧ ∀ i, i < k → (i : Int) - lastAt l (l.getD i 0) i ≤ s
  | 0 => by unfold leastAt; simp
  | k + 1 => by
    have h1 := leastAt_le l s k
    unfold leastAt
    constructor
    · intro h
      obtain ⟨h2, h3⟩ := h1.1 (by omega)
      refine ⟨h2, fun i hi => ?_⟩
      by_cases e : i = k
      · subst e; omega
      · exact h3 i (by omega)
    · rintro ⟨h2, h3⟩
      have := h1.2 ⟨h2, fun i hi => h3 i (by omega)⟩
      have := h3 k (by omega)
      omega
/-- The least one of a list. -/
def minL : List Int → Int
  | [] => 0
  | x :: r => r.foldl min x
theorem foldl_min_le : ∀ (r : List Int) (x : Int), r.foldl min x ≤ x ∧ ∀ y ∈ r, r.foldl min x ≤ y
  | [], x => ⟨by simp, by simp⟩
  | y :: r, x => by
    have := foldl_min_le r (min x y)
    refine ⟨?_, fun z hz => ?_⟩
    · simp only [List.foldl_cons]; omega
    · simp only [List.foldl_cons]
      rcases List.mem_cons.1 hz with rfl | hz
      · omega
      · exact this.2 z hz
theorem foldl_min_mem : ∀ (r : List Int) (x : Int), r.foldl min x = x ∨ r.foldl min x ∈ r
  | [], x => .inl rfl
  | y :: r, x => by
    have := foldl_min_mem r (min x y)
    simp only [List.foldl_cons]
    rcases this with h | h
    · rw [h]
      by_cases e : x ≤ y
      · left; omega
      · right; rw [Int.min_eq_right (by omega)]; exact List.mem_cons_self
    · right; exact List.mem_cons_of_mem _ h
theorem minL_le {l : List Int} {y : Int} (h : y ∈ l) : minL l ≤ y := by
  cases l with
  | nil => cases h
  | cons x r =>
    rcases List.mem_cons.1 h with rfl | h
    · exact (foldl_min_le r y).1
    · exact (foldl_min_le r x).2 y h
theorem minL_mem {l : List Int} (h : l ≠ []) : minL l ∈ l := by
  cases l with
  | nil => exact absurd rfl h
  | cons x r =>
    rcases foldl_min_mem r x with h | h
    · show r.foldl min x ∈ x :: r; rw [h]; exact List.mem_cons_self
    · exact List.mem_cons_of_mem _ h
/-- The least size. -/
def win (l : List Int) (t : Nat) : Int := max (leastAt l l.length) ((l.length : Int) - minL (lasts l t l.length))
theorem lasts_mem {l : List Int} {t k : Nat} {y : Int} : y ∈ lasts l t k ↔ ∃ j, j < t ∧ lastAt l (j : Int) k = y := by
  unfold lasts; simp
theorem win_le {l : List Int} {t : Nat} (ht : 1 ≤ t) (s : Int) : win l t ≤ s ↔ 1 ≤ s ∧ (∀ i, i < l.length → (i : Int) - lastAt l (l.getD i 0) i ≤ s) ∧ ∀ j, j < t → (l.length : Int) - lastAt l (j : Int) l.length ≤ s := by
  have hne : lasts l t l.length ≠ [] := by intro h; have := lasts_length l t l.length; rw [h] at this; simp at this; omega
  unfold win
  constructor
  · intro h
    obtain ⟨h1, h2⟩ := (leastAt_le l s l.length).1 (by omega)
    refine ⟨h1, h2, fun j hj => ?_⟩
    have := minL_le (lasts_mem.2 ⟨j, hj, rfl⟩ : lastAt l (j : Int) l.length ∈ lasts l t l.length)
    omega
  · rintro ⟨h1, h2, h3⟩
    have := (leastAt_le l s l.length).2 ⟨h1, h2⟩
    obtain ⟨j, hj, e⟩ := lasts_mem.1 (minL_mem hne)
    have := h3 j hj
    omega
theorem win_bd {l : List Int} {t : Nat} (ht : 1 ≤ t) : 1 ≤ win l t ∧ win l t ≤ l.length + 1 := by
  refine ⟨((win_le ht (win l t)).1 (Int.le_refl _)).1, (win_le ht _).2 ⟨by omega, fun i hi => ?_, fun j hj => ?_⟩⟩
  · have := lastAt_bd l (l.getD i 0) i; omega
  · have := lastAt_bd l (j : Int) l.length; omega

/-- All are picked in each window of a size. -/
def AllW (l : List Int) (t : Nat) (s : Nat) : Prop := ∀ i, i + s ≤ l.length → ∀ j, j < t → ∃ k, i ≤ k ∧ k < i + s ∧ l[k]? = some (j : Int)
theorem least_next {l : List Int} {x : Int} : ∀ (d a b : Nat), b - a = d → (∃ k, a ≤ k ∧ k < b ∧ l[k]? = some x) → ∃ k, a ≤ k ∧ k < b ∧ l[k]? = some x ∧ ∀ j, a ≤ j → j < k → l[j]? ≠ some x
  | 0, a, b, h, ⟨k, h1, h2, _⟩ => by omega
  | d + 1, a, b, h, ⟨k, h1, h2, h3⟩ => by
    by_cases e : l[a]? = some x
    · exact ⟨a, by omega, by omega, e, fun j hj hk => by omega⟩
    · have hk : a + 1 ≤ k := by
        by_cases e2 : k = a
        · subst e2; exact absurd h3 e
        · omega
      obtain ⟨k2, g1, g2, g3, g4⟩ := least_next d (a + 1) b (by omega) ⟨k, hk, h2, h3⟩
      refine ⟨k2, by omega, g2, g3, fun j hj hjk => ?_⟩
      by_cases e2 : j = a
      · subst e2; exact e
      · exact g4 j (by omega) hjk
theorem allW_iff {l : List Int} {t : Nat} (ht : 1 ≤ t) (hl : ∀ x ∈ l, 0 ≤ x ∧ x < (t : Int)) {s : Nat} (hs : 1 ≤ s) : AllW l t s ↔ win l t ≤ s := by
  rw [win_le ht]
  constructor
  · intro h
    refine ⟨by omega, fun i hi => ?_, fun j hj => ?_⟩
    · have hb := lastAt_bd l (l.getD i 0) i
      have hx := hl _ (List.mem_of_getElem? (List.getElem?_eq_getElem hi))
      have hg : l.getD i 0 = l[i] := by rw [List.getD_eq_getElem?_getD, List.getElem?_eq_getElem hi]; rfl
      rw [hg] at hb ⊢
      generalize l[i] = x at *
      have hf := fun k h1 h2 => lastAt_far l x i k h1 h2
      generalize lastAt l x i = p at *
      by_cases hc : (i : Int) - p ≤ s
      · exact hc
      · exfalso
        obtain ⟨k, h1, h2, h3⟩ := h (p + 1).toNat (by omega) x.toNat (by omega)
        rw [Int.toNat_of_nonneg hx.1] at h3
        exact hf k (by omega) (by omega) h3
    · have hb := lastAt_bd l (j : Int) l.length
      have hf := fun k h1 h2 => lastAt_far l (j : Int) l.length k h1 h2
      generalize lastAt l (j : Int) l.length = p at *
      by_cases hc : (l.length : Int) - p ≤ s
      · exact hc
      · exfalso
        obtain ⟨k, h1, h2, h3⟩ := h (p + 1).toNat (by omega) j hj
        exact hf k (by omega) (by omega) h3
  · rintro ⟨_, h1, h2⟩ i hi j hj
    refine Classical.byContradiction fun hno => ?_
    have hno' : ∀ k, i ≤ k → k < i + s → l[k]? ≠ some (j : Int) := fun k a b c => hno ⟨k, a, b, c⟩
    have hlast : ∀ k, i + s ≤ k → (∀ m, i + s ≤ m → m < k → l[m]? ≠ some (j : Int)) → lastAt l (j : Int) k < i := by
      intro k hk hm
      refine Classical.byContradiction fun hc => ?_
      have hb := lastAt_bd l (j : Int) k
      have hi' := lastAt_is l (j : Int) k (by omega)
      by_cases e : (lastAt l (j : Int) k).toNat < i + s
      · exact hno' _ (by omega) e hi'
      · exact hm _ (by omega) (by omega) hi'
    by_cases hex : ∃ k, i + s ≤ k ∧ k < l.length ∧ l[k]? = some (j : Int)
    · obtain ⟨k, g1, g2, g3, g4⟩ := least_next _ _ _ rfl hex
      have := hlast k g1 g4
      have hk := h1 k g2
      have hg : l.getD k 0 = (j : Int) := by rw [List.getD_eq_getElem?_getD, g3]; rfl
      rw [hg] at hk
      omega
    · have := hlast l.length hi (fun m a b c => hex ⟨m, a, b, c⟩)
      have := h2 j hj
      omega
#print axioms allW_iff
end Go.Proofs.Ytjgnmmlbnkmgfaa
