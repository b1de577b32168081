/- Lists of alarms: what setting, clearing and cutting come to. No Go text. -/
import Derived.Test.YtamnhpcbflpabaaClkT
namespace Go.Proofs.Ytamnhpcbflpabaa
open Go.ChangeShapes Go.WideShapes Go.ChangeAt Go.RowKit

theorem pos_split {a b : List Al} {t : Al} (ha : ∀ x ∈ a, ltb x t = true) (hb : ∀ x ∈ b, ltb x t = false) : pos (a ++ b) t = a.length := by
  unfold pos
  rw [List.takeWhile_append_of_pos (by simpa using ha)]
  have : b.takeWhile (fun x => ltb x t) = [] := by
    cases b with
    | nil => rfl
    | cons y b => rw [List.takeWhile_cons, if_neg (by rw [hb y (by simp)]; simp)]
  rw [this]; simp
theorem idx_none {l : List Al} {id : Int} (hl : ∀ x ∈ l, x.1 ≠ id) : idx l id = -1 := by
  have : idxN l id = l.length := by unfold idxN; rw [List.findIdx_eq_length]; intro x hx; simpa using hl x hx
  unfold idx; rw [if_neg (by omega)]
theorem idxN_split {a b : List Al} {x : Al} (ha : ∀ y ∈ a, y.1 ≠ x.1) : idxN (a ++ x :: b) x.1 = a.length := by
  unfold idxN
  rw [List.findIdx_append, if_neg]
  · simp [List.findIdx_cons]
  · intro h
    rw [List.findIdx_lt_length] at h
    obtain ⟨y, hy, hy2⟩ := h
    exact ha y hy (by simpa using hy2)
theorem idx_split {a b : List Al} {x : Al} (ha : ∀ y ∈ a, y.1 ≠ x.1) : idx (a ++ x :: b) x.1 = a.length := by
  unfold idx; rw [idxN_split ha, if_pos (by simp)]
theorem erase_split {a b : List Al} {x : Al} (ha : ∀ y ∈ a, y.1 ≠ x.1) : (a ++ x :: b).eraseIdx (idxN (a ++ x :: b) x.1) = a ++ b := by
  rw [idxN_split ha, List.eraseIdx_append_of_length_le (Nat.le_refl _), Nat.sub_self]; rfl
theorem clear_split {a b : List Al} {x : Al} (ha : ∀ y ∈ a, y.1 ≠ x.1) : cErr (a ++ x :: b) x.1 = 0 ∧ cL (a ++ x :: b) x.1 = a ++ b := by
  have h := idx_split (b := b) ha
  unfold cErr cL
  rw [if_pos (by omega), if_pos (by omega), erase_split ha]
  exact ⟨rfl, rfl⟩
theorem set_split {a b : List Al} {x : Al} (h0 : 0 ≤ x.1) (ht : tk x.2 = true) (hid : ∀ y ∈ a ++ b, y.1 ≠ x.1) (hlen : (a ++ b).length ≠ 4096) (ha : ∀ y ∈ a, ltb y x = true) (hb : ∀ y ∈ b, ltb y x = false) :
    sErr (a ++ b) x.1 x.2 = 0 ∧ sL (a ++ b) x.1 x.2 = a ++ x :: b := by
  have hi := idx_none hid
  have he : sErr (a ++ b) x.1 x.2 = 0 := by
    unfold sErr
    rw [if_neg (by rintro (h | h); omega; rw [ht] at h; cases h), if_neg (by omega), if_neg hlen]
  refine ⟨he, ?_⟩
  unfold sL
  rw [if_pos he]
  have hp : pos (a ++ b) (x.1, x.2) = a.length := pos_split ha hb
  rw [hp]
  unfold insN
  simp
theorem set_full_err {l : List Al} {id at' : Int} (h0 : 0 ≤ id) (ht : tk at' = true) (hid : ∀ y ∈ l, y.1 ≠ id) (hlen : l.length = 4096) : sErr l id at' = 7 ∧ sL l id at' = l := by
  have hi := idx_none hid
  have he : sErr l id at' = 7 := by
    unfold sErr
    rw [if_neg (by rintro (h | h); omega; rw [ht] at h; cases h), if_neg (by omega), if_pos hlen]
  refine ⟨he, ?_⟩
  unfold sL
  rw [if_neg (by rw [he]; decide)]

/-- The alarms i = 0, 1 .. of ClockFulls. -/
def fA (q : Int) (i : Nat) : Al := ((i : Int), 100000 - q * (i : Int))
def fM (q : Int) (k : Nat) : List Al := (List.range k).map (fA q)
def fM1 (q : Int) (k : Nat) : List Al := (List.range k).map (fun i => fA q (i + 1))
def fG (q : Int) (k : Nat) : List Al := if q = 0 then fM q k else (fM q k).reverse
def fH (q : Int) (k : Nat) : List Al := if q = 0 then fM1 q k else (fM1 q k).reverse
theorem fM_length (q : Int) (k : Nat) : (fM q k).length = k := by simp [fM]
theorem fG_length (q : Int) (k : Nat) : (fG q k).length = k := by unfold fG; split <;> simp [fM]
theorem fH_length (q : Int) (k : Nat) : (fH q k).length = k := by unfold fH; split <;> simp [fM1]
theorem fG_mem {q : Int} {k : Nat} {x : Al} (hx : x ∈ fG q k) : ∃ i, i < k ∧ x = fA q i := by
  have : x ∈ fM q k := by unfold fG at hx; split at hx; exact hx; simpa using hx
  unfold fM at this
  obtain ⟨i, hi, rfl⟩ := List.mem_map.1 this
  exact ⟨i, by simpa using hi, rfl⟩
theorem fH_mem {q : Int} {k : Nat} {x : Al} (hx : x ∈ fH q k) : ∃ i, i < k ∧ x = fA q (i + 1) := by
  have : x ∈ fM1 q k := by unfold fH at hx; split at hx; exact hx; simpa using hx
  unfold fM1 at this
  obtain ⟨i, hi, rfl⟩ := List.mem_map.1 this
  exact ⟨i, by simpa using hi, rfl⟩
theorem mul_rng {q : Int} {i : Nat} (h0 : 0 ≤ q) (h3 : q ≤ 3) (hi : i ≤ 4098) : 0 ≤ q * (i : Int) ∧ q * (i : Int) ≤ 12294 := by
  have : q = 0 ∨ q = 1 ∨ q = 2 ∨ q = 3 := by omega
  rcases this with rfl | rfl | rfl | rfl <;> omega
theorem mul_lt {q : Int} {i j : Nat} (h0 : 0 < q) (hij : i < j) : q * (i : Int) < q * (j : Int) := Int.mul_lt_mul_of_pos_left (by omega) h0
theorem fG_step {q : Int} {k : Nat} (h0 : 0 ≤ q) (h3 : q ≤ 3) (hk : k < 4096) : sErr (fG q k) k (100000 - q * (k : Int)) = 0 ∧ sL (fG q k) k (100000 - q * (k : Int)) = fG q (k + 1) := by
  have hr := mul_rng h0 h3 (i := k) (by omega)
  have htk : tk (100000 - q * (k : Int)) = true := tk_iff.2 (by omega)
  have hid : ∀ y ∈ fG q k, y.1 ≠ ((k : Int), 100000 - q * (k : Int)).1 := fun y hy => by
    obtain ⟨i, hi, rfl⟩ := fG_mem hy; simp [fA]; omega
  have hlen : (fG q k).length ≠ 4096 := by rw [fG_length]; omega
  by_cases hq : q = 0
  · have e := set_split (a := fG q k) (b := []) (x := ((k : Int), 100000 - q * (k : Int))) (by simp) htk (by simpa using hid) (by simpa using hlen) (fun y hy => by
      obtain ⟨i, hi, rfl⟩ := fG_mem hy; rw [ltb_iff]; right; subst hq; simp [fA]; omega) (fun y hy => by cases hy)
    rw [List.append_nil] at e
    refine ⟨e.1, e.2.trans ?_⟩
    unfold fG
    rw [if_pos hq, if_pos hq]
    unfold fM
    rw [List.range_succ, List.map_append]; rfl
  · have e := set_split (a := []) (b := fG q k) (x := ((k : Int), 100000 - q * (k : Int))) (by simp) htk (by simpa using hid) (by simpa using hlen) (fun y hy => by cases hy) (fun y hy => by
      obtain ⟨i, hi, rfl⟩ := fG_mem hy
      have := mul_lt (q := q) (by omega) hi
      cases hb : ltb (fA q i) ((k : Int), 100000 - q * (k : Int)) with
      | false => rfl
      | true => rw [ltb_iff] at hb; simp [fA] at hb; omega)
    rw [List.nil_append] at e
    refine ⟨e.1, e.2.trans ?_⟩
    unfold fG
    rw [if_neg hq, if_neg hq]
    unfold fM
    rw [List.range_succ, List.map_append, List.reverse_append]; rfl
theorem fG_full {q : Int} {k : Nat} (h0 : 0 ≤ q) (h3 : q ≤ 3) (hk : 4096 ≤ k) (hk2 : k ≤ 4098) : sErr (fG q 4096) k (100000 - q * (k : Int)) = 7 ∧ sL (fG q 4096) k (100000 - q * (k : Int)) = fG q 4096 := by
  have hr := mul_rng h0 h3 (i := k) hk2
  exact set_full_err (by omega) (tk_iff.2 (by omega)) (fun y hy => by obtain ⟨i, hi, rfl⟩ := fG_mem hy; simp [fA]; omega) (fG_length _ _)
theorem fM_succ (q : Int) (k : Nat) : fM q (k + 1) = (0, 100000) :: fM1 q k := by
  unfold fM fM1
  rw [List.range_succ_eq_map, List.map_cons, List.map_map]
  have : fA q 0 = (0, 100000) := by unfold fA; simp
  rw [this]; rfl
theorem fG_clear (q : Int) (k : Nat) : cErr (fG q (k + 1)) 0 = 0 ∧ cL (fG q (k + 1)) 0 = fH q k := by
  by_cases hq : q = 0
  · have e : fG q (k + 1) = [] ++ ((0, 100000) : Al) :: fM1 q k := by unfold fG; rw [if_pos hq, fM_succ]; rfl
    have hh := clear_split (a := []) (b := fM1 q k) (x := ((0, 100000) : Al)) (by intro y hy; cases hy)
    rw [e]
    refine ⟨hh.1, hh.2.trans ?_⟩
    unfold fH; rw [if_pos hq]; rfl
  · have e : fG q (k + 1) = (fM1 q k).reverse ++ ((0, 100000) : Al) :: [] := by unfold fG; rw [if_neg hq, fM_succ, List.reverse_cons]
    have hh := clear_split (a := (fM1 q k).reverse) (b := []) (x := ((0, 100000) : Al)) (by
      intro y hy
      have : y ∈ fM1 q k := by simpa using hy
      unfold fM1 at this
      obtain ⟨i, hi, rfl⟩ := List.mem_map.1 this
      simp [fA]; omega)
    rw [e]
    refine ⟨hh.1, hh.2.trans ?_⟩
    unfold fH; rw [if_neg hq, List.append_nil]
theorem fH_set {q : Int} {k : Nat} (h0 : 0 ≤ q) (h3 : q ≤ 3) (hk : k < 4096) : sErr (fH q k) ((k : Int) + 1) 5 = 0 ∧ sL (fH q k) ((k : Int) + 1) 5 = ((k : Int) + 1, 5) :: fH q k := by
  have e := set_split (a := []) (b := fH q k) (x := (((k : Int) + 1, 5) : Al)) (by simp; omega) (show tk 5 = true by decide) (fun y hy => by
      obtain ⟨i, hi, rfl⟩ := fH_mem (by simpa using hy); simp [fA]; omega) (by rw [List.nil_append, fH_length]; omega) (fun y hy => by cases hy) (fun y hy => by
      obtain ⟨i, hi, rfl⟩ := fH_mem hy
      have := mul_rng h0 h3 (i := i + 1) (by omega)
      cases hb : ltb (fA q (i + 1)) ((k : Int) + 1, 5) with
      | false => rfl
      | true => rw [ltb_iff] at hb; simp only [fA] at hb; omega)
  exact e
theorem sorted_cons {a : Al} {l : List Al} (h1 : ∀ x ∈ l, ltb a x = true) (h2 : Sorted l) : Sorted (a :: l) := by
  unfold Sorted at *; rw [List.pairwise_cons]; exact ⟨h1, h2⟩
theorem sorted_map0 (f : Nat → Al) (k : Nat) (hf : ∀ i j, i < j → ltb (f i) (f j) = true) : Sorted ((List.range k).map f) := by
  unfold Sorted; rw [List.pairwise_map]; exact List.pairwise_lt_range.imp (fun h => hf _ _ h)
theorem sorted_map1 (f : Nat → Al) (k : Nat) (hf : ∀ i j, i < j → ltb (f j) (f i) = true) : Sorted ((List.range k).map f).reverse := by
  unfold Sorted; rw [List.pairwise_reverse, List.pairwise_map]; exact List.pairwise_lt_range.imp (fun h => hf _ _ h)
theorem fG_sorted {q : Int} (h0 : 0 ≤ q) (k : Nat) : Sorted (fG q k) := by
  unfold fG fM
  split
  · rename_i hq; subst hq; exact sorted_map0 _ _ (fun i j hij => by rw [ltb_iff]; right; simp [fA]; omega)
  · exact sorted_map1 _ _ (fun i j hij => by rw [ltb_iff]; left; have := mul_lt (q := q) (by omega) hij; simp [fA]; omega)
theorem fH_sorted {q : Int} (h0 : 0 ≤ q) (k : Nat) : Sorted (fH q k) := by
  unfold fH fM1
  split
  · rename_i hq; subst hq; exact sorted_map0 _ _ (fun i j hij => by rw [ltb_iff]; right; simp [fA]; omega)
  · exact sorted_map1 _ _ (fun i j hij => by rw [ltb_iff]; left; have := mul_lt (q := q) (i := i + 1) (j := j + 1) (by omega) (by omega); simp only [fA]; omega)
theorem fI_sorted {q : Int} {k : Nat} (h0 : 0 ≤ q) (h3 : q ≤ 3) (hk : k < 4096) : Sorted (((k : Int) + 1, 5) :: fH q k) :=
  sorted_cons (fun x hx => by
    obtain ⟨i, hi, rfl⟩ := fH_mem hx
    have := mul_rng h0 h3 (i := i + 1) (by omega)
    rw [ltb_iff]; left; simp only [fA]; omega) (fH_sorted h0 k)
theorem fI_cut {q : Int} {k : Nat} (h0 : 0 ≤ q) : cutAt 99999 (((k : Int) + 1, 5) :: fH q k) = if q = 0 then 1 else k + 1 := by
  have hm : min ((99999 : Int) + 1) 4611686018427387904 = 100000 := by omega
  unfold cutAt
  rw [hm]
  have h5 : ltb (((k : Int) + 1, 5) : Al) (0, 100000) = true := by rw [ltb_iff]; left; show (5 : Int) < 100000; decide
  by_cases hq : q = 0
  · rw [if_pos hq]
    refine (pos_split (a := [((k : Int) + 1, 5)]) (b := fH q k) (by intro x hx; rw [List.mem_singleton.1 hx]; exact h5) (fun y hy => ?_)).trans rfl
    obtain ⟨i, hi, rfl⟩ := fH_mem hy
    subst hq
    cases hb : ltb (fA 0 (i + 1)) (0, 100000) with
    | false => rfl
    | true => rw [ltb_iff] at hb; simp [fA] at hb; omega
  · rw [if_neg hq]
    have e := pos_split (a := ((k : Int) + 1, 5) :: fH q k) (b := []) (t := (0, 100000)) (fun y hy => by
      rcases List.mem_cons.1 hy with rfl | hy
      · exact h5
      · obtain ⟨i, hi, rfl⟩ := fH_mem hy
        have := mul_lt (q := q) (i := 0) (j := i + 1) (by omega) (by omega)
        rw [ltb_iff]; left; simp only [fA]; omega) (by intro y hy; cases hy)
    rw [List.append_nil] at e
    rw [e]; simp [fH_length]
theorem dl_99999 : dl 0 99999 = 99999 := by decide
end Go.Proofs.Ytamnhpcbflpabaa
