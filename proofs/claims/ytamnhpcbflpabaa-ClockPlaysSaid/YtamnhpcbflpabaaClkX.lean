/- Lists of alarms: setting one after the other; ticks that pass one after the other. No Go text. -/
import Derived.Test.YtamnhpcbflpabaaClkV
namespace Go.Proofs.Ytamnhpcbflpabaa
open Go.ChangeShapes Go.WideShapes Go.ChangeAt Go.RowKit

theorem mem_take_iff {l : List Al} (hs : Sorted l) {t y : Al} (hy : y ∈ l.take (pos l t)) : ltb y t = true := by
  obtain ⟨i, hi, rfl⟩ := List.getElem_of_mem hy
  rw [List.length_take] at hi
  rw [List.getElem_take]
  exact (pos_iff hs (List.getElem?_eq_getElem (by omega))).2 (by omega)
theorem mem_drop_iff {l : List Al} (hs : Sorted l) {t y : Al} (hy : y ∈ l.drop (pos l t)) : ltb y t = false := by
  obtain ⟨i, hi, rfl⟩ := List.getElem_of_mem hy
  rw [List.length_drop] at hi
  rw [List.getElem_drop]
  have := mt (pos_iff hs (a := t) (List.getElem?_eq_getElem (by omega : pos l t + i < l.length))).1 (by omega)
  simpa using this
theorem sorted_take {l : List Al} (hs : Sorted l) (n : Nat) : Sorted (l.take n) := List.Pairwise.sublist (List.take_sublist _ _) hs
theorem sorted_drop {l : List Al} (hs : Sorted l) (n : Nat) : Sorted (l.drop n) := List.Pairwise.sublist (List.drop_sublist _ _) hs
theorem sorted_parts {l : List Al} (hs : Sorted l) (n : Nat) : ∀ x ∈ l.take n, ∀ y ∈ l.drop n, ltb x y = true := by
  have : Sorted (l.take n ++ l.drop n) := by rw [List.take_append_drop]; exact hs
  unfold Sorted at this
  rw [List.pairwise_append] at this
  exact this.2.2
theorem ltb_total {x y : Al} (hne : x.1 ≠ y.1) (hb : ltb x y = false) : ltb y x = true := by
  have : ¬ (x.2 < y.2 ∨ x.2 = y.2 ∧ x.1 < y.1) := by rw [← ltb_iff, hb]; simp
  rw [ltb_iff]; omega
theorem ins_sorted {l : List Al} (hs : Sorted l) {a : Al} (hid : ∀ y ∈ l, y.1 ≠ a.1) : Sorted (insN l (pos l a) a) := by
  unfold insN Sorted
  rw [List.pairwise_append, List.pairwise_cons]
  refine ⟨sorted_take hs _, ⟨fun y hy => ltb_total (hid y (List.mem_of_mem_drop hy)) (mem_drop_iff hs hy), sorted_drop hs _⟩, fun x hx y hy => ?_⟩
  rcases List.mem_cons.1 hy with rfl | hy
  · exact mem_take_iff hs hx
  · exact sorted_parts hs _ x hx y hy
theorem mem_ins {l : List Al} {n : Nat} {a y : Al} (hy : y ∈ insN l n a) : y = a ∨ y ∈ l := by
  unfold insN at hy
  rcases List.mem_append.1 hy with h1 | h1
  · exact .inr (List.mem_of_mem_take h1)
  · rcases List.mem_cons.1 h1 with h1 | h1
    · exact .inl h1
    · exact .inr (List.mem_of_mem_drop h1)

/-- The first k of the ticks xs are set, as far as it is allowed. -/
structure LInv (xs : List Int) (k : Nat) (l : List Al) : Prop where
  sorted : Sorted l
  mem : ∀ y ∈ l, ∃ j : Nat, j < k ∧ y.1 = (j : Int) ∧ xs[j]? = some y.2 ∧ 0 ≤ y.2 ∧ y.2 ≤ 4611686018427387904
  len : l.length ≤ k
theorem LInv.zero (xs : List Int) : LInv xs 0 [] := ⟨List.Pairwise.nil, (fun _ h => by cases h), Nat.le_refl _⟩
theorem LInv.step {xs : List Int} {k : Nat} {l : List Al} {x : Int} (hI : LInv xs k l) (hk : k ≤ 40) (hx : xs[k]? = some x) :
    (tk x = true → sErr l k x = 0 ∧ (sL l k x).length = l.length + 1) ∧ (tk x = false → sErr l k x = 2 ∧ sL l k x = l) ∧ LInv xs (k + 1) (sL l k x) := by
  have hid : ∀ y ∈ l, y.1 ≠ ((k : Int), x).1 := fun y hy => by
    obtain ⟨j, hj, h1, _⟩ := hI.mem y hy
    rw [h1]; simp; omega
  have hlen := hI.len
  have hw : LInv xs (k + 1) l := ⟨hI.sorted, fun y hy => by obtain ⟨j, hj, h1⟩ := hI.mem y hy; exact ⟨j, by omega, h1⟩, by omega⟩
  by_cases ht : tk x = true
  · have hi := idx_none hid
    have he : sErr l k x = 0 := by
      unfold sErr
      rw [if_neg (by rintro (h | h); omega; rw [ht] at h; cases h), if_neg (by rw [hi]; omega), if_neg (by omega)]
    have hL : sL l k x = insN l (pos l ((k : Int), x)) ((k : Int), x) := by unfold sL; rw [if_pos he]
    have hlen2 : (sL l k x).length = l.length + 1 := by rw [hL, insN_length _ _ _ (pos_le _ _)]
    refine ⟨fun _ => ⟨he, hlen2⟩, (fun h => by rw [ht] at h; cases h), ?_⟩
    refine ⟨by rw [hL]; exact ins_sorted hI.sorted hid, fun y hy => ?_, by omega⟩
    rw [hL] at hy
    rcases mem_ins hy with rfl | hy
    · exact ⟨k, by omega, rfl, hx, tk_iff.1 ht⟩
    · exact hw.mem y hy
  · have ht : tk x = false := by simpa using ht
    have he : sErr l k x = 2 := by unfold sErr; rw [if_pos (.inr ht)]
    have hL : sL l k x = l := by unfold sL; rw [if_neg (by rw [he]; decide)]
    exact ⟨(fun h => by rw [ht] at h; cases h), fun _ => ⟨he, hL⟩, by rw [hL]; exact hw⟩

theorem pos_part {l : List Al} (hs : Sorted l) {t : Al} {n : Nat} (hn : n ≤ pos l t) : pos l t = n + pos (l.drop n) t := by
  have hall : ∀ x ∈ l.take n, ltb x t = true := fun x hx => by
    refine mem_take_iff hs (t := t) (List.Sublist.mem hx ?_)
    exact List.take_sublist_take_left hn
  have e : pos (l.take n ++ l.drop n) t = (l.take n).length + pos (l.drop n) t := by
    unfold pos
    rw [List.takeWhile_append_of_pos (by simpa using hall), List.length_append]
  rw [List.take_append_drop, List.length_take] at e
  have := pos_le l t
  omega
theorem pos_mono (l : List Al) {t t' : Al} (hm : ∀ x ∈ l, ltb x t = true → ltb x t' = true) : pos l t ≤ pos l t' := by
  unfold pos
  induction l with
  | nil => simp
  | cons a l ih =>
    rw [List.takeWhile_cons, List.takeWhile_cons]
    by_cases ha : ltb a t = true
    · rw [if_pos ha, if_pos (hm a (by simp) ha)]
      have := ih (fun x hx => hm x (List.mem_cons_of_mem _ hx))
      simp; omega
    · rw [if_neg ha]; simp
theorem cut_mono (l : List Al) {now now' : Int} (hn : now ≤ now') : cutAt now l ≤ cutAt now' l := by
  unfold cutAt
  refine pos_mono l (fun x _ hx => ?_)
  rw [ltb_iff] at hx ⊢
  simp only [] at hx ⊢
  omega
theorem cut_part {l : List Al} (hs : Sorted l) {now : Int} {n : Nat} (hn : n ≤ cutAt now l) : cutAt now l = n + cutAt now (l.drop n) := pos_part hs hn
theorem cut_le (now : Int) (l : List Al) : cutAt now l ≤ l.length := pos_le _ _
theorem due_mem {l : List Al} (hs : Sorted l) {now : Int} {y : Al} (h0 : 0 ≤ y.1) (hy : y ∈ l.take (cutAt now l)) : y.2 ≤ now ∧ y.2 < 4611686018427387904 := by
  have := mem_take_iff hs hy
  rw [ltb_iff] at this
  simp only [] at this
  omega
theorem rest_mem {l : List Al} (hs : Sorted l) {now : Int} {y : Al} (hy : y ∈ l.drop (cutAt now l)) : now < y.2 ∨ 4611686018427387904 ≤ y.2 := by
  have := mem_drop_iff hs hy
  have h2 : ¬ (y.2 < min (now + 1) 4611686018427387904 ∨ y.2 = min (now + 1) 4611686018427387904 ∧ y.1 < 0) := by rw [← ltb_iff (a := (0, min (now + 1) 4611686018427387904)), this]; simp
  omega
theorem dl_add {now s y : Int} (ht : tk now = true) (_hs : 0 ≤ s) (hy : 0 ≤ y) : dl (dl now s) y = dl now (s + y) := by
  obtain ⟨h0, h1⟩ := tk_iff.1 ht
  unfold dl
  repeat' split
  all_goals omega
theorem dl_zero {now : Int} (ht : tk now = true) : dl now 0 = now := by
  obtain ⟨h0, h1⟩ := tk_iff.1 ht
  unfold dl
  split <;> omega
theorem dl_tk {now s : Int} (ht : tk now = true) (hs : 0 ≤ s) : tk (dl now s) = true := by
  obtain ⟨h0, h1, _⟩ := dl_tick ht hs
  exact tk_iff.2 ⟨h0, h1⟩

/-- What ClockHolds knows at the head of each round of its second loop: T the tick, N how many are out. -/
structure Pass (now : Int) (l : List Al) (k : Nat) (s : Int) (N : Nat) : Prop where
  s0 : 0 ≤ s
  s1 : s ≤ (k : Int) * 1099511627776
  le : N ≤ cutAt (dl now s) l
  eq : 0 < k → N = cutAt (dl now s) l
  z : k = 0 → N = 0
theorem Pass.zero (now : Int) (l : List Al) : Pass now l 0 0 0 := ⟨by omega, by omega, Nat.zero_le _, by omega, fun _ => rfl⟩
theorem Pass.step {now : Int} {l : List Al} {k N : Nat} {s y : Int} (hP : Pass now l k s N) (hl : Sorted l) (ht : tk now = true) (hy0 : 0 ≤ y) (hy1 : y ≤ 1099511627776) :
    dl (dl now s) y = dl now (s + y) ∧ N + cutAt (dl now (s + y)) (l.drop N) = cutAt (dl now (s + y)) l ∧ Pass now l (k + 1) (s + y) (cutAt (dl now (s + y)) l) := by
  have h1 := dl_add ht hP.s0 hy0
  have h2 : dl now s ≤ dl now (s + y) := by rw [← h1]; exact (dl_tick (dl_tk ht hP.s0) hy0).2.2
  have h3 := cut_part hl (Nat.le_trans hP.le (cut_mono l h2))
  refine ⟨h1, h3.symm, ?_, ?_, Nat.le_refl _, fun _ => rfl, fun h => by omega⟩
  · have := hP.s0; omega
  · have := hP.s1; omega
end Go.Proofs.Ytamnhpcbflpabaa
