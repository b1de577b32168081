/- What a picker has picked: plain facts. -/
import Derived.Test.YtjgnmmlbnkmgfaaQueU
namespace Go.Proofs.Ytjgnmmlbnkmgfaa

def ltb (x a : Al) : Bool := decide (x.2 < a.2 ∨ x.2 = a.2 ∧ x.1 < a.1)
theorem ltb_iff {x a : Al} : ltb x a = true ↔ (x.2 < a.2 ∨ x.2 = a.2 ∧ x.1 < a.1) := by unfold ltb; simp

/-- The order of ages of t threads behind some picks, with windows of a size. -/
structure Inv (made : List Int) (t : Nat) (sz : Int) (l : List Al) : Prop where
  at_ : ∀ x ∈ l, x.2 = lastAt made x.1 made.length
  perm : (l.map Prod.fst).Perm ((List.range t).map (fun i : Nat => (i : Int)))
  sorted : l.Pairwise (fun x y => ltb x y = true)
  fair : ∀ (i : Nat) (a : Al), l[i]? = some a → (made.length : Int) - 1 - a.2 + (i : Int) ≤ sz - 1

namespace Inv
variable {made : List Int} {t : Nat} {sz : Int} {l : List Al}
theorem length (h : Inv made t sz l) : l.length = t := by
  have := h.perm.length_eq; simpa using this
theorem mem_iff (h : Inv made t sz l) (x : Int) : x ∈ l.map Prod.fst ↔ 0 ≤ x ∧ x < (t : Int) := by
  rw [h.perm.mem_iff]
  simp only [List.mem_map, List.mem_range]
  constructor
  · rintro ⟨a, h1, rfl⟩; omega
  · rintro ⟨h1, h2⟩; exact ⟨x.toNat, by omega, by omega⟩
theorem nodup (h : Inv made t sz l) : (l.map Prod.fst).Nodup := by
  refine h.perm.nodup_iff.2 ?_
  refine List.Pairwise.map (R := fun a b : Nat => a ≠ b) _ (fun a b hab => by omega) ?_
  exact List.nodup_range
end Inv

theorem l0_inv (t : Nat) (sz : Int) (h : (t : Int) ≤ sz) : Inv [] t sz (l0 t) where
  at_ := by
    intro x hx
    obtain ⟨i, hi, e⟩ := List.getElem_of_mem hx
    obtain ⟨_, rfl⟩ := l0_get (by rw [List.getElem?_eq_getElem hi, e])
    rfl
  perm := by unfold l0; rw [List.map_map]; exact List.Perm.refl _
  sorted := by
    unfold l0
    rw [List.pairwise_map]
    exact List.pairwise_lt_range.imp (fun {a b} hab => by rw [ltb_iff]; simp; omega)
  fair := by
    intro i a hi
    obtain ⟨h1, rfl⟩ := l0_get hi
    simp only [List.length_nil]
    omega

theorem perm_erase (l : List Al) (i : Nat) (h : i < l.length) : l.Perm (l[i] :: l.eraseIdx i) := by
  have e : l = l.take i ++ l[i] :: l.drop (i + 1) := by rw [← List.drop_eq_getElem_cons h, List.take_append_drop]
  rw [List.eraseIdx_eq_take_drop_succ]
  have hp : (l.take i ++ l[i] :: l.drop (i + 1)).Perm (l[i] :: (l.take i ++ l.drop (i + 1))) := List.perm_middle
  rwa [← e] at hp

theorem lastAt_snoc (made : List Int) (T x : Int) : lastAt (made ++ [T]) x (made.length + 1) = if T = x then (made.length : Int) else lastAt made x made.length := by
  show (if (made ++ [T])[made.length]? = some x then (made.length : Int) else lastAt (made ++ [T]) x made.length) = _
  rw [lastAt_app _ _ _ _ (Nat.le_refl _), List.getElem?_append_right (Nat.le_refl _), Nat.sub_self]
  simp

theorem mem_erase_ne {l : List Al} (hn : (l.map Prod.fst).Nodup) {i : Nat} (hi : i < l.length) {x : Al} (hx : x ∈ l.eraseIdx i) : l[i].1 ≠ x.1 := by
  have hp := (perm_erase l i hi).map Prod.fst
  rw [hp.nodup_iff, List.map_cons, List.nodup_cons] at hn
  intro e
  exact hn.1 (by rw [e]; exact List.mem_map_of_mem hx)

/-- A pick of the thread at a place, if it may be picked. -/
theorem Inv.step {made : List Int} {t : Nat} {sz : Int} {l : List Al} (h : Inv made t sz l) {i : Nat} (hi : i < l.length)
    (hu : i = 0 ∨ ∀ (j : Nat) (a : Al), l[j]? = some a → ¬ sz - 1 ≤ (made.length : Int) - 1 - a.2 + (j : Int)) (hsz : (t : Int) ≤ sz) :
    Inv (made ++ [(l[i]).1]) t sz (pickL l i made.length) := by
  have hT : (l.getD i (0, 0)).1 = (l[i]).1 := by rw [List.getD_eq_getElem?_getD, List.getElem?_eq_getElem hi]; rfl
  have hlen := h.length
  have hel : (l.eraseIdx i).length = l.length - 1 := List.length_eraseIdx_of_lt hi
  refine ⟨?_, ?_, ?_, ?_⟩
  · intro x hx
    unfold pickL at hx
    rw [hT] at hx
    rw [List.length_append, List.length_singleton, lastAt_snoc]
    rcases List.mem_append.1 hx with hx | hx
    · rw [if_neg (mem_erase_ne h.nodup hi hx)]
      exact h.at_ x (List.mem_of_mem_eraseIdx hx)
    · rw [List.mem_singleton] at hx; subst hx; rw [if_pos rfl]
  · unfold pickL
    rw [hT]
    have hp := ((perm_erase l i hi).map Prod.fst).symm.trans h.perm
    rw [List.map_append]
    exact (List.perm_append_comm (l₁ := (l.eraseIdx i).map Prod.fst) (l₂ := [(l[i]).1])).trans hp
  · unfold pickL
    rw [List.pairwise_append]
    refine ⟨h.sorted.sublist (List.eraseIdx_sublist _ _), List.pairwise_singleton _ _, fun x hx y hy => ?_⟩
    rw [List.mem_singleton] at hy
    subst hy
    rw [ltb_iff]
    left
    have := h.at_ x (List.mem_of_mem_eraseIdx hx)
    have hb := lastAt_bd made x.1 made.length
    simp only []
    omega
  · intro j a hj
    unfold pickL at hj
    rw [List.length_append, List.length_singleton]
    have hjl := (List.getElem?_eq_some_iff.1 hj).1
    rw [List.length_append, hel, List.length_singleton] at hjl
    by_cases hlast : j = l.length - 1
    · rw [List.getElem?_append_right (by omega)] at hj
      rw [hel, hlast, Nat.sub_self] at hj
      simp at hj
      subst hj
      simp only []
      omega
    · rw [List.getElem?_append_left (by omega), List.getElem?_eraseIdx] at hj
      split at hj
      · rename_i hji
        have h1 := h.fair j a hj
        rcases hu with rfl | hu
        · omega
        · have := hu j a hj; omega
      · have h1 := h.fair (j + 1) a hj
        omega

/-- Whether each thread was picked often enough so far. -/
def Often (made : List Int) (t : Nat) (sz : Int) : Prop := ∀ k, k ≤ made.length → ∀ j, j < t → (k : Int) - lastAt made (j : Int) k ≤ sz
theorem Often.nil (t : Nat) (sz : Int) (h : 1 ≤ sz) : Often [] t sz := by
  intro k hk j _
  obtain rfl : k = 0 := by simpa using hk
  unfold lastAt; omega
theorem Inv.gap {made : List Int} {t : Nat} {sz : Int} {l : List Al} (h : Inv made t sz l) {j : Nat} (hj : j < t) : (made.length : Int) - lastAt made (j : Int) made.length ≤ sz := by
  obtain ⟨x, hx, e⟩ := List.mem_map.1 ((h.mem_iff (j : Int)).2 ⟨by omega, by omega⟩)
  have h1 := h.at_ x hx
  obtain ⟨i, hi, e2⟩ := List.getElem_of_mem hx
  have h2 := h.fair i x (by rw [List.getElem?_eq_getElem hi, e2])
  rw [e] at h1
  omega
theorem Often.snoc {made : List Int} {t : Nat} {sz T : Int} {l' : List Al} (h : Often made t sz) (h' : Inv (made ++ [T]) t sz l') : Often (made ++ [T]) t sz := by
  intro k hk j hj
  by_cases hkl : k ≤ made.length
  · rw [lastAt_app _ _ _ _ hkl]; exact h k hkl j hj
  · have e : k = (made ++ [T]).length := by simp at hk ⊢; omega
    rw [e]; exact h'.gap hj
theorem Often.win {made : List Int} {t : Nat} {sz : Int} (h : Often made t sz) (ht : 1 ≤ t) (hsz : 1 ≤ sz) (hl : ∀ x ∈ made, 0 ≤ x ∧ x < (t : Int)) : win made t ≤ sz := by
  rw [win_le ht]
  refine ⟨hsz, fun i hi => ?_, fun j hj => h _ (Nat.le_refl _) j hj⟩
  have hg : made.getD i 0 = made[i] := by rw [List.getD_eq_getElem?_getD, List.getElem?_eq_getElem hi]; rfl
  have hx := hl _ (List.getElem_mem hi)
  rw [hg]
  have := h i (by omega) (made[i]).toNat (by omega)
  rwa [Int.toNat_of_nonneg hx.1] at this

theorem idx_ok {made : List Int} {t : Nat} {sz : Int} {l : List Al} (h : Inv made t sz l) {x : Int} (h0 : 0 ≤ x) (h1 : x < (t : Int)) :
    0 ≤ idx l x ∧ ∃ hi : (idx l x).toNat < l.length, (l[(idx l x).toNat]).1 = x := by
  have hm := (h.mem_iff x).2 ⟨h0, h1⟩
  obtain ⟨y, hy, e⟩ := List.mem_map.1 hm
  have hlt : idxN l x < l.length := List.findIdx_lt_length_of_exists ⟨y, hy, by simpa using e⟩
  have hi : idx l x = (idxN l x : Int) := by unfold idx; rw [if_pos hlt]
  rw [hi]
  refine ⟨by omega, by simpa using hlt, ?_⟩
  have := List.findIdx_getElem (p := fun a : Al => a.1 == x) (xs := l) (w := hlt)
  exact beq_iff_eq.1 this
theorem idx_none {made : List Int} {t : Nat} {sz : Int} {l : List Al} (h : Inv made t sz l) {x : Int} (h0 : x < 0 ∨ (t : Int) ≤ x) : idx l x < 0 := by
  unfold idx
  rw [if_neg]
  · omega
  · intro hlt
    have := List.findIdx_getElem (p := fun a : Al => a.1 == x) (xs := l) (w := hlt)
    have hm : x ∈ l.map Prod.fst := by
      refine List.mem_map.2 ⟨l[idxN l x], List.getElem_mem _, ?_⟩
      exact beq_iff_eq.1 this
    have := (h.mem_iff x).1 hm
    omega
/-- What is picked if a thread is wanted. -/
theorem Inv.next {made : List Int} {t : Nat} {sz : Int} {l : List Al} (h : Inv made t sz l) {x : Int} (h0 : 0 ≤ x) (h1 : x < (t : Int)) (hsz : (t : Int) ≤ sz) :
    0 ≤ idx l x ∧ 0 ≤ nxT l sz made.length x ∧ nxT l sz made.length x < t ∧ Inv (made ++ [nxT l sz made.length x]) t sz (nxL l sz made.length x) := by
  obtain ⟨g0, g1, g2⟩ := idx_ok h h0 h1
  have hlen := h.length
  have hI : nxI l sz made.length x < l.length := by
    unfold nxI; split
    · omega
    · exact g1
  have hT : nxT l sz made.length x = (l[nxI l sz made.length x]).1 := by
    unfold nxT; rw [List.getD_eq_getElem?_getD, List.getElem?_eq_getElem hI]; rfl
  have hm := (h.mem_iff (nxT l sz made.length x)).1 (by rw [hT]; exact List.mem_map_of_mem (List.getElem_mem hI))
  refine ⟨g0, hm.1, hm.2, ?_⟩
  unfold nxL
  rw [hT]
  refine h.step hI ?_ hsz
  unfold nxI
  by_cases hu : urg l sz made.length = true
  · rw [if_pos hu]; exact .inl rfl
  · rw [if_neg hu]
    have hu : urg l sz made.length = false := by simpa using hu
    exact .inr fun j a hj => urg_false hu hj

/-- With the least size, the picks are those of Round. -/
theorem Inv.urgent {made : List Int} {t : Nat} {l : List Al} (h : Inv made t t l) (ht : 1 ≤ t) : urg l t made.length = true := by
  have hlen := h.length
  have hx : l[t - 1]? = some (l[t - 1]'(by omega)) := List.getElem?_eq_getElem _
  refine urg_yes hx ?_
  have h1 := h.at_ _ (List.mem_of_getElem? hx)
  have h2 := lastAt_bd made (l[t - 1]'(by omega)).1 made.length
  omega
def Rot (l : List Al) (t m : Nat) : Prop := ∀ (i : Nat) (a : Al), l[i]? = some a → a.1 = (((m + i) % t : Nat) : Int)
theorem Rot.zero (t : Nat) : Rot (l0 t) t 0 := by
  intro i a hi
  obtain ⟨h1, rfl⟩ := l0_get hi
  rw [Nat.zero_add, Nat.mod_eq_of_lt h1]
theorem Rot.step {l : List Al} {t m : Nat} (h : Rot l t m) (hl : l.length = t) (ht : 1 ≤ t) (pk : Int) : Rot (pickL l 0 pk) t (m + 1) := by
  intro i a hi
  have hx : l[0]? = some (l[0]'(by omega)) := List.getElem?_eq_getElem _
  have h0 := h 0 _ hx
  have hT : (l.getD 0 (0, 0)).1 = (l[0]'(by omega)).1 := by rw [List.getD_eq_getElem?_getD, hx]; rfl
  have hel : (l.eraseIdx 0).length = l.length - 1 := List.length_eraseIdx_of_lt (by omega)
  unfold pickL at hi
  rw [hT] at hi
  have hil := (List.getElem?_eq_some_iff.1 hi).1
  rw [List.length_append, hel, List.length_singleton] at hil
  by_cases hlast : i = l.length - 1
  · rw [List.getElem?_append_right (by omega), hel, hlast, Nat.sub_self] at hi
    simp at hi
    subst hi
    rw [h0, hlast, hl, show m + 1 + (t - 1) = m + t by omega, Nat.add_mod_right]; rfl
  · rw [List.getElem?_append_left (by omega), List.getElem?_eraseIdx, if_neg (by omega)] at hi
    rw [h (i + 1) a hi, show m + (i + 1) = m + 1 + i by omega]
theorem rot_next {made : List Int} {t : Nat} {l : List Al} (h : Inv made t t l) (ht : 1 ≤ t) (hr : Rot l t made.length) (hm : made = rnd t made.length) (x : Int) :
    Rot (nxL l t made.length x) t (made.length + 1) ∧ made ++ [nxT l t made.length x] = rnd t (made.length + 1) := by
  have hu := h.urgent ht
  have hlen := h.length
  have e : nxI l t made.length x = 0 := by unfold nxI; rw [if_pos hu]
  unfold nxL nxT
  rw [e]
  refine ⟨hr.step hlen ht _, ?_⟩
  have hx : l[0]? = some (l[0]'(by omega)) := List.getElem?_eq_getElem _
  have h0 := hr 0 _ hx
  have hT : (l.getD 0 (0, 0)).1 = (l[0]'(by omega)).1 := by rw [List.getD_eq_getElem?_getD, hx]; rfl
  rw [hT, h0, rnd_succ, ← hm]
  simp
#print axioms rot_next
end Go.Proofs.Ytjgnmmlbnkmgfaa
