/- Words of bytes: plain facts, no Go text. -/
import Derived.Test.YtembnakhcggbpaaBase
import Derived.Laws.BitsAllLaws
import Derived.Laws.BytesArg
namespace Go.Proofs.Ytembnakhcggbpaa
open Go.ChangeShapes Go.WideShapes Go.ChangeAt Go.RowKit

/-- Bytes, by their indices. -/
def Bf (f : Nat → Int) : Prop := ∀ i, 0 ≤ f i ∧ f i ≤ 255
/-- The word i of some bytes. -/
def wd (f : Nat → Int) (i : Nat) : Int :=
  f (8 * i) * 72057594037927936 + f (8 * i + 1) * 281474976710656 + f (8 * i + 2) * 1099511627776 + f (8 * i + 3) * 4294967296 + f (8 * i + 4) * 16777216 + f (8 * i + 5) * 65536 + f (8 * i + 6) * 256 + f (8 * i + 7)
/-- The first k bytes, and 0 behind them. -/
def cut (f : Nat → Int) (k : Nat) : Nat → Int := fun i => if i < k then f i else 0
/-- The first m words. -/
def pks (f : Nat → Int) (m : Nat) : List Int := (List.range m).map (wd f)
/-- By what the byte k is multiplied in its word. -/
def sh (k : Nat) : Int := 256 ^ (7 - k % 8)
def wds (n : Int) : Int := if n ≤ 0 then 0 else (n - 1) / 8 + 1
def wdsN (n : Nat) : Nat := (n + 7) / 8
theorem wds_nat (n : Nat) : wds (n : Int) = (wdsN n : Nat) := by unfold wds wdsN; split <;> omega

theorem pks_length (f : Nat → Int) (m : Nat) : (pks f m).length = m := by simp [pks]
theorem pks_get {f : Nat → Int} {m i : Nat} (h : i < m) : (pks f m)[i]? = some (wd f i) := by simp [pks, h]
theorem pks_getD {f : Nat → Int} {m i : Nat} (h : i < m) : (pks f m).getD i 0 = wd f i := by
  rw [List.getD_eq_getElem?_getD, pks_get h]; rfl
theorem Bf.cut {f : Nat → Int} (h : Bf f) (k : Nat) : Bf (cut f k) := fun i => by
  have := h i
  unfold Go.Proofs.Ytembnakhcggbpaa.cut; split <;> omega
theorem wd_bd {f : Nat → Int} (h : Bf f) (i : Nat) : 0 ≤ wd f i ∧ wd f i ≤ 18446744073709551615 := by
  have h0 := h (8 * i); have h1 := h (8 * i + 1); have h2 := h (8 * i + 2); have h3 := h (8 * i + 3)
  have h4 := h (8 * i + 4); have h5 := h (8 * i + 5); have h6 := h (8 * i + 6); have h7 := h (8 * i + 7)
  unfold wd; omega
theorem wd_congr {f g : Nat → Int} {i : Nat} (h : ∀ j, 8 * i ≤ j → j < 8 * i + 8 → f j = g j) : wd f i = wd g i := by
  unfold wd
  rw [h (8 * i) (by omega) (by omega), h (8 * i + 1) (by omega) (by omega), h (8 * i + 2) (by omega) (by omega), h (8 * i + 3) (by omega) (by omega),
    h (8 * i + 4) (by omega) (by omega), h (8 * i + 5) (by omega) (by omega), h (8 * i + 6) (by omega) (by omega), h (8 * i + 7) (by omega) (by omega)]
theorem cut_lt {f : Nat → Int} {k i : Nat} (h : i < k) : cut f k i = f i := by simp [cut, h]
theorem cut_ge {f : Nat → Int} {k i : Nat} (h : k ≤ i) : cut f k i = 0 := by simp [cut, Nat.not_lt.2 h]
theorem cut_succ {f : Nat → Int} {k i : Nat} (h : i ≠ k) : cut f (k + 1) i = cut f k i := by
  unfold cut
  by_cases g : i < k
  · rw [if_pos g, if_pos (by omega)]
  · rw [if_neg g, if_neg (by omega)]
theorem wd_far {f : Nat → Int} {k i : Nat} (h : i ≠ k / 8) : wd (cut f (k + 1)) i = wd (cut f k) i :=
  wd_congr fun j h1 h2 => cut_succ (by omega)
theorem wd_new {f : Nat → Int} {k : Nat} (h : k % 8 = 0) : wd (cut f k) (k / 8) = 0 := by
  have e : 8 * (k / 8) = k := by omega
  unfold wd
  rw [e, cut_ge (Nat.le_refl _), cut_ge (by omega), cut_ge (by omega), cut_ge (by omega), cut_ge (by omega), cut_ge (by omega), cut_ge (by omega), cut_ge (by omega)]
  rfl
/-- The word of the byte k, without it, and with it. -/
theorem wd_step (f : Nat → Int) (k : Nat) : wd (cut f (k + 1)) (k / 8) = wd (cut f k) (k / 8) + f k * sh k := by
  obtain ⟨q, r, hr, rfl⟩ : ∃ q r, r < 8 ∧ k = 8 * q + r := ⟨k / 8, k % 8, by omega, by omega⟩
  have e1 : (8 * q + r) / 8 = q := by omega
  have e2 : (8 * q + r) % 8 = r := by omega
  unfold sh
  rw [e1, e2]
  unfold wd
  obtain rfl | rfl | rfl | rfl | rfl | rfl | rfl | rfl : r = 0 ∨ r = 1 ∨ r = 2 ∨ r = 3 ∨ r = 4 ∨ r = 5 ∨ r = 6 ∨ r = 7 := by omega
  all_goals
    simp only [cut]
    simp
    try omega
theorem sh_pow (k : Nat) : sh k = 2 ^ (8 * (7 - k % 8)) := by
  unfold sh
  have : k % 8 < 8 := by omega
  rw [Int.pow_mul]; rfl
theorem sh_pos (k : Nat) : 1 ≤ sh k ∧ sh k ≤ 72057594037927936 := by
  unfold sh
  have : k % 8 < 8 := by omega
  generalize k % 8 = r at *
  obtain rfl | rfl | rfl | rfl | rfl | rfl | rfl | rfl : r = 0 ∨ r = 1 ∨ r = 2 ∨ r = 3 ∨ r = 4 ∨ r = 5 ∨ r = 6 ∨ r = 7 := by omega
  all_goals decide
/-- The word of the byte k is a multiple, as long as the byte is not in it. -/
theorem wd_mul (f : Nat → Int) (k : Nat) : ∃ h : Int, wd (cut f k) (k / 8) = h * (256 * sh k) := by
  obtain ⟨q, r, hr, rfl⟩ : ∃ q r, r < 8 ∧ k = 8 * q + r := ⟨k / 8, k % 8, by omega, by omega⟩
  have e1 : (8 * q + r) / 8 = q := by omega
  have e2 : (8 * q + r) % 8 = r := by omega
  unfold sh
  rw [e1, e2]
  unfold wd
  obtain rfl | rfl | rfl | rfl | rfl | rfl | rfl | rfl : r = 0 ∨ r = 1 ∨ r = 2 ∨ r = 3 ∨ r = 4 ∨ r = 5 ∨ r = 6 ∨ r = 7 := by omega
  · exact ⟨0, by simp [cut, show ∀ j, ¬ 8 * q + j < 8 * q from fun j => by omega]⟩
  · exact ⟨f (8 * q), by simp [cut]⟩
  · exact ⟨f (8 * q) * 256 + f (8 * q + 1), by simp [cut]; omega⟩
  · exact ⟨f (8 * q) * 65536 + f (8 * q + 1) * 256 + f (8 * q + 2), by simp [cut]; omega⟩
  · exact ⟨f (8 * q) * 16777216 + f (8 * q + 1) * 65536 + f (8 * q + 2) * 256 + f (8 * q + 3), by simp [cut]; omega⟩
  · exact ⟨f (8 * q) * 4294967296 + f (8 * q + 1) * 16777216 + f (8 * q + 2) * 65536 + f (8 * q + 3) * 256 + f (8 * q + 4), by simp [cut]; omega⟩
  · exact ⟨f (8 * q) * 1099511627776 + f (8 * q + 1) * 4294967296 + f (8 * q + 2) * 16777216 + f (8 * q + 3) * 65536 + f (8 * q + 4) * 256 + f (8 * q + 5), by simp [cut]; omega⟩
  · exact ⟨f (8 * q) * 281474976710656 + f (8 * q + 1) * 1099511627776 + f (8 * q + 2) * 4294967296 + f (8 * q + 3) * 16777216 + f (8 * q + 4) * 65536 + f (8 * q + 5) * 256 + f (8 * q + 6), by simp [cut]; omega⟩
theorem or_step {f : Nat → Int} (hf : Bf f) (k : Nat) : bits .or .u64 (wd (cut f k) (k / 8)) (f k * sh k) = wd (cut f (k + 1)) (k / 8) := by
  have hb := wd_bd (hf.cut k) (k / 8)
  have hk := hf k
  have hs := sh_pos k
  have hm : 0 ≤ f k * sh k := Int.mul_nonneg hk.1 (by omega)
  have hm2 : f k * sh k ≤ 255 * sh k := Int.mul_le_mul_of_nonneg_right hk.2 (by omega)
  rw [u64_or _ _ hb.1 (by omega) hm (by omega), wd_step]
  obtain ⟨h, hh⟩ := wd_mul f k
  have hp : (2 ^ (8 * (7 - k % 8) + 8) : Nat) = (256 * sh k).toNat := by
    rw [sh_pow, Nat.pow_add]
    have : (256 * 2 ^ (8 * (7 - k % 8)) : Int) = ((2 ^ (8 * (7 - k % 8)) * 2 ^ 8 : Nat) : Int) := by
      rw [Int.mul_comm]; simp
    rw [this]; rfl
  have hh0 : 0 ≤ h := by
    rcases Int.lt_or_le h 0 with hn | hn
    · have : h * (256 * sh k) ≤ -1 * (256 * sh k) := Int.mul_le_mul_of_nonneg_right (by omega) (by omega)
      omega
    · exact hn
  rw [nat_join (8 * (7 - k % 8) + 8)]
  · omega
  · rw [hp, hh, Int.toNat_mul hh0 (by omega)]
    exact Nat.mul_mod_left _ _
  · rw [hp]; omega
theorem pks_set (f : Nat → Int) (k m : Nat) : (pks (cut f k) m).set (k / 8) (wd (cut f (k + 1)) (k / 8)) = pks (cut f (k + 1)) m := by
  apply List.ext_getElem
  · simp [pks]
  · intro i h1 h2
    rw [List.getElem_set]
    split
    · rename_i e; subst e; simp [pks]
    · rename_i e; simp [pks]; exact (wd_far (Ne.symm e)).symm
theorem pks_zero (f : Nat → Int) (m : Nat) : pks (cut f 0) m = List.replicate m 0 := by
  apply List.ext_getElem
  · simp [pks]
  · intro i h1 h2
    simp [pks, wd, cut]
theorem pks_grow {f : Nat → Int} {k : Nat} (h : k % 8 = 0) : pks (cut f k) (k / 8) ++ [0] = pks (cut f k) (k / 8 + 1) := by
  unfold pks
  rw [List.range_succ, List.map_append, List.map_singleton, wd_new h]
theorem pks_congr {f g : Nat → Int} {m : Nat} (h : ∀ j, j < 8 * m → f j = g j) : pks f m = pks g m := by
  unfold pks
  refine List.map_congr_left fun i hi => wd_congr fun j h1 h2 => h j ?_
  have := List.mem_range.1 hi
  omega

/-- The byte i of some words. -/
def ub (l : List Int) (i : Nat) : Int := l.getD (i / 8) 0 / sh i % 256
theorem ub_bf (l : List Int) : Bf (ub l) := fun i => by unfold ub; omega
def Wf (l : List Int) : Prop := ∀ x ∈ l, 0 ≤ x ∧ x ≤ 18446744073709551615
theorem Wf.getD {l : List Int} (h : Wf l) (i : Nat) : 0 ≤ l.getD i 0 ∧ l.getD i 0 ≤ 18446744073709551615 := by
  rw [List.getD_eq_getElem?_getD]
  cases hx : l[i]? with
  | none => simp
  | some x => exact h x (List.mem_of_getElem? hx)
theorem pks_wf {f : Nat → Int} (h : Bf f) (m : Nat) : Wf (pks f m) := by
  intro x hx
  obtain ⟨i, _, rfl⟩ := List.mem_map.1 hx
  exact wd_bd h i
theorem sh_at (q r : Nat) (h : r < 8) : sh (8 * q + r) = 256 ^ (7 - r) := by unfold sh; rw [show (8 * q + r) % 8 = r by omega]
theorem wd_ub {l : List Int} (h : Wf l) (i : Nat) : wd (ub l) i = l.getD i 0 := by
  have hx := h.getD i
  unfold wd ub
  rw [show 8 * i = 8 * i + 0 by omega, sh_at i 0 (by omega), sh_at i 1 (by omega), sh_at i 2 (by omega), sh_at i 3 (by omega), sh_at i 4 (by omega), sh_at i 5 (by omega), sh_at i 6 (by omega), sh_at i 7 (by omega)]
  rw [show (8 * i + 0) / 8 = i by omega, show (8 * i + 1) / 8 = i by omega, show (8 * i + 2) / 8 = i by omega, show (8 * i + 3) / 8 = i by omega, show (8 * i + 4) / 8 = i by omega, show (8 * i + 5) / 8 = i by omega, show (8 * i + 6) / 8 = i by omega, show (8 * i + 7) / 8 = i by omega]
  generalize l.getD i 0 = x at *
  simp
  omega
theorem ub_wd {f : Nat → Int} (h : Bf f) {m i : Nat} (hi : i < 8 * m) : ub (pks f m) i = f i := by
  unfold ub
  rw [pks_getD (by omega)]
  obtain ⟨q, r, hr, rfl⟩ : ∃ q r, r < 8 ∧ i = 8 * q + r := ⟨i / 8, i % 8, by omega, by omega⟩
  rw [sh_at q r hr, show (8 * q + r) / 8 = q by omega]
  have h0 := h (8 * q); have h1 := h (8 * q + 1); have h2 := h (8 * q + 2); have h3 := h (8 * q + 3)
  have h4 := h (8 * q + 4); have h5 := h (8 * q + 5); have h6 := h (8 * q + 6); have h7 := h (8 * q + 7)
  unfold wd
  obtain rfl | rfl | rfl | rfl | rfl | rfl | rfl | rfl : r = 0 ∨ r = 1 ∨ r = 2 ∨ r = 3 ∨ r = 4 ∨ r = 5 ∨ r = 6 ∨ r = 7 := by omega
  all_goals (simp; omega)
theorem pks_ub {l : List Int} (h : Wf l) : pks (ub l) l.length = l := by
  apply List.ext_getElem
  · simp [pks]
  · intro i h1 h2
    simp only [pks, List.getElem_map, List.getElem_range]
    rw [wd_ub h, List.getD_eq_getElem?_getD, List.getElem?_eq_getElem h2]; rfl
/-- No byte behind the first n that is not 0. -/
def Tz (l : List Int) (n : Nat) : Prop := ∀ i, n ≤ i → i < 8 * l.length → ub l i = 0
theorem tz_iff {l : List Int} (h : Wf l) (n : Nat) : pks (cut (ub l) n) l.length = l ↔ Tz l n := by
  constructor
  · intro e i h1 h2
    have hu := ub_wd ((ub_bf l).cut n) (m := l.length) h2
    rw [e, cut_ge h1] at hu
    exact hu
  · intro ht
    have e : pks (cut (ub l) n) l.length = pks (ub l) l.length := pks_congr fun j hj => by
      by_cases g : j < n
      · exact cut_lt g
      · rw [cut_ge (by omega), ht j (by omega) hj]
    rw [e, pks_ub h]
/-- The first n bytes of some words. -/
def ubs (l : List Int) (n : Nat) : List Int := (List.range n).map (ub l)
theorem ubs_length (l : List Int) (n : Nat) : (ubs l n).length = n := by simp [ubs]
theorem ubs_succ (l : List Int) (n : Nat) : ubs l (n + 1) = ubs l n ++ [ub l n] := by unfold ubs; rw [List.range_succ, List.map_append]; rfl

/-- The bytes of a string, by their indices. -/
def sb (s : ByteArray) (i : Nat) : Int := ((s.data.toList.getD i 0).toNat : Int)
theorem sb_bf (s : ByteArray) : Bf (sb s) := fun i => by
  unfold sb
  have := (s.data.toList.getD i 0).toNat_lt
  omega
theorem sb_ge {s : ByteArray} {i : Nat} (h : s.size ≤ i) : sb s i = 0 := by
  unfold sb
  have hl : s.data.toList.length = s.size := by simp
  rw [List.getD_eq_getElem?_getD, List.getElem?_eq_none (by omega)]; rfl
theorem sb_cut (s : ByteArray) : cut (sb s) s.size = sb s := by
  funext i
  by_cases h : i < s.size
  · exact cut_lt h
  · rw [cut_ge (by omega), sb_ge (by omega)]
theorem sb_get {s : ByteArray} {i : Nat} (h : i < s.size) : sb s i = (s[i].toNat : Int) := by
  unfold sb
  have hl : s.data.toList.length = s.size := by simp
  rw [List.getD_eq_getElem?_getD, List.getElem?_eq_getElem (by omega)]; rfl
/-- The words of a string. -/
def pk (s : ByteArray) : List Int := pks (sb s) (wdsN s.size)
theorem pk_length (s : ByteArray) : (pk s).length = wdsN s.size := pks_length _ _
theorem pk_wf (s : ByteArray) : Wf (pk s) := pks_wf (sb_bf s) _
theorem str_ubs (s : ByteArray) : strOfNums (ubs (pk s) s.size) = s := by
  apply ByteArray.ext
  apply Array.toList_inj.1
  rw [strOfNums_data]
  have hl : s.data.toList.length = s.size := by simp
  apply List.ext_getElem
  · simp [ubs]
  · intro i h1 h2
    have hi : i < s.size := by omega
    simp only [ubs, List.map_map, List.getElem_map, List.getElem_range, Function.comp]
    rw [show pk s = pks (sb s) (wdsN s.size) from rfl, ub_wd (sb_bf s) (by unfold wdsN; omega), sb_get hi]
    simp; rfl
theorem tz_pk (s : ByteArray) : Tz (pk s) s.size := by
  intro i h1 h2
  rw [pk_length] at h2
  rw [show pk s = pks (sb s) (wdsN s.size) from rfl, ub_wd (sb_bf s) h2, sb_ge h1]
/-- Pack of the bytes of words. -/
theorem sb_str {l : List Int} (hl : ∀ x ∈ l, 0 ≤ x ∧ x ≤ 255) (i : Nat) : sb (strOfNums l) i = l.getD i 0 := by
  unfold sb
  rw [strOfNums_data, List.getD_eq_getElem?_getD, List.getD_eq_getElem?_getD, List.getElem?_map]
  cases hx : l[i]? with
  | none => rfl
  | some x =>
    have := hl x (List.mem_of_getElem? hx)
    simp; omega
theorem pk_ubs (l : List Int) (n : Nat) (hn : wdsN n = l.length) : pk (strOfNums (ubs l n)) = pks (cut (ub l) n) l.length := by
  have hs : (strOfNums (ubs l n)).size = n := by rw [strOfNums_size, ubs_length]
  have hb : ∀ x ∈ ubs l n, 0 ≤ x ∧ x ≤ 255 := by
    intro x hx
    obtain ⟨i, _, rfl⟩ := List.mem_map.1 hx
    exact ub_bf l i
  unfold pk
  rw [hs, hn]
  refine pks_congr fun j hj => ?_
  rw [sb_str hb]
  unfold cut ubs
  rw [List.getD_eq_getElem?_getD, List.getElem?_map]
  by_cases h : j < n
  · rw [List.getElem?_range h, if_pos h]; rfl
  · rw [List.getElem?_eq_none (by simp; omega), if_neg h]; rfl
/-- The first byte in which two differ says which words are less. -/
theorem wd_lt {f g : Nat → Int} (hf : Bf f) (hg : Bf g) {d : Nat} (he : ∀ i, i < d → f i = g i) (hd : f d < g d) : wd f (d / 8) < wd g (d / 8) := by
  obtain ⟨q, r, hr, rfl⟩ : ∃ q r, r < 8 ∧ d = 8 * q + r := ⟨d / 8, d % 8, by omega, by omega⟩
  rw [show (8 * q + r) / 8 = q by omega]
  have h0 := hf (8 * q); have h1 := hf (8 * q + 1); have h2 := hf (8 * q + 2); have h3 := hf (8 * q + 3)
  have h4 := hf (8 * q + 4); have h5 := hf (8 * q + 5); have h6 := hf (8 * q + 6); have h7 := hf (8 * q + 7)
  have g0 := hg (8 * q); have g1 := hg (8 * q + 1); have g2 := hg (8 * q + 2); have g3 := hg (8 * q + 3)
  have g4 := hg (8 * q + 4); have g5 := hg (8 * q + 5); have g6 := hg (8 * q + 6); have g7 := hg (8 * q + 7)
  have e : ∀ j, j < r → f (8 * q + j) = g (8 * q + j) := fun j hj => he _ (by omega)
  unfold wd
  obtain rfl | rfl | rfl | rfl | rfl | rfl | rfl | rfl : r = 0 ∨ r = 1 ∨ r = 2 ∨ r = 3 ∨ r = 4 ∨ r = 5 ∨ r = 6 ∨ r = 7 := by omega
  · simp only [Nat.add_zero] at hd; omega
  · have e0 := e 0 (by omega); simp only [Nat.add_zero] at e0; omega
  · have e0 := e 0 (by omega); have e1 := e 1 (by omega); simp only [Nat.add_zero] at e0; omega
  · have e0 := e 0 (by omega); have e1 := e 1 (by omega); have e2 := e 2 (by omega); simp only [Nat.add_zero] at e0; omega
  · have e0 := e 0 (by omega); have e1 := e 1 (by omega); have e2 := e 2 (by omega); have e3 := e 3 (by omega); simp only [Nat.add_zero] at e0; omega
  · have e0 := e 0 (by omega); have e1 := e 1 (by omega); have e2 := e 2 (by omega); have e3 := e 3 (by omega); have e4 := e 4 (by omega); simp only [Nat.add_zero] at e0; omega
  · have e0 := e 0 (by omega); have e1 := e 1 (by omega); have e2 := e 2 (by omega); have e3 := e 3 (by omega); have e4 := e 4 (by omega); have e5 := e 5 (by omega); simp only [Nat.add_zero] at e0; omega
  · have e0 := e 0 (by omega); have e1 := e 1 (by omega); have e2 := e 2 (by omega); have e3 := e 3 (by omega); have e4 := e 4 (by omega); have e5 := e 5 (by omega); have e6 := e 6 (by omega); simp only [Nat.add_zero] at e0; omega
theorem wd_eq_below {f g : Nat → Int} {d i : Nat} (he : ∀ j, j < d → f j = g j) (h : 8 * i + 8 ≤ d) : wd f i = wd g i := wd_congr fun j _ h2 => he j (by omega)
#print axioms or_step
end Go.Proofs.Ytembnakhcggbpaa
