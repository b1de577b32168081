/- Layer 5: what KeysHolds asks: plain facts, and the calls it makes in one form for all strings. -/
import Derived.Test.YtembnakhcggbpaaKeyZ
namespace Go.Proofs.Ytembnakhcggbpaa
open Go.ChangeShapes Go.WideShapes Go.ChangeAt Go.RowKit
open Go.Lib (compareBytes)

theorem cmp_self' (a : ByteArray) : cmp a a = 0 := cmp_self _
theorem cmp_eq {a b : ByteArray} (h : cmp a b = 0) : a = b := by
  have := cmp_zero h
  exact ByteArray.ext (Array.toList_inj.1 this)
theorem cmp_tr {a b c : ByteArray} (h1 : cmp a b ≤ 0) (h2 : cmp b c ≤ 0) : cmp a c ≤ 0 := cmp_trans h1 h2
/-- The two tests of equality say the same. -/
theorem same_test (a b : ByteArray) : ∃ β : Bool, (cmp a b == 0) = β ∧ (a.toList == b.toList) = β := by
  by_cases h : a = b
  · subst h; exact ⟨true, by rw [cmp_self']; rfl, by simp⟩
  · refine ⟨false, ?_, ?_⟩
    · have : cmp a b ≠ 0 := fun g => h (cmp_eq g)
      simpa using this
    · rw [Lib.toList_data, Lib.toList_data, beq_eq_false_iff_ne]
      exact fun g => h (ByteArray.ext (Array.toList_inj.1 g))
theorem sb_pfx {a b : ByteArray} {i : Nat} (h : i < pf a b) : sb a i = sb b i := by
  have h1 := pfx_le a.data.toList b.data.toList
  have ht := pfx_take a.data.toList b.data.toList
  unfold sb
  have e1 : (a.data.toList.take (pf a b))[i]? = a.data.toList[i]? := by rw [List.getElem?_take, if_pos h]
  have e2 : (b.data.toList.take (pf a b))[i]? = b.data.toList[i]? := by rw [List.getElem?_take, if_pos h]
  have e3 : a.data.toList[i]? = b.data.toList[i]? := by
    rw [← e1, ← e2]; unfold pf; rw [ht]
  rw [List.getD_eq_getElem?_getD, List.getD_eq_getElem?_getD, e3]
/-- The first word that differs says which of two strings of one length comes first. -/
theorem ord_words {a b : ByteArray} (hs : a.size = b.size) {k : Nat} (hk : ∀ j, j < k → wd (sb a) j = wd (sb b) j) (hne : wd (sb a) k ≠ wd (sb b) k) :
    decide (wd (sb a) k < wd (sb b) k) = decide (cmp a b < 0) := by
  have h1 := szl a
  have h2 := szl b
  have hle := pfx_le a.data.toList b.data.toList
  have hab : a ≠ b := fun h => hne (by rw [h])
  have hd : pf a b < a.size := by
    rcases Nat.lt_or_ge (pf a b) a.size with h | h
    · exact h
    · exfalso
      have ht := pfx_take a.data.toList b.data.toList
      rw [List.take_of_length_le (by unfold pf at h; omega), List.take_of_length_le (by unfold pf at h; omega)] at ht
      exact hab (ByteArray.ext (Array.toList_inj.1 ht))
  have hdb : pf a b < b.size := by omega
  have hstop : a[pf a b] ≠ b[pf a b] := pfx_stop a.data.toList b.data.toList (by rw [h1]; exact hd) (by rw [h2]; exact hdb)
  have hc := cmp_at hd hdb (pfx_take a.data.toList b.data.toList)
  have hsa := sb_get hd
  have hsb := sb_get hdb
  have hkd : ∀ {f g : Nat → Int}, (∀ i, i < pf a b → f i = g i) → (∀ j, j < k → wd f j = wd g j) → wd f k ≠ wd g k → wd f (pf a b / 8) ≠ wd g (pf a b / 8) → k = pf a b / 8 := by
    intro f g e1 e2 e3 e4
    rcases Nat.lt_trichotomy k (pf a b / 8) with h | h | h
    · exact absurd (wd_eq_below e1 (by omega)) e3
    · exact h
    · exact absurd (e2 _ h) e4
  by_cases hlt : a[pf a b] < b[pf a b]
  · rw [if_pos hlt] at hc
    have hl := wd_lt (sb_bf a) (sb_bf b) (d := pf a b) (fun i hi => sb_pfx hi) (by rw [hsa, hsb]; have := UInt8.lt_iff_toNat_lt.1 hlt; omega)
    have := hkd (f := sb a) (g := sb b) (fun i hi => sb_pfx hi) hk hne (Int.ne_of_lt hl)
    rw [this, hc]
    rw [decide_eq_true hl]; rfl
  · have hgt : b[pf a b] < a[pf a b] := by
      rcases UInt8.lt_or_lt_of_ne hstop with h | h
      · exact absurd h hlt
      · exact h
    rw [if_neg hlt, if_pos hgt] at hc
    have hl := wd_lt (sb_bf b) (sb_bf a) (d := pf a b) (fun i hi => (sb_pfx hi).symm) (by rw [hsa, hsb]; have := UInt8.lt_iff_toNat_lt.1 hgt; omega)
    have := hkd (f := sb a) (g := sb b) (fun i hi => sb_pfx hi) hk hne (Int.ne_of_gt hl)
    rw [this, hc]
    rw [decide_eq_false (by omega)]; rfl

/-- What Pack hands back, of any string. -/
def PkR (s : ByteArray) (B : Nat) (w : World) (A : Option Addr) (n c : Nat) (E : Int) : Prop :=
  (s.size ≤ 40 ∧ E = 0 ∧ n = wdsN s.size ∧ ∃ b, Li .u64 w A n c b 0 (pk s) ∧ (0 < n → B ≤ b)) ∨ (40 < s.size ∧ E = 5)
theorem PkR.frm {s : ByteArray} {B : Nat} {w w' : World} {A : Option Addr} {n c : Nat} {E : Int} (h : PkR s B w A n c E) (hF : Frm [] w w') : PkR s B w' A n c E := by
  rcases h with ⟨h1, h2, h3, b, h4, h5⟩ | h
  · exact .inl ⟨h1, h2, h3, b, h4.frm0 hF, h5⟩
  · exact .inr h
theorem pack_any (s : ByteArray) (w : World) : Calls Try.prog 28 #[.string s] w (fun e w' => ∃ (A : Option Addr) (n c : Nat) (E : Int), e = .returned (.tuple #[.slice A n c, .int .i64 E]) ∧ Frm [] w w' ∧ PkR s w.heap.size w' A n c E) := by
  by_cases h : s.size ≤ 40
  · refine (pack_ok s w h).mono ?_
    rintro e w' ⟨g, he, hF, hR⟩
    refine ⟨_, _, _, _, he, hF, .inl ⟨h, rfl, rfl, ?_⟩⟩
    obtain ⟨b, hL⟩ := hR.li
    refine ⟨b, hL, fun hn => ?_⟩
    have := hL.ad hn
    cases this
    exact (hR.blk g (by simp [blk])).1
  · refine (pack_long s w (by omega)).mono ?_
    rintro e w' ⟨he, hF⟩
    exact ⟨_, _, _, _, he, hF, .inr ⟨by omega, rfl⟩⟩
/-- What After hands back, of any string. -/
def AfR (s S : ByteArray) (E : Int) : Prop := (E = 0 ∧ vk s = true ∧ aft s = some S) ∨ ((E == 0) = false)
theorem after_all (s : ByteArray) (w : World) : Calls Try.prog 29 #[.string s] w (fun e w' => ∃ (S : ByteArray) (E : Int), e = .returned (.tuple #[.string S, .int .i64 E]) ∧ Frm [] w w' ∧ AfR s S E) := by
  by_cases h : vk s = true
  · refine (after_any s w h).mono ?_
    rintro e w' ⟨he, hF⟩
    refine ⟨_, _, he, hF, ?_⟩
    cases ha : aft s with
    | none => right; rw [(aft_no ha).2]; rfl
    | some r => left; rw [(aft_of ha).1, (aft_of ha).2]; exact ⟨rfl, h, ha⟩
  · refine (after_arg s w (bool_not h)).mono ?_
    rintro e w' ⟨he, hF⟩
    exact ⟨_, _, he, hF, .inr rfl⟩
/-- What Between hands back, of any strings. -/
def BeR (a b S : ByteArray) (E : Int) : Prop := (E = 0 ∧ vk a = true ∧ vk b = true ∧ cmp a b = -1 ∧ S = betS a b) ∨ ((E == 0) = false ∧ S = noB ∧ (vk a && (vk b && decide (cmp a b < 0))) = false)
theorem between_all (a b : ByteArray) (w : World) : Calls Try.prog 30 #[.string a, .string b] w (fun e w' => ∃ (S : ByteArray) (E : Int), e = .returned (.tuple #[.string S, .int .i64 E]) ∧ Frm [] w w' ∧ BeR a b S E) := by
  by_cases ha : vk a = true
  · by_cases hb : vk b = true
    · by_cases h : 0 ≤ cmp a b
      · refine (between_order a b w ha hb h).mono ?_
        rintro e w' ⟨he, hF⟩
        exact ⟨_, _, he, hF, .inr ⟨rfl, rfl, by rw [decide_eq_false (by omega)]; simp⟩⟩
      · have hc : cmp a b = -1 := by rcases cmpC a b with g | g | g <;> omega
        refine (between_ok a b w ha hb hc).mono ?_
        rintro e w' ⟨he, hF⟩
        exact ⟨_, _, he, hF, .inl ⟨rfl, ha, hb, hc, rfl⟩⟩
    · refine (between_arg a b w (.inr (bool_not hb))).mono ?_
      rintro e w' ⟨he, hF⟩
      exact ⟨_, _, he, hF, .inr ⟨rfl, rfl, by rw [bool_not hb]; simp⟩⟩
  · refine (between_arg a b w (.inl (bool_not ha))).mono ?_
    rintro e w' ⟨he, hF⟩
    exact ⟨_, _, he, hF, .inr ⟨rfl, rfl, by rw [bool_not ha]; simp⟩⟩
#print axioms ord_words
end Go.Proofs.Ytembnakhcggbpaa
