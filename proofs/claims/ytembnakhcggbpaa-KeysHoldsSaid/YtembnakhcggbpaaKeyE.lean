/- The key after a key: plain facts; strings.Repeat, strings.Clone. -/
import Derived.Test.YtembnakhcggbpaaKeyD
import Derived.Test.YtembnakhcggbpaaScrS0
import Derived.Laws.IdiomStrings
namespace Go.Proofs.Ytembnakhcggbpaa
open Go.ChangeShapes Go.WideShapes Go.ChangeAt Go.RowKit
open Go.Lib (compareBytes)

theorem frm_of_below {w w' : World} (h : Below w.heap.size w w') : Frm [] w w' := ⟨h.os, h.tape, h.output, h.size, fun k hk _ => h.block k hk⟩

theorem repExtra : Builder.Extra Try.prog lays105_ren where
  sizeBuilder := by kernel_rfl
  liesBuilder := by kernel_rfl
  t5 := lays105.t5
  a5 := lays105.a5
  z5 := lays105.z5
  v5 := lays105.v5
  infoByte := by kernel_rfl
  cellsByte := by kernel_rfl
  sizeByte := by kernel_rfl
  neB5 := by decide
theorem fRepeat : lays105_ren.f 105 = 31 := by kernel_rfl
/-- A letter, so many times. -/
def reps (x : UInt8) (c : Nat) : ByteArray := ⟨(List.replicate c x).toArray⟩
theorem reps_size (x : UInt8) (c : Nat) : (reps x c).size = c := by
  show (List.replicate c x).toArray.size = c
  simp
theorem rep_any (x : UInt8) (c : Int) (w : World) (hc0 : 0 ≤ c) (hc : c ≤ 1000) :
    Calls Try.prog 31 #[.string ⟨#[x]⟩, .int .i64 c] w (Ret (.string (reps x c.toNat)) (fun w' => Frm [] w w')) := by
  obtain ⟨c, rfl⟩ : ∃ n : Nat, c = (n : Int) := ⟨c.toNat, by omega⟩
  have h := Any.strings_Repeat lays105 repExtra ⟨#[x]⟩ c w (by omega) (by show 1 * c ≤ _; omega)
  rw [fRepeat] at h
  refine h.mono fun e w' ⟨he, hw⟩ => ⟨?_, frm_of_below hw⟩
  rw [he]
  have := Lib.repeatL_replicate x 1 c
  simp at this
  unfold reps
  rw [this]; rfl
theorem fClone : lays316_ren.f 316 = 43 := by kernel_rfl
theorem clone_any (s : ByteArray) (w : World) (hs : s.size ≤ 2147483647) :
    Calls Try.prog 36 #[.string s] w (Ret (.string s) (fun w' => Frm [] w w')) := by
  have h := Any.stringslite_Clone lays316 s w (by omega)
  rw [fClone] at h
  have H := Lib.hid h
  clear h
  go_enter Try.func36, Try.ntmps36
  go_wp2_with fail
  refine H.out.mono ?_
  rintro e w1 ⟨rfl, hB⟩
  have hF := frm_of_below hB
  clear hB
  go_wp2
  go_ret
  exact ⟨rfl, hF⟩

theorem ff_ge : ∀ {R c : List UInt8}, (∀ y ∈ R, y = 255) → c.length ≤ R.length → 0 ≤ compareBytes R c
  | [], [], _, _ => by decide
  | [], _ :: _, _, h => by simp at h
  | _ :: _, [], _, _ => by rw [compareBytes]; decide
  | y :: R, z :: c, h, hl => by
    have hy : y = 255 := h y (List.mem_cons_self ..)
    subst hy
    have hn : ¬ (255 : UInt8) < z := by
      rw [UInt8.lt_iff_toNat_lt]
      have := z.toNat_lt
      have : (255 : UInt8).toNat = 255 := rfl
      omega
    rw [compareBytes, if_neg hn]
    split
    · decide
    · exact ff_ge (fun y hy => h y (List.mem_cons_of_mem _ hy)) (by simpa using hl)
theorem gap_short : ∀ {l c : List UInt8}, compareBytes l c = -1 → 0 ≤ compareBytes c (l ++ [0])
  | [], [], h => by simp [compareBytes] at h
  | [], y :: c, _ => by
    have hn : ¬ y < (0 : UInt8) := by rw [UInt8.lt_iff_toNat_lt]; simp
    rw [List.nil_append, compareBytes, if_neg hn]
    split
    · decide
    · rw [cmp_nil_r]; split <;> decide
  | _ :: _, [], h => by simp [compareBytes] at h
  | x :: l, y :: c, h => by
    rw [compareBytes] at h
    rw [List.cons_append, compareBytes]
    by_cases h1 : x < y
    · have h2 : ¬ y < x := fun g => UInt8.lt_irrefl x (UInt8.lt_trans h1 g)
      rw [if_neg h2, if_pos h1]; decide
    · rw [if_neg h1] at h
      by_cases h2 : y < x
      · rw [if_pos h2] at h; simp at h
      · rw [if_neg h2] at h
        rw [if_neg h2, if_neg h1]
        exact gap_short h
theorem u8_succ {x : UInt8} (h : x ≠ 255) : (x + 1).toNat = x.toNat + 1 := by
  have h1 := x.toNat_lt
  have h2 : x.toNat ≠ 255 := fun g => h (UInt8.toNat_inj.1 (by rw [g]; rfl))
  rw [UInt8.toNat_add]
  have : (1 : UInt8).toNat = 1 := rfl
  omega
theorem gap_long {x : UInt8} (hx : x ≠ 255) {R : List UInt8} (hR : ∀ y ∈ R, y = 255) : ∀ {P c : List UInt8}, c.length ≤ P.length + 1 + R.length → compareBytes (P ++ x :: R) c = -1 → 0 ≤ compareBytes c (P ++ [x + 1])
  | [], [], _, h => by simp [compareBytes] at h
  | [], y :: c, hc, h => by
    have e1 := u8_succ hx
    rw [List.nil_append, compareBytes] at h
    rw [List.nil_append, compareBytes]
    by_cases h1 : x < y
    · have h2 : ¬ y < x + 1 := by
        rw [UInt8.lt_iff_toNat_lt] at h1 ⊢; omega
      rw [if_neg h2]
      split
      · decide
      · rw [cmp_nil_r]; split <;> decide
    · rw [if_neg h1] at h
      by_cases h2 : y < x
      · rw [if_pos h2] at h; simp at h
      · rw [if_neg h2] at h
        have := ff_ge (c := c) hR (by simp at hc; omega)
        omega
  | p :: P, [], _, h => by simp [compareBytes] at h
  | p :: P, y :: c, hc, h => by
    rw [List.cons_append, compareBytes] at h
    rw [List.cons_append, compareBytes]
    by_cases h1 : p < y
    · have h2 : ¬ y < p := fun g => UInt8.lt_irrefl p (UInt8.lt_trans h1 g)
      rw [if_neg h2, if_pos h1]; decide
    · rw [if_neg h1] at h
      by_cases h2 : y < p
      · rw [if_pos h2] at h; simp at h
      · rw [if_neg h2] at h
        rw [if_neg h2, if_neg h1]
        exact gap_long hx hR (by simp at hc; omega) h
theorem lt_long {x : UInt8} (hx : x ≠ 255) (P R : List UInt8) : compareBytes (P ++ x :: R) (P ++ [x + 1]) = -1 := by
  have e1 := u8_succ hx
  have hl : x < x + 1 := by rw [UInt8.lt_iff_toNat_lt]; omega
  rw [cmp_app, compareBytes, if_pos hl]

/-- Where the bytes 255 at the end of a key begin. -/
def tn (s : ByteArray) : Nat := trN s.data.toList s.size
theorem tn_le (s : ByteArray) : tn s ≤ s.size := trN_le _ _
/-- The key after a key, if there is one. -/
def aft (s : ByteArray) : Option ByteArray :=
  if s.size < 24 then some (s ++ ⟨#[0]⟩) else if tn s = 0 then none else some (s.extract 0 (tn s - 1) ++ ⟨#[s.data.toList.getD (tn s - 1) 0 + 1]⟩)
theorem data_append (a b : ByteArray) : (a ++ b).data.toList = a.data.toList ++ b.data.toList := by rw [ByteArray.data_append]; simp
theorem data_take (s : ByteArray) (k : Nat) : (s.extract 0 k).data.toList = s.data.toList.take k := by simp
theorem getD_get {l : List UInt8} {i : Nat} (h : i < l.length) : l.getD i 0 = l[i] := by rw [List.getD_eq_getElem?_getD, List.getElem?_eq_getElem h]; rfl
theorem aft_lt {s r : ByteArray} (h : aft s = some r) : cmp s r = -1 := by
  unfold aft at h
  have hl := szl s
  split at h
  · cases h
    show compareBytes _ _ = _
    rw [data_append]
    have := cmp_app s.data.toList [] [0]
    rw [List.append_nil] at this
    rw [this]; rfl
  · split at h
    · cases h
    · cases h
      rename_i h1 h2
      have hle := tn_le s
      have hst : s.data.toList.getD (tn s - 1) 0 ≠ 255 := trN_stop _ _ (by unfold tn at h2; omega)
      show compareBytes _ _ = _
      rw [data_append, data_take]
      have e : s.data.toList = s.data.toList.take (tn s - 1) ++ s.data.toList.getD (tn s - 1) 0 :: s.data.toList.drop (tn s) := by
        have e2 : s.data.toList.drop (tn s - 1) = s.data.toList[tn s - 1]'(by omega) :: s.data.toList.drop (tn s - 1 + 1) := List.drop_eq_getElem_cons (by omega)
        rw [show tn s - 1 + 1 = tn s by omega] at e2
        rw [getD_get (by omega), ← e2, List.take_append_drop]
      have := lt_long hst (s.data.toList.take (tn s - 1)) (s.data.toList.drop (tn s))
      rw [← e] at this
      exact this
theorem aft_size {s r : ByteArray} (hs : vk s = true) (h : aft s = some r) : vk r = true := by
  have h0 := vk_iff.1 hs
  refine vk_iff.2 ?_
  unfold aft at h
  split at h
  · cases h
    rw [ByteArray.size_append]
    have : (⟨#[0]⟩ : ByteArray).size = 1 := rfl
    omega
  · split at h
    · cases h
    · cases h
      have hle := tn_le s
      rw [ByteArray.size_append, ByteArray.size_extract]
      have : (⟨#[s.data.toList.getD (tn s - 1) 0 + 1]⟩ : ByteArray).size = 1 := rfl
      omega
theorem aft_gap {s r c : ByteArray} (hs : vk s = true) (h : aft s = some r) (hc : vk c = true) (hlt : cmp s c = -1) : 0 ≤ cmp c r := by
  have h0 := vk_iff.1 hs
  have hcc := vk_iff.1 hc
  have hl := szl s
  have hcl := szl c
  unfold aft at h
  split at h
  · cases h
    show 0 ≤ compareBytes _ _
    rw [data_append]
    exact gap_short hlt
  · split at h
    · cases h
    · cases h
      rename_i h1 h2
      have hle := tn_le s
      have hst : s.data.toList.getD (tn s - 1) 0 ≠ 255 := trN_stop _ _ (by unfold tn at h2; omega)
      show 0 ≤ compareBytes _ _
      rw [data_append, data_take]
      have e : s.data.toList = s.data.toList.take (tn s - 1) ++ s.data.toList.getD (tn s - 1) 0 :: s.data.toList.drop (tn s) := by
        have e2 : s.data.toList.drop (tn s - 1) = s.data.toList[tn s - 1]'(by omega) :: s.data.toList.drop (tn s - 1 + 1) := List.drop_eq_getElem_cons (by omega)
        rw [show tn s - 1 + 1 = tn s by omega] at e2
        rw [getD_get (by omega), ← e2, List.take_append_drop]
      have hR : ∀ y ∈ s.data.toList.drop (tn s), y = 255 := by
        intro y hy
        obtain ⟨i, hi, rfl⟩ := List.mem_iff_getElem.1 hy
        rw [List.length_drop] at hi
        have := trN_ff s.data.toList s.size (tn s + i) (by unfold tn; omega) (by omega)
        rw [getD_get (by omega)] at this
        rw [List.getElem_drop]; exact this
      refine gap_long hst hR ?_ (by rw [← e]; exact hlt)
      rw [List.length_take, List.length_drop]; omega
#print axioms aft_gap
end Go.Proofs.Ytembnakhcggbpaa
