/- The game of stage 11's theorem on plain data: one that writes again and again, and those that read. -/
import Derived.Test.YtbhnijkphkkalaaVeR
namespace Go.Proofs.Ytbhnijkphkkalaa
open Go.ChangeShapes Go.WideShapes Go.ChangeAt Go.RowKit
set_option linter.unusedVariables false

/-- The version behind n changes, and the words. -/
def ver (f : Int) (n : Nat) : Int := IntKind.u64.wrap (f + 2 * n)
def vals (ls : List (List Int)) (n : Nat) : List Int := if n = 0 then [0, 0, 0, 0] else ls.getD (n - 1) [0, 0, 0, 0]
theorem two64 : ∃ M : Int, M = 18446744073709551616 ∧ (∀ x, IntKind.u64.wrap x = x % M) ∧ M % 2 = 0 ∧ 1000 < M := ⟨18446744073709551616, rfl, fun x => IntKind.wrap_u64 x, by decide, by decide⟩
theorem ver_nn (f : Int) (n : Nat) : 0 ≤ ver f n := by
  obtain ⟨M, _, h, h2, h3⟩ := two64
  unfold ver; rw [h]; exact Int.emod_nonneg _ (by omega)
theorem ver_even {f : Int} (hf : f % 2 = 0) (n : Nat) : ver f n % 2 = 0 := by
  obtain ⟨M, _, h, h2, h3⟩ := two64
  unfold ver; rw [h, Int.emod_emod_of_dvd _ (Int.dvd_of_emod_eq_zero h2)]; omega
theorem ver_zero {f : Int} (h0 : 0 ≤ f) (h1 : f ≤ 18446744073709551615) : ver f 0 = f := by
  unfold ver; rw [IntKind.wrap_u64]; omega
theorem ver_odd {f : Int} (hf : f % 2 = 0) (n : Nat) : IntKind.u64.wrap (ver f n + 1) % 2 = 1 := by
  have he := ver_even hf n
  obtain ⟨M, _, h, h2, h3⟩ := two64
  rw [h, Int.emod_emod_of_dvd _ (Int.dvd_of_emod_eq_zero h2)]; omega
theorem ver_next (f : Int) (n : Nat) : IntKind.u64.wrap (ver f n + 2) = ver f (n + 1) := by
  obtain ⟨M, _, h, h2, h3⟩ := two64
  unfold ver; rw [h, h, h]
  have : ((n + 1 : Nat) : Int) = n + 1 := by omega
  rw [this, Int.emod_add_emod]
  congr 1; omega
theorem ver_inj {f : Int} {a b : Nat} (ha : a ≤ 10) (hb : b ≤ 10) (h : ver f a = ver f b) : a = b := by
  unfold ver at h; rw [IntKind.wrap_u64, IntKind.wrap_u64] at h; omega
theorem ver_sub {f : Int} (h0 : 0 ≤ f) (h1 : f ≤ 18446744073709551615) {n : Nat} (hn : n ≤ 10) : IntKind.u64.wrap (ver f n - f) = 2 * n := by
  unfold ver; rw [IntKind.wrap_u64, IntKind.wrap_u64]; omega

/-- What the words are: behind e changes; odd while one goes on. -/
structure Base (f : Int) (ls : List (List Int)) (e : Nat) (odd : Bool) (ws : List Int) : Prop where
  even : odd = false → ws = ver f e :: vals ls e
  ver : odd = true → ws[0]? = some (IntKind.u64.wrap (ver f e + 1))
  len : ws.length = 5
/-- The one that writes. -/
inductive Wr (f : Int) (ls : List (List Int)) (e : Nat) : Bool → Pg → List Int → Prop
  | fresh (l : List Int) (hl : ls[e]? = some l) : Wr f ls e false ⟨false, 0, 1, l, 0, 1, 0, 0, 0⟩ (ver f e :: vals ls e)
  | seen (l : List Int) (hl : ls[e]? = some l) : Wr f ls e false ⟨false, 0, 1, l, 0, 2, ver f e, 0, 0⟩ (ver f e :: vals ls e)
  | goes (l : List Int) (hl : ls[e]? = some l) (k : Nat) (hk : k ≤ 4) (ws : List Int) (h0 : ws = IntKind.u64.wrap (ver f e + 1) :: (l.take k ++ (vals ls e).drop k)) : Wr f ls e true ⟨false, 0, 1, l, k, nxt k 4, ver f e, 0, 0⟩ ws
def Four4 (ls : List (List Int)) : Prop := ∀ l ∈ ls, l.length = 4 ∧ ∀ x ∈ l, 0 ≤ x
theorem Four4.at {ls : List (List Int)} (h : Four4 ls) {e : Nat} {l : List Int} (hl : ls[e]? = some l) : l.length = 4 ∧ ∀ x ∈ l, 0 ≤ x := h l (List.mem_of_getElem? hl)
theorem vals_len {ls : List (List Int)} (h : Four4 ls) (n : Nat) : (vals ls n).length = 4 := by
  unfold vals
  split
  · rfl
  · rw [List.getD_eq_getElem?_getD]
    cases hc : ls[n - 1]? with
    | none => rfl
    | some l => exact (h.at hc).1
theorem vals_nn {ls : List (List Int)} (h : Four4 ls) (n : Nat) : ∀ x ∈ vals ls n, 0 ≤ x := by
  unfold vals
  split
  · decide
  · rw [List.getD_eq_getElem?_getD]
    cases hc : ls[n - 1]? with
    | none => decide
    | some l => exact (h.at hc).2
theorem vals_next {ls : List (List Int)} {e : Nat} {l : List Int} (hl : ls[e]? = some l) : vals ls (e + 1) = l := by
  unfold vals; rw [if_neg (by omega), List.getD_eq_getElem?_getD, Nat.add_sub_cancel, hl]; rfl
theorem Wr.base {f : Int} {ls : List (List Int)} (h4 : Four4 ls) {e : Nat} {odd : Bool} {P : Pg} {ws : List Int} (h : Wr f ls e odd P ws) : Base f ls e odd ws := by
  cases h with
  | fresh l hl => exact ⟨fun _ => rfl, (fun h => by cases h), by simp [vals_len h4]⟩
  | seen l hl => exact ⟨fun _ => rfl, (fun h => by cases h), by simp [vals_len h4]⟩
  | goes l hl k hk ws h0 =>
    have := (h4.at hl).1
    have := vals_len h4 e
    exact ⟨(fun h => by cases h), fun _ => by rw [h0]; rfl, by rw [h0]; simp; omega⟩
theorem none_base {f : Int} {ls : List (List Int)} (h4 : Four4 ls) (e : Nat) : Base f ls e false (ver f e :: vals ls e) := ⟨fun _ => rfl, (fun h => by cases h), by simp [vals_len h4]⟩
/-- Its step. -/
theorem Wr.step {f : Int} {ls : List (List Int)} (hf : f % 2 = 0) (h4 : Four4 ls) {e : Nat} {odd : Bool} {P : Pg} {ws : List Int} (h : Wr f ls e odd P ws) :
    ∃ P' ws', stp P ws = (false, 0, P', ws') ∧ ((P'.st = 5 ∧ odd = true ∧ ws' = ver f (e + 1) :: vals ls (e + 1)) ∨ (P'.st ≠ 5 ∧ ∃ odd', Wr f ls e odd' P' ws' ∧ (odd = true → odd' = true))) := by
  cases h with
  | fresh l hl =>
    have he := ver_even hf e
    refine ⟨⟨false, 0, 1, l, 0, 2, ver f e, 0, 0⟩, _, ?_, .inr ⟨by show (2 : Int) ≠ 5; omega, false, .seen l hl, fun h => h⟩⟩
    unfold stp
    simp [wrd, he]
  | seen l hl =>
    have h4l := (h4.at hl).1
    refine ⟨⟨false, 0, 1, l, 0, nxt 0 4, ver f e, 0, 0⟩, IntKind.u64.wrap (ver f e + 1) :: vals ls e, ?_, .inr ⟨by show (3 : Int) ≠ 5; omega, true, .goes l hl 0 (by omega) _ (by simp), fun h => rfl⟩⟩
    unfold stp
    simp [wrd, val, h4l]
  | goes l hl k hk ws h0 =>
    have h4l := (h4.at hl).1
    have h4v := vals_len h4 e
    by_cases hk4 : k = 4
    · subst hk4
      refine ⟨⟨false, 0, 1, l, 4, 5, ver f e, 1, 0⟩, ver f (e + 1) :: vals ls (e + 1), ?_, .inl ⟨rfl, rfl, rfl⟩⟩
      have hn : nxt 4 4 = 4 := rfl
      have ht : l.take 4 = l := List.take_of_length_le (by omega)
      have hd : (vals ls e).drop 4 = [] := List.drop_eq_nil_of_le (by omega)
      rw [h0, ht, hd, hn, vals_next hl, ← ver_next]
      unfold stp
      simp [wrd, val]
    · have hk3 : k < 4 := by omega
      have hn : nxt k 4 = 3 := by unfold nxt; rw [if_pos hk3]
      obtain ⟨x, hx⟩ : ∃ x, l[k]? = some x := ⟨_, List.getElem?_eq_getElem (by omega)⟩
      obtain ⟨y, hy⟩ : ∃ y, (vals ls e)[k]? = some y := ⟨_, List.getElem?_eq_getElem (by omega)⟩
      refine ⟨⟨false, 0, 1, l, k + 1, nxt (k + 1) 4, ver f e, 0, 0⟩, IntKind.u64.wrap (ver f e + 1) :: (l.take (k + 1) ++ (vals ls e).drop (k + 1)), ?_, .inr ⟨?_, true, .goes l hl (k + 1) (by omega) _ rfl, fun h => rfl⟩⟩
      · rw [h0, hn]
        have hw : wrd 0 1 k 3 = k + 1 := by unfold wrd; rw [if_pos rfl]; omega
        have hg : (IntKind.u64.wrap (ver f e + 1) :: (l.take k ++ (vals ls e).drop k))[k + 1]? = some y := by
          rw [List.getElem?_cons_succ, List.getElem?_append_right (by simp only [List.length_take]; omega), List.getElem?_drop]
          simp only [List.length_take]
          rw [show k + (k - min k l.length) = k by omega]; exact hy
        have hv : val l k 3 (ver f e) = x := by unfold val; rw [if_neg (by decide), if_pos rfl, List.getD_eq_getElem?_getD, hx]; rfl
        have hs : (IntKind.u64.wrap (ver f e + 1) :: (l.take k ++ (vals ls e).drop k)).set (k + 1) x = IntKind.u64.wrap (ver f e + 1) :: (l.take (k + 1) ++ (vals ls e).drop (k + 1)) := by
          rw [List.set_cons_succ]
          congr 1
          rw [List.set_append_right _ _ (by simp only [List.length_take]; omega)]
          simp only [List.length_take]
          rw [show k - min k l.length = 0 by omega, List.take_succ_eq_append_getElem (by omega : k < l.length), List.drop_eq_getElem_cons (by omega : k < (vals ls e).length)]
          have : l[k] = x := by rw [List.getElem?_eq_getElem (by omega)] at hx; exact Option.some.inj hx
          rw [this, List.set_cons_zero, List.append_assoc]; rfl
        unfold stp
        simp only [hw, hg, hv, hs]
        simp [h4l]
      · rcases nxt_cases (k + 1) 4 with h | h <;> (show nxt (k + 1) 4 ≠ 5; omega)
/-- One that reads: what it has read is what the words were, if nothing has changed since. -/
inductive Rd1 (f : Int) (ls : List (List Int)) (e : Nat) (odd : Bool) : Pg → Prop
  | look (buf : List Int) (hb : buf.length = 4) (hnn : ∀ x ∈ buf, 0 ≤ x) (was tr : Int) (ht : 1 ≤ tr ∧ tr ≤ 5) : Rd1 f ls e odd ⟨true, 0, 1, buf, 0, 1, was, 0, tr⟩
  | goes (buf : List Int) (hb : buf.length = 4) (hnn : ∀ x ∈ buf, 0 ≤ x) (k m : Nat) (hk : k ≤ 4) (hm : m ≤ e) (tr : Int) (ht : 1 ≤ tr ∧ tr ≤ 5) (h : m = e → odd = false → buf.take k = (vals ls e).take k) : Rd1 f ls e odd ⟨true, 0, 1, buf, k, nxt k 4, ver f m, 0, tr⟩
theorem Rd1.up {f : Int} {ls : List (List Int)} {e : Nat} {odd odd' : Bool} {P : Pg} (h : Rd1 f ls e odd P) (ho : odd = true → odd' = true) : Rd1 f ls e odd' P := by
  cases h with
  | look buf hb hnn was tr ht => exact .look buf hb hnn was tr ht
  | goes buf hb hnn k m hk hm tr ht h => exact .goes buf hb hnn k m hk hm tr ht (fun h1 h2 => h h1 (by cases odd; rfl; rw [ho rfl] at h2; cases h2))
theorem Rd1.next {f : Int} {ls : List (List Int)} {e : Nat} {odd : Bool} {P : Pg} (h : Rd1 f ls e odd P) : Rd1 f ls (e + 1) false P := by
  cases h with
  | look buf hb hnn was tr ht => exact .look buf hb hnn was tr ht
  | goes buf hb hnn k m hk hm tr ht h => exact .goes buf hb hnn k m hk (by omega) tr ht (fun h1 h2 => by omega)
/-- Its step. -/
theorem Rd1.step {f : Int} {ls : List (List Int)} (hf : f % 2 = 0) (h4 : Four4 ls) {e : Nat} (he10 : e ≤ 10) {odd : Bool} {P : Pg} {ws : List Int} (h : Rd1 f ls e odd P) (hB : Base f ls e odd ws) (hnw : ∀ x ∈ ws, 0 ≤ x) :
    ∃ b P', stp P ws = (b, 0, P', ws) ∧ ((P'.st ≠ 5 ∧ Rd1 f ls e odd P') ∨ (P'.st = 5 ∧ P'.res = 0) ∨ (∃ k tr, P' = ⟨true, 0, 1, vals ls e, k, 5, ver f e, 1, tr⟩)) := by
  obtain ⟨hB1, hB2, hB3⟩ := hB
  cases h with
  | look buf hb hnn was tr ht =>
    cases odd with
    | true =>
      have h0 := hB2 rfl
      have hod := ver_odd hf e
      refine ⟨true, ⟨true, 0, 1, buf, 0, 1, was, 0, tr⟩, ?_, .inl ⟨by show (1 : Int) ≠ 5; omega, .look buf hb hnn was tr ht⟩⟩
      unfold stp
      simp [wrd, h0, hod]
    | false =>
      have h0 := hB1 rfl
      have hev := ver_even hf e
      refine ⟨false, ⟨true, 0, 1, buf, 0, nxt 0 4, ver f e, 0, tr⟩, ?_, .inl ⟨by show (3 : Int) ≠ 5; omega, .goes buf hb hnn 0 e (by omega) (by omega) tr ht (fun _ _ => by simp)⟩⟩
      unfold stp
      simp [wrd, h0, hev, hb]
  | goes buf hb hnn k m hk hm tr ht h =>
    by_cases hk4 : k = 4
    · subst hk4
      have hn : nxt 4 4 = 4 := rfl
      rw [hn]
      obtain ⟨v, hv⟩ : ∃ v, ws[0]? = some v := ⟨_, List.getElem?_eq_getElem (by omega)⟩
      have hwr : wrd 0 1 4 4 = 0 := rfl
      by_cases hvm : v = ver f m
      · subst hvm
        have hodd : odd = false := by
          cases odd with
          | false => rfl
          | true =>
            have h1 := hB2 rfl
            rw [h1] at hv
            have h2 := Option.some.inj hv
            have h3 := ver_odd hf e
            have h4 := ver_even hf m
            rw [h2] at h3; omega
        have hme : m = e := by
          have h1 := hB1 hodd
          rw [h1] at hv
          have h2 : ver f e = ver f m := Option.some.inj hv
          exact (ver_inj he10 (by omega) h2).symm
        subst hme
        have hbv : buf = vals ls m := by
          have := h rfl hodd
          rwa [List.take_of_length_le (by omega), List.take_of_length_le (by rw [vals_len h4]; omega)] at this
        refine ⟨false, ⟨true, 0, 1, buf, 4, 5, ver f m, 1, tr⟩, ?_, .inr (.inr ⟨4, tr, by rw [hbv]⟩)⟩
        unfold stp
        simp [hwr, hv]
      · by_cases ht1 : tr = 1
        · subst ht1
          refine ⟨false, ⟨true, 0, 1, buf, 0, 5, ver f m, 0, 0⟩, ?_, .inr (.inl ⟨rfl, rfl⟩)⟩
          unfold stp
          simp [hwr, hv, hvm]
        · refine ⟨false, ⟨true, 0, 1, buf, 0, 1, ver f m, 0, tr - 1⟩, ?_, .inl ⟨by show (1 : Int) ≠ 5; omega, .look buf hb hnn _ _ (by omega)⟩⟩
          unfold stp
          simp [hwr, hv, hvm, ht1]
    · have hk3 : k < 4 := by omega
      have hn : nxt k 4 = 3 := by unfold nxt; rw [if_pos hk3]
      obtain ⟨v, hv⟩ : ∃ v, ws[k + 1]? = some v := ⟨_, List.getElem?_eq_getElem (by omega)⟩
      have hw : wrd 0 1 k 3 = k + 1 := by unfold wrd; rw [if_pos rfl]; omega
      refine ⟨false, ⟨true, 0, 1, buf.set k v, k + 1, nxt (k + 1) 4, ver f m, 0, tr⟩, ?_, .inl ⟨?_, .goes (buf.set k v) (by simpa using hb) (set_pos hnn (hnw v (List.mem_of_getElem? hv))) (k + 1) m (by omega) hm tr ht ?_⟩⟩
      · rw [hn]
        unfold stp
        simp only [hw, hv]
        simp [hb]
      · rcases nxt_cases (k + 1) 4 with h | h <;> (show nxt (k + 1) 4 ≠ 5; omega)
      · intro h1 h2
        have h3 := h h1 h2
        have h5 := hB1 h2
        rw [h5, List.getElem?_cons_succ] at hv
        rw [List.take_succ_eq_append_getElem (by simp; omega), List.take_set_of_le (Nat.le_refl _), h3, List.take_succ_eq_append_getElem (by rw [vals_len h4]; omega)]
        have : (vals ls e)[k]'(by rw [vals_len h4]; omega) = v := by rw [List.getElem?_eq_getElem (by rw [vals_len h4]; omega)] at hv; exact Option.some.inj hv
        simp [this]
#print axioms Rd1.step
end Go.Proofs.Ytbhnijkphkkalaa
