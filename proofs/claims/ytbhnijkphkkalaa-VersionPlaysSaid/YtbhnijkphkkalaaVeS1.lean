/- Whole runs of a program that writes, and of one that reads, with any words. -/
import Derived.Test.YtbhnijkphkkalaaVeM
namespace Go.Proofs.Ytbhnijkphkkalaa
open Go.ChangeShapes Go.WideShapes Go.ChangeAt Go.RowKit
set_option linter.unusedVariables false

/-- The words after some were written, from one on. -/
def put : List Int → Nat → List Int → List Int
  | ws, _, [] => ws
  | ws, f, x :: r => put (ws.set f x) (f + 1) r
theorem put_len : ∀ (r : List Int) (ws : List Int) (f : Nat), (put ws f r).length = ws.length
  | [], _, _ => rfl
  | x :: r, ws, f => by rw [put, put_len r]; simp
theorem put_get : ∀ (r : List Int) (ws : List Int) (f i : Nat), f + r.length ≤ ws.length → (put ws f r)[i]? = if f ≤ i ∧ i < f + r.length then r[i - f]? else ws[i]?
  | [], ws, f, i, _ => by rw [if_neg (by simp only [List.length_nil]; omega)]; rfl
  | x :: r, ws, f, i, h => by
    simp only [List.length_cons] at h
    rw [put, put_get r _ _ _ (by simp; omega)]
    by_cases h1 : i = f
    · subst h1
      rw [if_neg (by omega), if_pos (by simp), List.getElem?_set, if_pos rfl, if_pos (by omega), Nat.sub_self]; rfl
    · by_cases h2 : f + 1 ≤ i ∧ i < f + 1 + r.length
      · rw [if_pos h2, if_pos (by simp only [List.length_cons]; omega), show i - f = (i - (f + 1)) + 1 by omega]; rfl
      · rw [if_neg h2, if_neg (by simp only [List.length_cons]; omega), List.getElem?_set, if_neg (by omega)]
theorem wrd_3 (L F k : Nat) : wrd L F k 3 = F + k := by unfold wrd; rw [if_pos rfl]; omega
theorem wrd_n (L F k : Nat) {st : Int} (h : st ≠ 3) : wrd L F k st = L := by unfold wrd; rw [if_neg h]
theorem wrun (L F : Nat) (buf : List Int) (was res : Int) : ∀ (r : List Int) (k : Nat) (ws : List Int), buf.drop k = r → k + r.length = buf.length → F + buf.length ≤ ws.length → L < ws.length →
    Ends (r.length + 1) ⟨false, L, F, buf, k, nxt k buf.length, was, res, 0⟩ ws ⟨false, L, F, buf, buf.length, 5, was, 1, 0⟩ ((put ws (F + k) r).set L (IntKind.u64.wrap (was + 2)))
  | [], k, ws, hd, hk, hF, hL => by
    obtain rfl : k = buf.length := by simpa using hk
    have hn : nxt buf.length buf.length = 4 := by unfold nxt; rw [if_neg (by omega)]
    rw [hn]
    refine .last ?_ rfl
    have hw : ws[L]? = some ws[L] := List.getElem?_eq_getElem hL
    unfold stp
    simp only [wrd_n L F buf.length (st := 4) (by decide), hw]
    simp [val, put]
  | x :: r, k, ws, hd, hk, hF, hL => by
    simp only [List.length_cons] at hk
    have hlt : k < buf.length := by omega
    have hn : nxt k buf.length = 3 := by unfold nxt; rw [if_pos hlt]
    have hx : buf[k]? = some x := by
      have := congrArg (fun l => l[0]?) hd
      simpa using this
    have hr : buf.drop (k + 1) = r := by
      have := congrArg List.tail hd
      simpa using this
    rw [hn]
    have hw : ws[F + k]? = some ws[F + k] := List.getElem?_eq_getElem (by omega)
    have ih := wrun L F buf was res r (k + 1) (ws.set (F + k) x) hr (by omega) (by simpa using hF) (by simpa using hL)
    refine .more (P1 := ⟨false, L, F, buf, k + 1, nxt (k + 1) buf.length, was, res, 0⟩) (ws1 := ws.set (F + k) x) ?_ ?_ ih
    · unfold stp
      simp only [wrd_3 L F k, hw]
      simp [val, List.getD_eq_getElem?_getD, hx]
    · rcases nxt_cases (k + 1) buf.length with h | h <;> (show nxt (k + 1) buf.length ≠ 5; omega)
/-- Writing n words has n + 3 steps. -/
theorem write_run (L F : Nat) (buf ws : List Int) (v0 : Int) (hF : F + buf.length ≤ ws.length) (hv : ws[L]? = some v0) (he : v0 % 2 = 0) :
    Ends (buf.length + 3) ⟨false, L, F, buf, 0, 1, 0, 0, 0⟩ ws ⟨false, L, F, buf, buf.length, 5, v0, 1, 0⟩ ((put (ws.set L (IntKind.u64.wrap (v0 + 1))) F buf).set L (IntKind.u64.wrap (v0 + 2))) := by
  have hL : L < ws.length := (List.getElem?_eq_some_iff.1 hv).1
  have h1 := wrun L F buf v0 0 buf 0 (ws.set L (IntKind.u64.wrap (v0 + 1))) rfl (by omega) (by simpa using hF) (by simpa using hL)
  refine .more (P1 := ⟨false, L, F, buf, 0, 2, v0, 0, 0⟩) (ws1 := ws) ?_ (show (2 : Int) ≠ 5 by decide) (.more (P1 := ⟨false, L, F, buf, 0, nxt 0 buf.length, v0, 0, 0⟩) (ws1 := ws.set L (IntKind.u64.wrap (v0 + 1))) ?_ ?_ h1)
  · unfold stp
    simp only [wrd_n L F 0 (st := 1) (by decide), hv]
    simp [he]
  · unfold stp
    simp only [wrd_n L F 0 (st := 2) (by decide), hv]
    simp [val]
  · rcases nxt_cases 0 buf.length with h | h <;> (show nxt 0 buf.length ≠ 5; omega)
theorem rrun (L F : Nat) (was tr : Int) (n : Nat) (ws : List Int) (hv : ws[L]? = some was) (hF : F + n ≤ ws.length) : ∀ (m k : Nat) (buf : List Int), k + m = n → buf.length = n →
    Ends (m + 1) ⟨true, L, F, buf, k, nxt k n, was, 0, tr⟩ ws ⟨true, L, F, buf.take k ++ (ws.drop (F + k)).take m, n, 5, was, 1, tr⟩ ws
  | 0, k, buf, hk, hb => by
    obtain rfl : k = n := by omega
    have hn : nxt k k = 4 := by unfold nxt; rw [if_neg (by omega)]
    rw [hn]
    refine .last ?_ rfl
    unfold stp
    simp only [wrd_n L F k (st := 4) (by decide), hv]
    simp [← hb]
  | m + 1, k, buf, hk, hb => by
    have hn : nxt k n = 3 := by unfold nxt; rw [if_pos (by omega)]
    rw [hn]
    obtain ⟨x, hw⟩ : ∃ x, ws[F + k]? = some x := ⟨_, List.getElem?_eq_getElem (by omega)⟩
    have ih := rrun L F was tr n ws hv hF m (k + 1) (buf.set k x) (by omega) (by simpa using hb)
    have e : (buf.set k x).take (k + 1) ++ (ws.drop (F + (k + 1))).take m = buf.take k ++ (ws.drop (F + k)).take (m + 1) := by
      have e1 : (buf.set k x).take (k + 1) = buf.take k ++ [x] := by
        rw [List.take_succ_eq_append_getElem (by simp; omega), List.take_set_of_le (Nat.le_refl _)]
        simp
      have e2 : ws.drop (F + k) = x :: ws.drop (F + (k + 1)) := by
        have hlt : F + k < ws.length := by omega
        rw [List.drop_eq_getElem_cons hlt]
        have : ws[F + k] = x := by rw [List.getElem?_eq_getElem hlt] at hw; exact Option.some.inj hw
        rw [this]; rfl
      rw [e1, e2, List.take_succ_cons]; simp
    rw [e] at ih
    refine .more (P1 := ⟨true, L, F, buf.set k x, k + 1, nxt (k + 1) n, was, 0, tr⟩) (ws1 := ws) ?_ ?_ ih
    · unfold stp
      simp only [wrd_3 L F k, hw]
      simp [hb]
    · rcases nxt_cases (k + 1) n with h | h <;> (show nxt (k + 1) n ≠ 5; omega)
/-- Reading n words has n + 2 steps. -/
theorem read_run (L F n : Nat) (was tr : Int) (buf ws : List Int) (hb : buf.length = n) (hv : ws[L]? = some was) (he : was % 2 = 0) (hF : F + n ≤ ws.length) :
    Ends (n + 2) ⟨true, L, F, buf, 0, 1, 0, 0, tr⟩ ws ⟨true, L, F, (ws.drop F).take n, n, 5, was, 1, tr⟩ ws := by
  have h1 := rrun L F was tr n ws hv hF n 0 buf (by omega) hb
  simp only [List.take_zero, List.nil_append, Nat.add_zero] at h1
  refine .more (P1 := ⟨true, L, F, buf, 0, nxt 0 n, was, 0, tr⟩) (ws1 := ws) ?_ ?_ h1
  · unfold stp
    simp only [wrd_n L F 0 (st := 1) (by decide), hv]
    simp [he, hb]
  · rcases nxt_cases 0 n with h | h <;> (show nxt 0 n ≠ 5; omega)
#print axioms read_run
end Go.Proofs.Ytbhnijkphkkalaa
