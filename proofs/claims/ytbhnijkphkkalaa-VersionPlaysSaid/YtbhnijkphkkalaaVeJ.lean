/- Both programs as a small machine on plain data: its step as a function; Step, Done, Result, Copy by one name. -/
import Derived.Test.YtbhnijkphkkalaaVeI
namespace Go.Proofs.Ytbhnijkphkkalaa
open Go.ChangeShapes Go.WideShapes Go.ChangeAt Go.RowKit
set_option linter.unusedVariables false

/-- A program as data: whether it reads; its version, its words from one on; the words; the next one; which step comes next; the version at first; the result; the tries. -/
structure Pg where
  R : Bool
  L : Nat
  F : Int
  buf : List Int
  k : Nat
  st : Int
  was : Int
  res : Int
  tr : Int
def tlOf (R : Bool) (tr : Int) : List Value := if R then [.int .i64 tr] else []
/-- It lies at q, its words at b. -/
def At (w : World) (q b c : Nat) (P : Pg) : Prop := PgAt w q b c (Tp P.R) (tlOf P.R P.tr) P.L P.F P.buf P.k P.st P.was P.res
/-- The programs that there are. -/
structure Ok (P : Pg) : Prop where
  lo : 1 ≤ P.st
  hi : P.st ≤ 5
  two : P.st = 2 → P.R = false
  word : P.st = 3 → P.k < P.buf.length
  tries : P.R = true → P.st ≠ 5 → 1 ≤ P.tr ∧ P.tr ≤ 9223372036854775807
  res : P.st ≠ 5 → P.res = 0
  res1 : P.res = 0 ∨ P.res = 1
/-- A step: whether it waits, its error, the program, the words. -/
def stp (P : Pg) (ws : List Int) : Bool × Int × Pg × List Int :=
  if P.st = 5 then (false, 17, P, ws)
  else match ws[wrd P.L P.F P.k P.st]? with
  | none => (false, 3, P, ws)
  | some v =>
    if P.st = 1 then
      if v % 2 ≠ 0 then (P.R, if P.R then 0 else 8, P, ws)
      else if P.R then (false, 0, ⟨P.R, P.L, P.F, P.buf, P.k, nxt P.k P.buf.length, v, P.res, P.tr⟩, ws)
      else (false, 0, ⟨P.R, P.L, P.F, P.buf, P.k, 2, v, P.res, P.tr⟩, ws)
    else if P.R then
      if P.st = 3 then (false, 0, ⟨P.R, P.L, P.F, P.buf.set P.k v, P.k + 1, nxt (P.k + 1) P.buf.length, P.was, P.res, P.tr⟩, ws)
      else if v = P.was then (false, 0, ⟨P.R, P.L, P.F, P.buf, P.k, 5, P.was, 1, P.tr⟩, ws)
      else if P.tr = 1 then (false, 0, ⟨P.R, P.L, P.F, P.buf, 0, 5, P.was, 0, 0⟩, ws)
      else (false, 0, ⟨P.R, P.L, P.F, P.buf, 0, 1, P.was, P.res, P.tr - 1⟩, ws)
    else
      if P.st = 2 then (false, 0, ⟨P.R, P.L, P.F, P.buf, P.k, nxt P.k P.buf.length, P.was, P.res, P.tr⟩, ws.set (wrd P.L P.F P.k P.st) (val P.buf P.k P.st P.was))
      else if P.st = 3 then (false, 0, ⟨P.R, P.L, P.F, P.buf, P.k + 1, nxt (P.k + 1) P.buf.length, P.was, P.res, P.tr⟩, ws.set (wrd P.L P.F P.k P.st) (val P.buf P.k P.st P.was))
      else (false, 0, ⟨P.R, P.L, P.F, P.buf, P.k, 5, P.was, 1, P.tr⟩, ws.set (wrd P.L P.F P.k P.st) (val P.buf P.k P.st P.was))
theorem At.frm0 {w w' : World} {q b c : Nat} {P : Pg} (h : At w q b c P) (hf : Frm [] w w') : At w' q b c P := PgAt.frm0 h hf
theorem At.frm {D : List Nat} {w w' : World} {q b c : Nat} {P : Pg} (h : At w q b c P) (hf : Frm D w w') (hq : q ∉ D) (hb : b ∉ D) : At w' q b c P := PgAt.frm h hf hq hb

theorem nxt_cases (k n : Nat) : (nxt k n = 3 ∧ k < n) ∨ (nxt k n = 4 ∧ n ≤ k) := by
  unfold nxt
  by_cases h : k < n
  · rw [if_pos h]; exact .inl ⟨rfl, h⟩
  · rw [if_neg h]; exact .inr ⟨rfl, by omega⟩
/-- What is true behind a step. -/
def Behind (p d c q b cq : Nat) (w : World) (r : Bool × Int × Pg × List Int) (w' : World) : Prop :=
  Frm [d, q, b] w w' ∧ MemAt w' p d c r.2.2.2 ∧ At w' q b cq r.2.2.1
set_option maxHeartbeats 1000000 in
theorem Step_any {w : World} {p d c : Nat} {ws : List Int} {q b cq : Nat} {P : Pg} (hM : MemAt w p d c ws) (hP : At w q b cq P) (hA : Ap p d q b) (hok : Ok P) (hw : ∀ x ∈ ws, 0 ≤ x) :
    Calls Try.prog (fStep P.R) #[.pointer (some ⟨q, 0, none⟩), .iface 39 (.pointer (some ⟨p, 0, none⟩))] w
      (Ret (.tuple #[.bool (stp P ws).1, .int .i64 (stp P ws).2.1]) (Behind p d c q b cq w (stp P ws))) := by
  obtain ⟨R, L, F, buf, k, st, was, res, tr⟩ := P
  obtain ⟨h1, h2, h3, h4, h5, h6, h7⟩ := hok
  simp only at h1 h2 h3 h4 h5 h6 h7
  unfold At at hP
  simp only at hP ⊢
  have mv : ∀ w2, Frm [] w w2 → MemAt w2 p d c ws ∧ PgAt w2 q b cq (Tp R) (tlOf R tr) L F buf k st was res := fun w2 hf => ⟨hM.frm hf (by simp) (by simp), hP.frm0 hf⟩
  by_cases s5 : st = 5
  · subst s5
    have e : stp ⟨R, L, F, buf, k, 5, was, res, tr⟩ ws = (false, 17, ⟨R, L, F, buf, k, 5, was, res, tr⟩, ws) := by simp [stp]
    rw [e]
    exact (Step_over R hP).mono fun _ _ hh => ⟨hh.1, hh.2.nil, hM.frm hh.2 (by simp) (by simp), At.frm0 (P := ⟨R, L, F, buf, k, 5, was, res, tr⟩) hP hh.2⟩
  have hs0 : st ≠ 0 := by omega
  cases hx : ws[wrd L F k st]? with
  | none =>
    have e : stp ⟨R, L, F, buf, k, st, was, res, tr⟩ ws = (false, 3, ⟨R, L, F, buf, k, st, was, res, tr⟩, ws) := by simp [stp, s5, hx]
    rw [e]
    have hx' : ws.length ≤ wrd L F k st := List.getElem?_eq_none_iff.1 hx
    cases R with
    | true => exact Step_of true hM hP hs0 s5 (fun w2 hf => rs_out (mv w2 hf).1 (mv w2 hf).2 hA hx' h4)
    | false =>
      by_cases s1 : st = 1
      · subst s1
        exact Step_of false hM hP hs0 s5 (fun w2 hf => ws_look_out (mv w2 hf).1 (mv w2 hf).2 hA hx')
      · have h234 : st = 2 ∨ st = 3 ∨ st = 4 := by omega
        have hb1 : (st == 1) = false := by simpa using s1
        exact Step_of false hM hP hs0 s5 (fun w2 hf => ws_out (mv w2 hf).1 (mv w2 hf).2 hA hx' h234 h4 hb1)
  | some v =>
    have hlt : wrd L F k st < ws.length := (List.getElem?_eq_some_iff.1 hx).1
    have hv0 : 0 ≤ v := hw v (List.mem_of_getElem? hx)
    by_cases s1 : st = 1
    · subst s1
      by_cases hev : v % 2 = 0
      · cases R with
        | true =>
          have e : stp ⟨true, L, F, buf, k, 1, was, res, tr⟩ ws = (false, 0, ⟨true, L, F, buf, k, nxt k buf.length, v, res, tr⟩, ws) := by simp [stp, hx, hev]
          rw [e]
          exact Step_of true hM hP hs0 s5 (fun w2 hf => rs_look (mv w2 hf).1 (mv w2 hf).2 hA hx hv0 hev)
        | false =>
          have e : stp ⟨false, L, F, buf, k, 1, was, res, tr⟩ ws = (false, 0, ⟨false, L, F, buf, k, 2, v, res, tr⟩, ws) := by simp [stp, hx, hev]
          rw [e]
          exact Step_of false hM hP hs0 s5 (fun w2 hf => ws_look (mv w2 hf).1 (mv w2 hf).2 hA hx hv0 hev)
      · have hev1 : v % 2 = 1 := by omega
        cases R with
        | true =>
          have e : stp ⟨true, L, F, buf, k, 1, was, res, tr⟩ ws = (true, 0, ⟨true, L, F, buf, k, 1, was, res, tr⟩, ws) := by simp [stp, hx, hev1]
          rw [e]
          exact Step_of true hM hP hs0 s5 (fun w2 hf => rs_wait (mv w2 hf).1 (mv w2 hf).2 hA hx hv0 hev)
        | false =>
          have e : stp ⟨false, L, F, buf, k, 1, was, res, tr⟩ ws = (false, 8, ⟨false, L, F, buf, k, 1, was, res, tr⟩, ws) := by simp [stp, hx, hev1]
          rw [e]
          exact Step_of false hM hP hs0 s5 (fun w2 hf => ws_look_odd (mv w2 hf).1 (mv w2 hf).2 hA hx hv0 hev)
    · by_cases s3 : st = 3
      · subst s3
        have hk := h4 rfl
        cases R with
        | true =>
          have e : stp ⟨true, L, F, buf, k, 3, was, res, tr⟩ ws = (false, 0, ⟨true, L, F, buf.set k v, k + 1, nxt (k + 1) buf.length, was, res, tr⟩, ws) := by simp [stp, hx]
          rw [e]
          exact Step_of true hM hP hs0 s5 (fun w2 hf => rs_word (mv w2 hf).1 (mv w2 hf).2 hA hx hk)
        | false =>
          have e : stp ⟨false, L, F, buf, k, 3, was, res, tr⟩ ws = (false, 0, ⟨false, L, F, buf, k + 1, nxt (k + 1) buf.length, was, res, tr⟩, ws.set (wrd L F k 3) (val buf k 3 was)) := by simp [stp, hx]
          rw [e]
          exact Step_of false hM hP hs0 s5 (fun w2 hf => ws_word (mv w2 hf).1 (mv w2 hf).2 hA hlt hk)
      · cases R with
        | true =>
          obtain rfl : st = 4 := by have : st ≠ 2 := fun e => by have := h3 e; cases this
                                    omega
          obtain ⟨ht1, ht2⟩ := h5 rfl (by decide)
          by_cases hvw : v = was
          · subst hvw
            have e : stp ⟨true, L, F, buf, k, 4, v, res, tr⟩ ws = (false, 0, ⟨true, L, F, buf, k, 5, v, 1, tr⟩, ws) := by simp [stp, hx]
            rw [e]
            exact Step_of true hM hP hs0 s5 (fun w2 hf => rs_same (mv w2 hf).1 (mv w2 hf).2 hA hx)
          · by_cases ht : tr = 1
            · subst ht
              have e : stp ⟨true, L, F, buf, k, 4, was, res, 1⟩ ws = (false, 0, ⟨true, L, F, buf, 0, 5, was, 0, 0⟩, ws) := by simp [stp, hx, hvw]
              rw [e]
              exact Step_of true hM hP hs0 s5 (fun w2 hf => rs_fail (mv w2 hf).1 (mv w2 hf).2 hA hx hvw)
            · have e : stp ⟨true, L, F, buf, k, 4, was, res, tr⟩ ws = (false, 0, ⟨true, L, F, buf, 0, 1, was, res, tr - 1⟩, ws) := by simp [stp, hx, hvw, ht]
              rw [e]
              exact Step_of true hM hP hs0 s5 (fun w2 hf => rs_again (mv w2 hf).1 (mv w2 hf).2 hA hx hvw (by omega) ht2)
        | false =>
          by_cases s2 : st = 2
          · subst s2
            have e : stp ⟨false, L, F, buf, k, 2, was, res, tr⟩ ws = (false, 0, ⟨false, L, F, buf, k, nxt k buf.length, was, res, tr⟩, ws.set (wrd L F k 2) (val buf k 2 was)) := by simp [stp, hx]
            rw [e]
            exact Step_of false hM hP hs0 s5 (fun w2 hf => ws_odd (mv w2 hf).1 (mv w2 hf).2 hA hlt)
          · obtain rfl : st = 4 := by omega
            have e : stp ⟨false, L, F, buf, k, 4, was, res, tr⟩ ws = (false, 0, ⟨false, L, F, buf, k, 5, was, 1, tr⟩, ws.set (wrd L F k 4) (val buf k 4 was)) := by simp [stp, hx]
            rw [e]
            exact Step_of false hM hP hs0 s5 (fun w2 hf => ws_end (mv w2 hf).1 (mv w2 hf).2 hA hlt)
theorem Done_any {w : World} {q b cq : Nat} {P : Pg} (hP : At w q b cq P) (hok : Ok P) : Calls Try.prog (fDone P.R) #[.pointer (some ⟨q, 0, none⟩)] w (Ret (.bool (decide (P.st = 5))) (fun w' => w = w')) :=
  Done_pg P.R hP (by have := hok.lo; omega)
theorem Result_any {w : World} {q b cq : Nat} {P : Pg} (hP : At w q b cq P) : Calls Try.prog (fResult P.R) #[.pointer (some ⟨q, 0, none⟩)] w (Ret (.int .u64 P.res) (fun w' => w = w')) :=
  Result_pg P.R hP
theorem Copy_any {w : World} {q b cq : Nat} {P : Pg} (hP : At w q b cq P) (hok : Ok P) : Calls Try.prog (fCopy P.R) #[.pointer (some ⟨q, 0, none⟩)] w
    (fun e w' => ∃ q' b' c', Ret (.iface (Ip P.R) (.pointer (some ⟨q', 0, none⟩))) (fun w' => Frm [] w w' ∧ At w' q' b' c' P ∧ w.heap.size ≤ q' ∧ w.heap.size ≤ b') e w') := by
  have h0 : P.st ≠ 0 := by have := hok.lo; omega
  obtain ⟨R, L, F, buf, k, st, was, res, tr⟩ := P
  unfold At at hP ⊢
  cases R with
  | true => exact rCopy hP h0
  | false => exact wCopy hP h0
/-- A step keeps what programs are. -/
theorem val_pos {buf : List Int} {k : Nat} {st was : Int} (hb : ∀ x ∈ buf, 0 ≤ x) : 0 ≤ val buf k st was := by
  have hw : ∀ x, 0 ≤ IntKind.u64.wrap x := fun x => by rw [IntKind.wrap_u64]; omega
  unfold val
  split
  · exact hw _
  · split
    · rw [List.getD_eq_getElem?_getD]
      cases h : buf[k]? with
      | none => simp
      | some x => exact hb x (List.mem_of_getElem? h)
    · exact hw _
theorem set_pos {ws : List Int} {i : Nat} {v : Int} (hw : ∀ x ∈ ws, 0 ≤ x) (hv : 0 ≤ v) : ∀ x ∈ ws.set i v, 0 ≤ x := fun x hx => by
  rcases List.mem_or_eq_of_mem_set hx with h | h
  · exact hw x h
  · omega
theorem Ok.stp {P : Pg} {ws : List Int} (h : Ok P) (hw : ∀ x ∈ ws, 0 ≤ x) (hb : ∀ x ∈ P.buf, 0 ≤ x) :
    Ok (stp P ws).2.2.1 ∧ (∀ x ∈ (stp P ws).2.2.2, 0 ≤ x) ∧ (∀ x ∈ (stp P ws).2.2.1.buf, 0 ≤ x) ∧ (stp P ws).2.2.2.length = ws.length ∧ (stp P ws).2.2.1.R = P.R ∧ (stp P ws).2.2.1.buf.length = P.buf.length ∧ (stp P ws).2.2.1.L = P.L ∧ (stp P ws).2.2.1.F = P.F := by
  have hh := h
  obtain ⟨R, L, F, buf, k, st, was, res, tr⟩ := P
  obtain ⟨h1, h2, h3, h4, h5, h6, h7⟩ := h
  simp only at h1 h2 h3 h4 h5 h6 h7 hb
  have n1 := nxt_cases k buf.length
  have n2 := nxt_cases (k + 1) buf.length
  have hws : ∀ x ∈ ws.set (wrd L F k st) (val buf k st was), 0 ≤ x := set_pos hw (val_pos hb)
  unfold Go.Proofs.Ytbhnijkphkkalaa.stp
  simp only
  split
  · exact ⟨hh, hw, hb, rfl, rfl, rfl, rfl, rfl⟩
  · rename_i s5
    split
    · exact ⟨hh, hw, hb, rfl, rfl, rfl, rfl, rfl⟩
    · rename_i v hx
      have hv0 : 0 ≤ v := hw v (List.mem_of_getElem? hx)
      have hbs : ∀ x ∈ buf.set k v, 0 ≤ x := set_pos hb hv0
      split
      · rename_i s1
        split
        · exact ⟨hh, hw, hb, rfl, rfl, rfl, rfl, rfl⟩
        · split
          · rename_i hR
            refine ⟨⟨?_, ?_, ?_, ?_, ?_, ?_, ?_⟩, hw, hb, rfl, rfl, rfl, rfl, rfl⟩ <;> simp only
            · omega
            · omega
            · intro e; omega
            · intro e; omega
            · intro _ _; exact h5 hR s5
            · intro _; exact h6 s5
            · exact h7
          · rename_i hR
            refine ⟨⟨?_, ?_, ?_, ?_, ?_, ?_, ?_⟩, hw, hb, rfl, rfl, rfl, rfl, rfl⟩ <;> simp only
            · omega
            · omega
            · intro e; simpa using hR
            · intro e; omega
            · intro hR2; exact absurd hR2 hR
            · intro _; exact h6 s5
            · exact h7
      · split
        · rename_i hR
          split
          · rename_i s3
            have hk := h4 s3
            refine ⟨⟨?_, ?_, ?_, ?_, ?_, ?_, ?_⟩, hw, hbs, rfl, rfl, by simp, rfl, rfl⟩ <;> simp only [List.length_set]
            · omega
            · omega
            · intro e; omega
            · intro e; omega
            · intro _ _; exact h5 hR s5
            · intro _; exact h6 s5
            · exact h7
          · split
            · refine ⟨⟨?_, ?_, ?_, ?_, ?_, ?_, ?_⟩, hw, hb, rfl, rfl, rfl, rfl, rfl⟩ <;> simp
            · split
              · refine ⟨⟨?_, ?_, ?_, ?_, ?_, ?_, ?_⟩, hw, hb, rfl, rfl, rfl, rfl, rfl⟩ <;> simp
              · have := h5 hR s5
                refine ⟨⟨?_, ?_, ?_, ?_, ?_, ?_, ?_⟩, hw, hb, rfl, rfl, rfl, rfl, rfl⟩ <;> simp only
                · omega
                · omega
                · intro e; omega
                · intro e; omega
                · intro _ _; omega
                · intro _; exact h6 s5
                · exact h7
        · rename_i hR
          have hR' : R = false := by simpa using hR
          split
          · refine ⟨⟨?_, ?_, ?_, ?_, ?_, ?_, ?_⟩, hws, hb, by simp, rfl, rfl, rfl, rfl⟩ <;> simp only
            · omega
            · omega
            · intro e; exact hR'
            · intro e; omega
            · intro hR2; exact absurd hR2 hR
            · intro _; exact h6 s5
            · exact h7
          · split
            · rename_i s3
              have hk := h4 s3
              refine ⟨⟨?_, ?_, ?_, ?_, ?_, ?_, ?_⟩, hws, hb, by simp, rfl, rfl, rfl, rfl⟩ <;> simp only
              · omega
              · omega
              · intro e; exact hR'
              · intro e; omega
              · intro hR2; exact absurd hR2 hR
              · intro _; exact h6 s5
              · exact h7
            · refine ⟨⟨?_, ?_, ?_, ?_, ?_, ?_, ?_⟩, hws, hb, by simp, rfl, rfl, rfl, rfl⟩ <;> simp
#print axioms Ok.stp
end Go.Proofs.Ytbhnijkphkkalaa
