/- Stage 12: what is true of a run in two parts and of a step, by data. -/
import Derived.Test.YtieccmmnfnpcoaaTig
namespace Go.Proofs.Ytieccmmnfnpcoaa
open Go.ChangeShapes Go.WideShapes Go.ChangeAt Go.RowKit
set_option linter.unusedVariables false
theorem go_ts (M : Md) (i : Nat) (t : Td) : (M.go i t).1.ts.length = M.ts.length := go_len M i t
theorem rA_no {M : Md} {p : Int} (ht : M.th p = none) (acc : List Dd) (r : List Int) : runA M acc (p :: r) = (M, [], 2) := by
  rw [runA]; rw [ht]
theorem rA_end {M : Md} {p : Int} {t : Td} (ht : M.th p = some t) (hen : t.P.en = true) (acc : List Dd) (r : List Int) : runA M acc (p :: r) = runA M acc r := by
  rw [runA]; rw [ht]; dsimp only; rw [if_pos hen]
theorem rA_err {M : Md} {p : Int} {t : Td} (ht : M.th p = some t) (hen : ¬ t.P.en = true) (he : (M.go p.toNat t).2.2 ≠ 0) (acc : List Dd) (r : List Int) : runA M acc (p :: r) = (M, [], (M.go p.toNat t).2.2) := by
  rw [runA]; rw [ht]; dsimp only; rw [if_neg hen, if_pos he]
theorem rA_go {M : Md} {p : Int} {t : Td} (ht : M.th p = some t) (hen : ¬ t.P.en = true) (he : ¬ (M.go p.toNat t).2.2 ≠ 0) (acc : List Dd) (r : List Int) : runA M acc (p :: r) = runA (M.go p.toNat t).1 (acc ++ [(M.go p.toNat t).2.1]) r := by
  rw [runA]; rw [ht]; dsimp only; rw [if_neg hen, if_neg he]
theorem runA_acc : ∀ (l : List Int) (M : Md) (acc : List Dd), runA M acc l = if (runA M [] l).2.2 = 0 then ((runA M [] l).1, acc ++ (runA M [] l).2.1, 0) else ((runA M [] l).1, [], (runA M [] l).2.2)
  | [], M, acc => by simp [runA]
  | p :: r, M, acc => by
    cases ht : M.th p with
    | none => rw [rA_no ht, rA_no ht]; rfl
    | some t =>
      by_cases hen : t.P.en = true
      · rw [rA_end ht hen, rA_end ht hen]; exact runA_acc r M acc
      · by_cases he : (M.go p.toNat t).2.2 ≠ 0
        · rw [rA_err ht hen he, rA_err ht hen he]; dsimp only; rw [if_neg he]
        · rw [rA_go ht hen he, rA_go ht hen he]
          rw [runA_acc r _ (acc ++ _), runA_acc r _ ([] ++ _)]
          by_cases h0 : (runA (M.go p.toNat t).1 [] r).2.2 = 0
          · simp [h0]
          · simp [h0]
theorem runA_app : ∀ (x y : List Int) (M : Md) (acc : List Dd), runA M acc (x ++ y) = if (runA M acc x).2.2 = 0 then runA (runA M acc x).1 (runA M acc x).2.1 y else runA M acc x
  | [], y, M, acc => by simp [runA]
  | p :: r, y, M, acc => by
    rw [List.cons_append]
    cases ht : M.th p with
    | none => rw [rA_no ht, rA_no ht]; rfl
    | some t =>
      by_cases hen : t.P.en = true
      · rw [rA_end ht hen, rA_end ht hen]; exact runA_app r y M acc
      · by_cases he : (M.go p.toNat t).2.2 ≠ 0
        · rw [rA_err ht hen he, rA_err ht hen he]; dsimp only; rw [if_neg he]
        · rw [rA_go ht hen he, rA_go ht hen he]; exact runA_app r y _ _
theorem runA_len : ∀ (l : List Int) (M : Md) (acc : List Dd), (runA M acc l).1.ts.length = M.ts.length
  | [], M, acc => rfl
  | p :: r, M, acc => by
    cases ht : M.th p with
    | none => rw [rA_no ht]
    | some t =>
      by_cases hen : t.P.en = true
      · rw [rA_end ht hen]; exact runA_len r M acc
      · by_cases he : (M.go p.toNat t).2.2 ≠ 0
        · rw [rA_err ht hen he]
        · rw [rA_go ht hen he, runA_len r, go_len]
theorem Run_len (M : Md) (l : List Int) : (M.Run l).1.ts.length = M.ts.length := by
  unfold Md.Run
  split
  · rfl
  · split
    · rfl
    · split
      · rfl
      · exact runA_len l M []
theorem Run_few (M : Md) (l : List Int) (hl : l.length ≤ 100000) (ht : ∀ p ∈ l, noTh M.ts.length p = false) : M.Run l = if (runA M [] l).2.2 ≠ 0 then (M, [], (runA M [] l).2.2) else ((runA M [] l).1, (runA M [] l).2.1, 0) := by
  unfold Md.Run
  rw [if_neg (by omega), if_neg (by simp; intro p hp; exact ht p hp)]
/-- A run is one of its first part, and then of what is behind. -/
theorem Run_two (M : Md) (x y : List Int) (hl : (x ++ y).length ≤ 100000) (ht : ∀ p ∈ x ++ y, noTh M.ts.length p = false) :
    ((M.Run (x ++ y)).2.2 = 0 → (M.Run x).2.2 = 0 ∧ ((M.Run x).1.Run y).2.2 = 0 ∧ ((M.Run x).1.Run y).1 = (M.Run (x ++ y)).1 ∧ (M.Run (x ++ y)).2.1 = (M.Run x).2.1 ++ ((M.Run x).1.Run y).2.1) ∧
    ((M.Run (x ++ y)).2.2 ≠ 0 → (M.Run x).2.2 ≠ 0 ∨ ((M.Run x).1.Run y).2.2 ≠ 0) := by
  have hx := Run_few M x (by simp at hl; omega) (fun p hp => ht p (by simp [hp]))
  have hy := Run_few (M.Run x).1 y (by simp at hl; omega) (fun p hp => by rw [Run_len]; exact ht p (by simp [hp]))
  have hxy := Run_few M (x ++ y) hl ht
  have ha := runA_app x y M []
  by_cases h0 : (runA M [] x).2.2 = 0
  · rw [if_pos h0] at ha
    rw [if_neg (by rw [h0]; simp)] at hx
    rw [hx] at hy ⊢
    dsimp only at hy ⊢
    rw [runA_acc y] at ha
    by_cases h1 : (runA (runA M [] x).1 [] y).2.2 = 0
    · rw [if_pos h1] at ha
      rw [if_neg (by rw [h1]; simp)] at hy
      rw [ha] at hxy
      simp only [ne_eq, not_true_eq_false, if_false] at hxy
      rw [hxy, hy]
      exact ⟨fun _ => ⟨rfl, rfl, rfl, rfl⟩, fun h => absurd rfl h⟩
    · rw [if_neg h1] at ha
      rw [if_pos h1] at hy
      rw [ha] at hxy
      simp only [ne_eq, h1, not_false_eq_true, if_true] at hxy
      rw [hxy, hy]
      exact ⟨fun h => absurd h h1, fun _ => .inr h1⟩
  · rw [if_neg h0] at ha
    rw [if_pos h0] at hx
    rw [ha, if_pos h0] at hxy
    rw [hxy, hx]
    exact ⟨fun h => absurd h h0, fun _ => .inl h0⟩
theorem Run_fewer {M : Md} {n : Nat} (h : M.few n) : ∀ (l : List Int) (acc : List Dd), (runA M acc l).1.few (n + l.length) := by
  intro l
  induction l generalizing M n with
  | nil => intro acc; exact h
  | cons p r ih =>
    intro acc
    cases ht : M.th p with
    | none => rw [rA_no ht]; intro i t hi; have := h i t hi; simp only [List.length_cons]; omega
    | some t =>
      by_cases hen : t.P.en = true
      · rw [rA_end ht hen]; intro i u hi; have := ih h acc i u hi; simp only [List.length_cons]; omega
      · by_cases he : (M.go p.toNat t).2.2 ≠ 0
        · rw [rA_err ht hen he]; intro i u hi; have := h i u hi; simp only [List.length_cons]; omega
        · rw [rA_go ht hen he]
          have hti : M.ts[p.toNat]? = some t := by
            unfold Md.th at ht; split at ht
            · cases ht
            · exact ht
          intro i u hi; have := ih (go_few h hti) _ i u hi; simp only [List.length_cons]; omega
theorem Run_few2 {M : Md} {n : Nat} (h : M.few n) (l : List Int) : (M.Run l).1.few (n + l.length) := by
  have h2 : M.few (n + l.length) := fun i t hi => by have := h i t hi; omega
  unfold Md.Run
  split
  · exact h2
  · split
    · exact h2
    · split
      · exact h2
      · exact Run_fewer h l []
/-- What a step of a program does to the words. -/
theorem nxt_ws (P : Rp) (ws : List Int) (ok : ROk P) (hen : P.en = false) : (nxt P ws).ws = ws ∨ ((nxt P ws).wt = false ∧ (nxt P ws).did.k ≠ 0 ∧ ∃ n : Nat, (nxt P ws).did.w = n ∧ n < ws.length ∧ (nxt P ws).did.b = ws.getD n 0 ∧ (nxt P ws).ws = ws.set n (nxt P ws).did.a) := by
  obtain ⟨l, t, y, hL, hy, ⟨e, he', hc, hN⟩ | ⟨did, hc, hN⟩ | ⟨g, nx, r, ws', did, hc, hg, hnx, hr, hN⟩⟩ := nxt_way P ws ok hen
  · rw [hN]; exact .inl rfl
  · rw [hN]; exact .inl rfl
  · rw [hN]
    unfold cstep at hc
    split at hc
    · simp only [Rs.mk.injEq] at hc
      exact .inl hc.2.2.2.1.symm
    · split at hc
      · simp at hc
      · simp only [Rs.mk.injEq] at hc
        obtain ⟨_, _, _, rfl, rfl⟩ := hc
        dsimp only
        unfold mWs mRes
        by_cases h0 : mErr ws.length (iacc y P.g).k (iacc y P.g).w = 0
        · rw [if_pos h0, if_pos h0]
          unfold mErr at h0
          split at h0
          · cases h0
          · split at h0
            · cases h0
            · refine .inr ⟨rfl, by dsimp only; omega, (iacc y P.g).w.toNat, by dsimp only; omega, by omega, rfl, rfl⟩
        · rw [if_neg h0]; exact .inl rfl
theorem MAt.ok {w : World} {F : List Nat} {q : Nat} {M : Md} (h : MAt w F q M) : ∀ (i : Nat) (t : Td), M.ts[i]? = some t → ROk t.P := by
  intro i t ht
  obtain ⟨X, ts, x, rfl, h2, h3, hx, hxt⟩ := h.ti ht
  obtain ⟨Bf, hb1, hb2⟩ := h2.pg
  have := (hb1 i x hx).1.ok
  rwa [hxt] at this
/-- A step of a thread that is there, by data. -/
theorem Step_way (M : Md) (hok : ∀ (i : Nat) (t : Td), M.ts[i]? = some t → ROk t.P) (p : Nat) (hp : p < M.ts.length) :
    ((M.Step p).2.2 ≠ 0 ∧ (M.Step p).1 = M ∧ M.waits p = false) ∨
    ((M.Step p).2.2 = 0 ∧ (M.Step p).2.1.i = p ∧ (M.Step p).2.1.wt = M.waits p ∧ (M.Step p).1.ts.length = M.ts.length ∧ (M.Step p).1.ws.length = M.ws.length ∧
      ((M.Step p).1.ws = M.ws ∨ ((M.Step p).2.1.wt = false ∧ (M.Step p).2.1.a.k ≠ 0 ∧ ∃ n : Nat, (M.Step p).2.1.a.w = n ∧ n < M.ws.length ∧ (M.Step p).2.1.a.b = M.ws.getD n 0 ∧ (M.Step p).1.ws = M.ws.set n (M.Step p).2.1.a.a))) := by
  obtain ⟨t, ht⟩ : ∃ t, M.ts[p]? = some t := ⟨_, List.getElem?_eq_getElem hp⟩
  have hth : M.th p = some t := by unfold Md.th; rw [if_neg (by omega), Int.toNat_natCast]; exact ht
  have hw : M.waits p = t.waits M.ws := by unfold Md.waits; rw [hth]
  have hs : M.Step p = if t.P.en = true then (M, dd0, 17) else M.go p t := by
    unfold Md.Step; rw [Int.toNat_natCast, ht]; dsimp only; rw [if_neg (by omega)]
  rw [hs, hw]
  unfold Td.waits
  by_cases hen : t.P.en = true
  · rw [if_pos hen, if_pos hen]; exact .inl ⟨by simp, rfl, rfl⟩
  · rw [if_neg hen, if_neg hen]
    have hen' : t.P.en = false := by simpa using hen
    have ok := hok p t ht
    unfold Md.go
    by_cases he : (nxt t.P M.ws).e ≠ 0
    · rw [if_pos he]
      exact .inl ⟨he, rfl, (nxt_err _ _ ok hen' he).2.2⟩
    · rw [if_neg he]
      exact .inr ⟨rfl, rfl, rfl, by simp, nxt_len _ _ ok hen', nxt_ws _ _ ok hen'⟩
theorem Step_few {M : Md} {n : Nat} (h : M.few n) (p : Int) : (M.Step p).1.few (n + 1) := by
  have h2 : M.few (n + 1) := fun i t hi => by have := h i t hi; omega
  unfold Md.Step
  cases ht : M.ts[p.toNat]? with
  | none => exact h2
  | some t =>
    dsimp only
    split
    · exact h2
    · split
      · exact h2
      · exact go_few h ht
#print axioms Step_way
#print axioms Run_two
end Go.Proofs.Ytieccmmnfnpcoaa
