/- A latch that is held alone, a queue behind it, and what happens when it is given back (no program in it). -/
import Derived.Test.YtjhidkjhfgbaeaaGreatDoorLwC
import Derived.Test.YtjhidkjhfgbaeaaGreatDoorLuT
namespace Go.Proofs.YtjhidkjhfgbaeaaGreatDoor
set_option linter.unusedVariables false
set_option linter.unusedSimpArgs false
section
variable {T L t : Nat} {f : Nat → Int} {s : LS} {md : Int}
theorem get_yes (hof : s.of t = 0) (hgo : s.fi = -1 ∧ s.wa = -1 ∧ s.goes md false = true) : (pM t md s.sh 3 s.w1 s false).decide = (pM t md s.sh 0 s.w1 (s.give t md) false).finish := by
  rw [decide_get rfl]
  show (if s.of (t : Int) ≠ 0 then _ else if s.fi = -1 ∧ s.wa = -1 ∧ s.goes md false = true then _ else _) = _
  rw [if_neg (by simpa using hof), if_pos hgo]
  rfl
/-- A thread gets the latch at once. -/
theorem get_run (hT : T ≤ 64) (hL : L = 3 + 6 * T) (ht : t < T) (hm : s.may T = true) (h0 : f 0 = 0) (h1 : f 1 = s.sh) (h2 : f 2 = s.w1) (hof : s.of t = 0) (hgo : s.fi = -1 ∧ s.wa = -1 ∧ s.goes md false = true) :
    ∃ c, c ≤ 7 ∧ ∀ k, ∃ r m' g', 0 < r ∧ endsO T (c + (2 + k)) 1 (rng L f) (Mv.new t 0 md) Gs.new = some (r, m', g', rng L (up1 (up1 (up1 (up1 (up1 (up1 f (nxW 3 (2 * t)) 0) (wtW 3 (2 * t)) 1) 0 (((2 * t : Nat) : Int) + 1)) 1 (s.give t md).sh) 2 (s.give t md).w1) 0 0)) := by
  obtain ⟨a, ha⟩ : ∃ a, a = up1 (up1 (up1 f (nxW 3 (2 * t)) 0) (wtW 3 (2 * t)) 1) 0 (((2 * t : Nat) : Int) + 1) := ⟨_, rfl⟩
  have A : Stps T L 3 f (Mv.new t 0 md) Gs.new a (pM t md 0 2 0 ⟨0, 0, 0, 0, 0, 0, 0⟩ false) gE := by
    rw [ha]
    exact acq (T := T) (L := L) (f := f) (m := Mv.new t 0 md) (g := Gs.new) rfl rfl rfl rfl h0 ht hL
  have a1 : a 1 = s.sh := by rw [ha, up1_far _ _ (by decide), up1_far _ _ (by unfold wtW; omega), up1_far _ _ (by unfold nxW; omega), h1]
  have a2 : a 2 = s.w1 := by rw [ha, up1_far _ _ (by decide), up1_far _ _ (by unfold wtW; omega), up1_far _ _ (by unfold nxW; omega), h2]
  have a0 : a 0 = ((2 * t : Nat) : Int) + 1 := by rw [ha, up1_at]
  have an : a (nxW 3 (2 * t)) = 0 := by rw [ha, up1_far _ _ (by unfold nxW; omega), up1_far _ _ (by unfold wtW nxW; omega), up1_at]
  obtain ⟨mF, hmF⟩ : ∃ x, x = (pM t md s.sh 0 s.w1 (s.give t md) false).finish := ⟨_, rfl⟩
  have hfin : mF.nx ≠ 0 := by rw [hmF]; have := Mv.fin_in (pM t md s.sh 0 s.w1 (s.give t md) false); show Mv.fin _ ≠ 0; omega
  have B : Stps T L 2 a (pM t md 0 2 0 ⟨0, 0, 0, 0, 0, 0, 0⟩ false) gE a mF gE := by
    have hd := get_yes (md := md) hof hgo
    rw [← hmF] at hd
    have := rdr (T := T) (L := L) (f := a) (m := pM t md 0 2 0 ⟨0, 0, 0, 0, 0, 0, 0⟩ false) (g := gE) hT hL rfl hm a1 a2 (by
      show (pM t md s.sh 3 s.w1 s false).decide.nx ≠ 0
      rw [hd]; exact hfin)
    have e : ({ (pM t md 0 2 0 ⟨0, 0, 0, 0, 0, 0, 0⟩ false) with s0 := s.sh, s1 := s.w1, s := s, nx := 3 } : Mv).decide = mF := hd
    rw [e] at this
    exact this
  obtain ⟨c8, hc8, E8⟩ := fin_run (T := T) (L := L) (f := a) (m := mF) (g := gE) hL (by rw [hmF]; rfl) (by rw [a1, hmF]; rfl) (by rw [a2, hmF]; rfl) (by rw [hmF]; intro y hy; cases hy)
  have hc8' : c8 ≤ 2 := by rw [hmF] at hc8; exact hc8
  obtain ⟨fd, hfd⟩ : ∃ d, d = up1 (up1 a 1 (s.give t md).sh) 2 (s.give t md).w1 := ⟨_, rfl⟩
  have E8' : Stps T L c8 a mF gE fd (pM t md (s.give t md).sh 13 (s.give t md).w1 (s.give t md) false) gE := by
    rw [hfd]
    rw [hmF] at E8 ⊢
    exact E8
  have E := A.trans (B.trans E8')
  refine ⟨3 + (2 + c8), by omega, fun k => ?_⟩
  rw [E.ends]
  have hfar : ∀ j, 3 ≤ j ∨ j = 0 → fd j = a j := fun j hj => by rw [hfd, up1_far _ _ (by omega), up1_far _ _ (by omega)]
  have R := rel_e (T := T) (L := L) (k := k) (f := fd) (m := pM t md (s.give t md).sh 13 (s.give t md).w1 (s.give t md) false) (g := gE) rfl rfl rfl (by
      show fd (nxW 3 (2 * t)) = 0
      rw [hfar _ (by unfold nxW; omega)]; exact an) (by rw [hfar _ (by omega)]; exact a0) ht hL rfl (1 + (3 + (2 + c8)))
  rw [← ha, ← hfd]
  exact ⟨_, _, _, Nat.succ_pos _, R⟩
end
/-- The state of the latch that the thread 0 holds alone, with k threads behind it. -/
def sQ (k : Nat) : LS := ⟨0, -1, 0, -1, 0, if k = 0 then -1 else 3, if k = 0 then -1 else 2 * (k : Int) + 1⟩
theorem sQ_prk (k : Nat) : prk (sQ k) (k + 1) = sQ (k + 1) := by
  unfold prk sQ
  by_cases h : k = 0
  · subst h; rfl
  · simp [h]
theorem sQ_may {T k : Nat} (h : k < T) (hT : T ≤ 64) : (sQ k).may T = true := by
  have e1 : isT T (-1) = true := by simp [isT]; omega
  have e2 : isT T 0 = true := by simp [isT]; omega
  have e3 : (sQ k).mayD T = true := by
    unfold LS.mayD sQ
    by_cases h0 : k = 0
    · simp [h0]
    · simp [h0, isL]; omega
  have e4 : allM (sQ k).held = true := by
    have : (sQ k).held = [3] := by simp [LS.held, sQ]
    rw [this]; decide
  have e5 : 0 < 2 ^ T := Nat.two_pow_pos T
  unfold LS.may LS.mayB LS.mayC
  rw [e3, e4]
  simp [sQ, e1, e2, LS.has, e5]
theorem sQ_of {k t : Nat} (ht : 0 < t) : (sQ k).of t = 0 := by
  have h1 : ¬ (0 : Int) = (t : Int) := by omega
  have h2 : ¬ (-1 : Int) = (t : Int) := by omega
  simp [LS.of, sQ, h1, h2, LS.has]
theorem sQ_go {k : Nat} {md : Int} : ¬ ((sQ k).fi = -1 ∧ (sQ k).wa = -1 ∧ (sQ k).goes md false = true) := by
  rintro ⟨h1, -, h3⟩
  have : (sQ k).held = [3] := by simp [LS.held, sQ]
  unfold LS.goes goB at h3
  rw [this] at h3
  simp [wi, ft] at h3
/-- What the words are with k threads behind the thread 0. -/
structure PB (T k : Nat) (q : List Int) (f : Nat → Int) : Prop where
  z0 : f 0 = 0
  z1 : f 1 = (sQ k).sh
  z2 : f 2 = (sQ k).w1
  md : ∀ i u, i < k → q[i]? = some u → f (mdW 3 (2 * (i + 1) + 1)) = u
  wt : ∀ i, i < k → f (wtW 3 (2 * (i + 1) + 1)) = 1
  nx : ∀ i, i + 1 < k → f (nxW 3 (2 * (i + 1) + 1)) = 2 * ((i + 2 : Nat) : Int) + 2
theorem PB.next {T k : Nat} {q : List Int} {f : Nat → Int} (h : PB T k q f) {u : Int} (hu : q[k]? = some u) : PB T (k + 1) q (parkF (sQ k) (k + 1) u f) := by
  have far : ∀ j, j ≠ 0 → j ≠ 1 → j ≠ 2 → j ≠ nxW 3 (2 * (k + 1)) → j ≠ wtW 3 (2 * (k + 1)) → j ≠ mdW 3 (2 * (k + 1) + 1) → j ≠ nxW 3 (2 * (k + 1) + 1) → j ≠ wtW 3 (2 * (k + 1) + 1) → (j ≠ nxW 3 (2 * k + 1) ∨ k = 0) → parkF (sQ k) (k + 1) u f j = f j := by
    intro j h0 h1 h2 h3 h4 h5 h6 h7 h8
    unfold parkF
    rw [up1_far _ _ h0, up1_far _ _ h2, up1_far _ _ h1]
    have hb : up1 (up1 (up1 (up1 (up1 (up1 f (nxW 3 (2 * (k + 1))) 0) (wtW 3 (2 * (k + 1))) 1) 0 (((2 * (k + 1) : Nat) : Int) + 1)) (mdW 3 (2 * (k + 1) + 1)) u) (nxW 3 (2 * (k + 1) + 1)) 0) (wtW 3 (2 * (k + 1) + 1)) 1 j = f j := by
      rw [up1_far _ _ h7, up1_far _ _ h6, up1_far _ _ h5, up1_far _ _ h0, up1_far _ _ h4, up1_far _ _ h3]
    split
    · exact hb
    · rename_i hla
      have hk : k ≠ 0 := by rintro rfl; exact hla rfl
      have hl : (sQ k).la.toNat = 2 * k + 1 := by simp [sQ, hk]; omega
      rw [up1_far _ _ (by rw [hl]; rcases h8 with h8 | h8; exact h8; exact absurd h8 hk)]
      exact hb
  have hla : k ≠ 0 → (sQ k).la = 2 * (k : Int) + 1 := fun hk => by simp [sQ, hk]
  refine ⟨?_, ?_, ?_, ?_, ?_, ?_⟩
  · unfold parkF; exact up1_at _ _ _
  · unfold parkF; rw [up1_far _ _ (by decide), up1_far _ _ (by decide), up1_at]; rfl
  · unfold parkF; rw [up1_far _ _ (by decide), up1_at, sQ_prk]
  · intro i v hi hv
    by_cases hik : i = k
    · subst hik
      obtain rfl : u = v := Option.some.inj (hu.symm.trans hv)
      unfold parkF
      rw [up1_far _ _ (by unfold mdW; omega), up1_far _ _ (by unfold mdW; omega), up1_far _ _ (by unfold mdW; omega)]
      have hb : ∀ F : Nat → Int, up1 (up1 (up1 F (mdW 3 (2 * (i + 1) + 1)) u) (nxW 3 (2 * (i + 1) + 1)) 0) (wtW 3 (2 * (i + 1) + 1)) 1 (mdW 3 (2 * (i + 1) + 1)) = u := fun F => by
        rw [up1_far _ _ (by unfold mdW wtW; omega), up1_far _ _ (by unfold mdW nxW; omega), up1_at]
      split
      · exact hb _
      · rename_i h8
        have hk : i ≠ 0 := by rintro rfl; exact h8 rfl
        rw [up1_far _ _ (by rw [hla hk]; unfold mdW nxW; omega)]
        exact hb _
    · rw [far _ (by unfold mdW; omega) (by unfold mdW; omega) (by unfold mdW; omega) (by unfold mdW nxW; omega) (by unfold mdW wtW; omega) (by unfold mdW; omega) (by unfold mdW nxW; omega) (by unfold mdW wtW; omega) (.inl (by unfold mdW nxW; omega))]
      exact h.md i v (by omega) hv
  · intro i hi
    by_cases hik : i = k
    · subst hik
      unfold parkF
      rw [up1_far _ _ (by unfold wtW; omega), up1_far _ _ (by unfold wtW; omega), up1_far _ _ (by unfold wtW; omega)]
      split
      · rw [up1_at]
      · rename_i h8
        have hk : i ≠ 0 := by rintro rfl; exact h8 rfl
        rw [up1_far _ _ (by rw [hla hk]; unfold wtW nxW; omega), up1_at]
    · rw [far _ (by unfold wtW; omega) (by unfold wtW; omega) (by unfold wtW; omega) (by unfold wtW nxW; omega) (by unfold wtW; omega) (by unfold mdW wtW; omega) (by unfold wtW nxW; omega) (by unfold wtW; omega) (.inl (by unfold wtW nxW; omega))]
      exact h.wt i (by omega)
  · intro i hi
    by_cases hik : i + 1 = k
    · have hk : k ≠ 0 := by omega
      have hl : (sQ k).la.toNat = 2 * (i + 1) + 1 := by rw [hla hk]; omega
      unfold parkF
      rw [up1_far _ _ (by unfold nxW; omega), up1_far _ _ (by unfold nxW; omega), up1_far _ _ (by unfold nxW; omega), if_neg (by rw [hla hk]; omega), hl, up1_at]
      omega
    · rw [far _ (by unfold nxW; omega) (by unfold nxW; omega) (by unfold nxW; omega) (by unfold nxW; omega) (by unfold wtW nxW; omega) (by unfold mdW nxW; omega) (by unfold nxW; omega) (by unfold wtW nxW; omega) (.inl (by unfold nxW; omega))]
      exact h.nx i (by omega)
/-- What the words are behind some wakings. -/
theorem wake_at : ∀ (l : List Int) (f : Nat → Int) (x : Nat), ((∃ y ∈ l, x = wtW 3 y.toNat) → wakeF f l x = 0) ∧ ((∀ y ∈ l, x ≠ wtW 3 y.toNat) → wakeF f l x = f x)
  | [], f, x => ⟨(by rintro ⟨y, hy, _⟩; cases hy), fun _ => rfl⟩
  | y :: l, f, x => by
    obtain ⟨h1, h2⟩ := wake_at l (up1 f (wtW 3 y.toNat) 0) x
    refine ⟨?_, fun h => ?_⟩
    · rintro ⟨z, hz, hx⟩
      by_cases hl : ∃ y ∈ l, x = wtW 3 y.toNat
      · exact h1 hl
      · rcases List.mem_cons.1 hz with rfl | hz
        · show wakeF (up1 f (wtW 3 z.toNat) 0) l x = 0
          rw [h2 (fun y hy e => hl ⟨y, hy, e⟩), hx, up1_at]
        · exact absurd ⟨z, hz, hx⟩ hl
    · show wakeF (up1 f (wtW 3 y.toNat) 0) l x = f x
      rw [h2 (fun z hz => h z (by simp [hz])), up1_far _ _ (h y (by simp))]
theorem wkl_mem {j c : Nat} {y : Int} : y ∈ wkl j c ↔ ∃ t : Nat, j + 1 ≤ t ∧ t < j + 1 + c ∧ y = 2 * (t : Int) + 1 := by
  unfold wkl
  rw [List.mem_map]
  constructor
  · rintro ⟨t, ht, rfl⟩
    rw [List.mem_range'_1] at ht
    exact ⟨t, ht.1, ht.2, rfl⟩
  · rintro ⟨t, h1, h2, rfl⟩
    exact ⟨t, List.mem_range'_1.2 ⟨h1, h2⟩, rfl⟩
/-- What is held, and who waits, is something that the words can say. -/
theorem Hv.may {j T : Nat} {s : LS} {h : List Int} {g : Int} (H : Hv j s h g) (hj : j < T) (hfl : (s.fi = -1 ∧ s.la = -1) ∨ (isL T s.fi = true ∧ isL T s.la = true)) : s.may T = true := by
  have e1 : isT T s.up = true := by have := H.upb; simp [isT]; omega
  have e2 : isT T s.ex = true := by have := H.exb; simp [isT]; omega
  have e3 : s.mayD T = true := by
    unfold LS.mayD
    rcases hfl with ⟨a, b⟩ | ⟨a, b⟩
    · simp [a, b]
    · simp [a, b]
  have e4 : allM s.held = true := by
    unfold LS.held
    by_cases hx : s.ex = -1
    · by_cases h1 : s.sh = 0 <;> by_cases h2 : s.up = -1 <;> simp [hx, h1, h2] <;> decide
    · obtain ⟨h1, h2⟩ := H.exx hx
      simp [hx, h1, h2]; decide
  have e5 : s.has s.up = false := by
    by_cases hu : s.up = -1
    · simp [LS.has, hu]
    · simp [LS.has, H.upx hu]
  have e6 : s.sh < 2 ^ T := Nat.lt_of_lt_of_le H.shb (Nat.pow_le_pow_right (by decide) (by omega))
  have e7 : decide (0 ≤ s.gr) = true := by have := H.g0.1; rw [H.gr]; simp; omega
  have e8 : decide (s.gr ≤ 4) = true := by rw [H.gr]; simp; omega
  have e9 : (decide (0 < s.gr) && s.sh == 0) = false := by
    by_cases h0 : s.sh = 0
    · have : s.gr = 0 := by rw [H.gr, H.g0.2 h0]; rfl
      simp [this]
    · simp [h0]
  unfold LS.may LS.mayB LS.mayC
  rw [e1, e2, e3, e4, e5, e7, e8, e9]
  simp [e6, H.wa]
/-- Who waits from the thread behind j on. -/
def prq : Nat → List Int → List (Int × Int)
  | _, [] => []
  | j, u :: r => (((j + 1 : Nat) : Int), u) :: prq (j + 1) r
theorem prq_len : ∀ (r : List Int) (j : Nat), (prq j r).length = r.length
  | [], j => rfl
  | u :: r, j => by simp [prq, prq_len r (j + 1)]
theorem prq_get : ∀ (r : List Int) (j i : Nat) (u : Int), r[i]? = some u → (prq j r)[i]? = some (((j + i + 1 : Nat) : Int), u)
  | [], j, i, u, h => by simp at h
  | v :: r, j, 0, u, h => by simp at h; subst h; rfl
  | v :: r, j, i + 1, u, h => by
    have := prq_get r (j + 1) i u (by simpa using h)
    rw [show j + (i + 1) + 1 = j + 1 + i + 1 by omega]
    simpa [prq] using this
theorem rng_getD {L i : Nat} (f : Nat → Int) (h : i < L) : (rng L f).getD i 0 = f i := by rw [List.getD_eq_getElem?_getD, rng_get f h]; rfl
theorem qL_run {T L : Nat} {f : Nat → Int} (hL : L = 3 + 6 * T) : ∀ (r : List Int) (j fuel : Nat) (la : Int), r ≠ [] → r.length ≤ fuel → j + r.length < T → la = 2 * ((j + r.length : Nat) : Int) + 1 →
    (∀ i u, r[i]? = some u → f (mdW 3 (2 * (j + 1 + i) + 1)) = u ∧ (u = 1 ∨ u = 2 ∨ u = 3)) → (∀ i, i + 1 < r.length → f (nxW 3 (2 * (j + 1 + i) + 1)) = 2 * ((j + 2 + i : Nat) : Int) + 2) →
    qL T 3 (rng L f) la fuel (2 * ((j + 1 : Nat) : Int) + 1) = some (prq j r)
  | [], _, _, _, h, _, _, _, _, _ => absurd rfl h
  | u :: r, j, 0, _, _, hf, _, _, _, _ => by simp at hf
  | u :: r, j, fuel + 1, la, _, hf, hj, hla, hmd, hnx => by
    obtain ⟨hu, hu3⟩ := hmd 0 u rfl
    rw [Nat.add_zero] at hu
    simp only [List.length_cons] at hj hla hf
    have hk : (2 * ((j + 1 : Nat) : Int) + 1).toNat = 2 * (j + 1) + 1 := by omega
    have l8 : mdW 3 (2 * (j + 1) + 1) < L := by unfold mdW; omega
    have l9 : nxW 3 (2 * (j + 1) + 1) < L := by unfold nxW; omega
    have hd : (2 * ((j + 1 : Nat) : Int) + 1) / 2 = ((j + 1 : Nat) : Int) := by omega
    unfold qL
    rw [hk, rng_getD f l8, rng_getD f l9, hu, if_pos hu3, hd]
    cases r with
    | nil => rw [if_pos (by rw [hla]; simp)]; rfl
    | cons y r =>
      rw [if_neg (by rw [hla]; simp; omega)]
      have hx := hnx 0 (by simp)
      rw [Nat.add_zero, Nat.add_zero] at hx
      rw [hx]
      have e : (2 * ((j + 2 : Nat) : Int) + 2 - 1) = 2 * ((j + 1 + 1 : Nat) : Int) + 1 := by omega
      rw [e, if_pos (by simp [isL]; simp at hj; omega)]
      rw [qL_run hL (y :: r) (j + 1) fuel la (by simp) (by simpa using hf) (by simp at hj ⊢; omega) (by rw [hla]; simp; omega)
        (fun i v hv => by have := hmd (i + 1) v (by simpa using hv); rw [show j + 1 + (i + 1) = j + 1 + 1 + i by omega] at this; exact this)
        (fun i hi => by have := hnx (i + 1) (by simp at hi ⊢; omega); rw [show j + 1 + (i + 1) = j + 1 + 1 + i by omega, show j + 2 + (i + 1) = j + 1 + 2 + i by omega] at this; exact this)]
      rfl
/-- What the words are when the latch was given back: G of the queue have it. -/
structure PE (T n G : Nat) (q : List Int) (s : LS) (f : Nat → Int) : Prop where
  z1 : f 1 = s.sh
  z2 : f 2 = s.w1
  may : s.may T = true
  wt : ∀ i, i < n → f (wtW 3 (2 * (i + 1) + 1)) = if i < G then 0 else 1
  look : lkR T 3 (rng (3 + 6 * T) f) s.sh s.w1.toNat = some (s, prq G (q.drop G))
/-- A move to give the latch back, on its way. -/
def bM (s0 : Nat) (nx s1 : Int) (ss : LS) (fr : Int) (wk : List Int) : Mv := ⟨0, 1, 0, nx, s0, s1, ss, fr, wk, false, false⟩
/-- The state with the thread 0 gone. -/
def sB (n : Nat) : LS := ⟨0, -1, -1, -1, 0, 3, 2 * (n : Int) + 1⟩
theorem back_dec {n : Nat} (hn : n ≠ 0) : (bM 0 3 (sQ n).w1 (sQ n) 0 []).decide = bM 0 8 (sQ n).w1 (sB n) 0 [] := by
  have hof : (sQ n).of 0 = 3 := by simp [LS.of, sQ]
  have htk : (sQ n).take 0 = sB n := by
    unfold LS.take LS.drop
    rw [hof, if_neg (by decide), if_neg (by decide), if_pos rfl]
    unfold LS.nil0
    rw [if_pos (show (sQ n).sh = 0 from rfl)]
    simp [sQ, hn, sB]
  have e : (bM 0 3 (sQ n).w1 (sQ n) 0 []).giveBack = bM 0 8 (sQ n).w1 (sB n) 0 [] := by
    show (if (sQ n).of 0 = 0 ∨ (-1 : Int) = 0 then _ else ({ (bM 0 3 (sQ n).w1 (sQ n) 0 []) with s := (sQ n).take 0 } : Mv).handOn) = _
    rw [if_neg (by rw [hof]; decide), htk]
    show (if (sB n).wa ≠ -1 ∧ (sB n).sh = 0 then _ else if (sB n).wa ≠ -1 ∨ (sB n).fi = -1 then _ else _) = _
    rw [if_neg (by intro e; exact e.1 rfl), if_neg (by rintro (e | e); exact e rfl; exact absurd e (by show ¬ (3 : Int) = -1; decide))]
    rfl
  exact e
theorem back_run {T n L : Nat} {q : List Int} {f : Nat → Int} (hT : T ≤ 21) (hTn : T = n + 1) (hL : L = 3 + 6 * T) (hn : q.length = n) (hn1 : 1 ≤ n) (hq : ∀ u ∈ q, u = 1 ∨ u = 2 ∨ u = 3) (P : PB T n q f) :
    ∃ r m' g' f' s, 0 < r ∧ endsO T 200 1 (rng L f) (Mv.new 0 1 0) Gs.new = some (r, m', g', rng L f') ∧ PE T n (grant [] q 0) q s f' := by
  have hm := sQ_may (T := T) (k := n) (by omega) (by omega)
  obtain ⟨a, ha⟩ : ∃ a, a = up1 (up1 (up1 f (nxW 3 (2 * 0)) 0) (wtW 3 (2 * 0)) 1) 0 (((2 * 0 : Nat) : Int) + 1) := ⟨_, rfl⟩
  have A : Stps T L 3 f (Mv.new 0 1 0) Gs.new a (bM 0 2 0 ⟨0, 0, 0, 0, 0, 0, 0⟩ 0 []) gE := by
    rw [ha]
    exact acq (T := T) (L := L) (f := f) (m := Mv.new 0 1 0) (g := Gs.new) rfl rfl rfl rfl P.z0 (by show 0 < T; omega) hL
  have afar : ∀ j, j ≠ 0 → j ≠ 3 → j ≠ 4 → a j = f j := fun j h0 h3 h4 => by rw [ha, up1_far _ _ h0, up1_far _ _ (by simpa [wtW] using h4), up1_far _ _ (by simpa [nxW] using h3)]
  have a1 : a 1 = (sQ n).sh := by rw [afar _ (by decide) (by decide) (by decide)]; exact P.z1
  have a2 : a 2 = (sQ n).w1 := by rw [afar _ (by decide) (by decide) (by decide)]; exact P.z2
  have a0 : a 0 = ((2 * 0 : Nat) : Int) + 1 := by rw [ha, up1_at]
  have an : a (nxW 3 (2 * 0)) = 0 := by rw [ha, up1_far _ _ (by decide), up1_far _ _ (by decide), up1_at]
  have B : Stps T L 2 a (bM 0 2 0 ⟨0, 0, 0, 0, 0, 0, 0⟩ 0 []) gE a (bM 0 8 (sQ n).w1 (sB n) 0 []) gE := by
    have hd := back_dec (n := n) (by omega)
    have := rdr (T := T) (L := L) (f := a) (m := bM 0 2 0 ⟨0, 0, 0, 0, 0, 0, 0⟩ 0 []) (g := gE) (by omega) hL rfl hm a1 a2 (by
      show (bM 0 3 (sQ n).w1 (sQ n) 0 []).decide.nx ≠ 0
      rw [hd]; show (8 : Int) ≠ 0; decide)
    have e : ({ (bM 0 2 0 ⟨0, 0, 0, 0, 0, 0, 0⟩ 0 []) with s0 := (sQ n).sh, s1 := (sQ n).w1, s := sQ n, nx := 3 } : Mv).decide = bM 0 8 (sQ n).w1 (sB n) 0 [] := hd
    rw [e] at this
    exact this
  have H0 : Hv 0 (sB n) [] 0 := ⟨by simp [sB], by simp [sB], by simp [sB], by simp, rfl, ⟨by decide, fun _ => rfl⟩, rfl, by simp [sB], by simp [sB], by simp [sB], fun e => absurd rfl e, fun e => absurd rfl e⟩
  have amd : ∀ i u, q[i]? = some u → a (mdW 3 (2 * (0 + 1 + i) + 1)) = u ∧ (u = 1 ∨ u = 2 ∨ u = 3) := fun i u hu => by
    have hi := (List.getElem?_eq_some_iff.1 hu).1
    refine ⟨?_, hq u (List.mem_of_getElem? hu)⟩
    rw [afar _ (by unfold mdW; omega) (by unfold mdW; omega) (by unfold mdW; omega), show 0 + 1 + i = i + 1 by omega]
    exact P.md i u (by omega) hu
  have anx : ∀ i, i + 1 < q.length → a (nxW 3 (2 * (0 + 1 + i) + 1)) = 2 * ((0 + 2 + i : Nat) : Int) + 2 := fun i hi => by
    rw [afar _ (by unfold nxW; omega) (by unfold nxW; omega) (by unfold nxW; omega), show 0 + 1 + i = i + 1 by omega, show 0 + 2 + i = i + 2 by omega]
    exact P.nx i (by omega)
  obtain ⟨c3, s', fr', gg, hc3, C, HH, HE⟩ := hand_run (T := T) (L := L) (f := a) (gs := gE) hL q 0 [] 0 (bM 0 8 (sQ n).w1 (sB n) 0 []) (by intro e; rw [e] at hn; simp at hn; omega) (by omega) H0 rfl rfl (by show 2 * (n : Int) + 1 = _; rw [hn]; simp) amd anx
  obtain ⟨G, hG⟩ : ∃ G, G = grant [] q 0 := ⟨_, rfl⟩
  have hGn : G ≤ n := by rw [hG, ← hn]; exact grant_le _ _ _
  rw [← hG] at C HH HE ⊢
  rw [Nat.zero_add] at HH
  obtain ⟨mF, hmF⟩ : ∃ x, x = (bM 0 0 (sQ n).w1 s' fr' (wkl 0 G)).finish := ⟨_, rfl⟩
  have C' : Stps T L c3 a (bM 0 8 (sQ n).w1 (sB n) 0 []) gE a mF gE := by rw [hmF]; exact C
  obtain ⟨c4, hc4, D⟩ := fin_run (T := T) (L := L) (f := a) (m := mF) (g := gE) hL (by rw [hmF]; rfl) (by rw [a1, hmF]; rfl) (by rw [a2, hmF]; rfl) (by rw [hmF]; intro y hy; obtain ⟨t, t1, t2, rfl⟩ := wkl_mem.1 hy; omega)
  have hlk : (wkl 0 G).length = G := by simp [wkl]
  have hc4' : c4 ≤ 2 + G := by rw [hmF] at hc4; rw [← hlk]; exact hc4
  obtain ⟨b, hb⟩ : ∃ b, b = wakeF (up1 (up1 a 1 s'.sh) 2 s'.w1) (wkl 0 G) := ⟨_, rfl⟩
  have D' : Stps T L c4 a mF gE b (bM s'.sh 13 s'.w1 s' fr' []) gE := by
    rw [hb]
    rw [hmF] at D ⊢
    exact D
  have E := A.trans (B.trans (C'.trans D'))
  rw [hn] at hc3
  have bfar : ∀ j, j ≠ 1 → j ≠ 2 → (∀ y ∈ wkl 0 G, j ≠ wtW 3 y.toNat) → b j = a j := fun j h1 h2 h3 => by
    rw [hb, (wake_at _ _ _).2 h3, up1_far _ _ h2, up1_far _ _ h1]
  have bsm : ∀ j, j ≤ 3 → ∀ y ∈ wkl 0 G, j ≠ wtW 3 y.toNat := fun j hj y hy => by
    obtain ⟨t, t1, t2, rfl⟩ := wkl_mem.1 hy
    unfold wtW; omega
  have R := fun k => rel_e (T := T) (L := L) (k := k) (f := b) (m := bM s'.sh 13 s'.w1 s' fr' []) (g := gE) rfl rfl rfl (by
      show b (nxW 3 (2 * 0)) = 0
      rw [bfar _ (by decide) (by decide) (bsm _ (by decide))]; exact an) (by rw [bfar _ (by decide) (by decide) (bsm _ (by decide))]; exact a0) (by show 0 < T; omega) hL rfl (1 + (3 + (2 + (c3 + c4))))
  have hcc : 3 + (2 + (c3 + c4)) + (2 + (200 - 2 - (3 + (2 + (c3 + c4))))) = 200 := by omega
  have hends := E.ends (i := 1) (k := 2 + (200 - 2 - (3 + (2 + (c3 + c4)))))
  rw [hcc] at hends
  refine ⟨_, _, _, up1 b 0 0, s', Nat.succ_pos _, hends.trans (R _), ?_⟩
  have hmay : s'.may T = true := by
    refine HH.may (by omega) ?_
    by_cases hg : G = q.length
    · rw [if_pos hg] at HE; exact .inl HE
    · rw [if_neg hg] at HE
      right
      rw [HE.1, HE.2]
      refine ⟨by simp [isL]; omega, ?_⟩
      show isL T (2 * (n : Int) + 1) = true
      simp [isL]; omega
  have z : ∀ j, j ≠ 0 → up1 b 0 0 j = b j := fun j hj => up1_far _ _ hj
  have z1 : up1 b 0 0 1 = s'.sh := by rw [z _ (by decide), hb, (wake_at _ _ _).2 (bsm 1 (by decide)), up1_far _ _ (by decide), up1_at]
  have z2 : up1 b 0 0 2 = s'.w1 := by rw [z _ (by decide), hb, (wake_at _ _ _).2 (bsm 2 (by decide)), up1_at]
  refine ⟨z1, z2, hmay, fun i hi => ?_, ?_⟩
  · rw [z _ (by unfold wtW; omega)]
    by_cases hiG : i < G
    · rw [if_pos hiG, hb]
      refine (wake_at _ _ _).1 ⟨2 * ((i + 1 : Nat) : Int) + 1, wkl_mem.2 ⟨i + 1, by omega, by omega, rfl⟩, ?_⟩
      congr 1
      try omega
    · rw [if_neg hiG, bfar _ (by unfold wtW; omega) (by unfold wtW; omega) (fun y hy => by
        obtain ⟨t, t1, t2, rfl⟩ := wkl_mem.1 hy
        unfold wtW; omega), afar _ (by unfold wtW; omega) (by unfold wtW; omega) (by unfold wtW; omega)]
      exact P.wt i hi
  · have hrd := rdB_w1 (by omega) hmay
    have hfit := (may_gd (by omega) hmay).fit (by omega : T ≤ 64)
    unfold lkR
    rw [if_pos hrd, rd_w1 hfit]
    by_cases hg : G = q.length
    · rw [if_pos hg] at HE
      rw [if_pos HE.1, hg, List.drop_length]
      rfl
    · rw [if_neg hg] at HE
      rw [if_neg (by rw [HE.1]; omega), HE.1, HE.2, Nat.zero_add]
      show Option.map (fun l => (s', l)) (qL T 3 (rng (3 + 6 * T) (up1 b 0 0)) (2 * (n : Int) + 1) T (2 * ((G + 1 : Nat) : Int) + 1)) = some (s', prq G (List.drop G q))
      have hlen : (q.drop G).length = n - G := by rw [List.length_drop, hn]
      rw [qL_run (T := T) (L := 3 + 6 * T) (f := up1 b 0 0) rfl (q.drop G) G T (2 * (n : Int) + 1) (by intro e; rw [e] at hlen; simp at hlen; omega) (by omega) (by omega) (by rw [hlen]; omega)
        (fun i u hu => by
          rw [List.getElem?_drop] at hu
          have hi := (List.getElem?_eq_some_iff.1 hu).1
          refine ⟨?_, hq u (List.mem_of_getElem? hu)⟩
          rw [z _ (by unfold mdW; omega), bfar _ (by unfold mdW; omega) (by unfold mdW; omega) (fun y hy => by
            obtain ⟨t, t1, t2, rfl⟩ := wkl_mem.1 hy
            unfold mdW wtW; omega)]
          have := (amd (G + i) u hu).1
          rw [show G + 1 + i = 0 + 1 + (G + i) by omega]
          exact this)
        (fun i hi => by
          rw [hlen] at hi
          rw [z _ (by unfold nxW; omega), bfar _ (by unfold nxW; omega) (by unfold nxW; omega) (fun y hy => by
            obtain ⟨t, t1, t2, rfl⟩ := wkl_mem.1 hy
            unfold nxW wtW; omega)]
          have := anx (G + i) (by omega)
          rw [show G + 1 + i = 0 + 1 + (G + i) by omega, show G + 2 + i = 0 + 2 + (G + i) by omega]
          exact this)]
      rfl
end Go.Proofs.YtjhidkjhfgbaeaaGreatDoor
