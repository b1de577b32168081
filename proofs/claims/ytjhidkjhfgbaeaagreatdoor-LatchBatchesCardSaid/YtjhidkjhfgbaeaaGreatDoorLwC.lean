/- The latch is handed on to who waits (no program in it). -/
import Derived.Test.YtjhidkjhfgbaeaaGreatDoorLwB
namespace Go.Proofs.YtjhidkjhfgbaeaaGreatDoor
set_option linter.unusedVariables false
set_option linter.unusedSimpArgs false
/-- What is held is h, by threads up to j; g of them shared. -/
structure Hv (j : Nat) (s : LS) (h : List Int) (g : Int) : Prop where
  sS : s.sh ≠ 0 ↔ (1 : Int) ∈ h
  sU : s.up ≠ -1 ↔ (2 : Int) ∈ h
  sX : s.ex ≠ -1 ↔ (3 : Int) ∈ h
  md : ∀ x ∈ h, x = 1 ∨ x = 2 ∨ x = 3
  gr : s.gr = min g 4
  g0 : 0 ≤ g ∧ (s.sh = 0 → g = 0)
  wa : s.wa = -1
  shb : s.sh < 2 ^ (j + 1)
  upb : -1 ≤ s.up ∧ s.up ≤ j
  exb : -1 ≤ s.ex ∧ s.ex ≤ j
  upx : s.up ≠ -1 → s.sh.testBit s.up.toNat = false
  exx : s.ex ≠ -1 → s.sh = 0 ∧ s.up = -1
section
variable {j : Nat} {s : LS} {h : List Int} {g : Int}
theorem mem_held (x : Int) : x ∈ s.held ↔ (x = 1 ∧ s.sh ≠ 0) ∨ (x = 2 ∧ s.up ≠ -1) ∨ (x = 3 ∧ s.ex ≠ -1) := by
  unfold LS.held
  by_cases h1 : s.sh = 0 <;> by_cases h2 : s.up = -1 <;> by_cases h3 : s.ex = -1 <;> simp [h1, h2, h3]
theorem Hv.mem (H : Hv j s h g) (x : Int) : x ∈ s.held ↔ x ∈ h := by
  rw [mem_held]
  constructor
  · rintro (⟨rfl, e⟩ | ⟨rfl, e⟩ | ⟨rfl, e⟩)
    · exact H.sS.1 e
    · exact H.sU.1 e
    · exact H.sX.1 e
  · intro hx
    rcases H.md x hx with rfl | rfl | rfl
    · exact .inl ⟨rfl, H.sS.2 hx⟩
    · exact .inr (.inl ⟨rfl, H.sU.2 hx⟩)
    · exact .inr (.inr ⟨rfl, H.sX.2 hx⟩)
theorem Hv.wi (H : Hv j s h g) (u : Int) : wi u s.held = wi u h := by
  unfold Go.Proofs.YtjhidkjhfgbaeaaGreatDoor.wi
  rw [Bool.eq_iff_iff, List.all_eq_true, List.all_eq_true]
  exact ⟨fun a x hx => a x ((H.mem x).2 hx), fun a x hx => a x ((H.mem x).1 hx)⟩
theorem Hv.goes (H : Hv j s h g) (u : Int) (b : Bool) : s.goes u b = goB u h g b := by
  have e : decide ((4 : Int) ≤ s.gr) = decide (4 ≤ g) := by rw [H.gr]; simp only [decide_eq_decide]; omega
  unfold LS.goes goB
  rw [H.wi u, e]
theorem Hv.of0 (H : Hv j s h g) (t : Nat) (ht : j < t) : s.of t = 0 := by
  have h1 : ¬ s.ex = (t : Int) := by have := H.exb.2; omega
  have h2 : ¬ s.up = (t : Int) := by have := H.upb.2; omega
  have h3 : s.has t = false := by
    unfold LS.has
    rw [Int.toNat_natCast, Nat.testBit_lt_two_pow (Nat.lt_of_lt_of_le H.shb (Nat.pow_le_pow_right (by decide) (by omega)))]
    simp
  unfold LS.of
  rw [if_neg h1, if_neg h2, h3]
  rfl
/-- What is held with the first one and the last one who waits changed. -/
theorem Hv.ends (H : Hv j s h g) (a b : Int) : Hv j { s with fi := a, la := b } h g := ⟨H.sS, H.sU, H.sX, H.md, H.gr, H.g0, H.wa, H.shb, H.upb, H.exb, H.upx, H.exx⟩
theorem Hv.take0 (H : Hv j s h g) (t : Nat) (ht : j < t) : s.take t = s := by
  unfold LS.take LS.drop
  rw [H.of0 t ht, if_neg (by decide), if_neg (by decide), if_neg (by decide)]
  unfold LS.nil0
  split
  · rename_i e
    have : s.gr = 0 := by rw [H.gr, H.g0.2 e]; rfl
    cases s
    simp_all
  · rfl
theorem vm_of {u : Int} {b : Bool} (hg : goB u h g b = true) : (u = 1 ∨ u = 2 ∨ u = 3) ∧ ∀ x ∈ h, ft u x = true := by
  unfold goB at hg
  simp only [Bool.and_eq_true] at hg
  exact ⟨vm_cases hg.1.1, fun x hx => List.all_eq_true.1 hg.1.2 x hx⟩
/-- One more gets it. -/
theorem Hv.next (H : Hv j s h g) {u : Int} {b : Bool} (hg : goB u h g b = true) (a c : Int) : Hv (j + 1) (({ s with fi := a, la := c } : LS).give ((j + 1 : Nat) : Int) u) (h ++ [u]) (if u = 1 then g + 1 else g) ∧
    (({ s with fi := a, la := c } : LS).give ((j + 1 : Nat) : Int) u).fi = a ∧ (({ s with fi := a, la := c } : LS).give ((j + 1 : Nat) : Int) u).la = c := by
  obtain ⟨hu, hft⟩ := vm_of hg
  have hgive : ({ s with fi := a, la := c } : LS).give ((j + 1 : Nat) : Int) u = ({ s with fi := a, la := c } : LS).put ((j + 1 : Nat) : Int) u := by
    unfold LS.give
    rw [(H.ends a c).take0 (j + 1) (by omega)]
  rw [hgive]
  have hp : 2 ^ (j + 1) < 2 ^ (j + 1 + 1) := Nat.pow_lt_pow_right (by decide) (by omega)
  have hp0 : 0 < 2 ^ (j + 1) := Nat.two_pow_pos _
  have hx3 : (3 : Int) ∈ h → False := fun hx => by
    have := hft 3 hx
    rw [ft_iff] at this
    omega
  have hex : s.ex = -1 := by
    apply Decidable.byContradiction
    intro e
    exact hx3 (H.sX.1 e)
  rcases hu with rfl | rfl | rfl
  · have e : ({ s with fi := a, la := c } : LS).put ((j + 1 : Nat) : Int) 1 = { s with fi := a, la := c, sh := s.sh ||| 2 ^ (j + 1), gr := min (s.gr + 1) 4 } := by
      unfold LS.put; rw [if_pos rfl, Int.toNat_natCast]
    rw [e]
    have hne : s.sh ||| 2 ^ (j + 1) ≠ 0 := fun e => by
      have : (s.sh ||| 2 ^ (j + 1)).testBit (j + 1) = true := by rw [Nat.testBit_or, Nat.testBit_two_pow_self]; simp
      rw [e] at this; simp at this
    refine ⟨⟨⟨fun _ => by simp, fun _ => hne⟩, ⟨fun e => by have := H.sU.1 e; simp [this], fun e => H.sU.2 (by simpa using e)⟩, ⟨fun e => absurd hex e, fun e => (hx3 (by simpa using e)).elim⟩, ?_, ?_, ⟨?_, fun e => absurd e hne⟩, H.wa, Nat.or_lt_two_pow (Nat.lt_trans H.shb hp) hp, ⟨H.upb.1, by have := H.upb.2; show s.up ≤ ((j + 1 : Nat) : Int); omega⟩, ⟨H.exb.1, by have := H.exb.2; show s.ex ≤ ((j + 1 : Nat) : Int); omega⟩, fun e => ?_, fun e => absurd hex e⟩, rfl, rfl⟩
    · intro x hx
      rcases List.mem_append.1 hx with hx | hx
      · exact H.md x hx
      · exact .inl (by simpa using hx)
    · show min (s.gr + 1) 4 = min (if (1 : Int) = 1 then g + 1 else g) 4
      rw [if_pos rfl, H.gr]; omega
    · rw [if_pos rfl]; have := H.g0.1; omega
    · have e1 := H.upx e
      have := H.upb
      show (s.sh ||| 2 ^ (j + 1)).testBit s.up.toNat = false
      rw [Nat.testBit_or, e1, Nat.testBit_two_pow_of_ne (by omega)]
      rfl
  · have e : ({ s with fi := a, la := c } : LS).put ((j + 1 : Nat) : Int) 2 = { s with fi := a, la := c, up := ((j + 1 : Nat) : Int) } := by
      unfold LS.put; rw [if_neg (by decide), if_pos rfl]
    rw [e]
    refine ⟨⟨⟨fun e => by have := H.sS.1 e; simp [this], fun e => H.sS.2 (by simpa using e)⟩, ⟨fun _ => by simp, fun _ => by show ((j + 1 : Nat) : Int) ≠ -1; omega⟩, ⟨fun e => absurd hex e, fun e => (hx3 (by simpa using e)).elim⟩, ?_, ?_, ?_, H.wa, Nat.lt_trans H.shb hp, ⟨by show -1 ≤ ((j + 1 : Nat) : Int); omega, Int.le_refl _⟩, ⟨H.exb.1, by have := H.exb.2; show s.ex ≤ ((j + 1 : Nat) : Int); omega⟩, fun _ => ?_, fun e => absurd hex e⟩, rfl, rfl⟩
    · intro x hx
      rcases List.mem_append.1 hx with hx | hx
      · exact H.md x hx
      · exact .inr (.inl (by simpa using hx))
    · rw [if_neg (by decide)]; exact H.gr
    · rw [if_neg (by decide)]; exact H.g0
    · show s.sh.testBit (((j + 1 : Nat) : Int)).toNat = false
      rw [Int.toNat_natCast]
      exact Nat.testBit_lt_two_pow H.shb
  · have hn : h = [] := by
      apply List.eq_nil_iff_forall_not_mem.2
      intro x hx
      have := hft x hx
      rw [ft_iff] at this
      omega
    subst hn
    have hsh : s.sh = 0 := by
      apply Decidable.byContradiction
      intro e; have := H.sS.1 e; simp at this
    have hup : s.up = -1 := by
      apply Decidable.byContradiction
      intro e; have := H.sU.1 e; simp at this
    have e : ({ s with fi := a, la := c } : LS).put ((j + 1 : Nat) : Int) 3 = { s with fi := a, la := c, ex := ((j + 1 : Nat) : Int) } := by
      unfold LS.put; rw [if_neg (by decide), if_neg (by decide), if_pos rfl]
    rw [e]
    refine ⟨⟨⟨fun e => absurd hsh e, fun e => by simp at e⟩, ⟨fun e => absurd hup e, fun e => by simp at e⟩, ⟨fun _ => by simp, fun _ => by show ((j + 1 : Nat) : Int) ≠ -1; omega⟩, ?_, ?_, ?_, H.wa, Nat.lt_trans H.shb hp, ⟨H.upb.1, by have := H.upb.2; show s.up ≤ ((j + 1 : Nat) : Int); omega⟩, ⟨by show -1 ≤ ((j + 1 : Nat) : Int); omega, Int.le_refl _⟩, H.upx, fun _ => ⟨hsh, hup⟩⟩, rfl, rfl⟩
    · intro x hx
      exact .inr (.inr (by simpa using hx))
    · rw [if_neg (by decide)]; exact H.gr
    · rw [if_neg (by decide)]; exact H.g0
/-- The nodes of c threads behind j. -/
def wkl (j c : Nat) : List Int := (List.range' (j + 1) c).map (fun t => 2 * ((t : Nat) : Int) + 1)
theorem wkl_succ (j c : Nat) : wkl j (c + 1) = (2 * ((j + 1 : Nat) : Int) + 1) :: wkl (j + 1) c := by
  unfold wkl; rw [List.range'_succ]; rfl
end
section
variable {T L : Nat} {f : Nat → Int} {gs : Gs}
theorem s_mo {m : Mv} {k : Nat} {u : Int} (hn : m.nx = 8) (hfi : m.s.fi = k) (hk : mdW 3 k < L) (hu : f (mdW 3 k) = u) (hm : u = 1 ∨ u = 2 ∨ u = 3) : mstpO T (rng L f) m gs = some (m.readMode u, gs, rng L f, false, 0) := by
  have h0 : (0 : Int) ≤ (k : Int) := by omega
  simp [mstpO, hn, hfi, rng_get _ hk, hu, hm]
theorem s_no {m : Mv} {k : Nat} {u : Int} (hn : m.nx = 9) (hfi : m.s.fi = k) (hk : nxW 3 k < L) (hu : f (nxW 3 k) = u) (hm : isL T (u - 1) = true) : mstpO T (rng L f) m gs = some (m.serve m.fr (u - 1), gs, rng L f, false, 0) := by
  simp [mstpO, hn, hfi, rng_get _ hk, hu, hm]
/-- The latch is handed on. -/
theorem hand_run (hL : L = 3 + 6 * T) : ∀ (q : List Int) (j : Nat) (h : List Int) (g : Int) (m : Mv), q ≠ [] → j + q.length < T → Hv j m.s h g → m.nx = 8 → m.s.fi = 2 * ((j + 1 : Nat) : Int) + 1 → m.s.la = 2 * ((j + q.length : Nat) : Int) + 1 →
    (∀ i u, q[i]? = some u → f (mdW 3 (2 * (j + 1 + i) + 1)) = u ∧ (u = 1 ∨ u = 2 ∨ u = 3)) → (∀ i, i + 1 < q.length → f (nxW 3 (2 * (j + 1 + i) + 1)) = 2 * ((j + 2 + i : Nat) : Int) + 2) →
    ∃ c s' fr' g', c ≤ 2 * q.length + 1 ∧ Stps T L c f m gs f ({ m with s := s', wk := m.wk ++ wkl j (grant h q g), fr := fr' } : Mv).finish gs ∧ Hv (j + grant h q g) s' (h ++ q.take (grant h q g)) g' ∧
      (if grant h q g = q.length then s'.fi = -1 ∧ s'.la = -1 else s'.fi = 2 * ((j + grant h q g + 1 : Nat) : Int) + 1 ∧ s'.la = m.s.la)
  | [], _, _, _, _, hq, _, _, _, _, _, _, _ => absurd rfl hq
  | u :: q, j, h, g, m, _, hj, H, hn, hfi, hla, hmd, hnx => by
    obtain ⟨hu, hu3⟩ := hmd 0 u rfl
    rw [Nat.add_zero] at hu
    simp only [List.length_cons] at hj hla
    have hfiN : m.s.fi = ((2 * (j + 1) + 1 : Nat) : Int) := by rw [hfi]; omega
    have l8 : mdW 3 (2 * (j + 1) + 1) < L := by unfold mdW; omega
    have l9 : nxW 3 (2 * (j + 1) + 1) < L := by unfold nxW; omega
    have hS := s_mo (T := T) (gs := gs) hn hfiN l8 hu hu3
    have hoth : (m.s.fi != m.s.la) = !q.isEmpty := by
      rw [hfi, hla]
      cases q with
      | nil => simp
      | cons y q => simp <;> omega
    have hgo : m.s.goes u (m.s.fi != m.s.la) = goB u h g (!q.isEmpty) := by rw [hoth]; exact H.goes u _
    have fne : ∀ (mm : Mv), mm.finish.nx ≠ 0 := fun mm => by have := mm.fin_in; show mm.fin ≠ 0; omega
    cases hgb : goB u h g (!q.isEmpty) with
    | false =>
      have hgr : grant h (u :: q) g = 0 := grant_no hgb
      have hrm : m.readMode u = m.finish := by unfold Mv.readMode; rw [hgo, hgb, if_pos rfl]
      rw [hgr]
      refine ⟨1, m.s, m.fr, g, by simp, Stps.one (by rw [hS, hrm]; simp [wkl]) (fne _), by simpa using H, ?_⟩
      rw [if_neg (by simp)]
      exact ⟨hfi, rfl⟩
    | true =>
      have hgr : grant h (u :: q) g = grant (h ++ [u]) q (if u = 1 then g + 1 else g) + 1 := grant_yes hgb
      have hdiv : m.s.fi / 2 = ((j + 1 : Nat) : Int) := by rw [hfi]; omega
      cases q with
      | nil =>
        have hne : m.s.fi = m.s.la := by rw [hfi, hla]; rfl
        obtain ⟨N, N1, N2⟩ := H.next hgb (-1) (-1)
        have hsv : m.serve u (-1) = ({ m with wk := m.wk ++ [m.s.fi], s := ({ m.s with fi := -1, la := -1 } : LS).give ((j + 1 : Nat) : Int) u } : Mv).finish := by
          unfold Mv.serve
          rw [if_pos rfl, hdiv]
          unfold Mv.handOn
          rw [if_neg (by intro e; exact e.1 N.wa), if_pos (.inr N1)]
        have hrm : m.readMode u = m.serve u (-1) := by
          unfold Mv.readMode
          rw [hgo, hgb, if_neg (by decide), if_neg (by simpa using hne)]
        rw [hgr, grant_nil]
        refine ⟨1, ({ m.s with fi := -1, la := -1 } : LS).give ((j + 1 : Nat) : Int) u, m.fr, _, by simp, Stps.one ?_ (fne _), by simpa using N, ?_⟩
        · rw [hS, hrm, hsv, hfi]
          simp [wkl]
        · rw [if_pos (show 0 + 1 = [u].length from rfl)]; exact ⟨N1, N2⟩
      | cons y q =>
        have hne : m.s.fi ≠ m.s.la := by rw [hfi, hla]; simp only [List.length_cons]; omega
        have hrm : m.readMode u = { m with fr := u, nx := 9 } := by
          unfold Mv.readMode
          rw [hgo, hgb, if_neg (by decide), if_pos hne]
        have hx := hnx 0 (by simp)
        rw [Nat.add_zero, Nat.add_zero] at hx
        have hisL : isL T (2 * ((j + 2 : Nat) : Int) + 2 - 1) = true := by
          simp only [List.length_cons] at hj
          simp [isL]; omega
        have hS2 := s_no (T := T) (L := L) (f := f) (gs := gs) (m := { m with fr := u, nx := 9 }) rfl hfiN l9 hx hisL
        obtain ⟨N, N1, N2⟩ := H.next hgb (2 * ((j + 2 : Nat) : Int) + 2 - 1) m.s.la
        obtain ⟨s1, hs1⟩ : ∃ s1, s1 = ({ m.s with fi := 2 * ((j + 2 : Nat) : Int) + 2 - 1, la := m.s.la } : LS).give ((j + 1 : Nat) : Int) u := ⟨_, rfl⟩
        rw [← hs1] at N N1 N2
        have hsv : ({ m with fr := u, nx := 9 } : Mv).serve u (2 * ((j + 2 : Nat) : Int) + 2 - 1) = { m with fr := u, wk := m.wk ++ [m.s.fi], s := s1, nx := 8 } := by
          unfold Mv.serve
          simp only []
          rw [if_neg (by omega), hdiv, ← hs1]
          unfold Mv.handOn
          rw [if_neg (by intro e; exact e.1 N.wa), if_neg (by rintro (e | e); exact e N.wa; rw [N1] at e; omega)]
        obtain ⟨c, s', fr', g', hc, hR, hH, hE⟩ := hand_run hL (y :: q) (j + 1) (h ++ [u]) (if u = 1 then g + 1 else g) { m with fr := u, wk := m.wk ++ [m.s.fi], s := s1, nx := 8 } (by simp) (by simp at hj ⊢; omega) N rfl
          (by show s1.fi = _; rw [N1]; omega) (by show s1.la = _; rw [N2, hla]; simp; omega)
          (fun i v hv => by have := hmd (i + 1) v (by simpa using hv); rw [show j + 1 + (i + 1) = j + 1 + 1 + i by omega] at this; exact this)
          (fun i hi => by have := hnx (i + 1) (by simp at hi ⊢; omega); rw [show j + 1 + (i + 1) = j + 1 + 1 + i by omega, show j + 2 + (i + 1) = j + 1 + 2 + i by omega] at this; exact this)
        rw [hgr]
        obtain ⟨C, hC⟩ : ∃ C, C = grant (h ++ [u]) (y :: q) (if u = 1 then g + 1 else g) := ⟨_, rfl⟩
        rw [← hC] at hR hH hE ⊢
        refine ⟨c + 2, s', fr', g', by simp at hc ⊢; omega, ?_, ?_, ?_⟩
        · have e : ({ m with s := s', wk := m.wk ++ wkl j (C + 1), fr := fr' } : Mv).finish = ({ ({ m with fr := u, wk := m.wk ++ [m.s.fi], s := s1, nx := 8 } : Mv) with s := s', wk := (m.wk ++ [m.s.fi]) ++ wkl (j + 1) C, fr := fr' } : Mv).finish := by
            rw [wkl_succ, hfi]
            simp [Mv.finish, Mv.fin]
          rw [e]
          exact ⟨f, _, gs, by rw [hS, hrm], by show (9 : Int) ≠ 0; decide, f, _, gs, by rw [hS2]; show some (({ m with fr := u, nx := 9 } : Mv).serve u _, _) = _; rw [hsv], by show (8 : Int) ≠ 0; decide, hR⟩
        · rw [show j + (C + 1) = j + 1 + C by omega, show h ++ (u :: y :: q).take (C + 1) = h ++ [u] ++ (y :: q).take C by simp]
          exact hH
        · by_cases hcl : C = (y :: q).length
          · rw [if_pos hcl] at hE
            rw [if_pos (by simp at hcl ⊢; omega)]
            exact hE
          · rw [if_neg hcl] at hE
            rw [if_neg (by simp at hcl ⊢; omega), show j + (C + 1) + 1 = j + 1 + C + 1 by omega]
            exact ⟨hE.1, hE.2.trans N2⟩
end
end Go.Proofs.YtjhidkjhfgbaeaaGreatDoor
