/- The plain queue lock, plainly: what each step makes of who waits behind whom. -/
import Derived.Test.YtoieedlkffmcgaaMcI
namespace Go.Proofs.Ytoieedlkffmcgaa
set_option linter.unusedVariables false

variable {m m' : Nat → Int} {pg pg' : Nat → Option Pr} {hs hs' : Nat → Bool} {n : Nat} {C q : List Nat} {t : Nat}
theorem wn (i j : Nat) : wt i ≠ nx j := by rw [wt_eq, nx_eq]; omega
theorem ww {i j : Nat} (h : i ≠ j) : wt i ≠ wt j := by rw [wt_eq, wt_eq]; omega
theorem nn {i j : Nat} (h : i ≠ j) : nx i ≠ nx j := by rw [nx_eq, nx_eq]; omega
theorem n0 (i : Nat) : (0 : Nat) ≠ nx i := by rw [nx_eq]; omega
theorem w0 (i : Nat) : (0 : Nat) ≠ wt i := by rw [wt_eq]; omega
theorem rf0 (i : Nat) : rf i ≠ 0 := by rw [rf_eq]; omega
theorem Out.congr {i : Nat} (h : Out m pg hs i) (h1 : m' (nx i) = m (nx i)) (h2 : m' (wt i) = m (wt i)) (h3 : pg' i = pg i) (h4 : hs' i = hs i) : Out m' pg' hs' i := by
  unfold Out at h ⊢; rw [h1, h2, h3, h4]; exact h
theorem Fi.congr {f : Nat} {r : List Nat} (h : Fi m pg hs f r) (h1 : m' (wt f) = m (wt f)) (h2 : pg' f = pg f) (h3 : hs' f = hs f) (h4 : ∀ g, g ∈ r → (∃ o, pg g = some (false, 5, o)) → pg' g = pg g) : Fi m' pg' hs' f r := by
  unfold Fi at h ⊢
  rw [h1, h2, h3]
  rcases h with h | ⟨h, h5⟩
  · exact .inl h
  · refine .inr ⟨h, ?_⟩
    rcases h5 with h5 | h5 | h5 | h5 | ⟨g, r', o, hr, h6, h7⟩
    · exact .inl h5
    · exact .inr (.inl h5)
    · exact .inr (.inr (.inl h5))
    · exact .inr (.inr (.inr (.inl h5)))
    · exact .inr (.inr (.inr (.inr ⟨g, r', o, hr, h6, by rw [h4 g (by rw [hr]; simp) ⟨o, h7⟩]; exact h7⟩)))
theorem Inv.nomem (h : Inv m pg hs n C q) {f : Nat} {r : List Nat} (hc : C = f :: r) : f ∉ r ∧ r.Nodup := by
  have := h.nodup; rw [hc] at this; simpa using this

/-- A step of somebody who is not behind anybody. -/
theorem Inv.apart (h : Inv m pg hs n C q) (ht : t ∉ C) (v : Option Pr) (hm : ∀ j, j ≠ nx t → j ≠ wt t → m' j = m j) (ho : Out m' (up pg t v) hs t) : Inv m' (up pg t v) hs n C q := by
  refine ⟨h.nodup, h.lt, by rw [hm 0 (n0 t) (w0 t)]; exact h.lock, fun i hi hc => ?_, fun f r hc => ?_, h.empty⟩
  · by_cases e : i = t
    · subst e; exact ho
    · exact (h.out i hi hc).congr (hm _ (nn e) (wn t i).symm) (hm _ (wn i t) (ww e)) (up_ne _ _ e) rfl
  · obtain ⟨a, b, c, d⟩ := h.chain f r hc
    have hne : ∀ x ∈ f :: r, x ≠ t := fun x hx e => ht (by rw [hc, ← e]; exact hx)
    have hg : Gets (up pg t v) f ↔ Gets pg f := by unfold Gets; rw [up_ne _ _ (hne f (by simp))]
    refine ⟨a.congr (hm _ (wn _ _) (ww (hne f (by simp)))) (up_ne _ _ (hne f (by simp))) rfl (fun g hg _ => up_ne _ _ (hne g (by simp [hg]))), b.congr (fun x hx => hm _ (nn (hne x hx)) (wn _ _).symm) (fun x hx => ⟨hm _ (wn _ _) (ww (hne x (by simp [hx]))), up_ne _ _ (hne x (by simp [hx])), rfl⟩), fun x => c (hg.1 x), fun x => d (fun y => x (hg.2 y))⟩
/-- Somebody takes the free lock. -/
theorem Inv.take (h : Inv m pg hs n [] q) (ht : t < n) (hn : m (nx t) = 0) : Inv (up m 0 (rf t)) (up pg t none) (up hs t true) n [t] [] := by
  refine ⟨by simp, by simpa using ht, up_eq _ _ _, fun i hi hc => ?_, fun f r hc => ?_, fun e => by cases e⟩
  · have e : i ≠ t := by simpa using hc
    exact (h.out i hi (by simp)).congr (up_ne _ _ (n0 i).symm) (up_ne _ _ (w0 i).symm) (up_ne _ _ e) (up_ne _ _ e)
  · obtain ⟨rfl, rfl⟩ : t = f ∧ r = [] := by simpa using hc
    refine ⟨.inl ⟨up_eq _ _ _, up_eq _ _ _⟩, by show up m 0 (rf t) (nx t) = 0; rw [up_ne _ _ (n0 t).symm]; exact hn, (fun x => by obtain ⟨o, e⟩ := x; rw [up_eq] at e; cases e), fun _ => rfl⟩
/-- Somebody comes behind the last one. -/
theorem Inv.come (h : Inv m pg hs n C q) (hC : C ≠ []) (ht : t < n) (htc : t ∉ C) (hh : hs t = false) (hn : m (nx t) = 0) (hw : m (wt t) = 1) : Inv (up m 0 (rf t)) (up pg t (some (false, 4, lastR C))) hs n (C ++ [t]) (q ++ [t]) := by
  refine ⟨?_, ?_, ?_, fun i hi hc => ?_, fun f r hc => ?_, fun e => by simp at e⟩
  · rw [List.nodup_append]; exact ⟨h.nodup, by simp, fun a ha b hb => by simp at hb; subst hb; exact fun e => htc (e ▸ ha)⟩
  · intro i hi; rcases List.mem_append.1 hi with hi | hi
    · exact h.lt i hi
    · simp at hi; omega
  · rw [lastR_snoc]; exact up_eq _ _ _
  · have e : i ≠ t := fun e => hc (by simp [e])
    exact (h.out i hi (fun x => hc (by simp [x]))).congr (up_ne _ _ (n0 i).symm) (up_ne _ _ (w0 i).symm) (up_ne _ _ e) rfl
  · cases C with
    | nil => exact absurd rfl hC
    | cons f0 r0 =>
      obtain ⟨rfl, rfl⟩ : f0 = f ∧ r0 ++ [t] = r := by simpa using hc
      obtain ⟨a, b, c, d⟩ := h.chain f0 r0 rfl
      have hne : ∀ x ∈ f0 :: r0, x ≠ t := fun x hx e => htc (e ▸ hx)
      have hg : Gets (up pg t (some (false, 4, lastR (f0 :: r0)))) f0 ↔ Gets pg f0 := by unfold Gets; rw [up_ne _ _ (hne f0 (by simp))]
      have a' : Fi (up m 0 (rf t)) (up pg t (some (false, 4, lastR (f0 :: r0)))) hs f0 r0 := a.congr (up_ne _ _ (w0 _).symm) (up_ne _ _ (hne f0 (by simp))) rfl (fun g hg _ => up_ne _ _ (hne g (by simp [hg])))
      have b' : Ch (up m 0 (rf t)) (up pg t (some (false, 4, lastR (f0 :: r0)))) hs f0 r0 := b.congr (fun x hx => up_ne _ _ (n0 _).symm) (fun x hx => ⟨up_ne _ _ (w0 _).symm, up_ne _ _ (hne x (by simp [hx])), rfl⟩)
      refine ⟨?_, b'.snoc hh (up_eq _ _ _) (by rw [up_ne _ _ (n0 _).symm]; exact hn) (by rw [up_ne _ _ (w0 _).symm]; exact hw) rfl, fun x => by rw [c (hg.1 x)], fun x => by rw [d (fun y => x (hg.2 y))]⟩
      rcases a' with a' | ⟨a0, a'⟩
      · exact .inl a'
      · refine .inr ⟨a0, ?_⟩
        rcases a' with a' | a' | a' | ⟨a', _⟩ | ⟨g, r', o, hr, h6, h7⟩
        · exact .inl a'
        · exact .inr (.inl a')
        · exact .inr (.inr (.inl a'))
        · exact .inr (.inr (.inr (.inl ⟨a', by simp⟩)))
        · exact .inr (.inr (.inr (.inr ⟨g, r' ++ [t], o, by rw [hr]; rfl, h6, h7⟩)))
/-- The first one gets the lock. -/
theorem Inv.get {r : List Nat} (h : Inv m pg hs n (t :: r) q) (hg : Gets pg t) : Inv m (up pg t none) (up hs t true) n (t :: r) r ∧ q = t :: r ∧ ∀ i, i < n → hs i = false := by
  obtain ⟨a, b, c, d⟩ := h.chain t r rfl
  obtain ⟨htr, _⟩ := h.nomem rfl
  have hne : ∀ x ∈ r, x ≠ t := fun x hx e => htr (e ▸ hx)
  refine ⟨⟨h.nodup, h.lt, h.lock, fun i hi hc => ?_, fun f r' hc => ?_, fun e => by cases e⟩, c hg, fun i hi => ?_⟩
  · have e : i ≠ t := fun e => hc (by simp [e])
    exact (h.out i hi hc).congr rfl rfl (up_ne _ _ e) (up_ne _ _ e)
  · obtain ⟨rfl, rfl⟩ : t = f ∧ r = r' := by simpa using hc
    exact ⟨.inl ⟨up_eq _ _ _, up_eq _ _ _⟩, b.congr (fun _ _ => rfl) (fun x hx => ⟨rfl, up_ne _ _ (hne x hx), up_ne _ _ (hne x hx)⟩), (fun x => by obtain ⟨o, e⟩ := x; rw [up_eq] at e; cases e), fun _ => rfl⟩
  · by_cases hc : i ∈ t :: r
    · rcases List.mem_cons.1 hc with rfl | hc
      · obtain ⟨o, hg⟩ := hg
        rcases a with ⟨_, a⟩ | ⟨a, _⟩
        · rw [a] at hg; cases hg
        · exact a
      · exact b.has i hc
    · exact (h.out i hi hc).1
/-- The first one goes on giving the lock back. -/
theorem Inv.move {r : List Nat} (h : Inv m pg hs n (t :: r) q) (v : Pr) (hb : v.1 = true) (hg : ¬ Gets pg t) (hf : Fi m (up pg t (some v)) hs t r) : Inv m (up pg t (some v)) hs n (t :: r) q := by
  obtain ⟨a, b, c, d⟩ := h.chain t r rfl
  obtain ⟨htr, _⟩ := h.nomem rfl
  have hne : ∀ x ∈ r, x ≠ t := fun x hx e => htr (e ▸ hx)
  refine ⟨h.nodup, h.lt, h.lock, fun i hi hc => ?_, fun f r' hc => ?_, fun e => by cases e⟩
  · have e : i ≠ t := fun e => hc (by simp [e])
    exact (h.out i hi hc).congr rfl rfl (up_ne _ _ e) rfl
  · obtain ⟨rfl, rfl⟩ : t = f ∧ r = r' := by simpa using hc
    refine ⟨hf, b.congr (fun _ _ => rfl) (fun x hx => ⟨rfl, up_ne _ _ (hne x hx), rfl⟩), fun ⟨o, e⟩ => ?_, fun _ => d hg⟩
    rw [up_eq] at e; simp only [Option.some.injEq] at e; rw [e] at hb; cases hb
/-- The only one leaves the lock to nobody. -/
theorem Inv.free (h : Inv m pg hs n [t] q) (hh : hs t = false) (hg : ¬ Gets pg t) : Inv (up m 0 0) (up pg t none) hs n [] q := by
  obtain ⟨a, b, c, d⟩ := h.chain t [] rfl
  refine ⟨by simp, by simp, up_eq _ _ _, fun i hi hc => ?_, (fun f r hc => by cases hc), fun _ => d hg⟩
  by_cases e : i = t
  · subst e; exact ⟨hh, .inl (up_eq _ _ _)⟩
  · exact (h.out i hi (by simpa using e)).congr (up_ne _ _ (n0 i).symm) (up_ne _ _ (w0 i).symm) (up_ne _ _ e) rfl
/-- The first one gives the lock on. -/
theorem Inv.give {g : Nat} {r : List Nat} (h : Inv m pg hs n (t :: g :: r) q) (hh : hs t = false) (hgt : ¬ Gets pg t) {o : Int} (hp : pg g = some (false, 5, o)) : Inv (up m (wt g) 0) (up pg t none) hs n (g :: r) q := by
  obtain ⟨a, b, c, d⟩ := h.chain t (g :: r) rfl
  have hnd := h.nodup
  have htg : t ≠ g := fun e => by subst e; simp at hnd
  have htr : t ∉ r := fun e => by simp [e] at hnd
  have hgr : g ∉ r := fun e => by simp [e] at hnd
  have hne : ∀ x ∈ r, x ≠ t := fun x hx e => htr (e ▸ hx)
  have hng : ∀ x ∈ r, x ≠ g := fun x hx e => hgr (e ▸ hx)
  obtain ⟨b1, _, _, b2⟩ := b
  refine ⟨by simp at hnd ⊢; exact ⟨hgr, hnd.2.2⟩, fun i hi => h.lt i (List.mem_cons_of_mem _ hi), by rw [up_ne _ _ (w0 g)]; exact h.lock, fun i hi hc => ?_, fun f r' hc => ?_, fun e => by cases e⟩
  · by_cases e : i = t
    · subst e; exact ⟨hh, .inl (up_eq _ _ _)⟩
    · have e2 : i ≠ g := fun e => hc (by simp [e])
      exact (h.out i hi (by simp at hc ⊢; exact ⟨e, hc.1, hc.2⟩)).congr (up_ne _ _ (wn _ _).symm) (up_ne _ _ (ww e2)) (up_ne _ _ e) rfl
  · obtain ⟨rfl, rfl⟩ : g = f ∧ r = r' := by simpa using hc
    have hpg : up pg t none g = some (false, 5, o) := by rw [up_ne _ _ htg.symm]; exact hp
    refine ⟨.inr ⟨b1, .inl ⟨⟨o, hpg⟩, up_eq _ _ _⟩⟩, b2.congr (fun x hx => up_ne _ _ (wn _ _).symm) (fun x hx => ⟨up_ne _ _ (ww (hng x hx)), up_ne _ _ (hne x hx), rfl⟩), fun _ => d hgt, fun x => absurd ⟨o, hpg⟩ x⟩
/-- Somebody links. -/
theorem Inv.link {f p : Nat} {r : List Nat} (h : Inv m pg hs n (f :: r) q) (htr : t ∈ r) (hp : pg t = some (false, 4, rf p)) : Inv (up m (nx p) (rf t)) (up pg t (some (false, 5, rf p))) hs n (f :: r) q := by
  obtain ⟨a, b, c, d⟩ := h.chain f r rfl
  have hnd := h.nodup
  obtain ⟨hfr, _⟩ := h.nomem rfl
  have hft : f ≠ t := fun e => hfr (e ▸ htr)
  have hpm := b.pred hp htr
  have hg : Gets (up pg t (some (false, 5, rf p))) f ↔ Gets pg f := by unfold Gets; rw [up_ne _ _ hft]
  refine ⟨hnd, h.lt, by rw [up_ne _ _ (n0 p)]; exact h.lock, fun i hi hc => ?_, fun f' r' hc => ?_, fun e => by cases e⟩
  · have e : i ≠ t := fun e => hc (by simp [e, htr])
    have e2 : i ≠ p := fun e => hc (e ▸ hpm)
    exact (h.out i hi hc).congr (up_ne _ _ (nn e2)) (up_ne _ _ (wn _ _)) (up_ne _ _ e) rfl
  · obtain ⟨rfl, rfl⟩ : f = f' ∧ r = r' := by simpa using hc
    refine ⟨a.congr (up_ne _ _ (wn _ _)) (up_ne _ _ hft) rfl (fun g hg ⟨o, h5⟩ => up_ne _ _ (fun e => by subst e; rw [hp] at h5; simp at h5)), b.link hp htr hnd, fun x => c (hg.1 x), fun x => d (fun y => x (hg.2 y))⟩
#print axioms Inv.link
end Go.Proofs.Ytoieedlkffmcgaa
