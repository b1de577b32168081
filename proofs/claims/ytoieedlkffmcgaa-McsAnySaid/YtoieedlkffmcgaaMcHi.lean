/- The plain queue lock, plainly: a step keeps who waits behind whom; somebody can always go on. -/
import Derived.Test.YtoieedlkffmcgaaMcL
namespace Go.Proofs.Ytoieedlkffmcgaa
set_option linter.unusedVariables false

def mm (ws : List Int) : Nat → Int := fun i => ws.getD i 0
theorem mm_get {ws : List Int} {i : Nat} {u : Int} (h : ws[i]? = some u) : mm ws i = u := by unfold mm; rw [List.getD_eq_getElem?_getD, h]; rfl
theorem mm_set {ws : List Int} {i : Nat} (v : Int) (h : i < ws.length) : mm (ws.set i v) = up (mm ws) i v := by
  funext j
  unfold mm up
  rw [List.getD_eq_getElem?_getD, List.getElem?_set]
  by_cases e : j = i
  · subst e; simp [h]
  · rw [if_neg (fun x => e x.symm), if_neg e]; show _ = ws.getD j 0; rw [List.getD_eq_getElem?_getD]

variable {m : Nat → Int} {pg : Nat → Option Pr} {hs : Nat → Bool} {n : Nat} {C q : List Nat} {t : Nat}
theorem Ch.mem : ∀ {r : List Nat} {p : Nat}, Ch m pg hs p r → t ∈ r → ((∃ p, pg t = some (false, 4, rf p)) ∨ ∃ o, pg t = some (false, 5, o)) ∧ m (wt t) = 1
  | [], p, h, ht => by cases ht
  | x :: r, p, h, ht => by
    obtain ⟨a, c, d, e⟩ := h
    rcases List.mem_cons.1 ht with rfl | ht
    · refine ⟨?_, d⟩
      rcases c with ⟨c, _⟩ | ⟨c, _⟩
      · exact .inl ⟨_, c⟩
      · exact .inr c
    · exact e.mem ht
/-- Where somebody with a program is. -/
theorem Inv.where (h : Inv m pg hs n C q) (ht : t < n) {back : Bool} {s o : Int} (hp : pg t = some (back, s, o)) :
    (t ∉ C ∧ back = false ∧ hs t = false ∧ (s = 1 ∨ (s = 2 ∧ m (nx t) = 0) ∨ (s = 3 ∧ m (nx t) = 0 ∧ m (wt t) = 1))) ∨
    (∃ r, C = t :: r ∧ hs t = false ∧ Ch m pg hs t r ∧ ((back = false ∧ s = 5 ∧ m (wt t) = 0) ∨ (back = true ∧ (s = 1 ∨ s = 2 ∨ (s = 3 ∧ r ≠ []) ∨ (s = 4 ∧ ∃ g r' o', r = g :: r' ∧ o = rf g ∧ pg g = some (false, 5, o')))))) ∨
    (∃ f r, C = f :: r ∧ t ∈ r ∧ back = false ∧ m (wt t) = 1 ∧ ((s = 4 ∧ ∃ p, o = rf p) ∨ s = 5)) := by
  by_cases hc : t ∈ C
  · cases C with
    | nil => cases hc
    | cons f r =>
      obtain ⟨a, b, c, d⟩ := h.chain f r rfl
      rcases List.mem_cons.1 hc with rfl | hc
      · refine .inr (.inl ⟨r, rfl, ?_⟩)
        rcases a with ⟨_, a⟩ | ⟨a0, a⟩
        · rw [a] at hp; cases hp
        · refine ⟨a0, b, ?_⟩
          rcases a with ⟨⟨o', a⟩, a1⟩ | ⟨o', a⟩ | ⟨o', a⟩ | ⟨⟨o', a⟩, a1⟩ | ⟨g, r', o', hr, a, a1⟩ <;> (rw [hp] at a; simp only [Option.some.injEq, Prod.mk.injEq] at a; obtain ⟨rfl, rfl, rfl⟩ := a)
          · exact .inl ⟨rfl, rfl, a1⟩
          · exact .inr ⟨rfl, .inl rfl⟩
          · exact .inr ⟨rfl, .inr (.inl rfl)⟩
          · exact .inr ⟨rfl, .inr (.inr (.inl ⟨rfl, a1⟩))⟩
          · exact .inr ⟨rfl, .inr (.inr (.inr ⟨rfl, g, r', o', hr, rfl, a1⟩))⟩
      · obtain ⟨a1, a2⟩ := b.mem hc
        refine .inr (.inr ⟨f, r, rfl, hc, ?_⟩)
        rcases a1 with ⟨p, a1⟩ | ⟨o', a1⟩ <;> (rw [hp] at a1; simp only [Option.some.injEq, Prod.mk.injEq] at a1; obtain ⟨rfl, rfl, rfl⟩ := a1)
        · exact ⟨rfl, a2, .inl ⟨rfl, p, rfl⟩⟩
        · exact ⟨rfl, a2, .inr rfl⟩
  · obtain ⟨a0, a⟩ := h.out t ht hc
    refine .inl ⟨hc, ?_⟩
    rcases a with a | ⟨o', a⟩ | ⟨⟨o', a⟩, a1⟩ | ⟨⟨o', a⟩, a1⟩
    · rw [a] at hp; cases hp
    all_goals (rw [hp] at a; simp only [Option.some.injEq, Prod.mk.injEq] at a; obtain ⟨rfl, rfl, rfl⟩ := a)
    · exact ⟨rfl, a0, .inl rfl⟩
    · exact ⟨rfl, a0, .inr (.inl ⟨rfl, a1⟩)⟩
    · exact ⟨rfl, a0, .inr (.inr ⟨rfl, a1⟩)⟩

/-- What a step leaves. -/
def Left (n t : Nat) (pg : Nat → Option Pr) (hs : Nat → Bool) (q : List Nat) (ws ws' : List Int) (back e' : Bool) (s' o' : Int) : Prop :=
  (back = true → (e' = false → ∃ C', Inv (mm ws') (up pg t (some (true, s', o'))) hs n C' q) ∧ (e' = true → ∃ C', Inv (mm ws') (up pg t none) hs n C' q)) ∧
  (back = false → ∃ q1, q1 = (if mm ws' 0 = mm ws 0 then q else q ++ [t]) ∧ (e' = false → ∃ C', Inv (mm ws') (up pg t (some (false, s', o'))) hs n C' q1) ∧
    (e' = true → (∀ i, i < n → hs i = false) ∧ ∃ q2, q1 = t :: q2 ∧ ∃ C', Inv (mm ws') (up pg t none) (up hs t true) n C' q2))
theorem up_self {α : Type} (f : Nat → α) (i : Nat) (v : α) (h : f i = v) : up f i v = f := by
  funext j; unfold up; split
  · rename_i e; rw [e, h]
  · rfl
theorem gets_no {o : Int} {s : Int} (hp : pg t = some (true, s, o)) : ¬ Gets pg t := fun ⟨o', e⟩ => by rw [hp] at e; cases e
theorem wt_of {g : Nat} {x : Nat} (h : (x : Int) = rf g) : wtW 1 (x - 1) = wt g := by
  rw [rf_eq] at h; have : x - 1 = 2 * g := by omega
  rw [this]; rfl
theorem nx_of {g : Nat} {x : Nat} (h : (x : Int) = rf g) : nxW 1 (x - 1) = nx g := by
  rw [rf_eq] at h; have : x - 1 = 2 * g := by omega
  rw [this]; rfl

/-- Whom the first one has seen behind itself. -/
theorem seen {r : List Nat} {u : Int} (h : Inv m pg hs n (t :: r) q) (hh : hs t = false) (hc : Ch m pg hs t r) (hu : u ≠ 0) (hm : m (nx t) = u) : Fi m (up pg t (some (true, 4, u))) hs t r := by
  cases r with
  | nil => exact absurd (hm.symm.trans hc) hu
  | cons g r' =>
    obtain ⟨a, c, d, e⟩ := hc
    rcases c with ⟨_, c⟩ | ⟨⟨o', c⟩, c2⟩
    · exact absurd (hm.symm.trans c) hu
    · have hgt : g ≠ t := fun e => (h.nomem rfl).1 (by rw [e]; simp)
      refine .inr ⟨hh, .inr (.inr (.inr (.inr ⟨g, r', o', rfl, ?_, by rw [up_ne _ _ hgt]; exact c⟩)))⟩
      rw [up_eq, ← hm, c2]

theorem step_left {ws ws' : List Int} {back e' wait : Bool} {s o s' o' no : Int} (h : Inv (mm ws) pg hs n C q) (ht : t < n) (hp : pg t = some (back, s, o)) (hl : ws.length = 1 + 6 * n)
    (hS : Stp 1 n 0 (2 * t) ws back s o e' s' o' ws' wait no) : no = 0 ∧ Left n t pg hs q ws ws' back e' s' o' := by
  have hw := h.where ht hp
  have hnl : nxW 1 (2 * t) < ws.length := by show nx t < _; rw [nx_eq]; omega
  have hwl : wtW 1 (2 * t) < ws.length := by show wt t < _; rw [wt_eq]; omega
  have h0l : 0 < ws.length := by omega
  have rft : ((2 * t : Nat) : Int) + 1 = rf t := rfl
  cases hS
  case a1x h1 => omega
  case a2x h1 => omega
  case a3x h1 => omega
  case a5x h1 => omega
  case r1x h1 => omega
  case r2x h1 => omega
  case r3x h1 => omega
  case a1 h1 =>
    rcases hw with ⟨hc, _, hh, _⟩ | ⟨r, _, _, _, ⟨_, hx, _⟩ | ⟨hx, _⟩⟩ | ⟨f, r, _, _, _, _, ⟨hx, _⟩ | hx⟩ <;> first | (exact absurd hx (by decide)) | skip
    refine ⟨rfl, (fun hb => by cases hb), fun _ => ⟨_, rfl, fun _ => ?_, (fun x => by cases x)⟩⟩
    rw [mm_set _ h1, show nxW 1 (2 * t) = nx t from rfl, if_pos (up_ne _ _ (n0 t))]
    exact ⟨C, h.apart hc _ (fun j hj _ => up_ne _ _ hj) ⟨hh, .inr (.inr (.inl ⟨⟨_, up_eq _ _ _⟩, up_eq _ _ _⟩))⟩⟩
  case a2 h1 =>
    rcases hw with ⟨hc, _, hh, hx | ⟨_, hn0⟩ | ⟨hx, _⟩⟩ | ⟨r, _, _, _, ⟨_, hx, _⟩ | ⟨hx, _⟩⟩ | ⟨f, r, _, _, _, _, ⟨hx, _⟩ | hx⟩ <;> first | (exact absurd hx (by decide)) | skip
    refine ⟨rfl, (fun hb => by cases hb), fun _ => ⟨_, rfl, fun _ => ?_, (fun x => by cases x)⟩⟩
    rw [mm_set _ h1, show wtW 1 (2 * t) = wt t from rfl, if_pos (up_ne _ _ (w0 t))]
    exact ⟨C, h.apart hc _ (fun j _ hj => up_ne _ _ hj) ⟨hh, .inr (.inr (.inr ⟨⟨_, up_eq _ _ _⟩, (up_ne _ _ (wn t t).symm).trans hn0, up_eq _ _ _⟩))⟩⟩
  case a3f h1 =>
    rcases hw with ⟨hc, _, hh, hx | ⟨hx, _⟩ | ⟨_, hn0, hw0⟩⟩ | ⟨r, _, _, _, ⟨_, hx, _⟩ | ⟨hx, _⟩⟩ | ⟨f, r, _, _, _, _, ⟨hx, _⟩ | hx⟩ <;> first | (exact absurd hx (by decide)) | skip
    have hC : C = [] := by
      cases C with
      | nil => rfl
      | cons f r =>
        obtain ⟨l, _, e⟩ := lastR_mem (C := f :: r) (by simp)
        have := h.lock; rw [mm_get h1, e] at this; exact absurd this.symm (rf0 l)
    subst hC
    have hq := h.empty rfl
    subst hq
    refine ⟨rfl, (fun hb => by cases hb), fun _ => ⟨_, rfl, (fun x => by cases x), fun _ => ⟨fun i hi => (h.out i hi (by simp)).1, [], ?_, [t], ?_⟩⟩⟩
    · rw [if_neg]; rfl
      rw [mm_set _ h0l, up_eq, mm_get h1, rft]; exact rf0 t
    · rw [mm_set _ h0l, rft]; exact h.take ht hn0
  case a3l hu h1 =>
    rcases hw with ⟨hc, _, hh, hx | ⟨hx, _⟩ | ⟨_, hn0, hw0⟩⟩ | ⟨r, _, _, _, ⟨_, hx, _⟩ | ⟨hx, _⟩⟩ | ⟨f, r, _, _, _, _, ⟨hx, _⟩ | hx⟩ <;> first | (exact absurd hx (by decide)) | skip
    have hlk := h.lock
    rw [mm_get h1] at hlk
    have hC : C ≠ [] := fun e => by subst e; exact hu hlk
    obtain ⟨l, hlm, e⟩ := lastR_mem hC
    refine ⟨rfl, (fun hb => by cases hb), fun _ => ⟨_, rfl, fun _ => ?_, (fun x => by cases x)⟩⟩
    rw [mm_set _ h0l, if_neg (by rw [up_eq, mm_get h1, hlk, e, rft]; exact fun x => hc (rf_inj x ▸ hlm)), rft, hlk]
    exact ⟨C ++ [t], h.come hC ht hc hh hn0 hw0⟩
  case a4b h1 =>
    rcases hw with ⟨hc, _, hh, hx | ⟨hx, _⟩ | ⟨hx, _⟩⟩ | ⟨r, _, _, _, ⟨_, hx, _⟩ | ⟨hx, _⟩⟩ | ⟨f, r, hC, htr, _, _, ⟨_, p, rfl⟩ | hx⟩ <;> first | (exact absurd hx (by decide)) | skip
    obtain ⟨a, b, c, d⟩ := h.chain f r hC
    have := h.lt p (by rw [hC]; exact b.pred hp htr)
    rw [rf_eq] at h1; omega
  case a4 x h1 h2 h3 =>
    rcases hw with ⟨hc, _, hh, hx | ⟨hx, _⟩ | ⟨hx, _⟩⟩ | ⟨r, _, _, _, ⟨_, hx, _⟩ | ⟨hx, _⟩⟩ | ⟨f, r, hC, htr, _, _, ⟨_, p, hpx⟩ | hx⟩ <;> first | (exact absurd hx (by decide)) | skip
    subst hC
    rw [hpx] at hp ⊢
    refine ⟨rfl, (fun hb => by cases hb), fun _ => ⟨_, rfl, fun _ => ?_, (fun x => by cases x)⟩⟩
    rw [nx_of hpx] at h3 ⊢
    rw [mm_set _ h3, if_pos (up_ne _ _ (n0 p)), rft]
    exact ⟨_, h.link htr hp⟩
  case a4x x h1 h2 h3 =>
    rcases hw with ⟨hc, _, hh, hx | ⟨hx, _⟩ | ⟨hx, _⟩⟩ | ⟨r, _, _, _, ⟨_, hx, _⟩ | ⟨hx, _⟩⟩ | ⟨f, r, hC, htr, _, _, ⟨_, p, hpx⟩ | hx⟩ <;> first | (exact absurd hx (by decide)) | skip
    unfold nxW at h3; omega
  case a5w u hu h1 =>
    rcases hw with ⟨hc, _, hh, hx | ⟨hx, _⟩ | ⟨hx, _⟩⟩ | ⟨r, _, _, _, ⟨_, _, hz⟩ | ⟨hx, _⟩⟩ | ⟨f, r, hC, htr, _, hz, _⟩ <;> first | (exact absurd hx (by decide)) | skip
    · exact absurd ((mm_get h1).symm.trans hz) hu
    · refine ⟨rfl, (fun hb => by cases hb), fun _ => ⟨_, rfl, fun _ => ?_, (fun x => by cases x)⟩⟩
      rw [if_pos rfl, up_self _ _ _ hp]; exact ⟨C, h⟩
  case a5g h1 =>
    rcases hw with ⟨hc, _, hh, hx | ⟨hx, _⟩ | ⟨hx, _⟩⟩ | ⟨r, hC, _, _, _ | ⟨hx, _⟩⟩ | ⟨f, r, hC, htr, _, hz, _⟩ <;> first | (exact absurd hx (by decide)) | skip
    · subst hC
      obtain ⟨g1, g2, g3⟩ := h.get ⟨_, hp⟩
      refine ⟨rfl, (fun hb => by cases hb), fun _ => ⟨_, rfl, (fun x => by cases x), fun _ => ⟨g3, r, ?_, t :: r, g1⟩⟩⟩
      rw [if_pos rfl]; exact g2
    · have := (mm_get h1).symm.trans hz; omega
  case r1n h1 =>
    rcases hw with ⟨hc, hx, _⟩ | ⟨r, hC, hh, hch, ⟨hx, _⟩ | _⟩ | ⟨f, r, hC, htr, hx, _⟩ <;> first | (exact absurd hx (by decide)) | skip
    subst hC
    exact ⟨rfl, fun _ => ⟨fun _ => ⟨_, h.move (true, 2, o) rfl (gets_no hp) (.inr ⟨hh, .inr (.inr (.inl ⟨_, up_eq _ _ _⟩))⟩)⟩, (fun x => by cases x)⟩, (fun x => by cases x)⟩
  case r1s hu h1 =>
    rcases hw with ⟨hc, hx, _⟩ | ⟨r, hC, hh, hch, ⟨hx, _⟩ | _⟩ | ⟨f, r, hC, htr, hx, _⟩ <;> first | (exact absurd hx (by decide)) | skip
    subst hC
    exact ⟨rfl, fun _ => ⟨fun _ => ⟨_, h.move (true, 4, _) rfl (gets_no hp) (seen h hh hch hu (mm_get h1))⟩, (fun x => by cases x)⟩, (fun x => by cases x)⟩
  case r2y h1 =>
    rcases hw with ⟨hc, hx, _⟩ | ⟨r, hC, hh, hch, ⟨hx, _⟩ | _⟩ | ⟨f, r, hC, htr, hx, _⟩ <;> first | (exact absurd hx (by decide)) | skip
    subst hC
    have hr : r = [] := by
      cases r with
      | nil => rfl
      | cons g r' =>
        obtain ⟨l, hlm, e⟩ := lastR_mem (C := g :: r') (by simp)
        have h2 := h.lock
        rw [mm_get h1, rft] at h2
        have h3 : lastR (t :: g :: r') = rf l := e
        rw [h3] at h2
        have := rf_inj h2; subst this
        exact absurd hlm (h.nomem rfl).1
    subst hr
    refine ⟨rfl, fun _ => ⟨(fun x => by cases x), fun _ => ?_⟩, (fun x => by cases x)⟩
    rw [mm_set _ h0l]; exact ⟨[], h.free hh (gets_no hp)⟩
  case r2n u hu h1 =>
    rcases hw with ⟨hc, hx, _⟩ | ⟨r, hC, hh, hch, ⟨hx, _⟩ | _⟩ | ⟨f, r, hC, htr, hx, _⟩ <;> first | (exact absurd hx (by decide)) | skip
    subst hC
    have hr : r ≠ [] := fun e => by subst e; have := h.lock; rw [mm_get h1] at this; exact hu this
    exact ⟨rfl, fun _ => ⟨fun _ => ⟨_, h.move (true, 3, o) rfl (gets_no hp) (.inr ⟨hh, .inr (.inr (.inr (.inl ⟨⟨_, up_eq _ _ _⟩, hr⟩)))⟩)⟩, (fun x => by cases x)⟩, (fun x => by cases x)⟩
  case r3w h1 =>
    rcases hw with ⟨hc, hx, _⟩ | ⟨r, hC, hh, hch, ⟨hx, _⟩ | _⟩ | ⟨f, r, hC, htr, hx, _⟩ <;> first | (exact absurd hx (by decide)) | skip
    exact ⟨rfl, fun _ => ⟨fun _ => ⟨C, by rw [up_self _ _ _ hp]; exact h⟩, (fun x => by cases x)⟩, (fun x => by cases x)⟩
  case r3s hu h1 =>
    rcases hw with ⟨hc, hx, _⟩ | ⟨r, hC, hh, hch, ⟨hx, _⟩ | _⟩ | ⟨f, r, hC, htr, hx, _⟩ <;> first | (exact absurd hx (by decide)) | skip
    subst hC
    exact ⟨rfl, fun _ => ⟨fun _ => ⟨_, h.move (true, 4, _) rfl (gets_no hp) (seen h hh hch hu (mm_get h1))⟩, (fun x => by cases x)⟩, (fun x => by cases x)⟩
  case r4b h1 =>
    rcases hw with ⟨hc, hx, _⟩ | ⟨r, hC, hh, hch, ⟨hx, _⟩ | ⟨_, hx | hx | ⟨hx, _⟩ | ⟨_, g, r', o', hr, ho, hg⟩⟩⟩ | ⟨f, r, hC, htr, hx, _⟩ <;> first | (exact absurd hx (by decide)) | skip
    have := h.lt g (by rw [hC, hr]; simp)
    rw [ho, rf_eq] at h1; omega
  case r4 x h1 h2 h3 =>
    rcases hw with ⟨hc, hx, _⟩ | ⟨r, hC, hh, hch, ⟨hx, _⟩ | ⟨_, hx | hx | ⟨hx, _⟩ | ⟨_, g, r', o', hr, ho, hg⟩⟩⟩ | ⟨f, r, hC, htr, hx, _⟩ <;> first | (exact absurd hx (by decide)) | skip
    subst hC hr
    refine ⟨rfl, fun _ => ⟨(fun x => by cases x), fun _ => ?_⟩, (fun x => by cases x)⟩
    rw [wt_of ho] at h3 ⊢
    rw [mm_set _ h3]; exact ⟨_, h.give hh (gets_no hp) hg⟩
  case r4x x h1 h2 h3 =>
    clear hw
    unfold wtW at h3; omega

/-- The next step of somebody does not wait. -/
def Nw (m : Nat → Int) (i : Nat) (p : Pr) : Prop := ¬ (p.1 = false ∧ p.2.1 = 5 ∧ m (wt i) ≠ 0) ∧ ¬ (p.1 = true ∧ p.2.1 = 3 ∧ m (nx i) = 0)
theorem Inv.goes (h : Inv m pg hs n C q) (hno : ∀ i, i < n → hs i = false) {p : Pr} (ht : t < n) (hp : pg t = some p) : ∃ i, i < n ∧ ∃ p', pg i = some p' ∧ Nw m i p' := by
  obtain ⟨back, s, o⟩ := p
  cases C with
  | nil =>
    rcases h.where ht hp with ⟨_, hb, _, hs'⟩ | ⟨r, hc, _⟩ | ⟨f, r, hc, _⟩
    · refine ⟨t, ht, _, hp, fun x => ?_, fun x => ?_⟩
      · rcases hs' with e | ⟨e, _⟩ | ⟨e, _⟩ <;> (have := x.2.1; simp at this; omega)
      · have := x.1; simp [hb] at this
    · cases hc
    · cases hc
  | cons f r =>
    obtain ⟨a, b, c, d⟩ := h.chain f r rfl
    have hf : f < n := h.lt f (by simp)
    rcases a with ⟨a, _⟩ | ⟨_, a⟩
    · rw [hno f hf] at a; cases a
    · rcases a with ⟨⟨o', a⟩, a1⟩ | ⟨o', a⟩ | ⟨o', a⟩ | ⟨⟨o', a⟩, a1⟩ | ⟨g, r', o', hr, a, a1⟩
      · exact ⟨f, hf, _, a, fun x => x.2.2 a1, fun x => by have := x.1; simp at this⟩
      · exact ⟨f, hf, _, a, fun x => by have := x.1; simp at this, fun x => by have := x.2.1; simp at this⟩
      · exact ⟨f, hf, _, a, fun x => by have := x.1; simp at this, fun x => by have := x.2.1; simp at this⟩
      · by_cases hz : m (nx f) = 0
        · cases r with
          | nil => exact absurd rfl a1
          | cons g r' =>
            obtain ⟨_, c1, _, _⟩ := b
            rcases c1 with ⟨c1, _⟩ | ⟨_, c1⟩
            · exact ⟨g, h.lt g (by simp), _, c1, fun x => by have := x.2.1; simp at this, fun x => by have := x.1; simp at this⟩
            · exact absurd (c1.symm.trans hz) (rf0 g)
        · exact ⟨f, hf, _, a, fun x => by have := x.1; simp at this, fun x => hz x.2.2⟩
      · exact ⟨f, hf, _, a, fun x => by have := x.1; simp at this, fun x => by have := x.2.1; simp at this⟩
theorem stp_goes {ws ws' : List Int} {back e' wait : Bool} {s o s' o' no : Int} (hS : Stp 1 n 0 (2 * t) ws back s o e' s' o' ws' wait no) (hN : Nw (mm ws) t (back, s, o)) : wait = false := by
  cases hS <;> try rfl
  case a5w u hu h1 => exact absurd ⟨rfl, rfl, by rw [show wt t = wtW 1 (2 * t) from rfl, mm_get h1]; exact hu⟩ hN.1
  case r3w h1 => exact absurd ⟨rfl, rfl, by rw [show nx t = nxW 1 (2 * t) from rfl, mm_get h1]⟩ hN.2
/-- Before the first step. -/
theorem Inv.start (n : Nat) (ws : List Int) (h : ∀ i, mm ws i = 0) : Inv (mm ws) (fun _ => none) (fun _ => false) n [] [] :=
  ⟨by simp, by simp, h 0, fun i _ _ => ⟨rfl, .inl rfl⟩, (fun f r hc => by cases hc), fun _ => rfl⟩
/-- Somebody begins a program. -/
theorem Inv.begin (h : Inv m pg hs n C q) (ht : t < n) (hp : pg t = none) (o : Int) : Inv m (up pg t (some (hs t, 1, o))) (up hs t false) n C q := by
  by_cases hc : t ∈ C
  · cases C with
    | nil => cases hc
    | cons f r =>
      obtain ⟨a, b, c, d⟩ := h.chain f r rfl
      obtain ⟨hfr, _⟩ := h.nomem rfl
      rcases List.mem_cons.1 hc with rfl | hc
      · have hne : ∀ x ∈ r, x ≠ t := fun x hx e => hfr (e ▸ hx)
        have hh : hs t = true := by
          rcases a with ⟨a, _⟩ | ⟨_, a⟩
          · exact a
          · rcases a with ⟨⟨o', a⟩, _⟩ | ⟨o', a⟩ | ⟨o', a⟩ | ⟨⟨o', a⟩, _⟩ | ⟨g, r', o', _, a, _⟩ <;> (rw [hp] at a; cases a)
        refine ⟨h.nodup, h.lt, h.lock, fun i hi hc => ?_, fun f' r' hc => ?_, fun e => by cases e⟩
        · have e : i ≠ t := fun e => hc (by simp [e])
          exact (h.out i hi hc).congr rfl rfl (up_ne _ _ e) (up_ne _ _ e)
        · obtain ⟨rfl, rfl⟩ : t = f' ∧ r = r' := by simpa using hc
          refine ⟨.inr ⟨up_eq _ _ _, .inr (.inl ⟨o, by rw [up_eq, hh]⟩)⟩, b.congr (fun _ _ => rfl) (fun x hx => ⟨rfl, up_ne _ _ (hne x hx), up_ne _ _ (hne x hx)⟩), fun ⟨o', e⟩ => ?_, fun _ => d (fun ⟨o', e⟩ => by rw [hp] at e; cases e)⟩
          rw [up_eq, hh] at e; cases e
      · have := (b.mem hc).1
        rcases this with ⟨p, this⟩ | ⟨p, this⟩ <;> (rw [hp] at this; cases this)
  · have hh := (h.out t ht hc).1
    rw [up_self hs t false hh, hh]
    exact h.apart hc _ (fun _ _ _ => rfl) ⟨hh, .inr (.inl ⟨_, up_eq _ _ _⟩)⟩
#print axioms Inv.begin
end Go.Proofs.Ytoieedlkffmcgaa
