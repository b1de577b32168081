/- The plain queue lock, plainly: who waits behind whom, whatever the order of the steps. -/
import Derived.Test.YtoieedlkffmcgaaMcW
namespace Go.Proofs.Ytoieedlkffmcgaa
set_option linter.unusedVariables false

def nx (i : Nat) : Nat := nxW 1 (2 * i)
def wt (i : Nat) : Nat := wtW 1 (2 * i)
/-- What refers to the node of a thread. -/
def rf (i : Nat) : Int := ((2 * i : Nat) : Int) + 1
theorem nx_eq (i : Nat) : nx i = 1 + 6 * i := by unfold nx nxW; omega
theorem wt_eq (i : Nat) : wt i = 2 + 6 * i := by unfold wt wtW; omega
theorem rf_eq (i : Nat) : rf i = 2 * (i : Int) + 1 := by unfold rf; omega
def up {α : Type} (f : Nat → α) (i : Nat) (v : α) : Nat → α := fun j => if j = i then v else f j
theorem up_eq {α : Type} (f : Nat → α) (i : Nat) (v : α) : up f i v i = v := by simp [up]
theorem up_ne {α : Type} (f : Nat → α) {i j : Nat} (v : α) (h : j ≠ i) : up f i v j = f j := by simp [up, h]

/-- A program of a thread: whether it gives back, its next step, what it has met. -/
abbrev Pr := Bool × Int × Int
section
variable (m : Nat → Int) (pg : Nat → Option Pr) (hs : Nat → Bool)
/-- Those behind a thread, each of them linked, or about to be. -/
def Ch : Nat → List Nat → Prop
  | p, [] => m (nx p) = 0
  | p, t :: r => hs t = false ∧ ((pg t = some (false, 4, rf p) ∧ m (nx p) = 0) ∨ ((∃ o, pg t = some (false, 5, o)) ∧ m (nx p) = rf t)) ∧ m (wt t) = 1 ∧ Ch t r
/-- The first one: it has the lock, or gets it, or gives it back. -/
def Fi (f : Nat) (r : List Nat) : Prop :=
  (hs f = true ∧ pg f = none) ∨ (hs f = false ∧
    ((∃ o, pg f = some (false, 5, o)) ∧ m (wt f) = 0 ∨ (∃ o, pg f = some (true, 1, o)) ∨ (∃ o, pg f = some (true, 2, o)) ∨ ((∃ o, pg f = some (true, 3, o)) ∧ r ≠ []) ∨
      ∃ g r' o, r = g :: r' ∧ pg f = some (true, 4, rf g) ∧ pg g = some (false, 5, o)))
/-- Whoever is not behind anybody. -/
def Out (i : Nat) : Prop :=
  hs i = false ∧ (pg i = none ∨ (∃ o, pg i = some (false, 1, o)) ∨ ((∃ o, pg i = some (false, 2, o)) ∧ m (nx i) = 0) ∨ ((∃ o, pg i = some (false, 3, o)) ∧ m (nx i) = 0 ∧ m (wt i) = 1))
/-- The first one gets the lock only now. -/
def Gets (f : Nat) : Prop := ∃ o, pg f = some (false, 5, o)
def lastR : List Nat → Int
  | [] => 0
  | [f] => rf f
  | _ :: t :: r => lastR (t :: r)
structure Inv (n : Nat) (C q : List Nat) : Prop where
  nodup : C.Nodup
  lt : ∀ i ∈ C, i < n
  lock : m 0 = lastR C
  out : ∀ i, i < n → i ∉ C → Out m pg hs i
  chain : ∀ f r, C = f :: r → Fi m pg hs f r ∧ Ch m pg hs f r ∧ (Gets pg f → q = C) ∧ (¬ Gets pg f → q = r)
  empty : C = [] → q = []
end

variable {m m' : Nat → Int} {pg pg' : Nat → Option Pr} {hs hs' : Nat → Bool}
theorem Ch.congr : ∀ {r : List Nat} {p : Nat}, Ch m pg hs p r → (∀ t, t ∈ p :: r → m' (nx t) = m (nx t)) → (∀ t, t ∈ r → m' (wt t) = m (wt t) ∧ pg' t = pg t ∧ hs' t = hs t) → Ch m' pg' hs' p r
  | [], p, h, h1, _ => by
    show m' (nx p) = 0
    rw [h1 p (by simp)]; exact h
  | t :: r, p, h, h1, h2 => by
    obtain ⟨a, c, d, e⟩ := h
    obtain ⟨w1, w2, w3⟩ := h2 t (by simp)
    refine ⟨by rw [w3]; exact a, ?_, by rw [w1]; exact d, e.congr (fun x hx => h1 x (List.mem_cons_of_mem _ hx)) (fun x hx => h2 x (by simp [hx]))⟩
    rw [w2, h1 p (by simp)]; exact c
theorem Ch.has : ∀ {r : List Nat} {p : Nat}, Ch m pg hs p r → ∀ t ∈ r, hs t = false
  | [], p, h, t, ht => by cases ht
  | x :: r, p, h, t, ht => by
    obtain ⟨a, c, d, e⟩ := h
    rcases List.mem_cons.1 ht with rfl | ht
    · exact a
    · exact e.has t ht
theorem rf_inj {i j : Nat} (h : rf i = rf j) : i = j := by rw [rf_eq, rf_eq] at h; omega
theorem lastR_mem : ∀ {C : List Nat}, C ≠ [] → ∃ l ∈ C, lastR C = rf l
  | [], h => absurd rfl h
  | [f], _ => ⟨f, by simp, rfl⟩
  | f :: t :: r, _ => by
    obtain ⟨l, hl, e⟩ := lastR_mem (C := t :: r) (by simp)
    exact ⟨l, by simp at hl ⊢; exact .inr hl, e⟩
theorem lastR_snoc : ∀ (C : List Nat) (t : Nat), lastR (C ++ [t]) = rf t
  | [], t => rfl
  | [f], t => rfl
  | f :: x :: r, t => by show lastR (x :: (r ++ [t])) = rf t; exact lastR_snoc (x :: r) t
/-- Somebody comes behind the last one. -/
theorem Ch.snoc {t : Nat} {l : Int} (ht : hs t = false) (hp : pg t = some (false, 4, l)) (hn : m (nx t) = 0) (hw : m (wt t) = 1) : ∀ {r : List Nat} {p : Nat}, Ch m pg hs p r → lastR (p :: r) = l → Ch m pg hs p (r ++ [t])
  | [], p, h, e => ⟨ht, .inl ⟨by rw [hp, ← e]; rfl, h⟩, hw, hn⟩
  | x :: r, p, h, e => by
    obtain ⟨a, c, d, g⟩ := h
    exact ⟨a, c, d, g.snoc ht hp hn hw e⟩
/-- Whom somebody is about to link to. -/
theorem Ch.pred {t p : Nat} (hp : pg t = some (false, 4, rf p)) : ∀ {r : List Nat} {f : Nat}, Ch m pg hs f r → t ∈ r → p ∈ f :: r
  | [], f, h, ht => by cases ht
  | x :: r, f, h, ht => by
    obtain ⟨a, c, d, g⟩ := h
    by_cases hx : t = x
    · subst hx
      rcases c with ⟨c, _⟩ | ⟨⟨o, c⟩, _⟩
      · rw [hp] at c; simp only [Option.some.injEq, Prod.mk.injEq, true_and] at c
        rw [rf_inj c]; simp
      · rw [hp] at c; simp at c
    · have := g.pred hp (by simpa [hx] using ht)
      simp at this ⊢; rcases this with h | h
      · exact .inr (.inl h)
      · exact .inr (.inr h)
/-- Somebody links. -/
theorem Ch.link {t p : Nat} (hp : pg t = some (false, 4, rf p)) : ∀ {r : List Nat} {f : Nat}, Ch m pg hs f r → t ∈ r → (f :: r).Nodup → Ch (up m (nx p) (rf t)) (up pg t (some (false, 5, rf p))) hs f r
  | [], f, h, ht, _ => by cases ht
  | x :: r, f, h, ht, hnd => by
    have hwn : ∀ i j, wt i ≠ nx j := fun i j => by rw [wt_eq, nx_eq]; omega
    have hnn : ∀ i j, i ≠ j → nx i ≠ nx j := fun i j h => by rw [nx_eq, nx_eq]; omega
    obtain ⟨a, c, d, g⟩ := h
    have hfx : f ≠ x := fun e => by subst e; simp at hnd
    have hfr : f ∉ r := fun e => by simp [e] at hnd
    have hxr : x ∉ r := fun e => by simp [e] at hnd
    have hnr : r.Nodup := by simp at hnd; exact hnd.2.2
    by_cases hx : t = x
    · subst hx
      rcases c with ⟨c, c2⟩ | ⟨⟨o, c⟩, _⟩
      · rw [hp] at c; simp only [Option.some.injEq, Prod.mk.injEq, true_and] at c
        obtain rfl := rf_inj c
        refine ⟨a, .inr ⟨⟨_, up_eq _ _ _⟩, up_eq _ _ _⟩, by rw [up_ne _ _ (hwn _ _)]; exact d, g.congr (fun y hy => up_ne _ _ (hnn _ _ ?_)) (fun y hy => ⟨up_ne _ _ (hwn _ _), up_ne _ _ ?_, rfl⟩)⟩
        · rcases List.mem_cons.1 hy with rfl | hy
          · exact fun e => hfx e.symm
          · exact fun e => hfr (e ▸ hy)
        · exact fun e => hxr (e ▸ hy)
      · rw [hp] at c; simp at c
    · have htr : t ∈ r := by simpa [hx] using ht
      have hpm := g.pred hp htr
      have hpf : f ≠ p := fun e => by subst e; rcases List.mem_cons.1 hpm with e | e; exact hfx e; exact hfr e
      refine ⟨a, ?_, by rw [up_ne _ _ (hwn _ _)]; exact d, g.link hp htr (by simp; exact ⟨hxr, hnr⟩)⟩
      rw [up_ne _ _ (fun e => hx e.symm), up_ne _ _ (hnn _ _ hpf)]; exact c
end Go.Proofs.Ytoieedlkffmcgaa
