/- Modes: what goes together, what may be given. Plain facts, no Go text. -/
import Derived.Test.YthnmjildeenecaaDoorBase
namespace Go.Proofs.YthnmjildeenecaaDoor

/-- Whether a number is a mode; whether two go together; whether one goes with each of some. -/
def vm (m : Int) : Bool := decide (1 ≤ m ∧ m ≤ 3)
def ft (a b : Int) : Bool := decide ((a = 1 ∧ b = 1) ∨ (a = 1 ∧ b = 2) ∨ (a = 2 ∧ b = 1))
def wi (m : Int) (l : List Int) : Bool := l.all (ft m)
/-- Whether all of some go together, and with those before them. -/
def allF : List Int → List Int → Bool
  | _, [] => true
  | p, x :: xs => vm x && wi x p && allF (p ++ [x]) xs
def allM (l : List Int) : Bool := allF [] l
/-- Whether a mode may be given. -/
def goB (m : Int) (h : List Int) (g : Int) (b : Bool) : Bool := vm m && wi m h && !(decide (m = 1) && b && decide (4 ≤ g))
/-- How many of a queue may be given. -/
def grant : List Int → List Int → Int → Nat
  | _, [], _ => 0
  | h, x :: q, g => if goB x h g (!q.isEmpty) = true then grant (h ++ [x]) q (if x = 1 then g + 1 else g) + 1 else 0
/-- How many of some are shared. -/
def s1 (l : List Int) : Int := (l.countP (fun x => x == 1) : Nat)
/-- The set of some modes, bit by bit. -/
def cl (m : Int) : Int := if vm m = true then m else 0
def st (l : List Int) (i : Int) : Bool := l.any fun x => cl x == i
def tk (b0 b1 b2 b3 : Bool) (m : Int) : Bool := vm m && !b0 && (!b1 || ft m 1) && (!b2 || ft m 2) && !b3
def gs (b0 b1 b2 b3 : Bool) (m g : Int) (b : Bool) : Bool := tk b0 b1 b2 b3 m && (decide (m ≠ 1) || !b || decide (g < 4))

theorem vm_iff {m : Int} : vm m = true ↔ 1 ≤ m ∧ m ≤ 3 := by simp [vm]
theorem vm_not {m : Int} : vm m = false ↔ m < 1 ∨ 3 < m := by
  rw [← Bool.not_eq_true, vm_iff]; omega
theorem vm_cases {m : Int} (h : vm m = true) : m = 1 ∨ m = 2 ∨ m = 3 := by have := vm_iff.1 h; omega
theorem ft_iff {a b : Int} : ft a b = true ↔ (a = 1 ∧ b = 1) ∨ (a = 1 ∧ b = 2) ∨ (a = 2 ∧ b = 1) := by simp [ft]
theorem ft_comm (a b : Int) : ft a b = ft b a := by
  rw [Bool.eq_iff_iff, ft_iff, ft_iff]; omega
theorem ft_cl (m x : Int) : ft m (cl x) = ft m x := by
  unfold cl
  split
  · rfl
  · rename_i h
    rw [Bool.eq_iff_iff, ft_iff, ft_iff]
    rw [vm_iff] at h
    omega
theorem ft_vm {a b : Int} (h : ft a b = true) : vm a = true ∧ vm b = true := by
  rw [ft_iff] at h; rw [vm_iff, vm_iff]; omega
theorem cl_cases (x : Int) : cl x = 0 ∨ cl x = 1 ∨ cl x = 2 ∨ cl x = 3 := by
  unfold cl; split
  · rename_i h; have := vm_iff.1 h; omega
  · exact .inl rfl
theorem st_nil (i : Int) : st [] i = false := rfl
theorem st_snoc (l : List Int) (x i : Int) : st (l ++ [x]) i = (st l i || cl x == i) := by simp [st, List.any_append]
theorem st_snoc_at (l : List Int) (x : Int) : st (l ++ [x]) (cl x) = true := by rw [st_snoc]; simp
theorem st_snoc_far (l : List Int) (x i : Int) (h : cl x ≠ i) : st (l ++ [x]) i = st l i := by rw [st_snoc]; simp [h]
theorem wi_nil (m : Int) : wi m [] = true := rfl
theorem wi_snoc (m : Int) (l : List Int) (x : Int) : wi m (l ++ [x]) = (wi m l && ft m x) := by simp [wi, List.all_append]
theorem wi_append (m : Int) (l r : List Int) : wi m (l ++ r) = (wi m l && wi m r) := by simp [wi, List.all_append]
theorem ft_zero (m : Int) : ft m 0 = false := by rw [← Bool.not_eq_true, ft_iff]; omega
theorem ft_three (m : Int) : ft m 3 = false := by rw [← Bool.not_eq_true, ft_iff]; omega
theorem tk_st (l : List Int) (m : Int) : tk (st l 0) (st l 1) (st l 2) (st l 3) m = (vm m && wi m l) := by
  rw [Bool.eq_iff_iff]
  unfold tk
  simp only [Bool.and_eq_true, Bool.or_eq_true, Bool.not_eq_true']
  constructor
  · rintro ⟨⟨⟨⟨hv, h0⟩, h1⟩, h2⟩, h3⟩
    refine ⟨hv, List.all_eq_true.2 fun x hx => ?_⟩
    have key : ∀ i, cl x = i → st l i = true := fun i hi => List.any_eq_true.2 ⟨x, hx, by simp [hi]⟩
    rw [← ft_cl]
    rcases cl_cases x with h | h | h | h
    · rw [key 0 h] at h0; cases h0
    · rw [key 1 h] at h1; rcases h1 with h1 | h1
      · cases h1
      · rw [h]; exact h1
    · rw [key 2 h] at h2; rcases h2 with h2 | h2
      · cases h2
      · rw [h]; exact h2
    · rw [key 3 h] at h3; cases h3
  · rintro ⟨hv, hw⟩
    have key : ∀ i, st l i = true → ft m i = true := fun i hi => by
      obtain ⟨x, hx, he⟩ := List.any_eq_true.1 hi
      have := List.all_eq_true.1 hw x hx
      rw [← ft_cl] at this
      have e : cl x = i := by simpa using he
      rw [← e]; exact this
    refine ⟨⟨⟨⟨hv, ?_⟩, ?_⟩, ?_⟩, ?_⟩
    · cases h : st l 0 with
      | false => rfl
      | true => have := key 0 h; rw [ft_zero] at this; cases this
    · cases h : st l 1 with
      | false => exact .inl rfl
      | true => exact .inr (key 1 h)
    · cases h : st l 2 with
      | false => exact .inl rfl
      | true => exact .inr (key 2 h)
    · cases h : st l 3 with
      | false => rfl
      | true => have := key 3 h; rw [ft_three] at this; cases this
theorem gs_st (l : List Int) (m g : Int) (b : Bool) : gs (st l 0) (st l 1) (st l 2) (st l 3) m g b = goB m l g b := by
  unfold gs goB
  rw [tk_st]
  congr 1
  rw [Bool.eq_iff_iff]
  simp only [Bool.or_eq_true, decide_eq_true_eq, Bool.not_eq_true', Bool.and_eq_false_iff, decide_eq_false_iff_not]
  constructor
  · rintro ((h | h) | h)
    · exact .inl (.inl h)
    · exact .inl (.inr h)
    · exact .inr (by omega)
  · rintro ((h | h) | h)
    · exact .inl (.inl h)
    · exact .inl (.inr h)
    · exact .inr (by omega)
theorem goB_vw {m g : Int} {h : List Int} {b : Bool} (hg : goB m h g b = true) : vm m = true ∧ wi m h = true ∧ (m = 1 → b = true → g < 4) := by
  unfold goB at hg
  simp only [Bool.and_eq_true, Bool.not_eq_true', Bool.and_eq_false_iff, decide_eq_false_iff_not] at hg
  obtain ⟨⟨h1, h2⟩, h3⟩ := hg
  refine ⟨h1, h2, fun hm hb => ?_⟩
  rcases h3 with (h3 | h3) | h3
  · exact absurd hm h3
  · rw [hb] at h3; cases h3
  · omega
theorem goB_mk {m g : Int} {h : List Int} {b : Bool} (h1 : vm m = true) (h2 : wi m h = true) (h3 : m ≠ 1 ∨ b = false ∨ g < 4) : goB m h g b = true := by
  unfold goB
  rw [h1, h2]
  simp only [Bool.and_eq_true, Bool.not_eq_true', Bool.and_eq_false_iff, decide_eq_false_iff_not, true_and]
  rcases h3 with h3 | h3 | h3
  · exact .inl (.inl h3)
  · exact .inl (.inr h3)
  · exact .inr (by omega)

theorem allF_snoc : ∀ (p l : List Int) (x : Int), allF p (l ++ [x]) = (allF p l && (vm x && wi x (p ++ l)))
  | p, [], x => by simp [allF]
  | p, y :: l, x => by
    show (vm y && wi y p && allF (p ++ [y]) (l ++ [x])) = _
    rw [allF_snoc (p ++ [y]) l x]
    simp only [allF, List.append_assoc, List.singleton_append, Bool.and_assoc]
theorem allM_snoc (l : List Int) (x : Int) : allM (l ++ [x]) = (allM l && (vm x && wi x l)) := by unfold allM; rw [allF_snoc]; rfl
theorem allM_nil : allM [] = true := rfl

theorem grant_le : ∀ (h q : List Int) (g : Int), grant h q g ≤ q.length
  | _, [], _ => Nat.le_refl _
  | h, x :: q, g => by
    unfold grant
    split
    · have := grant_le (h ++ [x]) q (if x = 1 then g + 1 else g)
      simp; omega
    · simp
theorem grant_nil (h : List Int) (g : Int) : grant h [] g = 0 := rfl
theorem grant_yes {h q : List Int} {x g : Int} (hg : goB x h g (!q.isEmpty) = true) : grant h (x :: q) g = grant (h ++ [x]) q (if x = 1 then g + 1 else g) + 1 := by
  rw [grant, if_pos hg]
theorem grant_no {h q : List Int} {x g : Int} (hg : goB x h g (!q.isEmpty) = false) : grant h (x :: q) g = 0 := by
  rw [grant, if_neg (by rw [hg]; simp)]
theorem grant_all : ∀ (h q : List Int) (g : Int), allM h = true → allM (h ++ q.take (grant h q g)) = true
  | h, [], g, ha => by simpa [grant] using ha
  | h, x :: q, g, ha => by
    cases hg : goB x h g (!q.isEmpty) with
    | false => rw [grant_no hg]; simpa using ha
    | true =>
      rw [grant_yes hg, List.take_succ_cons]
      obtain ⟨h1, h2, _⟩ := goB_vw hg
      have := grant_all (h ++ [x]) q (if x = 1 then g + 1 else g) (by rw [allM_snoc, ha, h1, h2]; rfl)
      simpa using this
theorem s1_nil : s1 [] = 0 := rfl
theorem s1_cons (x : Int) (l : List Int) : s1 (x :: l) = s1 l + if x = 1 then 1 else 0 := by
  unfold s1
  rw [List.countP_cons]
  by_cases h : x = 1 <;> simp [h]
theorem s1_snoc (l : List Int) (x : Int) : s1 (l ++ [x]) = s1 l + if x = 1 then 1 else 0 := by
  unfold s1
  rw [List.countP_append, List.countP_cons]
  by_cases h : x = 1 <;> simp [h]
theorem s1_nonneg (l : List Int) : 0 ≤ s1 l := by unfold s1; omega
theorem s1_le (l : List Int) : s1 l ≤ l.length := by unfold s1; have := List.countP_le_length (p := fun x : Int => x == 1) (l := l); omega
theorem grant_cnt : ∀ (h q : List Int) (g : Int), grant h q g < q.length → 0 < s1 (q.take (grant h q g)) → g + s1 (q.take (grant h q g)) ≤ 4
  | h, [], g, hl, _ => by simp [grant] at hl
  | h, x :: q, g, hl, hs => by
    cases hg : goB x h g (!q.isEmpty) with
    | false => rw [grant_no hg] at hs; simp [s1] at hs
    | true =>
      rw [grant_yes hg] at hl hs ⊢
      rw [List.take_succ_cons, s1_cons] at hs ⊢
      simp only [List.length_cons] at hl
      have ih := grant_cnt (h ++ [x]) q (if x = 1 then g + 1 else g) (by omega)
      have h0 := s1_nonneg (q.take (grant (h ++ [x]) q (if x = 1 then g + 1 else g)))
      obtain ⟨_, _, h3⟩ := goB_vw hg
      have hne : (!q.isEmpty) = true := by
        cases q with
        | nil => simp at hl
        | cons y q => rfl
      by_cases hx : x = 1
      · rw [if_pos hx] at hl hs ih h0 ⊢
        have := h3 hx hne
        by_cases hp : 0 < s1 (q.take (grant (h ++ [x]) q (g + 1)))
        · have := ih hp; simp only [if_pos hx]; omega
        · simp only [if_pos hx]; omega
      · rw [if_neg hx] at hl hs ih h0 ⊢
        have := ih (by simpa [hx] using hs)
        simpa [hx] using this
theorem grant_stop : ∀ (h q : List Int) (g : Int) (x : Int), q[grant h q g]? = some x →
    goB x (h ++ q.take (grant h q g)) (g + s1 (q.take (grant h q g))) (decide (grant h q g + 1 < q.length)) = false
  | h, [], g, x, hx => by simp at hx
  | h, y :: q, g, x, hx => by
    cases hg : goB y h g (!q.isEmpty) with
    | false =>
      rw [grant_no hg] at hx ⊢
      simp only [List.getElem?_cons_zero, Option.some.injEq] at hx
      subst hx
      simp only [List.take_zero, List.append_nil, s1_nil, Int.add_zero]
      rw [← hg]
      congr 1
      cases q <;> simp
    | true =>
      rw [grant_yes hg] at hx ⊢
      rw [List.getElem?_cons_succ] at hx
      have ih := grant_stop (h ++ [y]) q (if y = 1 then g + 1 else g) x hx
      rw [List.take_succ_cons, s1_cons]
      rw [show h ++ y :: q.take (grant (h ++ [y]) q (if y = 1 then g + 1 else g)) = h ++ [y] ++ q.take (grant (h ++ [y]) q (if y = 1 then g + 1 else g)) by simp]
      rw [show (decide (grant (h ++ [y]) q (if y = 1 then g + 1 else g) + 1 + 1 < (y :: q).length)) = decide (grant (h ++ [y]) q (if y = 1 then g + 1 else g) + 1 < q.length) by simp]
      rw [← ih]
      congr 1
      split <;> omega
/-- The first of a queue of valid modes may be given, if nothing is held. -/
theorem grant_first {q : List Int} {x : Int} (hv : vm x = true) (g : Int) (hg : g < 4) : 0 < grant [] (x :: q) g := by
  rw [grant_yes (goB_mk hv (wi_nil _) (.inr (.inr hg)))]; omega
#print axioms grant_stop
end Go.Proofs.YthnmjildeenecaaDoor
