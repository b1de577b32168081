/- ModM, Laid, Args, Li, LtA, Rw in one text (by mkbundle.py). -/
import Derived.Test.YticbbfcachnkiaaGreatDoorBn1
import Derived.LaidMore
import Derived.OpenShut
import Derived.Deep.AppendSrc
import Derived.Lib.AppendZerosOnto
/- Modes: what goes together, what may be given. Plain facts, no Go text. -/
namespace Go.Proofs.YticbbfcachnkiaaGreatDoor

/-- Whether a number is a mode; whether two go together; whether one goes with each of some. -/
def vm (m : Int) : Bool := decide (1 ≤ m ∧ m ≤ 3)
def ft (a b : Int) : Bool := decide ((a = 1 ∧ b = 1) ∨ (a = 1 ∧ b = 2) ∨ (a = 2 ∧ b = 1))
def wi (m : Int) (l : List Int) : Bool := l.all (ft m)
/-- Whether all of some go together, and with those before them. -/
def allF : List Int → List Int → Bool
  | _, [] => true
  | p, x :: xs => vm x && wi x p && allF (p ++ [x]) xs
def allM (l : List Int) : Bool := allF [] l
/-- Whether a mode may be given. -/
def goB (m : Int) (h : List Int) (g : Int) (b : Bool) : Bool := vm m && wi m h && !(decide (m = 1) && b && decide (4 ≤ g))
/-- How many of a queue may be given. -/
def grant : List Int → List Int → Int → Nat
  | _, [], _ => 0
  | h, x :: q, g => if goB x h g (!q.isEmpty) = true then grant (h ++ [x]) q (if x = 1 then g + 1 else g) + 1 else 0
/-- How many of some are shared. -/
def s1 (l : List Int) : Int := (l.countP (fun x => x == 1) : Nat)
/-- The set of some modes, bit by bit. -/
def cl (m : Int) : Int := if vm m = true then m else 0
def st (l : List Int) (i : Int) : Bool := l.any fun x => cl x == i
def tk (b0 b1 b2 b3 : Bool) (m : Int) : Bool := vm m && !b0 && (!b1 || ft m 1) && (!b2 || ft m 2) && !b3
def gs (b0 b1 b2 b3 : Bool) (m g : Int) (b : Bool) : Bool := tk b0 b1 b2 b3 m && (decide (m ≠ 1) || !b || decide (g < 4))

theorem vm_iff {m : Int} : vm m = true ↔ 1 ≤ m ∧ m ≤ 3 := by simp [vm]
theorem vm_not {m : Int} : vm m = false ↔ m < 1 ∨ 3 < m := by
  rw [← Bool.not_eq_true, vm_iff]; omega
theorem vm_cases {m : Int} (h : vm m = true) : m = 1 ∨ m = 2 ∨ m = 3 := by have := vm_iff.1 h; omega
theorem ft_iff {a b : Int} : ft a b = true ↔ (a = 1 ∧ b = 1) ∨ (a = 1 ∧ b = 2) ∨ (a = 2 ∧ b = 1) := by simp [ft]
theorem ft_comm (a b : Int) : ft a b = ft b a := by
  rw [Bool.eq_iff_iff, ft_iff, ft_iff]; omega
theorem ft_cl (m x : Int) : ft m (cl x) = ft m x := by
  unfold cl
  split
  · rfl
  · rename_i h
    rw [Bool.eq_iff_iff, ft_iff, ft_iff]
    rw [vm_iff] at h
    omega
theorem ft_vm {a b : Int} (h : ft a b = true) : vm a = true ∧ vm b = true := by
  rw [ft_iff] at h; rw [vm_iff, vm_iff]; omega
theorem cl_cases (x : Int) : cl x = 0 ∨ cl x = 1 ∨ cl x = 2 ∨ cl x = 3 := by
  unfold cl; split
  · rename_i h; have := vm_iff.1 h; omega
  · exact .inl rfl
theorem st_nil (i : Int) : st [] i = false := rfl
theorem st_snoc (l : List Int) (x i : Int) : st (l ++ [x]) i = (st l i || cl x == i) := by simp [st, List.any_append]
theorem st_snoc_at (l : List Int) (x : Int) : st (l ++ [x]) (cl x) = true := by rw [st_snoc]; simp
theorem st_snoc_far (l : List Int) (x i : Int) (h : cl x ≠ i) : st (l ++ [x]) i = st l i := by rw [st_snoc]; simp [h]
theorem wi_nil (m : Int) : wi m [] = true := rfl
theorem wi_snoc (m : Int) (l : List Int) (x : Int) : wi m (l ++ [x]) = (wi m l && ft m x) := by simp [wi, List.all_append]
theorem wi_append (m : Int) (l r : List Int) : wi m (l ++ r) = (wi m l && wi m r) := by simp [wi, List.all_append]
theorem ft_zero (m : Int) : ft m 0 = false := by rw [← Bool.not_eq_true, ft_iff]; omega
theorem ft_three (m : Int) : ft m 3 = false := by rw [← Bool.not_eq_true, ft_iff]; omega
theorem tk_st (l : List Int) (m : Int) : tk (st l 0) (st l 1) (st l 2) (st l 3) m = (vm m && wi m l) := by
  rw [Bool.eq_iff_iff]
  unfold tk
  simp only [Bool.and_eq_true, Bool.or_eq_true, Bool.not_eq_true']
  constructor
  · rintro ⟨⟨⟨⟨hv, h0⟩, h1⟩, h2⟩, h3⟩
    refine ⟨hv, List.all_eq_true.2 fun x hx => ?_⟩
    have key : ∀ i, cl x = i → st l i = true := fun i hi => List.any_eq_true.2 ⟨x, hx, by simp [hi]⟩
    rw [← ft_cl]
    rcases cl_cases x with h | h | h | h
    · rw [key 0 h] at h0; cases h0
    · rw [key 1 h] at h1; rcases h1 with h1 | h1
      · cases h1
      · rw [h]; exact h1
    · rw [key 2 h] at h2; rcases h2 with h2 | h2
      · cases h2
      · rw [h]; exact h2
    · rw [key 3 h] at h3; cases h3
  · rintro ⟨hv, hw⟩
    have key : ∀ i, st l i = true → ft m i = true := fun i hi => by
      obtain ⟨x, hx, he⟩ := List.any_eq_true.1 hi
      have := List.all_eq_true.1 hw x hx
      rw [← ft_cl] at this
      have e : cl x = i := by simpa using he
      rw [← e]; exact this
    refine ⟨⟨⟨⟨hv, ?_⟩, ?_⟩, ?_⟩, ?_⟩
    · cases h : st l 0 with
      | false => rfl
      | true => have := key 0 h; rw [ft_zero] at this; cases this
    · cases h : st l 1 with
      | false => exact .inl rfl
      | true => exact .inr (key 1 h)
    · cases h : st l 2 with
      | false => exact .inl rfl
      | true => exact .inr (key 2 h)
    · cases h : st l 3 with
      | false => rfl
      | true => have := key 3 h; rw [ft_three] at this; cases this
theorem gs_st (l : List Int) (m g : Int) (b : Bool) : gs (st l 0) (st l 1) (st l 2) (st l 3) m g b = goB m l g b := by
  unfold gs goB
  rw [tk_st]
  congr 1
  rw [Bool.eq_iff_iff]
  simp only [Bool.or_eq_true, decide_eq_true_eq, Bool.not_eq_true', Bool.and_eq_false_iff, decide_eq_false_iff_not]
  constructor
  · rintro ((h | h) | h)
    · exact .inl (.inl h)
    · exact .inl (.inr h)
    · exact .inr (by omega)
  · rintro ((h | h) | h)
    · exact .inl (.inl h)
    · exact .inl (.inr h)
    · exact .inr (by omega)
theorem goB_vw {m g : Int} {h : List Int} {b : Bool} (hg : goB m h g b = true) : vm m = true ∧ wi m h = true ∧ (m = 1 → b = true → g < 4) := by
  unfold goB at hg
  simp only [Bool.and_eq_true, Bool.not_eq_true', Bool.and_eq_false_iff, decide_eq_false_iff_not] at hg
  obtain ⟨⟨h1, h2⟩, h3⟩ := hg
  refine ⟨h1, h2, fun hm hb => ?_⟩
  rcases h3 with (h3 | h3) | h3
  · exact absurd hm h3
  · rw [hb] at h3; cases h3
  · omega
theorem goB_mk {m g : Int} {h : List Int} {b : Bool} (h1 : vm m = true) (h2 : wi m h = true) (h3 : m ≠ 1 ∨ b = false ∨ g < 4) : goB m h g b = true := by
  unfold goB
  rw [h1, h2]
  simp only [Bool.and_eq_true, Bool.not_eq_true', Bool.and_eq_false_iff, decide_eq_false_iff_not, true_and]
  rcases h3 with h3 | h3 | h3
  · exact .inl (.inl h3)
  · exact .inl (.inr h3)
  · exact .inr (by omega)

theorem allF_snoc : ∀ (p l : List Int) (x : Int), allF p (l ++ [x]) = (allF p l && (vm x && wi x (p ++ l)))
  | p, [], x => by simp [allF]
  | p, y :: l, x => by
    show (vm y && wi y p && allF (p ++ [y]) (l ++ [x])) = _
    rw [allF_snoc (p ++ [y]) l x]
    simp only [allF, List.append_assoc, List.singleton_append, Bool.and_assoc]
theorem allM_snoc (l : List Int) (x : Int) : allM (l ++ [x]) = (allM l && (vm x && wi x l)) := by unfold allM; rw [allF_snoc]; rfl
theorem allM_nil : allM [] = true := rfl

theorem grant_le : ∀ (h q : List Int) (g : Int), grant h q g ≤ q.length
  | _, [], _ => Nat.le_refl _
  | h, x :: q, g => by
    unfold grant
    split
    · have := grant_le (h ++ [x]) q (if x = 1 then g + 1 else g)
      simp; omega
    · simp
theorem grant_nil (h : List Int) (g : Int) : grant h [] g = 0 := rfl
theorem grant_yes {h q : List Int} {x g : Int} (hg : goB x h g (!q.isEmpty) = true) : grant h (x :: q) g = grant (h ++ [x]) q (if x = 1 then g + 1 else g) + 1 := by
  rw [grant, if_pos hg]
theorem grant_no {h q : List Int} {x g : Int} (hg : goB x h g (!q.isEmpty) = false) : grant h (x :: q) g = 0 := by
  rw [grant, if_neg (by rw [hg]; simp)]
theorem grant_all : ∀ (h q : List Int) (g : Int), allM h = true → allM (h ++ q.take (grant h q g)) = true
  | h, [], g, ha => by simpa [grant] using ha
  | h, x :: q, g, ha => by
    cases hg : goB x h g (!q.isEmpty) with
    | false => rw [grant_no hg]; simpa using ha
    | true =>
      rw [grant_yes hg, List.take_succ_cons]
      obtain ⟨h1, h2, _⟩ := goB_vw hg
      have := grant_all (h ++ [x]) q (if x = 1 then g + 1 else g) (by rw [allM_snoc, ha, h1, h2]; rfl)
      simpa using this
theorem s1_nil : s1 [] = 0 := rfl
theorem s1_cons (x : Int) (l : List Int) : s1 (x :: l) = s1 l + if x = 1 then 1 else 0 := by
  unfold s1
  rw [List.countP_cons]
  by_cases h : x = 1 <;> simp [h]
theorem s1_snoc (l : List Int) (x : Int) : s1 (l ++ [x]) = s1 l + if x = 1 then 1 else 0 := by
  unfold s1
  rw [List.countP_append, List.countP_cons]
  by_cases h : x = 1 <;> simp [h]
theorem s1_nonneg (l : List Int) : 0 ≤ s1 l := by unfold s1; omega
theorem s1_le (l : List Int) : s1 l ≤ l.length := by unfold s1; have := List.countP_le_length (p := fun x : Int => x == 1) (l := l); omega
theorem grant_cnt : ∀ (h q : List Int) (g : Int), grant h q g < q.length → 0 < s1 (q.take (grant h q g)) → g + s1 (q.take (grant h q g)) ≤ 4
  | h, [], g, hl, _ => by simp [grant] at hl
  | h, x :: q, g, hl, hs => by
    cases hg : goB x h g (!q.isEmpty) with
    | false => rw [grant_no hg] at hs; simp [s1] at hs
    | true =>
      rw [grant_yes hg] at hl hs ⊢
      rw [List.take_succ_cons, s1_cons] at hs ⊢
      simp only [List.length_cons] at hl
      have ih := grant_cnt (h ++ [x]) q (if x = 1 then g + 1 else g) (by omega)
      have h0 := s1_nonneg (q.take (grant (h ++ [x]) q (if x = 1 then g + 1 else g)))
      obtain ⟨_, _, h3⟩ := goB_vw hg
      have hne : (!q.isEmpty) = true := by
        cases q with
        | nil => simp at hl
        | cons y q => rfl
      by_cases hx : x = 1
      · rw [if_pos hx] at hl hs ih h0 ⊢
        have := h3 hx hne
        by_cases hp : 0 < s1 (q.take (grant (h ++ [x]) q (g + 1)))
        · have := ih hp; simp only [if_pos hx]; omega
        · simp only [if_pos hx]; omega
      · rw [if_neg hx] at hl hs ih h0 ⊢
        have := ih (by simpa [hx] using hs)
        simpa [hx] using this
theorem grant_stop : ∀ (h q : List Int) (g : Int) (x : Int), q[grant h q g]? = some x →
    goB x (h ++ q.take (grant h q g)) (g + s1 (q.take (grant h q g))) (decide (grant h q g + 1 < q.length)) = false
  | h, [], g, x, hx => by simp at hx
  | h, y :: q, g, x, hx => by
    cases hg : goB y h g (!q.isEmpty) with
    | false =>
      rw [grant_no hg] at hx ⊢
      simp only [List.getElem?_cons_zero, Option.some.injEq] at hx
      subst hx
      simp only [List.take_zero, List.append_nil, s1_nil, Int.add_zero]
      rw [← hg]
      congr 1
      cases q <;> simp
    | true =>
      rw [grant_yes hg] at hx ⊢
      rw [List.getElem?_cons_succ] at hx
      have ih := grant_stop (h ++ [y]) q (if y = 1 then g + 1 else g) x hx
      rw [List.take_succ_cons, s1_cons]
      rw [show h ++ y :: q.take (grant (h ++ [y]) q (if y = 1 then g + 1 else g)) = h ++ [y] ++ q.take (grant (h ++ [y]) q (if y = 1 then g + 1 else g)) by simp]
      rw [show (decide (grant (h ++ [y]) q (if y = 1 then g + 1 else g) + 1 + 1 < (y :: q).length)) = decide (grant (h ++ [y]) q (if y = 1 then g + 1 else g) + 1 < q.length) by simp]
      rw [← ih]
      congr 1
      split <;> omega
/-- The first of a queue of valid modes may be given, if nothing is held. -/
theorem grant_first {q : List Int} {x : Int} (hv : vm x = true) (g : Int) (hg : g < 4) : 0 < grant [] (x :: q) g := by
  rw [grant_yes (goB_mk hv (wi_nil _) (.inr (.inr hg)))]; omega
#print axioms grant_stop
end Go.Proofs.YticbbfcachnkiaaGreatDoor

/- What a listed package-level variable gives the walks: tables of bools, of bools in rows, of strings. No type of the program in it. -/
namespace Go.Proofs.YticbbfcachnkiaaGreatDoor
open Go.ChangeShapes Go.WideShapes Go.ChangeAt Go.RowKit

theorem one_at {α : Type} {cs : List α} {i k : Nat} {c : α} (hk : k = 1) (h : (cs.drop (i * k)).take k = [c]) : cs[i]? = some c := by
  subst hk
  have := congrArg (fun l : List α => l[0]?) h
  simpa [List.getElem?_take, List.getElem?_drop] using this

section
variable {H : Type} {enc : TypeId × Value → H} {P : Program} {w : World} {base : Nat} {sp : Nat → Bool} {held : Bool} {fuel : Nat} {t e : TypeId} {n : Nat} {cs : List Value} {q : List MemPlace}
/-- An array of bools. -/
theorem bools_of_trod {bs : List Bool} (ht : P.underlying t = some (.array n e)) (he : P.underlying e = some .bool) (hc : P.cellsOf e = 1)
    (h : DataW.trod enc P w base sp held fuel t cs = some (.agg (bs.map fun b => DataW.lit (.bool b)), q)) : ∀ (i : Nat) (b : Bool), bs[i]? = some b → cs[i]? = some (Value.bool b) := by
  obtain ⟨xs, m, rfl, hx, _, hn, hel⟩ := DataW.trod_array ht h
  simp only [Prod.mk.injEq, DataW.agg.injEq] at hx
  intro i b hb
  have hm : (bs.map fun b => (DataW.lit (.bool b) : DataW H))[i]? = some (.lit (.bool b)) := by rw [List.getElem?_map, hb]; rfl
  rw [hx.1, List.getElem?_map] at hm
  cases hy : xs[i]? with
  | none => rw [hy] at hm; cases hm
  | some y =>
    rw [hy] at hm
    have hi : i < n := by rw [← hn]; exact (List.getElem?_eq_some_iff.1 hy).1
    have h1 := hel i hi
    rw [hy] at h1
    obtain ⟨b', hb', rfl⟩ := DataW.trod_bool he h1
    simp only [Option.map_some, Option.some.injEq, DataW.lit.injEq, Lit.bool.injEq] at hm
    subst hm
    exact one_at hc hb'
/-- An array of strings. -/
theorem strings_of_trod {ss : List (List UInt8)} (ht : P.underlying t = some (.array n e)) (he : P.underlying e = some .string) (hc : P.cellsOf e = 1)
    (h : DataW.trod enc P w base sp held fuel t cs = some (.agg (ss.map fun s => DataW.lit (.string s)), q)) : ∀ (i : Nat) (s : List UInt8), ss[i]? = some s → cs[i]? = some (Value.string ⟨s.toArray⟩) := by
  obtain ⟨xs, m, rfl, hx, _, hn, hel⟩ := DataW.trod_array ht h
  simp only [Prod.mk.injEq, DataW.agg.injEq] at hx
  intro i s hs
  have hm : (ss.map fun s => (DataW.lit (.string s) : DataW H))[i]? = some (.lit (.string s)) := by rw [List.getElem?_map, hs]; rfl
  rw [hx.1, List.getElem?_map] at hm
  cases hy : xs[i]? with
  | none => rw [hy] at hm; cases hm
  | some y =>
    rw [hy] at hm
    have hi : i < n := by rw [← hn]; exact (List.getElem?_eq_some_iff.1 hy).1
    have h1 := hel i hi
    rw [hy] at h1
    obtain ⟨s', hs', rfl, _⟩ := DataW.trod_string he h1
    simp only [Option.map_some, Option.some.injEq, DataW.lit.injEq, Lit.string.injEq] at hm
    subst hm
    rw [one_at hc hs']
/-- An array of rows of bools: e is a row's type, of k cells, b a bool's. -/
theorem rows_of_trod {b : TypeId} {k : Nat} {rs : List (List Bool)} (ht : P.underlying t = some (.array n e)) (he : P.underlying e = some (.array k b)) (hb : P.underlying b = some .bool) (hcb : P.cellsOf b = 1) (hce : P.cellsOf e = k)
    (h : DataW.trod enc P w base sp held fuel t cs = some (.agg (rs.map fun r => DataW.agg (r.map fun b => DataW.lit (.bool b))), q)) : ∀ (i j : Nat) (r : List Bool) (x : Bool), rs[i]? = some r → r[j]? = some x → j < k → cs[i * k + j]? = some (Value.bool x) := by
  obtain ⟨xs, m, rfl, hx, _, hn, hel⟩ := DataW.trod_array ht h
  simp only [Prod.mk.injEq, DataW.agg.injEq] at hx
  intro i j r x hr hj hjk
  have hm : (rs.map fun r => (DataW.agg (r.map fun b => DataW.lit (.bool b)) : DataW H))[i]? = some (DataW.agg (r.map fun b => DataW.lit (.bool b))) := by rw [List.getElem?_map, hr]; rfl
  rw [hx.1, List.getElem?_map] at hm
  cases hy : xs[i]? with
  | none => rw [hy] at hm; cases hm
  | some y =>
    rw [hy] at hm
    have hi : i < n := by rw [← hn]; exact (List.getElem?_eq_some_iff.1 hy).1
    have h1 := hel i hi
    rw [hy, hce] at h1
    simp only [Option.map_some, Option.some.injEq] at hm
    obtain ⟨d, q'⟩ := y
    subst hm
    have := bools_of_trod he hb hcb h1 j x hj
    rw [List.getElem?_take, if_pos hjk, List.getElem?_drop] at this
    exact this
end
#print axioms rows_of_trod
end Go.Proofs.YticbbfcachnkiaaGreatDoor

/- Arguments that came in: slices of integers. -/
namespace Go.Proofs.YticbbfcachnkiaaGreatDoor
open Go.ChangeShapes Go.WideShapes Go.ChangeAt Go.RowKit

/-- What is known of a slice of integers that came in: it is nil; or it leads to a row of 'cap' cells, the numbers 'zs' (the first 'len' are its elements). -/
def IsRow (k : IntKind) (w : World) (a : Option Addr) (len cap : Nat) (zs : List Int) : Prop :=
  (a = none ∧ len = 0 ∧ cap = 0 ∧ zs = []) ∨
  ∃ x : Addr, a = some x ∧ len ≤ cap ∧ cap ≤ maxLen ∧ zs.length = cap ∧ (∀ i, i < zs.length → w.cell? (x.add i) = some (.int k (zs.getD i 0))) ∧ ∀ n ∈ zs, (Lit.int k n).wf = true
theorem isRow_of {H : Type} {enc : TypeId × Value → H} {W : World} {T E : TypeId} {k : IntKind} {a : Option Addr} {len cap : Nat} {d : DataW H} {p : List MemPlace}
    (hT : Tryz.prog.underlying T = some (.slice E)) (hE : Tryz.prog.underlying E = some (.int k)) (hC : Tryz.prog.cellsOf E = 1)
    (h0 : DataW.Trod enc Tryz.prog W 0 (fun _ => true) true T (.slice a len cap) d p) : ∃ zs, IsRow k W a len cap zs := by
  obtain ⟨fuel, hf⟩ := h0
  rcases open_ints hT hE hC hf with ⟨hcs, _⟩ | ⟨x, l, c, zs, hcs, _, hl, hm, hz, _, hcell, hwz⟩
  · simp [Value.cells] at hcs
    obtain ⟨rfl, rfl, rfl⟩ := hcs
    exact ⟨[], .inl ⟨rfl, rfl, rfl, rfl⟩⟩
  · simp [Value.cells] at hcs
    obtain ⟨rfl, rfl, rfl⟩ := hcs
    exact ⟨zs, .inr ⟨_, rfl, hl, hm, by simpa using hz, hcell, hwz⟩⟩
theorem spot_of_cell {w : World} {x : Addr} {v : Value} (h : w.cell? x = some v) : x = ⟨x.block, x.off, none⟩ := by
  obtain ⟨b, o, sp⟩ := x
  cases sp with
  | none => rfl
  | some s =>
    exfalso
    unfold World.cell? at h
    simp only [Option.isSome_some, if_true] at h
    split at h <;> cases h
theorem IsRow.rd {k : IntKind} {w : World} {a : Option Addr} {len cap : Nat} {zs : List Int} (h : IsRow k w a len cap zs) (hl : 0 < len) :
    Rd w (.slice a len cap) ((zs.take len).map (Value.int k)) ∧ (zs.take len).length = len ∧ len ≤ cap ∧ cap ≤ maxLen ∧ (∀ n ∈ zs.take len, (Lit.int k n).wf = true) ∧
    ∃ b o, a = some ⟨b, o, none⟩ ∧ b < w.heap.size ∧ ∀ i x, (zs.take len)[i]? = some x → w.cell? ⟨b, o + i, none⟩ = some (.int k x) := by
  rcases h with ⟨_, h0, _⟩ | ⟨x, rfl, hlc, hm, hz, hcell, hwf⟩
  · omega
  · have hlen : (zs.take len).length = len := by rw [List.length_take]; omega
    have hx := spot_of_cell (hcell 0 (by omega))
    have hx' : x.add 0 = x := by simp [Addr.add]
    rw [hx'] at hx
    obtain ⟨b, o, sp⟩ := x
    simp only [Addr.mk.injEq, true_and] at hx
    subst hx
    have hb : b < w.heap.size := World.block_lt_of_cell? w _ (hcell 0 (by omega))
    have hr : ∀ i x, (zs.take len)[i]? = some x → w.cell? ⟨b, o + i, none⟩ = some (.int k x) := by
      intro i x hi
      have hil : i < len := by have := (List.getElem?_eq_some_iff.1 hi).1; omega
      rw [List.getElem?_take, if_pos hil] at hi
      have := hcell i (by omega)
      have e : (⟨b, o, none⟩ : Addr).add i = ⟨b, o + i, none⟩ := by
        by_cases h0 : i = 0
        · subst h0; simp [Addr.add]
        · simp [Addr.add, h0]
      rw [e, List.getD_eq_getElem?_getD, hi] at this
      exact this
    refine ⟨.inr ⟨b, o, cap, by rw [List.length_map, hlen], by rw [List.length_map, hlen]; exact hlc, hb, fun i u hu => ?_⟩, hlen, hlc, hm, fun n hn => hwf n (List.mem_of_mem_take hn), b, o, rfl, hb, hr⟩
    rw [List.getElem?_map] at hu
    cases hi : (zs.take len)[i]? with
    | none => rw [hi] at hu; cases hu
    | some x => rw [hi] at hu; cases hu; exact hr i x hi
end Go.Proofs.YticbbfcachnkiaaGreatDoor

/- Slices that are read alone, as lists of numbers. -/
namespace Go.Proofs.YticbbfcachnkiaaGreatDoor
open Go.ChangeShapes Go.WideShapes Go.ChangeAt Go.RowKit

/-- A slice of integers that is read alone. -/
structure Li (k : IntKind) (w : World) (a : Option Addr) (n c b o : Nat) (l : List Int) : Prop where
  len : l.length = n
  ad : 0 < n → a = some ⟨b, o, none⟩
  cell : ∀ i x, l[i]? = some x → w.cell? ⟨b, o + i, none⟩ = some (.int k x)
  cap : n ≤ c

namespace Li
variable {k : IntKind} {w w' : World} {a : Option Addr} {n c b o : Nat} {l : List Int}
theorem lt (h : Li k w a n c b o l) (hn : 0 < n) : b < w.heap.size := by
  have hl := h.len
  have := h.cell 0 (l[0]'(by omega)) (List.getElem?_eq_getElem _)
  exact World.block_lt_of_cell? w _ this
theorem frm {D : List Nat} (h : Li k w a n c b o l) (hf : Frm D w w') (hd : 0 < n → b ∉ D) : Li k w' a n c b o l := by
  refine ⟨h.len, h.ad, fun i x hx => ?_, h.cap⟩
  have hn : 0 < n := by have := (List.getElem?_eq_some_iff.1 hx).1; have := h.len; omega
  rw [hf.cell (h.lt hn) (hd hn)]; exact h.cell i x hx
theorem frm0 (h : Li k w a n c b o l) (hf : Frm [] w w') : Li k w' a n c b o l := h.frm hf (by simp)
theorem nil (w : World) (b o : Nat) : Li k w none 0 0 b o [] := ⟨rfl, fun h => by omega, fun i x hx => by simp at hx, by omega⟩
theorem get (h : Li k w a n c b o l) {i : Nat} (hi : i < n) : ∃ x, l[i]? = some x ∧ l.getD i 0 = x ∧ w.cell? ⟨b, o + i, none⟩ = some (.int k x) := by
  have hl := h.len
  have e : l[i]? = some (l[i]'(by omega)) := List.getElem?_eq_getElem _
  exact ⟨_, e, by rw [List.getD_eq_getElem?_getD, e]; rfl, h.cell _ _ e⟩
/-- What is behind the first i. -/
theorem drop (h : Li k w a n c b o l) {i : Nat} (hi : i ≤ n) : Li k w (a.map (fun x => x.add i)) (n - i) (c - i) b (o + i) (l.drop i) := by
  have hc := h.cap
  refine ⟨by rw [List.length_drop, h.len], fun hp => ?_, fun j x hx => ?_, by omega⟩
  · rw [h.ad (by omega)]
    simp only [Option.map_some, Option.some.injEq]
    by_cases e : i = 0
    · subst e; simp [Addr.add]
    · simp [Addr.add, e]
  · rw [List.getElem?_drop] at hx
    rw [Nat.add_assoc]; exact h.cell _ _ hx
end Li

theorem ix_u8 {a : Option Addr} {n c b o k : Nat} (ha : 0 < n → a = some ⟨b, o, none⟩) (hk : k < n) (w : World) : (Instr.indexAt 22 (.slice a n c) (.int .i64 (k : Int))).run Tryz.prog w = .ok (.pointer (some ⟨b, o + k, none⟩)) w := by
  obtain rfl := ha (by omega)
  have h1 : (k : Int) < (n : Int) := by omega
  simp [go_sem, h1]
theorem li_of_row {k : IntKind} {w : World} {a : Option Addr} {n c : Nat} {zs : List Int} (h : IsRow k w a n c zs) : ∃ b o, Li k w a n c b o (zs.take n) ∧ (∀ x ∈ zs.take n, (Lit.int k x).wf = true) ∧ (0 < n → b < w.heap.size) := by
  by_cases hl : 0 < n
  · obtain ⟨_, h2, h3, _, h5, b, o, rfl, hb, hr⟩ := h.rd hl
    exact ⟨b, o, ⟨h2, fun _ => rfl, hr, h3⟩, h5, fun _ => hb⟩
  · obtain rfl : n = 0 := by omega
    exact ⟨0, 0, ⟨by simp, fun h => by omega, fun i x hx => by simp at hx, by omega⟩, fun x hx => by simp at hx, fun h => by omega⟩

/-- The block of a slice. -/
def blk : Value → List Nat
  | .slice (some a) _ _ => [a.block]
  | _ => []
theorem blk_none (n c : Nat) : blk (.slice none n c) = [] := rfl
end Go.Proofs.YticbbfcachnkiaaGreatDoor

/- Package modes: the tables, Valid, Fits. -/
namespace Go.Proofs.YticbbfcachnkiaaGreatDoor
open Go.ChangeShapes Go.WideShapes Go.ChangeAt Go.RowKit

theorem ix_md {a : Option Addr} {n c b o k : Nat} (ha : 0 < n → a = some ⟨b, o, none⟩) (hk : k < n) (w : World) : (Instr.indexAt 100 (.slice a n c) (.int .i64 (k : Int))).run Tryz.prog w = .ok (.pointer (some ⟨b, o + k, none⟩)) w := by
  obtain rfl := ha (by omega)
  have h1 : (k : Int) < (n : Int) := by omega
  simp [go_sem, h1]

/-- The tables of the chapter: what goes together, the words. -/
def tog : List (List Bool) := [[false, false, false, false], [false, true, true, false], [false, true, false, false], [false, false, false, false]]
/-- The table of math/bits. -/
def dbT : List Int := [0, 1, 56, 2, 57, 49, 28, 3, 61, 58, 42, 50, 38, 29, 17, 4, 62, 47, 59, 36, 45, 43, 51, 22, 53, 39, 33, 30, 24, 18, 12, 5, 63, 55, 48, 27, 60, 41, 37, 16, 46, 35, 44, 21, 52, 32, 23, 11, 54, 26, 40, 15, 34, 20, 31, 10, 25, 14, 19, 9, 13, 8, 7, 6]
/-- The package-level variables read as they are laid. -/
structure Laid (w : World) : Prop where
  tg : ∀ (i j : Nat) (r : List Bool) (x : Bool), tog[i]? = some r → r[j]? = some x → j < 4 → w.cell? ⟨1, i * 4 + j, none⟩ = some (.bool x)
  db : ∀ (i : Nat) (x : Int), dbT[i]? = some x → w.cell? ⟨0, i, none⟩ = some (.int .u8 x)

theorem gTog : Tryz.prog.globalNamed "ticketline/modes.together" = some 1 := by kernel_rfl
theorem gDbt : Tryz.prog.globalNamed "math/bits.deBruijn64tab" = some 0 := by kernel_rfl
theorem tTog : (Tryz.prog.globals[1]?).map (·.type) = some 213 := by kernel_rfl
theorem tDbt : (Tryz.prog.globals[0]?).map (·.type) = some 206 := by kernel_rfl
theorem u8s_of_trod {H : Type} {enc : TypeId × Value → H} {P : Program} {w : World} {base : Nat} {sp : Nat → Bool} {held : Bool} {fuel : Nat} {t e : TypeId} {n : Nat} {cs : List Value} {q : List MemPlace} {bs : List Int} (ht : P.underlying t = some (.array n e)) (he : P.underlying e = some (.int .u8)) (hc : P.cellsOf e = 1)
    (h : DataW.trod enc P w base sp held fuel t cs = some (.agg (bs.map fun b => DataW.lit (.int .u8 b)), q)) : ∀ (i : Nat) (b : Int), bs[i]? = some b → cs[i]? = some (Value.int .u8 b) := by
  obtain ⟨xs, m, rfl, hx, _, hn, hel⟩ := DataW.trod_array ht h
  simp only [Prod.mk.injEq, DataW.agg.injEq] at hx
  intro i b hb
  have hm : (bs.map fun b => (DataW.lit (.int .u8 b) : DataW H))[i]? = some (.lit (.int .u8 b)) := by rw [List.getElem?_map, hb]; rfl
  rw [hx.1, List.getElem?_map] at hm
  cases hy : xs[i]? with
  | none => rw [hy] at hm; cases hm
  | some y =>
    rw [hy] at hm
    have hi : i < n := by rw [← hn]; exact (List.getElem?_eq_some_iff.1 hy).1
    have h1 := hel i hi
    rw [hy] at h1
    obtain ⟨b', hb', hb2, _⟩ := DataW.trod_int he h1
    simp only [Option.map_some, Option.some.injEq] at hm
    rw [hb2] at hm
    simp only [DataW.lit.injEq, Lit.int.injEq, true_and] at hm
    subst hm
    exact one_at hc hb'

theorem laid_of {W : World} (h : laidMetH Tryz.prog [("math/bits.deBruijn64tab", Rows.laid_math_bits_deBruijn64tab), ("ticketline/modes.together", Rows.laid_ticketline_modes_together)] W) : Laid W := by
  rw [MakeChecks.laidMetH_plain _ _ _ (by kernel_rfl)] at h
  obtain ⟨ps, ⟨g0, t0, cs0, f0, p0, q0, hg0, ht0, hv0, hd0, ⟨g1, t1, cs1, f1, p1, q1, hg1, ht1, hv1, hd1, _, _⟩, _⟩, _, _⟩ := h
  obtain rfl := Option.some.inj (gDbt.symm.trans hg0)
  obtain rfl := Option.some.inj (gTog.symm.trans hg1)
  obtain rfl := Option.some.inj (tDbt.symm.trans ht0)
  obtain rfl := Option.some.inj (tTog.symm.trans ht1)
  refine ⟨fun i j r x hi hj hk => ?_, fun i s hs => ?_⟩
  · rw [World.var?_cell hg1 hv1, ← Array.getElem?_toList]
    exact rows_of_trod (rs := tog) Tryz.underlying213 Tryz.underlying209 Tryz.underlying4 (by kernel_rfl) (by kernel_rfl) hd1 i j r x hi hj hk
  · rw [World.var?_cell hg0 hv0, ← Array.getElem?_toList]
    exact u8s_of_trod (bs := dbT) Tryz.underlying206 Tryz.underlying5 (by kernel_rfl) hd0 i s hs

namespace Laid
variable {w w' : World}
theorem size (h : Laid w) : 1 < w.heap.size := by first | exact World.block_lt_of_cell? w _ (h.db 0 _ rfl) | exact World.block_lt_of_cell? w _ (h.tg 0 0 _ _ rfl rfl (by decide))
theorem frm {D : List Nat} (h : Laid w) (hf : Frm D w w') (hD : ∀ x ∈ D, 2 ≤ x) : Laid w' := by
  have hs := h.size
  refine ⟨fun i j r x hi hj hk => ?_, fun i s hs => ?_⟩
  · rw [hf.cell (by omega) (fun hx => by have := hD _ hx; omega)]; exact h.tg i j r x hi hj hk
  · rw [hf.cell (by omega) (fun hx => by have := hD _ hx; omega)]; exact h.db i s hs
theorem frm0 (h : Laid w) (hf : Frm [] w w') : Laid w' := h.frm hf (by simp)
theorem alloc (h : Laid w) (o : Obj) : Laid (w.alloc o) := h.frm0 ((Frm.refl _ _).alloc o)
theorem drewN (h : Laid w) (n : Nat) : Laid (w.drewN n) := h.frm0 ((Frm.refl _ _).drewN n)
end Laid

theorem valid_any (w : World) (m : Int) : Calls Tryz.prog 69 #[.int .i64 m] w (Ret (.bool (vm m)) (fun w' => w = w')) := by
  by_cases h0 : 0 < m
  · have hb : decide (0 < m) = true := by simpa using h0
    by_cases h1 : m < 4
    · have hc : decide (m < 4) = true := by simpa using h1
      have ht : vm m = true := vm_iff.2 (by omega)
      rw [ht]
      clear ht
      go_enter Tryz.func69, Tryz.ntmps69
      go_wp2
      go_ret
      exact ⟨rfl, rfl⟩
    · have hc : decide (m < 4) = false := by simpa using h1
      have ht : vm m = false := vm_not.2 (by omega)
      rw [ht]
      clear ht
      go_enter Tryz.func69, Tryz.ntmps69
      go_wp2
      go_ret
      exact ⟨rfl, rfl⟩
  · have hb : decide (0 < m) = false := by simpa using h0
    have ht : vm m = false := vm_not.2 (by omega)
    rw [ht]
    clear ht
    go_enter Tryz.func69, Tryz.ntmps69
    go_wp2
    go_ret
    exact ⟨rfl, rfl⟩
theorem rvalid_any (w : World) (m : Int) : Calls Tryz.prog 35 #[.int .i64 m] w (Ret (.bool (vm m)) (fun w' => w = w')) := by
  by_cases h1 : m = 1
  · subst h1
    rw [show vm 1 = true from rfl]
    go_enter Tryz.func35, Tryz.ntmps35
    go_wp2
    go_ret
    exact ⟨rfl, rfl⟩
  · have e1 : (m == 1) = false := by simpa using h1
    by_cases h2 : m = 2
    · subst h2
      rw [show vm 2 = true from rfl]
      clear h1 e1
      go_enter Tryz.func35, Tryz.ntmps35
      go_wp2
      go_ret
      exact ⟨rfl, rfl⟩
    · have e2 : (m == 2) = false := by simpa using h2
      by_cases h3 : m = 3
      · subst h3
        rw [show vm 3 = true from rfl]
        clear h1 e1 h2 e2
        go_enter Tryz.func35, Tryz.ntmps35
        go_wp2
        go_ret
        exact ⟨rfl, rfl⟩
      · have e3 : (m == 3) = false := by simpa using h3
        have ht : vm m = false := vm_not.2 (by omega)
        rw [ht]
        clear ht h1 h2 h3
        go_enter Tryz.func35, Tryz.ntmps35
        go_wp2
        go_ret
        exact ⟨rfl, rfl⟩
#print axioms rvalid_any
end Go.Proofs.YticbbfcachnkiaaGreatDoor

/- Rows of integers of any kind that a call has made for itself: as they lie, as they are read, as they grow. -/
namespace Go.Proofs.YticbbfcachnkiaaGreatDoor
open Go.ChangeShapes Go.WideShapes Go.ChangeAt Go.RowKit

theorem own_frm {D : List Nat} {B s m : Nat} {t : TypeId} {w w' : World} {v : Value} {xs : List Value} (h : w.ownsRow B t s v m xs) (hf : Frm D w w') (hd : ∀ x ∈ blk v, x ∉ D) : w'.ownsRow B t s v m xs := by
  obtain ⟨h0, hh⟩ := h
  refine ⟨h0, ?_⟩
  rcases hh with hh | ⟨g, cap, cur, hv, hg, hc, r⟩
  · exact .inl hh
  · exact .inr ⟨g, cap, cur, hv, hg, hf.heap hc (hd g (by rw [hv]; simp [blk])), r⟩
theorem own_blk {B s m : Nat} {t : TypeId} {w : World} {v : Value} {xs : List Value} (h : w.ownsRow B t s v m xs) : ∀ x ∈ blk v, B ≤ x ∧ x < w.heap.size := by
  obtain ⟨h0, hh⟩ := h
  intro x hx
  rcases hh with ⟨hv, _⟩ | ⟨g, cap, cur, hv, hg, hc, r⟩
  · rw [hv] at hx; cases hx
  · rw [hv] at hx; simp [blk] at hx; subst hx; exact ⟨hg, lt_of_heap hc⟩
theorem own_form {B s m : Nat} {t : TypeId} {w : World} {v : Value} {xs : List Value} (h : w.ownsRow B t s v m xs) : ∃ a c, v = .slice a m c ∧ m ≤ c ∧ (a = none → m = 0) := by
  rcases h.2 with ⟨hv, hn⟩ | ⟨g, cap, cur, hv, _, _, hc, _⟩
  · exact ⟨none, 0, by rw [hv, hn], by omega, fun _ => hn⟩
  · exact ⟨_, cap, hv, hc, fun h => by cases h⟩
theorem own_ownb {B s m : Nat} {t : TypeId} {w : World} {v : Value} {xs : List Value} (h : w.ownsRow B t s v m xs) : ∀ k, v.ownBlock = some k → k ∈ blk v := by
  obtain ⟨a, c, rfl, _, _⟩ := own_form h
  intro k hk
  cases a with
  | none => simp [Value.ownBlock] at hk
  | some a => simp [Value.ownBlock] at hk; subst hk; simp [blk]

/-- Integers as cells. -/
def ns (k : IntKind) (l : List Int) : List Value := l.map (Value.int k)
theorem ns_length (k : IntKind) (l : List Int) : (ns k l).length = l.length := by simp [ns]
theorem ns_one (k : IntKind) (l : List Int) : ∀ u ∈ ns k l, u.oneCell' = true := by
  intro u hu
  obtain ⟨x, _, rfl⟩ := List.mem_map.1 hu
  rfl
/-- A row of integers of the call's own, from block B on. -/
def Row (k : IntKind) (t : TypeId) (B : Nat) (w : World) (a : Option Addr) (n c : Nat) (l : List Int) : Prop := w.ownsRow B t 1 (.slice a n c) l.length (ns k l) ∧ n = l.length
namespace Row
variable {k : IntKind} {t : TypeId} {B : Nat} {w w' : World} {a : Option Addr} {n c : Nat} {l : List Int}
theorem nil (k : IntKind) (t : TypeId) (B : Nat) (w : World) : Row k t B w none 0 0 [] := ⟨World.ownsRow_nil _ _ _ _, rfl⟩
theorem frm {D : List Nat} (h : Row k t B w a n c l) (hf : Frm D w w') (hd : ∀ x ∈ Go.Proofs.YticbbfcachnkiaaGreatDoor.blk (.slice a n c), x ∉ D) : Row k t B w' a n c l := ⟨own_frm h.1 hf hd, h.2⟩
theorem frm0 (h : Row k t B w a n c l) (hf : Frm [] w w') : Row k t B w' a n c l := h.frm hf (by simp)
theorem blk (h : Row k t B w a n c l) : ∀ x ∈ Go.Proofs.YticbbfcachnkiaaGreatDoor.blk (.slice a n c), B ≤ x ∧ x < w.heap.size := own_blk h.1
theorem form (h : Row k t B w a n c l) : n ≤ c ∧ (a = none → n = 0) := by
  obtain ⟨a', c', e, h1, h2⟩ := own_form h.1
  obtain ⟨h3, h4⟩ := h
  cases e
  exact ⟨h1, h2⟩
/-- It lies in a block of its own, from its head on; a row that is not empty. -/
theorem block (h : Row k t B w a n c l) (hn : 0 < n) : ∃ g cs, a = some ⟨g, 0, none⟩ ∧ B ≤ g ∧ w.heap[g]? = some (.cells cs t (0, 0)) ∧ n ≤ cs.size ∧ cs.toList.take n = ns k l := by
  obtain ⟨⟨h0, hh⟩, h2⟩ := h
  rcases hh with ⟨hv, hn'⟩ | ⟨g, cap, cur, hv, hg, hc, h3, hm, hs, ht⟩
  · omega
  · cases hv
    have e : cur.toList.take l.length = ns k l := by simpa using ht
    refine ⟨g, cur, rfl, hg, hc, ?_, e⟩
    have := congrArg List.length e
    rw [List.length_take, ns_length, Array.length_toList] at this
    omega
theorem li (h : Row k t B w a n c l) : ∃ b, Li k w a n c b 0 l := by
  have hf := h.form
  by_cases hn : 0 < n
  · obtain ⟨g, cs, rfl, _, hc, hs, ht⟩ := h.block hn
    refine ⟨g, h.2.symm, fun _ => rfl, fun i x hx => ?_, hf.1⟩
    have hj : (ns k l)[i]? = some (.int k x) := by simp [ns, hx]
    have hlt := (List.getElem?_eq_some_iff.1 hx).1
    have hln := h.2
    rw [cell_of_heap hc, Nat.zero_add, ← Array.getElem?_toList]
    rw [← ht, List.getElem?_take, if_pos (by omega)] at hj
    exact hj
  · obtain rfl : n = 0 := by omega
    obtain rfl : l = [] := List.eq_nil_of_length_eq_zero h.2.symm
    exact ⟨0, rfl, fun h => by omega, fun i x hx => by simp at hx, hf.1⟩
end Row

theorem run_append_none {P : Program} (w : World) (t ty e : TypeId) (i : TypeInfo) (ht : P.underlying t = some (.slice e)) (hi : P.info? e = some i) (a : Option Addr) (n c : Nat) (a2 : Option Addr) (c2 : Nat) (hnc : n ≤ c) (hn : a = none → n = 0) :
    (Builtin.append_ #[t, t] ty #[.slice a n c, .slice a2 0 c2]).run P w = .ok (.slice a n c) w := by
  cases a with
  | none => obtain rfl := hn rfl; cases a2 <;> simp [Builtin.append_, run_underlying ht, sizeOf, typeInfo, hi, Builtin.lenOf, Builtin.firstCells, loadCells, loadCellsFrom]
  | some a => cases a2 <;> simp [Builtin.append_, run_underlying ht, sizeOf, typeInfo, hi, Builtin.lenOf, Builtin.firstCells, hnc, storeCells, loadCells, loadCellsFrom]

/-- append of integers that are read somewhere. T: the slice's type, by: how many bytes an element has. -/
theorem run_app {k : IntKind} {t T : TypeId} {z : Value} {by_ : Nat} (hT : Tryz.prog.underlying T = some (.slice t)) (hi0 : (Tryz.prog.info? t).map (fun i => (i.zero, i.size, i.bytes)) = some (some z, 1, by_)) (hz : z.cells.size = 1) (hby : by_ ≤ 8)
    {B : Nat} {w : World} {a a2 : Option Addr} {n c m c2 b2 o2 : Nat} {l l2 : List Int} (hR : Row k t B w a n c l) (hL : Li k w a2 m c2 b2 o2 l2) (hn : l.length + m ≤ 10000000) (hB : B ≤ w.heap.size) (ty : TypeId) :
    ∃ a' c' w', (Builtin.append_ #[T, T] ty #[.slice a n c, .slice a2 m c2]).run Tryz.prog w = .ok (.slice a' (n + m) c') w' ∧ Row k t B w' a' (n + m) c' (l ++ l2) ∧ Frm (Go.Proofs.YticbbfcachnkiaaGreatDoor.blk (.slice a n c)) w w' := by
  obtain ⟨i0, hi, hz0, hz1, hz2⟩ := info_parts hi0
  have hfm := hR.form
  obtain ⟨hO, rfl⟩ := hR
  have hlen := hL.len
  by_cases hm : 0 < m
  · obtain rfl := hL.ad hm
    obtain ⟨v', w', hr, hO2, hg, _⟩ := run_append_own (P := Tryz.prog) w B T ty t i0 z 1 by_ hT hi hz0 hz1 hz2 hz (by decide) _ _ _ hO ⟨b2, o2, none⟩ m c2 (ns k l2) (by rw [ns_length]; omega)
      (fun j u hj => by
        rw [Addr.add_lit]
        have hjl := (List.getElem?_eq_some_iff.1 hj).1
        rw [ns_length] at hjl
        rw [hL.cell j (l2[j]) (List.getElem?_eq_getElem hjl), ← hj]
        simp [ns, List.getElem?_eq_getElem hjl]) (ns_one k l2) (by unfold maxLen; omega) (by
          have : (l.length + m) * by_ ≤ (l.length + m) * 8 := Nat.mul_le_mul_left _ hby
          omega) hB
    obtain ⟨a', c', rfl, _, _⟩ := own_form hO2
    refine ⟨a', c', w', hr, ⟨?_, by simp [hlen]⟩, Frm.grown hg (fun k hk => own_ownb hO k hk)⟩
    have e : ns k (l ++ l2) = ns k l ++ ns k l2 := by simp [ns]
    rw [e, List.length_append, hlen]; exact hO2
  · obtain rfl : m = 0 := by omega
    obtain rfl : l2 = [] := List.eq_nil_of_length_eq_zero hlen
    have := run_append_none (P := Tryz.prog) w T ty t i0 hT hi a l.length c a2 c2 hfm.1 hfm.2
    exact ⟨a, c, w, this, ⟨by simpa using hO, by simp⟩, Frm.refl _ _⟩
theorem wpl_app {k : IntKind} {t T : TypeId} {z : Value} {by_ : Nat} (hT : Tryz.prog.underlying T = some (.slice t)) (hi0 : (Tryz.prog.info? t).map (fun i => (i.zero, i.size, i.bytes)) = some (some z, 1, by_)) (hz : z.cells.size = 1) (hby : by_ ≤ 8)
    {w : World} {ops : Array Oper} {rest : List Oper} {o : Oper} {x : Act} {Q : Exit → Act → World → Prop} (hgd : o.guard = none) (p q : Operand)
    (ho : o.op = .call { callee := .builtin .append, args := #[p, q], argTypes := #[T, T] }) {B : Nat} {a a2 : Option Addr} {n c m c2 b2 o2 : Nat} {l l2 : List Int}
    (hd : x.eval p = .slice a n c) (hq : x.eval q = .slice a2 m c2) (hR : Row k t B w a n c l) (hL : Li k w a2 m c2 b2 o2 l2) (hn : l.length + m ≤ 10000000) (hB : B ≤ w.heap.size)
    (hK : ∀ a' c' w', Row k t B w' a' (n + m) c' (l ++ l2) → Frm (blk (.slice a n c)) w w' → wpList Tryz.prog ops Q rest (x.put o.dst (.slice a' (n + m : Nat) c')) w') : wpList Tryz.prog ops Q (o :: rest) x w := by
  refine wpList_plain hgd fun K hK' => ?_
  obtain ⟨a', c', w', hr, h1, h2⟩ := run_app hT hi0 hz hby hR hL hn hB o.type
  unfold Oper.wp
  simp [execOp, ho, resolve, invoke, builtin, hd, hq, hr, Result.andThen]
  exact hK' _ _ (hK _ _ _ h1 h2)

/-- A new row: the block is known whole. -/
theorem row_new {k : IntKind} {t : TypeId} {B g n : Nat} {w : World} {l : List Int} (hl : l.length = n) (h : w.heap[g]? = some (.cells (ns k l).toArray t (0, 0))) (hB : B ≤ g) (hn : n ≤ maxLen) : Row k t B w (some ⟨g, 0, none⟩) n n l := by
  subst hl
  refine ⟨⟨?_, .inr ⟨g, l.length, (ns k l).toArray, rfl, hB, h, Nat.le_refl _, hn, ?_, ?_⟩⟩, rfl⟩
  · simp [ns]
  · simp [ns]
  · rw [List.take_of_length_le (by simp [ns])]
theorem li_new {k : IntKind} {t : TypeId} {g n : Nat} {w : World} {l : List Int} (hl : l.length = n) (h : w.heap[g]? = some (.cells (ns k l).toArray t (0, 0))) : Li k w (some ⟨g, 0, none⟩) n n g 0 l :=
  ⟨hl, fun _ => rfl, fun i x hx => by rw [cell_of_heap h, Nat.zero_add, List.getElem?_toArray]; simp [ns, hx], Nat.le_refl _⟩
/-- make of so many integers. -/
theorem run_mk {k : IntKind} {t T : TypeId} {by_ : Nat} (hT : Tryz.prog.underlying T = some (.slice t)) (hi0 : (Tryz.prog.info? t).map (fun i => (i.zero, i.size, i.bytes)) = some (some (Value.int k 0), 1, by_)) (hby : by_ ≤ 8) (n : Nat) (h : n ≤ 2147483647) (w : World) :
    (Instr.makeSlice T (.int .i64 n) (.int .i64 n)).run Tryz.prog w = .ok (.slice (some ⟨w.heap.size, 0, none⟩) n n) (w.alloc (.cells (ns k (List.replicate n 0)).toArray t)) := by
  obtain ⟨i0, hi, hz0, hz1, hz2⟩ := info_parts hi0
  have := run_make (P := Tryz.prog) w T t i0 (.int k 0) hT hi hz0 .i64 .i64 (n : Int) (n : Int) (by omega) (by omega) (by
    rw [hz2]
    have : n * by_ ≤ n * 8 := Nat.mul_le_mul_left _ hby
    rw [Nat.mul_comm] at this
    simp; omega) (by omega)
  rw [this, hz1]
  have e : madeCells (Value.int k 0).cells (Int.toNat (n : Int) * 1) = (ns k (List.replicate n 0)).toArray := by
    apply Array.ext
    · simp [madeCells, ns]
    · intro j h1 h2
      simp [madeCells, ns, Value.cells, Nat.mod_one]
  rw [e]; simp
theorem set_ns (k : IntKind) (l : List Int) (i : Nat) (v : Int) : (ns k l).toArray.setIfInBounds i (.int k v) = (ns k (l.set i v)).toArray := by
  rw [List.setIfInBounds_toArray]; unfold ns; rw [List.map_set]
/-- A store into a row of the call's own. -/
theorem row_set {k : IntKind} {t : TypeId} {B g i n c : Nat} {w : World} {l : List Int} (h : Row k t B w (some ⟨g, 0, none⟩) n c l) (v : Int) : Row k t B (w.setCell ⟨g, i, none⟩ (.int k v)) (some ⟨g, 0, none⟩) n c (l.set i v) := by
  obtain ⟨⟨h0, hh⟩, h2⟩ := h
  rcases hh with ⟨hv, _⟩ | ⟨g', cap, cur, hv, hg, hc, h3, hm, hs, ht⟩
  · cases hv
  · cases hv
    refine ⟨⟨by simp [ns], .inr ⟨g, c, cur.setIfInBounds i (.int k v), by rw [List.length_set], hg, heap_setCell_at _ hc, ?_, hm, ?_, ?_⟩⟩, by rw [List.length_set]⟩
    · rw [List.length_set]; exact h3
    · simpa using hs
    · rw [Array.toList_setIfInBounds, List.length_set, List.take_set]
      rw [Nat.mul_one] at ht ⊢
      rw [ht]
      unfold ns
      rw [List.map_set]
theorem row_frozen {k : IntKind} {t : TypeId} {B g n c : Nat} {w : World} {l : List Int} (h : Row k t B w (some ⟨g, 0, none⟩) n c l) (hn : 0 < n) (i : Nat) : w.frozen? ⟨g, i, none⟩ = false := by
  obtain ⟨g', cs, e, _, hc, _⟩ := h.block hn
  cases e
  exact frozen_of_heap hc
#print axioms row_set
end Go.Proofs.YticbbfcachnkiaaGreatDoor
