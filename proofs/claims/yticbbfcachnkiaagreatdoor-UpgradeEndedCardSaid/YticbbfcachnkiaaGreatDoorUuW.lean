/- A step of a move as a function of lists (no program in it): what it comes to, that it keeps what is true of every move; runs of steps. -/
import Derived.Test.YticbbfcachnkiaaGreatDoorUuK
namespace Go.Proofs.YticbbfcachnkiaaGreatDoor
open Go.ChangeShapes Go.WideShapes Go.ChangeAt Go.RowKit
set_option linter.unusedVariables false
set_option linter.unusedSimpArgs false
/-- Words are words. -/
def Bnd (ws : List Int) : Prop := ∀ x ∈ ws, 0 ≤ x ∧ x < 18446744073709551616
theorem Bnd.set {ws : List Int} (h : Bnd ws) (i : Nat) (v : Int) (h0 : 0 ≤ v) (h1 : v < 18446744073709551616) : Bnd (ws.set i v) := fun x hx => by
  rcases List.mem_or_eq_of_mem_set hx with hx | rfl
  · exact h x hx
  · exact ⟨h0, h1⟩
theorem Bnd.get {ws : List Int} (h : Bnd ws) {i : Nat} {u : Int} (hu : ws[i]? = some u) : 0 ≤ u ∧ u < 18446744073709551616 := h u (List.mem_of_getElem? hu)
theorem Stp.bnd {b t L k : Nat} {ws ws' : List Int} {back e' wait : Bool} {s o s' o' no : Int} (h : Stp b t L k ws back s o e' s' o' ws' wait no) (hk : k < 128) (hb : Bnd ws) : Bnd ws' := by
  cases h <;> first | exact hb | exact hb.set _ _ (by omega) (by omega)
theorem Stp.len {b t L k : Nat} {ws ws' : List Int} {back e' wait : Bool} {s o s' o' no : Int} (h : Stp b t L k ws back s o e' s' o' ws' wait no) : ws'.length = ws.length := by
  cases h <;> first | rfl | exact List.length_set ..
theorem MStp.len {T : Nat} {ws ws' : List Int} {m m' : Mv} {g g' : Gs} {wait : Bool} {no : Int} (h : MStp T ws m g m' g' ws' wait no) : ws'.length = ws.length := by
  cases h <;> first | rfl | exact List.length_set .. | (rename_i hS _; exact hS.len) | (rename_i hS; exact hS.len)
/-- A step of a program for the guard. -/
def stpO (b t L k : Nat) (ws : List Int) (back : Bool) (s o : Int) : Option (Bool × Int × Int × List Int × Bool × Int) :=
  if back = false then
    if s = 1 then (if nxW b k < ws.length then some (false, 2, o, ws.set (nxW b k) 0, false, 0) else none)
    else if s = 2 then (if wtW b k < ws.length then some (false, 3, o, ws.set (wtW b k) 1, false, 0) else none)
    else if s = 3 then (match ws[L]? with
      | some u => if u = 0 then some (true, 4, 0, ws.set L (k + 1), false, 0) else if 1 ≤ u then some (false, 4, u, ws.set L (k + 1), false, 0) else none
      | none => none)
    else if s = 4 then (if 1 ≤ o ∧ o ≤ 2 * t ∧ nxW b (o.toNat - 1) < ws.length then some (false, 5, o, ws.set (nxW b (o.toNat - 1)) (k + 1), false, 0) else none)
    else if s = 5 then (match ws[wtW b k]? with
      | some u => if u = 0 then some (true, 5, o, ws, false, 0) else some (false, 5, o, ws, true, 0)
      | none => none)
    else none
  else
    if s = 1 then (match ws[nxW b k]? with
      | some u => if u = 0 then some (false, 2, o, ws, false, 0) else if 1 ≤ u then some (false, 4, u, ws, false, 0) else none
      | none => none)
    else if s = 2 then (match ws[L]? with
      | some u => if u = k + 1 then some (true, 3, o, ws.set L 0, false, 0) else some (false, 3, o, ws, false, 0)
      | none => none)
    else if s = 3 then (match ws[nxW b k]? with
      | some u => if u = 0 then some (false, 3, o, ws, true, 0) else if 1 ≤ u then some (false, 4, u, ws, false, 0) else none
      | none => none)
    else if s = 4 then (if 1 ≤ o ∧ o ≤ 2 * t ∧ wtW b (o.toNat - 1) < ws.length then some (true, 4, o, ws.set (wtW b (o.toNat - 1)) 0, false, 0) else none)
    else none
theorem stpO_ok {b t L k : Nat} {ws ws' : List Int} {back e' wait : Bool} {s o s' o' no : Int} (h : stpO b t L k ws back s o = some (e', s', o', ws', wait, no)) :
    Stp b t L k ws back s o e' s' o' ws' wait no ∧ (e' = false → Ok back s' o') := by
  cases back with
  | false =>
    simp only [stpO, if_true] at h
    split at h
    · rename_i hs; subst hs
      split at h
      · rename_i hl
        simp only [Option.some.injEq, Prod.mk.injEq] at h
        obtain ⟨rfl, rfl, rfl, rfl, rfl, rfl⟩ := h
        exact ⟨.a1 _ hl, fun _ => ⟨by decide, by decide, by decide, by omega⟩⟩
      · cases h
    split at h
    · rename_i hs; subst hs
      split at h
      · rename_i hl
        simp only [Option.some.injEq, Prod.mk.injEq] at h
        obtain ⟨rfl, rfl, rfl, rfl, rfl, rfl⟩ := h
        exact ⟨.a2 _ hl, fun _ => ⟨by decide, by decide, by decide, by omega⟩⟩
      · cases h
    split at h
    · rename_i hs; subst hs
      split at h
      · rename_i u hu
        split at h
        · rename_i h0; subst h0
          simp only [Option.some.injEq, Prod.mk.injEq] at h
          obtain ⟨rfl, rfl, rfl, rfl, rfl, rfl⟩ := h
          exact ⟨.a3f _ hu, fun h => by cases h⟩
        · split at h
          · rename_i h0 h1
            simp only [Option.some.injEq, Prod.mk.injEq] at h
            obtain ⟨rfl, rfl, rfl, rfl, rfl, rfl⟩ := h
            exact ⟨.a3l _ _ h0 hu, fun _ => ⟨by decide, by decide, by decide, fun _ => h1⟩⟩
          · cases h
      · cases h
    split at h
    · rename_i hs; subst hs
      split at h
      · rename_i hl
        simp only [Option.some.injEq, Prod.mk.injEq] at h
        obtain ⟨rfl, rfl, rfl, rfl, rfl, rfl⟩ := h
        obtain ⟨h1, h2, h3⟩ := hl
        obtain ⟨x, rfl⟩ := Int.eq_ofNat_of_zero_le (show 0 ≤ o by omega)
        exact ⟨.a4 x (by omega) (by omega) h3, fun _ => ⟨by decide, by decide, by decide, fun h => by cases h⟩⟩
      · cases h
    split at h
    · rename_i hs; subst hs
      split at h
      · rename_i u hu
        split at h
        · rename_i h0; subst h0
          simp only [Option.some.injEq, Prod.mk.injEq] at h
          obtain ⟨rfl, rfl, rfl, rfl, rfl, rfl⟩ := h
          exact ⟨.a5g _ hu, fun h => by cases h⟩
        · rename_i h0
          simp only [Option.some.injEq, Prod.mk.injEq] at h
          obtain ⟨rfl, rfl, rfl, rfl, rfl, rfl⟩ := h
          exact ⟨.a5w _ _ h0 hu, fun _ => ⟨by decide, by decide, by decide, fun h => by cases h⟩⟩
      · cases h
    · cases h
  | true =>
    simp only [stpO, Bool.true_eq_false, if_false] at h
    split at h
    · rename_i hs; subst hs
      split at h
      · rename_i u hu
        split at h
        · rename_i h0; subst h0
          simp only [Option.some.injEq, Prod.mk.injEq] at h
          obtain ⟨rfl, rfl, rfl, rfl, rfl, rfl⟩ := h
          exact ⟨.r1n _ hu, fun _ => ⟨by decide, by decide, by decide, fun h => by cases h⟩⟩
        · split at h
          · rename_i h0 h1
            simp only [Option.some.injEq, Prod.mk.injEq] at h
            obtain ⟨rfl, rfl, rfl, rfl, rfl, rfl⟩ := h
            exact ⟨.r1s _ _ h0 hu, fun _ => ⟨by decide, by decide, by decide, fun _ => h1⟩⟩
          · cases h
      · cases h
    split at h
    · rename_i hs; subst hs
      split at h
      · rename_i u hu
        split at h
        · rename_i h0; subst h0
          simp only [Option.some.injEq, Prod.mk.injEq] at h
          obtain ⟨rfl, rfl, rfl, rfl, rfl, rfl⟩ := h
          exact ⟨.r2y _ hu, fun h => by cases h⟩
        · rename_i h0
          simp only [Option.some.injEq, Prod.mk.injEq] at h
          obtain ⟨rfl, rfl, rfl, rfl, rfl, rfl⟩ := h
          exact ⟨.r2n _ _ h0 hu, fun _ => ⟨by decide, by decide, by decide, fun h => by cases h⟩⟩
      · cases h
    split at h
    · rename_i hs; subst hs
      split at h
      · rename_i u hu
        split at h
        · rename_i h0; subst h0
          simp only [Option.some.injEq, Prod.mk.injEq] at h
          obtain ⟨rfl, rfl, rfl, rfl, rfl, rfl⟩ := h
          exact ⟨.r3w _ hu, fun _ => ⟨by decide, by decide, by decide, fun h => by cases h⟩⟩
        · split at h
          · rename_i h0 h1
            simp only [Option.some.injEq, Prod.mk.injEq] at h
            obtain ⟨rfl, rfl, rfl, rfl, rfl, rfl⟩ := h
            exact ⟨.r3s _ _ h0 hu, fun _ => ⟨by decide, by decide, by decide, fun _ => h1⟩⟩
          · cases h
      · cases h
    split at h
    · rename_i hs; subst hs
      split at h
      · rename_i hl
        simp only [Option.some.injEq, Prod.mk.injEq] at h
        obtain ⟨rfl, rfl, rfl, rfl, rfl, rfl⟩ := h
        obtain ⟨h1, h2, h3⟩ := hl
        obtain ⟨x, rfl⟩ := Int.eq_ofNat_of_zero_le (show 0 ≤ o by omega)
        exact ⟨.r4 x (by omega) (by omega) h3, fun h => by cases h⟩
      · cases h
    · cases h
/-- Which word is stored, and what. -/
def wrO (m : Mv) : Option (Nat × Int) :=
  if m.nx = 4 then some (mdW m.nb (2 * m.t + 1), m.md)
  else if m.nx = 5 then some (nxW m.nb (2 * m.t + 1), 0)
  else if m.nx = 6 then some (wtW m.nb (2 * m.t + 1), 1)
  else if m.nx = 7 then (if 0 ≤ m.s.la then some (nxW m.nb m.s.la.toNat, m.nd + 1) else none)
  else if m.nx = 10 then some (m.wd + 1, m.s.sh)
  else if m.nx = 11 then some (m.wd + 2, m.s.w1)
  else if m.nx = 12 then (match m.wk with
    | k :: _ => if 0 ≤ k then some (wtW m.nb k.toNat, 0) else none
    | [] => none)
  else none
theorem wrO_ok {m : Mv} {x : Nat} {v : Int} (h : wrO m = some (x, v)) : StW m x v := by
  unfold wrO at h
  split at h
  · rename_i hn; simp only [Option.some.injEq, Prod.mk.injEq] at h; obtain ⟨rfl, rfl⟩ := h; exact .md hn
  split at h
  · rename_i hn; simp only [Option.some.injEq, Prod.mk.injEq] at h; obtain ⟨rfl, rfl⟩ := h; exact .cl hn
  split at h
  · rename_i hn; simp only [Option.some.injEq, Prod.mk.injEq] at h; obtain ⟨rfl, rfl⟩ := h; exact .wt hn
  split at h
  · rename_i hn
    split at h
    · rename_i hl
      simp only [Option.some.injEq, Prod.mk.injEq] at h; obtain ⟨rfl, rfl⟩ := h
      exact .ln m.s.la.toNat hn (by omega)
    · cases h
  split at h
  · rename_i hn; simp only [Option.some.injEq, Prod.mk.injEq] at h; obtain ⟨rfl, rfl⟩ := h; exact .bi hn
  split at h
  · rename_i hn; simp only [Option.some.injEq, Prod.mk.injEq] at h; obtain ⟨rfl, rfl⟩ := h; exact .st hn
  split at h
  · rename_i hn
    split at h
    · rename_i k r hw
      split at h
      · rename_i hl
        simp only [Option.some.injEq, Prod.mk.injEq] at h; obtain ⟨rfl, rfl⟩ := h
        exact .wk k.toNat r hn (by rw [hw, Int.toNat_of_nonneg hl])
      · cases h
    · cases h
  · cases h
/-- A step of a move. -/
def mstpO (T : Nat) (ws : List Int) (m : Mv) (g : Gs) : Option (Mv × Gs × List Int × Bool × Int) :=
  if m.nx = 1 then
    (if g.ee = true then none else match stpO m.nb T m.wd (2 * m.t) ws false g.se g.oe with
      | some (false, s', o', ws', wait, no) => some (m, { g with se := s', oe := o' }, ws', wait, no)
      | some (true, s', o', ws', wait, no) => if no = 0 then some ({ m with nx := 2 }, { g with se := s', oe := o', ee := true }, ws', wait, 0) else none
      | none => none)
  else if m.nx = 13 then
    (if g.el = true then none else match stpO m.nb T m.wd (2 * m.t) ws true g.sl g.ol with
      | some (false, s', o', ws', wait, no) => some (m, { g with sl := s', ol := o' }, ws', wait, no)
      | some (true, s', o', ws', wait, no) => if no = 0 then some ({ m with nx := if m.wt then 14 else 0 }, { g with sl := s', ol := o', el := true }, ws', wait, 0) else none
      | none => none)
  else if m.nx = 14 then (match ws[wtW m.nb (2 * m.t + 1)]? with
    | some u => if u = 0 then some ({ m with nx := 0 }, g, ws, false, 0) else some (m, g, ws, true, 0)
    | none => none)
  else if m.nx = 2 then (match ws[m.wd + 1]? with
    | some u => some ({ m with s0 := u.toNat, nx := 3 }, g, ws, false, 0)
    | none => none)
  else if m.nx = 3 then (match ws[m.wd + 2]? with
    | some v => if rdB T m.s0 v.toNat = true then some ({ m with s1 := v, s := rdLS m.s0 v.toNat }.decide, g, ws, false, 0) else some (m, g, ws, false, 12)
    | none => none)
  else if m.nx = 8 then (if 0 ≤ m.s.fi then (match ws[mdW m.nb m.s.fi.toNat]? with
    | some u => if u = 1 ∨ u = 2 ∨ u = 3 then some (m.readMode u, g, ws, false, 0) else some (m, g, ws, false, 12)
    | none => none) else none)
  else if m.nx = 9 then (if 0 ≤ m.s.fi then (match ws[nxW m.nb m.s.fi.toNat]? with
    | some u => if isL T (u - 1) = true then some (m.serve m.fr (u - 1), g, ws, false, 0) else some (m, g, ws, false, 12)
    | none => none) else none)
  else match wrO m with
    | some (x, v) => if x < ws.length then some (m.stored, g, ws.set x v, false, 0) else none
    | none => none
theorem mstpO_ok {T : Nat} {ws ws' : List Int} {m m' : Mv} {g g' : Gs} {wait : Bool} {no : Int} (hb : Bnd ws) (h : mstpO T ws m g = some (m', g', ws', wait, no)) : MStp T ws m g m' g' ws' wait no := by
  unfold mstpO at h
  split at h
  · rename_i hn
    split at h
    · cases h
    · rename_i hee
      split at h
      · rename_i hS
        simp only [Option.some.injEq, Prod.mk.injEq] at h; obtain ⟨rfl, rfl, rfl, rfl, rfl⟩ := h
        obtain ⟨h1, h2⟩ := stpO_ok hS
        exact .en1 hn (by simpa using hee) h1 (h2 rfl)
      · rename_i hS
        split at h
        · rename_i h0; subst h0
          simp only [Option.some.injEq, Prod.mk.injEq] at h; obtain ⟨rfl, rfl, rfl, rfl, rfl⟩ := h
          obtain ⟨h1, h2⟩ := stpO_ok hS
          exact .en2 hn (by simpa using hee) h1
        · cases h
      · cases h
  split at h
  · rename_i hn
    split at h
    · cases h
    · rename_i hee
      split at h
      · rename_i hS
        simp only [Option.some.injEq, Prod.mk.injEq] at h; obtain ⟨rfl, rfl, rfl, rfl, rfl⟩ := h
        obtain ⟨h1, h2⟩ := stpO_ok hS
        exact .le1 hn (by simpa using hee) h1 (h2 rfl)
      · rename_i hS
        split at h
        · rename_i h0; subst h0
          simp only [Option.some.injEq, Prod.mk.injEq] at h; obtain ⟨rfl, rfl, rfl, rfl, rfl⟩ := h
          obtain ⟨h1, h2⟩ := stpO_ok hS
          exact .le2 hn (by simpa using hee) h1
        · cases h
      · cases h
  split at h
  · rename_i hn
    split at h
    · rename_i u hu
      split at h
      · rename_i h0; subst h0
        simp only [Option.some.injEq, Prod.mk.injEq] at h; obtain ⟨rfl, rfl, rfl, rfl, rfl⟩ := h
        exact .ag hn hu
      · rename_i h0
        simp only [Option.some.injEq, Prod.mk.injEq] at h; obtain ⟨rfl, rfl, rfl, rfl, rfl⟩ := h
        exact .aw hn u h0 hu
    · cases h
  split at h
  · rename_i hn
    split at h
    · rename_i u hu
      simp only [Option.some.injEq, Prod.mk.injEq] at h; obtain ⟨rfl, rfl, rfl, rfl, rfl⟩ := h
      exact .bi hn u.toNat (by rw [Int.toNat_of_nonneg (hb.get hu).1]; exact hu)
    · cases h
  split at h
  · rename_i hn
    split at h
    · rename_i v hv
      obtain ⟨v0, v1⟩ := hb.get hv
      obtain ⟨v, rfl⟩ := Int.eq_ofNat_of_zero_le v0
      rw [Int.toNat_natCast] at h
      split at h
      · rename_i hr
        simp only [Option.some.injEq, Prod.mk.injEq] at h; obtain ⟨rfl, rfl, rfl, rfl, rfl⟩ := h
        exact .so hn v (by omega) hv hr
      · rename_i hr
        simp only [Option.some.injEq, Prod.mk.injEq] at h; obtain ⟨rfl, rfl, rfl, rfl, rfl⟩ := h
        exact .sb hn v (by omega) hv (by simpa using hr)
    · cases h
  split at h
  · rename_i hn
    split at h
    · rename_i h0
      split at h
      · rename_i u hu
        split at h
        · rename_i h3
          simp only [Option.some.injEq, Prod.mk.injEq] at h; obtain ⟨rfl, rfl, rfl, rfl, rfl⟩ := h
          exact .mo hn _ (Int.toNat_of_nonneg h0).symm u h3 hu
        · rename_i h3
          simp only [Option.some.injEq, Prod.mk.injEq] at h; obtain ⟨rfl, rfl, rfl, rfl, rfl⟩ := h
          exact .mb hn _ (Int.toNat_of_nonneg h0).symm u (hb.get hu).1 (hb.get hu).2 h3 hu
      · cases h
    · cases h
  split at h
  · rename_i hn
    split at h
    · rename_i h0
      split at h
      · rename_i u hu
        split at h
        · rename_i h3
          simp only [Option.some.injEq, Prod.mk.injEq] at h; obtain ⟨rfl, rfl, rfl, rfl, rfl⟩ := h
          exact .no hn _ (Int.toNat_of_nonneg h0).symm u h3 hu
        · rename_i h3
          simp only [Option.some.injEq, Prod.mk.injEq] at h; obtain ⟨rfl, rfl, rfl, rfl, rfl⟩ := h
          exact .nb hn _ (Int.toNat_of_nonneg h0).symm u (hb.get hu).1 (by simpa using h3) hu
      · cases h
    · cases h
  split at h
  · rename_i x v hw
    split at h
    · rename_i hx
      simp only [Option.some.injEq, Prod.mk.injEq] at h; obtain ⟨rfl, rfl, rfl, rfl, rfl⟩ := h
      exact .st (wrO_ok hw) hx
    · cases h
  · cases h
/-- What is true of a move, whatever is next. -/
structure MK (T : Nat) (m : Mv) : Prop where
  gd : Gd T m.s
  md : m.k ≠ 1 → m.md = 1 ∨ m.md = 2 ∨ m.md = 3
  k : m.k = 0 ∨ m.k = 1 ∨ m.k = 2
  wk : ∀ y ∈ m.wk, 0 ≤ y ∧ y < 2 * (T : Int)
  s0 : m.s0 < 18446744073709551616
theorem MOk.mk' {T : Nat} {m : Mv} (h : MOk T m) : MK T m := ⟨h.gd, h.md, h.k, h.wk, h.s0⟩
theorem MK.ok {T : Nat} {m : Mv} (h : MK T m) (h9 : m.nx ≠ 9) (h4 : m.nx ≠ 4) : MOk T m := ⟨h.gd, h.md, h.k, h.wk, fun e => absurd e h9, h.s0, fun e => absurd e h4⟩
theorem Mv.fin_in (m : Mv) : m.fin = 10 ∨ m.fin = 11 ∨ m.fin = 12 ∨ m.fin = 13 := by unfold Mv.fin; split; simp; split; simp; split <;> simp
namespace MK
variable {T : Nat} {m : Mv}
theorem finish (h : MK T m) : MOk T m.finish := by
  have := m.fin_in
  exact ⟨h.gd, h.md, h.k, h.wk, fun e => by (have e : m.fin = 9 := e); omega, h.s0, fun e => by (have e : m.fin = 4 := e); omega⟩
theorem refuse (h : MK T m) : MOk T m.refuse := MK.finish (m := { m with rf := true }) ⟨h.gd, h.md, h.k, h.wk, h.s0⟩
theorem with_nx (h : MK T m) (x : Int) (h9 : x ≠ 9) (h4 : x ≠ 4) : MOk T { m with nx := x } := ⟨h.gd, h.md, h.k, h.wk, fun e => absurd e h9, h.s0, fun e => absurd e h4⟩
theorem with_s (h : MK T m) (s : LS) (hs : Gd T s) : MK T { m with s := s } := ⟨hs, h.md, h.k, h.wk, h.s0⟩
theorem with_wk (h : MK T m) (l : List Int) (hl : ∀ y ∈ l, 0 ≤ y ∧ y < 2 * (T : Int)) : MK T { m with wk := l } := ⟨h.gd, h.md, h.k, hl, h.s0⟩
theorem app (h : MK T m) (y : Int) (h0 : 0 ≤ y) (h1 : y < 2 * (T : Int)) : ∀ z ∈ m.wk ++ [y], 0 ≤ z ∧ z < 2 * (T : Int) := fun z hz => by
  rcases List.mem_append.1 hz with hz | hz
  · exact h.wk z hz
  · obtain rfl : z = y := by simpa using hz
    exact ⟨h0, h1⟩
theorem handOn (h : MK T m) (hT : T ≤ 64) : MOk T m.handOn := by
  unfold Mv.handOn
  have hw := h.gd.wa
  split
  · rename_i hc
    obtain ⟨x, hx⟩ := Int.eq_ofNat_of_zero_le (show 0 ≤ m.s.wa by omega)
    refine MK.finish ?_
    refine MK.with_wk (m := { m with s := { m.s.give m.s.wa 3 with wa := -1 } }) (h.with_s _ ?_) _ (h.app _ (by omega) (by omega))
    rw [hx]
    have := h.gd.give x (by omega) hT 3
    exact ⟨this.sh, this.up, this.ex, ⟨Int.le_refl _, by show (-1 : Int) < T; omega⟩, this.gr, this.fi, this.la⟩
  · split
    · exact h.finish
    · exact h.with_nx 8 (by decide) (by decide)
theorem serve (h : MK T m) (hT : T ≤ 64) (md sec : Int) (h0 : 0 ≤ m.s.fi) (hs : -1 ≤ sec ∧ sec < 2 * (T : Int)) : MOk T (m.serve md sec) := by
  unfold Mv.serve
  have hf := h.gd.fi
  refine MK.handOn ?_ hT
  refine MK.with_wk (m := { m with s := ({ m.s with fi := sec, la := if sec = -1 then -1 else m.s.la } : LS).give (m.s.fi / 2) md }) (h.with_s _ ?_) _ (h.app _ h0 hf.2)
  obtain ⟨x, hx⟩ := Int.eq_ofNat_of_zero_le h0
  rw [show m.s.fi / 2 = ((x / 2 : Nat) : Int) by omega]
  have hg : Gd T ({ m.s with fi := sec, la := if sec = -1 then -1 else m.s.la } : LS) := by
    refine ⟨h.gd.sh, h.gd.up, h.gd.ex, h.gd.wa, h.gd.gr, hs, ?_⟩
    have := h.gd.la
    show -1 ≤ (if sec = -1 then -1 else m.s.la) ∧ (if sec = -1 then -1 else m.s.la) < 2 * (T : Int)
    split <;> omega
  exact hg.give (x / 2) (by omega) hT md
theorem readMode (h : MK T m) (hT : T ≤ 64) (u : Int) (hu : u = 1 ∨ u = 2 ∨ u = 3) (h0 : 0 ≤ m.s.fi) : MOk T (m.readMode u) := by
  unfold Mv.readMode
  split
  · exact h.finish
  · split
    · exact ⟨h.gd, h.md, h.k, h.wk, fun _ => hu, h.s0, (fun e => by cases e)⟩
    · exact h.serve hT u (-1) h0 ⟨Int.le_refl _, by omega⟩
theorem get (h : MK T m) (hT : T ≤ 64) (ht : m.t < T) (hk : m.k = 0) : MOk T m.get := by
  unfold Mv.get
  split
  · exact h.refuse
  · split
    · exact (h.with_s _ (h.gd.give m.t ht hT m.md)).finish
    · exact ⟨h.gd, h.md, h.k, h.wk, (fun e => by cases e), h.s0, fun _ => by show m.k ≠ 1; omega⟩
theorem giveBack (h : MK T m) (hT : T ≤ 64) : MOk T m.giveBack := by
  unfold Mv.giveBack
  split
  · exact h.refuse
  · exact (h.with_s _ (h.gd.take m.t)).handOn hT
theorem goOver (h : MK T m) (hT : T ≤ 64) (ht : m.t < T) : MOk T m.goOver := by
  unfold Mv.goOver
  split
  · exact h.refuse
  · split
    · exact (h.with_s _ (h.gd.give m.t ht hT m.md)).handOn hT
    · split
      · exact (h.with_s _ (h.gd.give m.t ht hT m.md)).finish
      · exact ⟨⟨h.gd.sh, h.gd.up, h.gd.ex, ⟨by show (-1 : Int) ≤ m.t; omega, by show (m.t : Int) < T; omega⟩, h.gd.gr, h.gd.fi, h.gd.la⟩, h.md, h.k, h.wk, (fun e => by cases e), h.s0, (fun e => by cases e)⟩
theorem decide (h : MK T m) (hT : T ≤ 64) (ht : m.t < T) : MOk T m.decide := by
  unfold Mv.decide
  split
  · rename_i hk; exact h.get hT ht hk
  · split
    · exact h.giveBack hT
    · exact h.goOver hT ht
theorem standLast (h : MK T m) (ht : m.t < T) : MOk T m.standLast := by
  unfold Mv.standLast
  refine (h.with_s _ ?_).finish
  have hf := h.gd.fi
  refine ⟨h.gd.sh, h.gd.up, h.gd.ex, h.gd.wa, h.gd.gr, ?_, ?_⟩
  · show -1 ≤ (if m.s.fi = -1 then m.nd else m.s.fi) ∧ (if m.s.fi = -1 then m.nd else m.s.fi) < 2 * (T : Int)
    unfold Mv.nd; split <;> omega
  · show -1 ≤ m.nd ∧ m.nd < 2 * (T : Int)
    unfold Mv.nd; omega
theorem park (h : MK T m) (ht : m.t < T) : MOk T m.park := by
  unfold Mv.park
  split
  · exact h.finish
  · split
    · exact h.standLast ht
    · exact h.with_nx 7 (by decide) (by decide)
theorem stored (h : MK T m) (ht : m.t < T) : MOk T m.stored := by
  unfold Mv.stored
  split
  · exact h.with_nx 5 (by decide) (by decide)
  split
  · exact h.with_nx 6 (by decide) (by decide)
  split
  · exact h.park ht
  split
  · exact h.standLast ht
  split
  · exact MK.finish (m := { m with s0 := m.s.sh }) ⟨h.gd, h.md, h.k, h.wk, h.gd.sh⟩
  split
  · exact MK.finish (m := { m with s1 := m.s.w1 }) ⟨h.gd, h.md, h.k, h.wk, h.s0⟩
  · exact MK.finish (m := { m with wk := m.wk.tail }) ⟨h.gd, h.md, h.k, fun y hy => h.wk y (List.mem_of_mem_tail hy), h.s0⟩
end MK
theorem Gd.w1 {T : Nat} {s : LS} (h : Gd T s) (hT : T ≤ 64) : 0 ≤ s.w1 ∧ s.w1 < 18446744073709551616 := by
  obtain ⟨_, hu, he, hw, hg, hf, hl⟩ := h
  unfold LS.w1
  omega
theorem StW.bnd {T x : Nat} {v : Int} {m : Mv} (h : StW m x v) (hok : MOk T m) (hT : T ≤ 64) (ht : m.t < T) : 0 ≤ v ∧ v < 18446744073709551616 := by
  cases h with
  | md h => have := hok.md (hok.n4 h); omega
  | cl h => omega
  | wt h => omega
  | ln l h hl => unfold Mv.nd; omega
  | bi h => have := hok.gd.sh; omega
  | st h => exact hok.gd.w1 hT
  | wk k r h hk => omega
/-- A step keeps what is true of every move, and words are words. -/
theorem MStp.keep {T : Nat} {ws ws' : List Int} {m m' : Mv} {g g' : Gs} {wait : Bool} {no : Int} (h : MStp T ws m g m' g' ws' wait no) (hT : T ≤ 64) (ht : m.t < T) (hb : Bnd ws) (hok : MOk T m) : MOk T m' ∧ Bnd ws' ∧ m'.tri = m.tri := by
  have hk := hok.mk'
  cases h with
  | en1 h he hS hok' => exact ⟨hok, hS.bnd (by omega) hb, rfl⟩
  | en2 h he hS => exact ⟨hk.with_nx 2 (by decide) (by decide), hS.bnd (by omega) hb, rfl⟩
  | le1 h he hS hok' => exact ⟨hok, hS.bnd (by omega) hb, rfl⟩
  | le2 h he hS => exact ⟨hk.with_nx _ (by split <;> decide) (by split <;> decide), hS.bnd (by omega) hb, rfl⟩
  | aw h u hu hx => exact ⟨hok, hb, rfl⟩
  | ag h hx => exact ⟨hk.with_nx 0 (by decide) (by decide), hb, rfl⟩
  | bi h u hx => exact ⟨⟨hk.gd, hk.md, hk.k, hk.wk, (fun e => by cases e), by have := (hb.get hx).2; show u < _; omega, (fun e => by cases e)⟩, hb, rfl⟩
  | so h v hv hx hr =>
    have hgd : Gd T (rdLS m.s0 v) := may_gd hT (by simp [rdB] at hr; exact hr.2)
    exact ⟨MK.decide (m := { m with s1 := v, s := rdLS m.s0 v }) ⟨hgd, hk.md, hk.k, hk.wk, hk.s0⟩ hT ht, hb, Mv.decide_t _⟩
  | sb h v hv hx hr => exact ⟨hok, hb, rfl⟩
  | mo h k hk' u hu hx => exact ⟨hk.readMode hT u hu (by omega), hb, Mv.readMode_t _ _⟩
  | mb h k hk' u h0 h64 hu hx => exact ⟨hok, hb, rfl⟩
  | no h k hk' u hu hx => exact ⟨hk.serve hT m.fr (u - 1) (by omega) (by have := isL_le hu; omega), hb, Mv.serve_t _ _ _⟩
  | nb h k hk' u h0 hu hx => exact ⟨hok, hb, rfl⟩
  | st hs hx => exact ⟨hk.stored ht, hb.set _ _ (hs.bnd hok hT ht).1 (hs.bnd hok hT ht).2, Mv.stored_t _⟩
theorem Mv.finish_wk (m : Mv) : m.finish.wk = m.wk := rfl
theorem Mv.handOn_wk (m : Mv) : m.handOn.wk.length ≤ m.wk.length + 1 := by
  unfold Mv.handOn
  split
  · rw [Mv.finish_wk]; simp
  · split
    · rw [Mv.finish_wk]; omega
    · show m.wk.length ≤ _; omega
theorem Mv.serve_wk (m : Mv) (u v : Int) : (m.serve u v).wk.length ≤ m.wk.length + 2 := by
  unfold Mv.serve
  refine Nat.le_trans (Mv.handOn_wk _) ?_
  show (m.wk ++ [m.s.fi]).length + 1 ≤ _
  simp
theorem Mv.decide_wk (m : Mv) : m.decide.wk.length ≤ m.wk.length + 2 := by
  unfold Mv.decide Mv.get Mv.giveBack Mv.goOver Mv.refuse
  repeat' split
  all_goals first | (rw [Mv.finish_wk]; exact Nat.le_add_right _ 2) | exact Nat.le_trans (Mv.handOn_wk _) (Nat.le_succ _) | exact Nat.le_add_right _ 2
theorem Mv.stored_wk (m : Mv) : m.stored.wk.length ≤ m.wk.length + 2 := by
  unfold Mv.stored Mv.park Mv.standLast
  repeat' split
  all_goals first | exact Nat.le_add_right _ 2 | (rw [Mv.finish_wk]; exact Nat.le_add_right _ 2) | (rw [Mv.finish_wk]; show m.wk.tail.length ≤ _; simp; omega)
theorem MStp.wkl {T : Nat} {ws ws' : List Int} {m m' : Mv} {g g' : Gs} {wait : Bool} {no : Int} (h : MStp T ws m g m' g' ws' wait no) : m'.wk.length ≤ m.wk.length + 2 := by
  cases h with
  | so h v hv hx hr => exact Mv.decide_wk _
  | mo h k hk' u hu hx =>
    unfold Mv.readMode
    split
    · exact Nat.le_add_right _ 2
    · split
      · exact Nat.le_add_right _ 2
      · exact Mv.serve_wk _ _ _
  | no h k hk' u hu hx => exact Mv.serve_wk _ _ _
  | st hs hx => exact Mv.stored_wk _
  | _ => exact Nat.le_add_right _ 2
end Go.Proofs.YticbbfcachnkiaaGreatDoor
