/- Stage 13: what the program keeps of the waits, and that it is right. No Go text. -/
import Derived.Test.YtfkikaoojelddaaTrL
namespace Go.Proofs.Ytfkikaoojelddaa
open Go.ChangeShapes Go.WideShapes Go.ChangeAt Go.RowKit
set_option linter.unusedVariables false
/-- What is known of the waits: all of them; by threads, which one may go on; by words, what has changed them last. -/
structure WS where
  ws : List Wd
  op : Int → Option Nat
  la : Int → Option (Nat × Int)
def gon (S : WS) (d : Dd) : Bool := match S.op d.i with | some n => waw d && (S.ws.getD n wd0).w == d.a.w | none => false
def clw (S : WS) (n : Nat) : List Wd :=
  match S.la (S.ws.getD n wd0).w with
  | some c => if (S.ws.getD n wd0).f < (c.1 : Int) then S.ws.set n { S.ws.getD n wd0 with to := c.1, by_ := c.2 } else S.ws
  | none => S.ws
def cls (S : WS) (t : Int) : WS := match S.op t with | some n => ⟨clw S n, updI S.op t none, S.la⟩ | none => S
def bgn (S : WS) (i : Nat) (d : Dd) : WS := if waw d = true then ⟨S.ws ++ [⟨d.i, d.a.w, i, -1, -1⟩], updI S.op d.i (some S.ws.length), S.la⟩ else S
def seL (S : WS) (i : Nat) (d : Dd) : WS := if chg d.a = true then { S with la := updI S.la d.a.w (some (i, d.i)) } else S
def see (S : WS) (i : Nat) (d : Dd) : WS := seL (if gon S d = true then S else bgn (cls S d.i) i d) i d
def see0 : WS := ⟨[], fun _ => none, fun _ => none⟩
def seeK (l : List Dd) : Nat → WS
  | 0 => see0
  | k + 1 => see (seeK l k) k (l.getD k dd0)
def opn (x : Wd) : Wd := { x with to := -1, by_ := -1 }
/-- What is kept is what the waits are, after k things. -/
structure Sim (k : Nat) (S : WS) (E : List (Wd × Bool)) : Prop where
  len : S.ws.length = E.length
  ent : ∀ (n : Nat) (y : Wd × Bool), E[n]? = some y → S.ws[n]? = some (if y.2 = true then opn y.1 else y.1)
  op : ∀ t n, S.op t = some n ↔ ∃ y, E[n]? = some y ∧ y.2 = true ∧ y.1.t = t
  la : ∀ (n : Nat) (y : Wd × Bool), E[n]? = some y → y.2 = true → (y.1.to, y.1.by_) = match S.la y.1.w with | some c => if y.1.f < (c.1 : Int) then ((c.1 : Int), c.2) else (-1, -1) | none => (-1, -1)
  lt : ∀ y, y ∈ E → 0 ≤ y.1.f ∧ y.1.f < k ∧ 0 ≤ y.1.w
  lk : ∀ w c, S.la w = some c → c.1 < k
def clo (t : Int) (y : Wd × Bool) : Wd × Bool := if y.2 = true ∧ y.1.t = t then (y.1, false) else y
theorem clo_fst (t : Int) (y : Wd × Bool) : (clo t y).1 = y.1 := by unfold clo; split <;> rfl
theorem clo_no {t : Int} {y : Wd × Bool} (h : ¬ (y.2 = true ∧ y.1.t = t)) : clo t y = y := by unfold clo; rw [if_neg h]
theorem getW {k : Nat} {S : WS} {E : List (Wd × Bool)} (h : Sim k S E) {n : Nat} {y : Wd × Bool} (hy : E[n]? = some y) : S.ws.getD n wd0 = if y.2 = true then opn y.1 else y.1 := by
  rw [List.getD_eq_getElem?_getD, h.ent n y hy]; rfl
/-- A wait that is over says what it said. -/
theorem clw_at {k : Nat} {S : WS} {E : List (Wd × Bool)} (h : Sim k S E) {n : Nat} {y : Wd × Bool} (hy : E[n]? = some y) (ho : y.2 = true) : (clw S n).length = S.ws.length ∧ (clw S n)[n]? = some y.1 ∧ ∀ j, j ≠ n → (clw S n)[j]? = S.ws[j]? := by
  have hn : n < S.ws.length := by rw [h.len]; exact (List.getElem?_eq_some_iff.1 hy).1
  have hg := getW h hy
  rw [if_pos ho] at hg
  have hla := h.la n y hy ho
  have hen := h.ent n y hy
  rw [if_pos ho] at hen
  have hS : clw S n = match S.la y.1.w with | some c => if y.1.f < (c.1 : Int) then S.ws.set n { opn y.1 with to := c.1, by_ := c.2 } else S.ws | none => S.ws := by unfold clw; rw [hg]; rfl
  rw [hS]
  obtain ⟨⟨yt, yw, yf, yto, yby⟩, yb⟩ := y
  simp only [opn] at *
  cases hl : S.la yw with
  | none =>
    rw [hl] at hla
    simp only [Prod.mk.injEq] at hla
    refine ⟨rfl, ?_, fun j _ => rfl⟩
    rw [hen, hla.1, hla.2]
  | some c =>
    rw [hl] at hla
    dsimp only at hla ⊢
    split
    · rename_i hc
      rw [if_pos hc] at hla
      simp only [Prod.mk.injEq] at hla
      refine ⟨by simp, ?_, fun j hj => ?_⟩
      · rw [List.getElem?_set, if_pos rfl, if_pos hn, hla.1, hla.2]
      · rw [List.getElem?_set, if_neg (Ne.symm hj)]
    · rename_i hc
      rw [if_neg hc] at hla
      simp only [Prod.mk.injEq] at hla
      refine ⟨rfl, ?_, fun j _ => rfl⟩
      rw [hen, hla.1, hla.2]
theorem cls_sim {k : Nat} {S : WS} {E : List (Wd × Bool)} (h : Sim k S E) (t : Int) : Sim k (cls S t) (E.map (clo t)) := by
  unfold cls
  cases ho : S.op t with
  | none =>
    have hno : E.map (clo t) = E := by
      rw [show E = E.map id by simp]
      rw [List.map_map]
      apply List.map_congr_left
      intro y hy
      obtain ⟨n, hn⟩ := List.getElem?_of_mem hy
      show clo t y = y
      apply clo_no
      rintro ⟨h1, h2⟩
      have := (h.op t n).2 ⟨y, hn, h1, h2⟩
      rw [ho] at this; cases this
    rw [hno]; exact h
  | some n =>
    obtain ⟨y, hy, hyo, hyt⟩ := (h.op t n).1 ho
    obtain ⟨c1, c2, c3⟩ := clw_at h hy hyo
    have huniq : ∀ j z, E[j]? = some z → z.2 = true → z.1.t = t → j = n := fun j z hz h1 h2 => by
      have := (h.op t j).2 ⟨z, hz, h1, h2⟩
      rw [ho] at this; cases this; rfl
    refine ⟨by rw [List.length_map]; exact c1.trans h.len, fun j z hz => ?_, fun t' j => ?_, fun j z hz hzo => ?_, fun z hz => ?_, h.lk⟩
    · rw [List.getElem?_map] at hz
      cases hq : E[j]? with
      | none => rw [hq] at hz; cases hz
      | some q =>
        rw [hq] at hz; cases hz
        rw [clo_fst]
        by_cases hjn : j = n
        · subst hjn
          rw [hy] at hq; cases hq
          have : (clo t y).2 = false := by unfold clo; rw [if_pos ⟨hyo, hyt⟩]
          rw [if_neg (by rw [this]; simp)]; exact c2
        · rw [clo_no (fun hh => hjn (huniq j q hq hh.1 hh.2))]
          rw [show (clw S n)[j]? = S.ws[j]? from c3 j hjn]
          exact h.ent j q hq
    · show updI S.op t none t' = some j ↔ _
      by_cases e : t' = t
      · subst e
        rw [updI_eq]
        refine ⟨fun hh => (by cases hh), fun ⟨z, hz, hz1, hz2⟩ => ?_⟩
        rw [List.getElem?_map] at hz
        cases hq : E[j]? with
        | none => rw [hq] at hz; cases hz
        | some q =>
          rw [hq] at hz; cases hz
          rw [clo_fst] at hz2
          unfold clo at hz1
          split at hz1
          · cases hz1
          · rename_i hh; exact absurd ⟨hz1, hz2⟩ hh
      · rw [updI_ne _ _ e, h.op t' j]
        constructor
        · rintro ⟨z, hz, hz1, hz2⟩
          have hcz : clo t z = z := clo_no (fun hh => e (by rw [← hz2, hh.2]))
          exact ⟨z, by rw [List.getElem?_map, hz]; simp [hcz], hz1, hz2⟩
        · rintro ⟨z, hz, hz1, hz2⟩
          rw [List.getElem?_map] at hz
          cases hq : E[j]? with
          | none => rw [hq] at hz; cases hz
          | some q =>
            rw [hq] at hz; cases hz
            rw [clo_fst] at hz2
            refine ⟨q, rfl, ?_, hz2⟩
            unfold clo at hz1
            split at hz1
            · cases hz1
            · exact hz1
    · rw [List.getElem?_map] at hz
      cases hq : E[j]? with
      | none => rw [hq] at hz; cases hz
      | some q =>
        rw [hq] at hz; cases hz
        unfold clo at hzo ⊢
        split at hzo
        · cases hzo
        · rename_i hh; rw [if_neg hh]; exact h.la j q hq hzo
    · obtain ⟨q, hq, rfl⟩ := List.mem_map.1 hz
      rw [clo_fst]; exact h.lt q hq
theorem estep_get {n : Nat} {E : List (Wd × Bool)} {d : Dd} {j : Nat} {z : Wd × Bool} (h : (estep n E d)[j]? = some z) : (∃ y, E[j]? = some y ∧ z = ext n d y) ∨ (j = E.length ∧ 0 ≤ atW d ∧ hasO E d.i (atW d) = false ∧ z = (⟨d.i, atW d, n, -1, -1⟩, true)) := by
  unfold estep at h
  rw [List.getElem?_append] at h
  split at h
  · left
    rw [List.getElem?_map] at h
    cases hq : E[j]? with
    | none => rw [hq] at h; cases h
    | some q => rw [hq] at h; cases h; exact ⟨q, rfl, rfl⟩
  · right
    rename_i hj
    rw [List.length_map] at hj h
    split at h
    · rename_i h0
      rw [List.getElem?_cons] at h
      split at h
      · cases h; exact ⟨by omega, h0.1, h0.2, rfl⟩
      · simp at h
    · simp at h
theorem may_waw {d : Dd} (hm : may d = true) (h : waw d = true) : 0 ≤ d.a.w ∧ chg d.a = false ∧ d.a.k = 1 := by
  unfold waw at h
  simp at h
  obtain ⟨h1, h2⟩ := h
  unfold may isAc isWd at hm
  simp [h2] at hm
  unfold chg
  refine ⟨by omega, by simp; omega, h2⟩
theorem atW_yes {d : Dd} (h : waw d = true) : atW d = d.a.w := by unfold atW; rw [if_pos h]
theorem atW_no {d : Dd} (h : waw d = false) : atW d = -1 := by unfold atW; rw [if_neg (by simp [h])]
theorem chW_no {d : Dd} (h : chg d.a = false) (x : Int) : chW d x = false := by unfold chW; rw [h]; simp
theorem chW_yes {d : Dd} (hm : may d = true) (h : chg d.a = true) (x : Int) : chW d x = decide (d.a.w = x) := by
  rw [← chP_of hm, h, Bool.and_true]
  rw [Bool.eq_iff_iff]; simp
theorem hasO_op {k : Nat} {S : WS} {E : List (Wd × Bool)} (h : Sim k S E) (t w : Int) : hasO E t w = true ↔ ∃ n y, S.op t = some n ∧ E[n]? = some y ∧ y.2 = true ∧ y.1.t = t ∧ y.1.w = w := by
  unfold hasO
  rw [List.any_eq_true]
  constructor
  · rintro ⟨y, hy, hc⟩
    simp at hc
    obtain ⟨n, hn⟩ := List.getElem?_of_mem hy
    exact ⟨n, y, (h.op t n).2 ⟨y, hn, hc.1.1, hc.1.2⟩, hn, hc.1.1, hc.1.2, hc.2⟩
  · rintro ⟨n, y, _, hn, h1, h2, h3⟩
    exact ⟨y, List.mem_of_getElem? hn, by simp [h1, h2, h3]⟩
/-- It goes on, as the program says. -/
theorem gon_has {k : Nat} {S : WS} {E : List (Wd × Bool)} (h : Sim k S E) {d : Dd} : gon S d = (waw d && hasO E d.i (atW d)) := by
  rw [Bool.eq_iff_iff, Bool.and_eq_true, hasO_op h]
  unfold gon
  cases ho : S.op d.i with
  | none => simp
  | some n =>
    obtain ⟨y, hy, hyo, hyt⟩ := (h.op d.i n).1 ho
    have hg := getW h hy
    rw [if_pos hyo] at hg
    dsimp only
    rw [hg, Bool.and_eq_true]
    constructor
    · rintro ⟨h1, h2⟩
      refine ⟨h1, n, y, rfl, hy, hyo, hyt, ?_⟩
      rw [atW_yes h1]
      simpa [opn] using h2
    · rintro ⟨h1, n', y', e, hy', _, _, hw⟩
      cases e
      rw [hy] at hy'; cases hy'
      rw [atW_yes h1] at hw
      exact ⟨h1, by simp [opn, hw]⟩
/-- A wait begins. -/
theorem bgn_sim {k : Nat} {S : WS} {E : List (Wd × Bool)} (h : Sim k S E) {d : Dd} (hw : 0 ≤ d.a.w) (hno : S.op d.i = none) :
    Sim (k + 1) ⟨S.ws ++ [⟨d.i, d.a.w, k, -1, -1⟩], updI S.op d.i (some S.ws.length), S.la⟩ (E ++ [(⟨d.i, d.a.w, k, -1, -1⟩, true)]) := by
  have hl := h.len
  refine ⟨by simp [hl], fun n y hy => ?_, fun t n => ?_, fun n y hy hyo => ?_, fun y hy => ?_, fun w c hc => by have := h.lk w c hc; omega⟩
  · rw [List.getElem?_append] at hy ⊢
    rw [hl]
    split at hy
    · rename_i hn; rw [if_pos hn]; exact h.ent n y hy
    · rename_i hn
      rw [if_neg hn]
      rw [List.getElem?_cons] at hy ⊢
      split at hy
      · rename_i h0; rw [if_pos h0]; cases hy; rfl
      · simp at hy
  · show updI S.op d.i (some S.ws.length) t = some n ↔ _
    by_cases e : t = d.i
    · subst e
      rw [updI_eq]
      constructor
      · intro hh
        cases hh
        exact ⟨_, by rw [List.getElem?_append_right (by omega), hl, Nat.sub_self]; rfl, rfl, rfl⟩
      · rintro ⟨y, hy, hyo, hyt⟩
        rw [List.getElem?_append] at hy
        split at hy
        · have := (h.op d.i n).2 ⟨y, hy, hyo, hyt⟩
          rw [hno] at this; cases this
        · rename_i hn
          have := (List.getElem?_eq_some_iff.1 hy).1
          simp at this
          congr 1; omega
    · rw [updI_ne _ _ e, h.op t n]
      constructor
      · rintro ⟨y, hy, r⟩
        exact ⟨y, by rw [List.getElem?_append_left (List.getElem?_eq_some_iff.1 hy).1]; exact hy, r⟩
      · rintro ⟨y, hy, hyo, hyt⟩
        rw [List.getElem?_append] at hy
        split at hy
        · exact ⟨y, hy, hyo, hyt⟩
        · rw [List.getElem?_cons] at hy
          split at hy
          · cases hy; exact absurd hyt.symm e
          · simp at hy
  · rw [List.getElem?_append] at hy
    split at hy
    · exact h.la n y hy hyo
    · rw [List.getElem?_cons] at hy
      split at hy
      · cases hy
        show ((-1 : Int), (-1 : Int)) = match S.la d.a.w with | some c => if (k : Int) < (c.1 : Int) then ((c.1 : Int), c.2) else (-1, -1) | none => (-1, -1)
        cases hq : S.la d.a.w with
        | none => rfl
        | some c =>
          have := h.lk _ _ hq
          dsimp only
          rw [if_neg (by omega)]
      · simp at hy
  · rcases List.mem_append.1 hy with hy | hy
    · have := h.lt y hy; omega
    · simp at hy; subst hy; exact ⟨by simp, by show (k : Int) < ((k + 1 : Nat) : Int); omega, hw⟩
/-- A word is changed. -/
def chE (k : Nat) (d : Dd) (y : Wd × Bool) : Wd × Bool := if y.2 = true ∧ d.a.w = y.1.w then ({ y.1 with to := k, by_ := d.i }, true) else y
theorem la_sim {k : Nat} {S : WS} {E : List (Wd × Bool)} (h : Sim k S E) {d : Dd} : Sim (k + 1) { S with la := updI S.la d.a.w (some (k, d.i)) } (E.map (chE k d)) := by
  have hpart : ∀ y : Wd × Bool, (chE k d y).2 = y.2 ∧ (chE k d y).1.t = y.1.t ∧ (chE k d y).1.f = y.1.f ∧ (chE k d y).1.w = y.1.w ∧ opn (chE k d y).1 = opn y.1 := fun y => by
    unfold chE
    split
    · rename_i hh; exact ⟨hh.1.symm, rfl, rfl, rfl, rfl⟩
    · exact ⟨rfl, rfl, rfl, rfl, rfl⟩
  have hget : ∀ (n : Nat) (z : Wd × Bool), (E.map (chE k d))[n]? = some z → ∃ y, E[n]? = some y ∧ z = chE k d y := fun n z hz => by
    rw [List.getElem?_map] at hz
    cases hq : E[n]? with
    | none => rw [hq] at hz; cases hz
    | some q => rw [hq] at hz; cases hz; exact ⟨q, rfl, rfl⟩
  refine ⟨by rw [List.length_map]; exact h.len, fun n z hz => ?_, fun t n => ?_, fun n z hz hzo => ?_, fun z hz => ?_, fun w c hc => ?_⟩
  · obtain ⟨y, hy, rfl⟩ := hget n z hz
    obtain ⟨p1, p2, p3, p4, p5⟩ := hpart y
    rw [p1, p5]
    have := h.ent n y hy
    cases hyo : y.2
    · rw [hyo] at this
      have : chE k d y = y := by unfold chE; rw [if_neg (by simp [hyo])]
      rw [this]
      have := h.ent n y hy
      rw [hyo] at this
      exact this
    · rw [hyo] at this; exact this
  · rw [show ({ S with la := updI S.la d.a.w (some (k, d.i)) } : WS).op t = S.op t from rfl, h.op t n]
    constructor
    · rintro ⟨y, hy, h1, h2⟩
      obtain ⟨p1, p2, _⟩ := hpart y
      exact ⟨chE k d y, by rw [List.getElem?_map, hy]; rfl, by rw [p1, h1], by rw [p2, h2]⟩
    · rintro ⟨z, hz, h1, h2⟩
      obtain ⟨y, hy, rfl⟩ := hget n z hz
      obtain ⟨p1, p2, _⟩ := hpart y
      exact ⟨y, hy, by rw [← p1, h1], by rw [← p2, h2]⟩
  · obtain ⟨y, hy, rfl⟩ := hget n z hz
    obtain ⟨p1, p2, p3, p4, p5⟩ := hpart y
    rw [p1] at hzo
    have hla := h.la n y hy hzo
    have hlt := h.lt y (List.mem_of_getElem? hy)
    show ((chE k d y).1.to, (chE k d y).1.by_) = match updI S.la d.a.w (some (k, d.i)) (chE k d y).1.w with | some c => if (chE k d y).1.f < (c.1 : Int) then ((c.1 : Int), c.2) else (-1, -1) | none => (-1, -1)
    rw [p3, p4]
    by_cases e : d.a.w = y.1.w
    · rw [e, updI_eq]
      dsimp only
      rw [if_pos hlt.2.1]
      unfold chE
      rw [if_pos ⟨hzo, e⟩]
    · rw [updI_ne _ _ (Ne.symm e)]
      have : chE k d y = y := by unfold chE; rw [if_neg (fun hh => e hh.2)]
      rw [this]; exact hla
  · obtain ⟨y, hy, rfl⟩ := List.mem_map.1 hz
    obtain ⟨p1, p2, p3, p4, p5⟩ := hpart y
    rw [p3, p4]
    have := h.lt y hy; omega
  · have hc : updI S.la d.a.w (some (k, d.i)) w = some c := hc
    by_cases e : w = d.a.w
    · rw [e, updI_eq] at hc; cases hc; show k < k + 1; omega
    · rw [updI_ne _ _ e] at hc; have := h.lk w c hc; omega
theorem Sim.succ {k : Nat} {S : WS} {E : List (Wd × Bool)} (h : Sim k S E) : Sim (k + 1) S E :=
  ⟨h.len, h.ent, h.op, h.la, fun y hy => by have := h.lt y hy; omega, fun w c hc => by have := h.lk w c hc; omega⟩
/-- A step of the program is a step of the waits. -/
theorem see_sim {k : Nat} {S : WS} {E : List (Wd × Bool)} (h : Sim k S E) {d : Dd} (hm : may d = true) : Sim (k + 1) (see S k d) (estep k E d) := by
  by_cases hg : gon S d = true
  · -- it goes on: nothing changes
    have hg2 := hg
    rw [gon_has h, Bool.and_eq_true] at hg2
    obtain ⟨hw, hh⟩ := hg2
    obtain ⟨_, hc, _⟩ := may_waw hm hw
    have hE : estep k E d = E := by
      unfold estep
      rw [if_neg (by rw [hh]; simp), List.append_nil]
      rw [show E = E.map id by simp, List.map_map]
      apply List.map_congr_left
      intro y hy
      show ext k d y = y
      obtain ⟨n, hn⟩ := List.getElem?_of_mem hy
      unfold ext
      split
      · rename_i hyo
        split
        · rename_i ht
          obtain ⟨n', y', ho', hy', _, _, hw'⟩ := (hasO_op h _ _).1 hh
          have := (h.op d.i n).2 ⟨y, hn, hyo, ht.symm⟩
          rw [ho'] at this; cases this
          rw [hn] at hy'; cases hy'
          rw [if_pos hw'.symm]
        · rw [chW_no hc]; rfl
      · rfl
    have hS : see S k d = S := by unfold see seL; rw [if_pos hg, hc]; rfl
    rw [hE, hS]
    exact ⟨h.len, h.ent, h.op, h.la, fun y hy => by have := h.lt y hy; omega, fun w c hc => by have := h.lk w c hc; omega⟩
  · have hng : ¬ (waw d = true ∧ hasO E d.i (atW d) = true) := fun hh => hg (by rw [gon_has h, hh.1, hh.2]; rfl)
    have h1 := cls_sim h d.i
    -- the map of all
    have hext : ∀ y ∈ E, ext k d y = if (clo d.i y).2 = true ∧ chW d y.1.w = true then ({ y.1 with to := k, by_ := d.i }, true) else clo d.i y := fun y hy => by
      obtain ⟨n, hn⟩ := List.getElem?_of_mem hy
      unfold ext clo
      cases hyo : y.2
      · simp [hyo]
      · by_cases ht : d.i = y.1.t
        · have hne : atW d ≠ y.1.w := fun e => by
            have hO : hasO E d.i (atW d) = true := (hasO_op h _ _).2 ⟨n, y, (h.op d.i n).2 ⟨y, hn, hyo, ht.symm⟩, hn, hyo, ht.symm, e.symm⟩
            by_cases hw : waw d = true
            · exact hng ⟨hw, hO⟩
            · have := (h.lt y hy).2.2
              rw [← e, atW_no (by simpa using hw)] at this
              omega
          simp [ht, hne]
        · have ht2 : ¬ y.1.t = d.i := fun e => ht e.symm
          simp [ht, ht2, hyo]
    have hsee : see S k d = seL (bgn (cls S d.i) k d) k d := by unfold see; rw [if_neg hg]
    have hop : (cls S d.i).op d.i = none := by
      unfold cls
      cases ho : S.op d.i with
      | none => exact ho
      | some n => exact updI_eq _ _ _
    by_cases hw : waw d = true
    · obtain ⟨hw0, hc, _⟩ := may_waw hm hw
      have hE : estep k E d = E.map (clo d.i) ++ [(⟨d.i, d.a.w, k, -1, -1⟩, true)] := by
        unfold estep
        have h0 : hasO E d.i (atW d) = false := by
          cases hh : hasO E d.i (atW d) with
          | false => rfl
          | true => exact absurd ⟨hw, hh⟩ hng
        rw [if_pos ⟨by rw [atW_yes hw]; exact hw0, h0⟩, atW_yes hw]
        congr 1
        apply List.map_congr_left
        intro y hy
        rw [hext y hy, if_neg (by rw [chW_no hc]; simp)]
      rw [hsee, hE]
      unfold seL bgn
      rw [hc, if_pos hw]
      exact bgn_sim h1 hw0 hop
    · have hw2 : waw d = false := by simpa using hw
      have hE : estep k E d = E.map (ext k d) := by
        unfold estep
        rw [if_neg (by rw [atW_no hw2]; intro hh; have := hh.1; omega), List.append_nil]
      rw [hsee, hE]
      unfold seL bgn
      rw [if_neg hw]
      by_cases hc : chg d.a = true
      · rw [if_pos hc]
        have hE2 : E.map (ext k d) = (E.map (clo d.i)).map (chE k d) := by
          rw [List.map_map]
          apply List.map_congr_left
          intro y hy
          rw [hext y hy, chW_yes hm hc]
          show _ = chE k d (clo d.i y)
          unfold chE
          rw [clo_fst]
          simp
        rw [hE2]
        exact la_sim h1
      · rw [if_neg hc]
        have hE2 : E.map (ext k d) = E.map (clo d.i) := by
          apply List.map_congr_left
          intro y hy
          rw [hext y hy, if_neg (by rw [chW_no (by simpa using hc)]; simp)]
        rw [hE2]
        exact h1.succ
theorem sim0 : Sim 0 see0 [] := ⟨rfl, fun n y hy => by simp at hy, fun t n => by simp [see0], fun n y hy => by simp at hy, fun y hy => by simp at hy, fun w c hc => by cases hc⟩
theorem seeK_sim {l : List Dd} (hall : ∀ (k : Nat) (d : Dd), l[k]? = some d → may d = true) : ∀ k, k ≤ l.length → Sim k (seeK l k) (eag l k)
  | 0, _ => sim0
  | k + 1, h => by
    have hd : l[k]? = some (l[k]'(by omega)) := List.getElem?_eq_getElem _
    unfold seeK eag
    rw [hd, getD_of hd]
    exact see_sim (seeK_sim hall k (by omega)) (hall k _ hd)
/-- All is closed: what is kept is what the waits are. -/
theorem sim_end {k : Nat} {S : WS} {E : List (Wd × Bool)} (h : Sim k S E) (ho : ∀ t, S.op t = none) : S.ws = E.map (·.1) := by
  apply List.ext_getElem?
  intro n
  rw [List.getElem?_map]
  cases hq : E[n]? with
  | none => rw [List.getElem?_eq_none_iff] at hq; rw [List.getElem?_eq_none_iff.2 (by rw [h.len]; exact hq)]; rfl
  | some y =>
    rw [h.ent n y hq]
    cases hyo : y.2
    · rfl
    · have := (h.op y.1.t n).2 ⟨y, hq, hyo, rfl⟩
      rw [ho] at this; cases this
theorem clo_map (t : Int) (E : List (Wd × Bool)) : (E.map (clo t)).map (·.1) = E.map (·.1) := by
  rw [List.map_map]
  apply List.map_congr_left
  intro y _
  exact clo_fst t y
end Go.Proofs.Ytfkikaoojelddaa
