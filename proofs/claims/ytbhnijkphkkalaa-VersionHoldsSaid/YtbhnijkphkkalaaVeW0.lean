/- The game of stage 11's theorem in memory: the arena, those that read, the one that writes. -/
import Derived.Test.YtbhnijkphkkalaaVeV
namespace Go.Proofs.Ytbhnijkphkkalaa
open Go.ChangeShapes Go.WideShapes Go.ChangeAt Go.RowKit
set_option linter.unusedVariables false

/-- A program: its block, its words' block, their room, what it is. -/
structure Prg where
  q : Nat
  b : Nat
  c : Nat
  P : Pg
def pv : Option Prg → Value
  | none => .pointer none
  | some x => .pointer (some ⟨x.q, 0, none⟩)
def pvs (rl : List (Option Prg)) : List Value := rl.map pv
structure Held (w0 w : World) (own : Nat → Nat) (tag : Nat) (x : Prg) : Prop where
  at_ : At w x.q x.b x.c x.P
  oq : own x.q = tag
  ob : own x.b = tag
  nq : w0.heap.size ≤ x.q
  nb : w0.heap.size ≤ x.b
structure Play (w0 w : World) (p d c g : Nat) (own : Nat → Nat) (rl : List (Option Prg)) (wo : Option Prg) (ws : List Int) : Prop where
  frm : Frm [] w0 w
  pn : w0.heap.size ≤ p
  dn : w0.heap.size ≤ d
  gn : w0.heap.size ≤ g
  mem : MemAt w p d c ws
  row : w.heap[g]? = some (.cells (pvs rl).toArray 26 (0, 0))
  op : own p = 0
  od : own d = 0
  og : own g = 1
  rd : ∀ i x, rl[i]? = some (some x) → Held w0 w own (i + 3) x
  wr : ∀ x, wo = some x → Held w0 w own 2 x
theorem Held.frm {w0 w w' : World} {own : Nat → Nat} {tag : Nat} {x : Prg} {D : List Nat} (h : Held w0 w own tag x) (hf : Frm D w w') (hD : ∀ y ∈ D, own y ≠ tag) : Held w0 w' own tag x :=
  ⟨h.at_.frm hf (fun hx => hD _ hx h.oq) (fun hx => hD _ hx h.ob), h.oq, h.ob, h.nq, h.nb⟩
theorem Held.own {w0 w : World} {own own' : Nat → Nat} {tag : Nat} {x : Prg} (h : Held w0 w own tag x) (ho : ∀ y, y < w.heap.size → own' y = own y) : Held w0 w own' tag x :=
  ⟨h.at_, (ho _ h.at_.lt.1).trans h.oq, (ho _ h.at_.lt.2).trans h.ob, h.nq, h.nb⟩
namespace Play
variable {w0 w w' : World} {p d c g : Nat} {own : Nat → Nat} {rl : List (Option Prg)} {wo : Option Prg} {ws ws' : List Int}
theorem glt (h : Play w0 w p d c g own rl wo ws) : g < w.heap.size := lt_of_heap h.row
theorem quiet (h : Play w0 w p d c g own rl wo ws) (hf : Frm [] w w') : Play w0 w' p d c g own rl wo ws :=
  ⟨h.frm.trans hf, h.pn, h.dn, h.gn, h.mem.frm hf (by simp) (by simp), hf.heap h.row (by simp), h.op, h.od, h.og,
    fun i x hx => (h.rd i x hx).frm hf (by simp), fun x hx => (h.wr x hx).frm hf (by simp)⟩
theorem cell (h : Play w0 w p d c g own rl wo ws) {i : Nat} {o : Option Prg} (ho : rl[i]? = some o) : w.cell? ⟨g, i, none⟩ = some (pv o) := by
  rw [cell_of_heap h.row, List.getElem?_toArray, pvs, List.getElem?_map, ho]; rfl
theorem frz (h : Play w0 w p d c g own rl wo ws) (i : Nat) : w.frozen? ⟨g, i, none⟩ = false := frozen_of_heap h.row
theorem retag (h : Play w0 w p d c g own rl wo ws) {own' : Nat → Nat} (ho : ∀ y, y < w.heap.size → own' y = own y) : Play w0 w p d c g own' rl wo ws :=
  ⟨h.frm, h.pn, h.dn, h.gn, h.mem, h.row, (ho _ h.mem.plt).trans h.op, (ho _ h.mem.dlt).trans h.od, (ho _ h.glt).trans h.og,
    fun i x hx => (h.rd i x hx).own ho, fun x hx => (h.wr x hx).own ho⟩
/-- A new one that writes. -/
theorem newW (h : Play w0 w p d c g own rl none ws) (hf : Frm [] w w') {x : Prg} (hx : At w' x.q x.b x.c x.P) (hq : w.heap.size ≤ x.q) (hb : w.heap.size ≤ x.b) :
    ∃ own', Play w0 w' p d c g own' rl (some x) ws := by
  have hb0 := h.frm.size
  have h1 := h.retag (own' := fun y => if y = x.q ∨ y = x.b then 2 else own y) (fun y hy => if_neg (by omega))
  have h2 := h1.quiet hf
  exact ⟨_, h2.frm, h2.pn, h2.dn, h2.gn, h2.mem, h2.row, h2.op, h2.od, h2.og, h2.rd, fun y hy => by
    cases hy; exact ⟨hx, if_pos (.inl rfl), if_pos (.inr rfl), by omega, by omega⟩⟩
/-- A new one that reads, before it is put into the row. -/
theorem newR (h : Play w0 w p d c g own rl wo ws) (hf : Frm [] w w') {x : Prg} (hx : At w' x.q x.b x.c x.P) (hq : w.heap.size ≤ x.q) (hb : w.heap.size ≤ x.b) {i : Nat} (hi : rl[i]? = some none) :
    ∃ own', Play w0 (w'.setCell ⟨g, i, none⟩ (pv (some x))) p d c g own' (rl.set i (some x)) wo ws := by
  have hb0 := h.frm.size
  have hgl := h.glt
  have h1 := h.retag (own' := fun y => if y = x.q ∨ y = x.b then i + 3 else own y) (fun y hy => if_neg (by omega))
  have h2 := h1.quiet hf
  have hF : Frm [g] w' (w'.setCell ⟨g, i, none⟩ (pv (some x))) := (Frm.refl _ _).setCell _ _ (.inl (by simp))
  have hil : i < rl.length := (List.getElem?_eq_some_iff.1 hi).1
  have hpg : p ≠ g := fun e => by have a := h.op; have b := h.og; rw [e] at a; omega
  have hdg : d ≠ g := fun e => by have a := h.od; have b := h.og; rw [e] at a; omega
  refine ⟨_, h2.frm.trans_new hF (by simp only [List.mem_cons, List.not_mem_nil, or_false]; rintro y rfl; right; exact h2.gn), h2.pn, h2.dn, h2.gn, h2.mem.frm hF (by simpa using hpg) (by simpa using hdg), ?_, h2.op, h2.od, h2.og, fun j y hy => ?_, fun y hy => (h2.wr y hy).frm hF ?_⟩
  · have := heap_setCell_at (i := i) (pv (some x)) h2.row
    rw [this]; simp [pvs, List.map_set]
  · rw [List.getElem?_set] at hy
    by_cases e : i = j
    · subst e
      rw [if_pos rfl, if_pos hil] at hy
      have : x = y := by simpa using hy
      subst this
      exact ⟨hx.frm hF (by simp; omega) (by simp; omega), if_pos (.inl rfl), if_pos (.inr rfl), by omega, by omega⟩
    · rw [if_neg e] at hy
      refine (h2.rd j y hy).frm hF ?_
      simp only [List.mem_cons, List.not_mem_nil, or_false]
      rintro y' rfl; have := h2.og; omega
  · simp only [List.mem_cons, List.not_mem_nil, or_false]
    rintro y' rfl; have := h2.og; omega
theorem sitW {x : Prg} (h : Play w0 w p d c g own rl (some x) ws) (hok : Ok x.P) (hn : ∀ v ∈ ws, 0 ≤ v) (hb : ∀ v ∈ x.P.buf, 0 ≤ v) : Sit w p d c x.q x.b x.c x.P ws := by
  obtain ⟨h1, h2, h3, h4, h5⟩ := h.wr x rfl
  have hp := h.op
  have hd := h.od
  exact ⟨h.mem, h1, ⟨fun e => by rw [e] at h2; omega, fun e => by rw [e] at h2; omega, fun e => by rw [e] at h3; omega, fun e => by rw [e] at h3; omega⟩, hok, hn, hb⟩
theorem sitR (h : Play w0 w p d c g own rl wo ws) {i : Nat} {x : Prg} (hi : rl[i]? = some (some x)) (hok : Ok x.P) (hn : ∀ v ∈ ws, 0 ≤ v) (hb : ∀ v ∈ x.P.buf, 0 ≤ v) : Sit w p d c x.q x.b x.c x.P ws := by
  obtain ⟨h1, h2, h3, h4, h5⟩ := h.rd i x hi
  have hp := h.op
  have hd := h.od
  exact ⟨h.mem, h1, ⟨fun e => by rw [e] at h2; omega, fun e => by rw [e] at h2; omega, fun e => by rw [e] at h3; omega, fun e => by rw [e] at h3; omega⟩, hok, hn, hb⟩
/-- Behind a step of the one that writes. -/
theorem stepW {x : Prg} (h : Play w0 w p d c g own rl (some x) ws) {P' : Pg} (hf : Frm [d, x.q, x.b] w w') (hs : Sit w' p d c x.q x.b x.c P' ws') : Play w0 w' p d c g own rl (some ⟨x.q, x.b, x.c, P'⟩) ws' := by
  obtain ⟨h1, h2, h3, h4, h5⟩ := h.wr x rfl
  have hd := h.od
  have hdn := h.dn
  have hg := h.og
  refine ⟨h.frm.trans_new hf (by simp only [List.mem_cons, List.not_mem_nil, or_false]; rintro y (rfl | rfl | rfl) <;> right <;> assumption), h.pn, h.dn, h.gn, hs.mem, hf.heap h.row ?_, h.op, h.od, h.og, fun j y hy => (h.rd j y hy).frm hf ?_, fun y hy => by cases hy; exact ⟨hs.pg, h2, h3, h4, h5⟩⟩
  · simp only [List.mem_cons, List.not_mem_nil, or_false]
    rintro (rfl | rfl | rfl) <;> omega
  · simp only [List.mem_cons, List.not_mem_nil, or_false]
    rintro y' (rfl | rfl | rfl) <;> omega
/-- Behind a step of one that reads. -/
theorem stepR (h : Play w0 w p d c g own rl wo ws) {i : Nat} {x : Prg} (hi : rl[i]? = some (some x)) {P' : Pg} (hf : Frm [d, x.q, x.b] w w') (hs : Sit w' p d c x.q x.b x.c P' ws') : Play w0 w' p d c g own (rl.set i (some ⟨x.q, x.b, x.c, P'⟩)) wo ws' := by
  obtain ⟨h1, h2, h3, h4, h5⟩ := h.rd i x hi
  have hd := h.od
  have hdn := h.dn
  have hg := h.og
  have hil : i < rl.length := (List.getElem?_eq_some_iff.1 hi).1
  refine ⟨h.frm.trans_new hf (by simp only [List.mem_cons, List.not_mem_nil, or_false]; rintro y (rfl | rfl | rfl) <;> right <;> assumption), h.pn, h.dn, h.gn, hs.mem, ?_, h.op, h.od, h.og, fun j y hy => ?_, fun y hy => (h.wr y hy).frm hf ?_⟩
  · rw [hf.heap h.row ?_]
    · congr 2
      apply congrArg
      apply List.ext_getElem?
      intro j
      simp only [pvs, List.getElem?_map, List.getElem?_set]
      by_cases e : i = j
      · subst e; rw [if_pos rfl, if_pos hil, hi]; rfl
      · rw [if_neg e]
    · simp only [List.mem_cons, List.not_mem_nil, or_false]
      rintro (rfl | rfl | rfl) <;> omega
  · rw [List.getElem?_set] at hy
    by_cases e : i = j
    · subst e
      rw [if_pos rfl, if_pos hil] at hy
      cases hy
      exact ⟨hs.pg, h2, h3, h4, h5⟩
    · rw [if_neg e] at hy
      refine (h.rd j y hy).frm hf ?_
      simp only [List.mem_cons, List.not_mem_nil, or_false]
      rintro y' (rfl | rfl | rfl) <;> omega
  · simp only [List.mem_cons, List.not_mem_nil, or_false]
    rintro y' (rfl | rfl | rfl) <;> omega
theorem dropW (h : Play w0 w p d c g own rl wo ws) : Play w0 w p d c g own rl none ws :=
  ⟨h.frm, h.pn, h.dn, h.gn, h.mem, h.row, h.op, h.od, h.og, h.rd, fun x hx => by cases hx⟩
theorem dropR (h : Play w0 w p d c g own rl wo ws) {i : Nat} (hil : i < rl.length) : Play w0 (w.setCell ⟨g, i, none⟩ (.pointer none)) p d c g own (rl.set i none) wo ws := by
  have hF : Frm [g] w (w.setCell ⟨g, i, none⟩ (.pointer none)) := (Frm.refl _ _).setCell _ _ (.inl (by simp))
  have hpg : p ≠ g := fun e => by have a := h.op; have b := h.og; rw [e] at a; omega
  have hdg : d ≠ g := fun e => by have a := h.od; have b := h.og; rw [e] at a; omega
  refine ⟨h.frm.trans_new hF (by simp only [List.mem_cons, List.not_mem_nil, or_false]; rintro y rfl; right; exact h.gn), h.pn, h.dn, h.gn, h.mem.frm hF (by simpa using hpg) (by simpa using hdg), ?_, h.op, h.od, h.og, fun j y hy => ?_, fun y hy => (h.wr y hy).frm hF ?_⟩
  · have := heap_setCell_at (i := i) (.pointer none) h.row
    rw [this]; simp [pvs, List.map_set, pv]
  · rw [List.getElem?_set] at hy
    by_cases e : i = j
    · subst e
      rw [if_pos rfl, if_pos hil] at hy
      simp at hy
    · rw [if_neg e] at hy
      refine (h.rd j y hy).frm hF ?_
      simp only [List.mem_cons, List.not_mem_nil, or_false]
      rintro y' rfl; have := h.og; omega
  · simp only [List.mem_cons, List.not_mem_nil, or_false]
    rintro y' rfl; have := h.og; omega
end Play

/-- What is true of the game. -/
structure Gm (f : Int) (ls : List (List Int)) (e : Nat) (begun : Nat) (odd : Bool) (rl : List (Option Prg)) (wo : Option Prg) (ws : List Int) : Prop where
  none_ : wo = none → odd = false ∧ begun = e ∧ ws = ver f e :: vals ls e
  some_ : ∀ x : Prg, wo = some x → begun = e + 1 ∧ Wr f ls e odd x.P ws
  rd : ∀ (i : Nat) (x : Prg), rl[i]? = some (some x) → Rd1 f ls e odd x.P
  base : Base f ls e odd ws
  nn : ∀ v ∈ ws, 0 ≤ v
  beg : begun ≤ ls.length
theorem Wr.ok {f : Int} {ls : List (List Int)} (h4 : Four4 ls) {e : Nat} {odd : Bool} {P : Pg} {ws : List Int} (h : Wr f ls e odd P ws) : Ok P ∧ (∀ v ∈ P.buf, 0 ≤ v) ∧ P.R = false := by
  cases h with
  | fresh l hl => exact ⟨Ok.new _ _ _ _ _ (fun h => by cases h), (h4.at hl).2, rfl⟩
  | seen l hl => exact ⟨⟨by show (1 : Int) ≤ 2; omega, by show (2 : Int) ≤ 5; omega, fun _ => rfl, fun h => absurd h (by show (2 : Int) ≠ 3; omega), (fun h => by cases h), fun _ => rfl, .inl rfl⟩, (h4.at hl).2, rfl⟩
  | goes l hl k hk ws h0 =>
    have h4l := (h4.at hl).1
    refine ⟨⟨?_, ?_, fun _ => rfl, fun h => ?_, (fun h => by cases h), fun _ => rfl, .inl rfl⟩, (h4.at hl).2, rfl⟩
    · rcases nxt_cases k 4 with h | h <;> (show (1 : Int) ≤ nxt k 4; omega)
    · rcases nxt_cases k 4 with h | h <;> (show nxt k 4 ≤ (5 : Int); omega)
    · have h' : nxt k 4 = 3 := h
      rcases nxt_cases k 4 with h1 | h1
      · show k < l.length; omega
      · omega
theorem Rd1.ok {f : Int} {ls : List (List Int)} {e : Nat} {odd : Bool} {P : Pg} (h : Rd1 f ls e odd P) : Ok P ∧ (∀ v ∈ P.buf, 0 ≤ v) ∧ P.R = true := by
  cases h with
  | look buf hb hnn was tr ht => exact ⟨⟨by show (1 : Int) ≤ 1; omega, by show (1 : Int) ≤ 5; omega, fun h => absurd h (by show (1 : Int) ≠ 2; omega), fun h => absurd h (by show (1 : Int) ≠ 3; omega), fun _ _ => by show 1 ≤ tr ∧ tr ≤ 9223372036854775807; omega, fun _ => rfl, .inl rfl⟩, hnn, rfl⟩
  | goes buf hb hnn k m hk hm tr ht h =>
    refine ⟨⟨?_, ?_, fun h => ?_, fun h => ?_, fun _ _ => by show 1 ≤ tr ∧ tr ≤ 9223372036854775807; omega, fun _ => rfl, .inl rfl⟩, hnn, rfl⟩
    · rcases nxt_cases k 4 with h | h <;> (show (1 : Int) ≤ nxt k 4; omega)
    · rcases nxt_cases k 4 with h | h <;> (show nxt k 4 ≤ (5 : Int); omega)
    · have h' : nxt k 4 = 2 := h
      rcases nxt_cases k 4 with h1 | h1 <;> omega
    · have h' : nxt k 4 = 3 := h
      rcases nxt_cases k 4 with h1 | h1
      · show k < buf.length; omega
      · omega
#print axioms Rd1.ok
#print axioms Play.dropR
end Go.Proofs.Ytbhnijkphkkalaa
