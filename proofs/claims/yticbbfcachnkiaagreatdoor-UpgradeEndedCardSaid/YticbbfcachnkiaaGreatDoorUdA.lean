/- A decision in plain words: its parts, which of them runs; a move as a part, and its step. -/
import Derived.Test.YticbbfcachnkiaaGreatDoorUuW
namespace Go.Proofs.YticbbfcachnkiaaGreatDoor
open Go.ChangeShapes Go.WideShapes Go.ChangeAt Go.RowKit
set_option linter.unusedVariables false
set_option linter.unusedSimpArgs false
/-- A decision: its parts, each one as far as it has come, which one runs, and the result. -/
structure Ds where
  ps : List (Mv × Gs)
  now : Nat
  res : Int
def dThen (now : Nat) (r : Int) : Nat := if now = 0 then (if r = 0 then 5 else 1) else if now = 1 then (if r = 0 then 4 else 2) else if now = 2 then 3 else if now = 3 then 4 else 5
def Ds.goOn (s : Ds) : Ds := match s.ps[s.now]? with
  | some (m, _) => if m.nx = 0 then { s with now := dThen s.now m.res, res := if s.now = 3 then m.res else s.res } else s
  | none => s
/-- A step without an error. -/
def Ds.step (T : Nat) (ws : List Int) (s : Ds) : Option (Ds × List Int × Bool) :=
  match s.goOn.ps[s.goOn.now]? with
  | some (m, g) => match mstpO T ws m g with
    | some (m', g', ws', wait, no) => if no = 0 then
        some (if s.goOn.now = 1 ∨ s.goOn.now = 3 then { s.goOn with ps := s.goOn.ps.set s.goOn.now (m', g') } else { s.goOn with ps := s.goOn.ps.set s.goOn.now (m', g') }.goOn, ws', wait) else none
    | none => none
  | none => none
/-- A program of its own: a move with all that belongs to it but the arena. -/
structure Part where
  q : Nat
  qe : Nat
  ql : Nat
  a : Option Addr
  n : Nat
  c : Nat
  m : Mv
  g : Gs
def Part.bl (P : Part) : List Nat := P.q :: P.qe :: P.ql :: blk (.slice P.a P.n P.c)
structure PartAt (w : World) (B T N : Nat) (P : Part) : Prop where
  mv : MvAt w P.q T P.qe P.ql P.a P.n P.c P.m
  wk : WkA B w P.a P.n P.c P.m
  en : PgR w P.qe false P.m.nb T P.m.wd (2 * P.m.t) P.g.se P.g.oe P.g.ee
  le : PgR w P.ql true P.m.nb T P.m.wd (2 * P.m.t) P.g.sl P.g.ol P.g.el
  ok : MOk T P.m
  lo : ∀ x ∈ P.bl, B ≤ x
  wkl : P.m.wk.length ≤ N
section
variable {w w' : World} {B T N p d cc : Nat} {P : Part} {ws ws' : List Int} {m' : Mv} {g' : Gs}
theorem PartAt.frm {D : List Nat} (h : PartAt w B T N P) (hf : Frm D w w') (hd : ∀ x ∈ P.bl, x ∉ D) : PartAt w' B T N P :=
  ⟨h.mv.frm hf (hd _ (by simp [Part.bl])), h.wk.frm hf (fun x hx => hd _ (by simp [Part.bl, hx])), h.en.frm hf (hd _ (by simp [Part.bl])), h.le.frm hf (hd _ (by simp [Part.bl])), h.ok, h.lo, h.wkl⟩
theorem PartAt.frm0 (h : PartAt w B T N P) (hf : Frm [] w w') : PartAt w' B T N P := h.frm hf (by simp)
theorem PartAt.more {M : Nat} (h : PartAt w B T N P) (hM : N ≤ M) : PartAt w B T M P := ⟨h.mv, h.wk, h.en, h.le, h.ok, h.lo, Nat.le_trans h.wkl hM⟩
theorem PartAt.lt (h : PartAt w B T N P) : ∀ x ∈ P.bl, x < w.heap.size := by
  intro z hz
  simp only [Part.bl, List.mem_cons] at hz
  rcases hz with rfl | rfl | rfl | hz
  · exact h.mv.lt
  · exact h.en.lt
  · exact h.le.lt
  · obtain ⟨h1, cs, h2⟩ := h.wk.own z hz
    exact lt_of_heap h2
theorem PartAt.nem (h : PartAt w B T N P) (hM : MemAt w p d cc ws) : p ∉ P.bl ∧ d ∉ P.bl := by
  have hA : AllAt w p d cc B P.q T P.qe P.ql P.a P.n P.c ws P.m P.g := ⟨hM, h.mv, h.wk, h.en, h.le⟩
  obtain ⟨⟨n1, n2⟩, ⟨e1, e2, e3⟩, ⟨l1, l2, l3⟩, el, hb, b1, b2, b3⟩ := hA.ne
  constructor
  · simp only [Part.bl, List.mem_cons]
    rintro (h | h | h | h)
    · exact n1 h.symm
    · exact e2 h.symm
    · exact l2 h.symm
    · exact (hb _ h).1 rfl
  · simp only [Part.bl, List.mem_cons]
    rintro (h | h | h | h)
    · exact n2 h.symm
    · exact e3 h.symm
    · exact l3 h.symm
    · exact (hb _ h).2 rfl
/-- What is true behind a step of a part. -/
structure PStep (w : World) (B T N p d cc : Nat) (P : Part) (m' : Mv) (g' : Gs) (ws' : List Int) (P' : Part) (w' : World) : Prop where
  q : P'.q = P.q
  m : P'.m = m'
  g : P'.g = g'
  frm : Frm (d :: P.bl) w w'
  mem : MemAt w' p d cc ws'
  at_ : PartAt w' B T (N + 2) P'
  bl : ∀ x ∈ P'.bl, x ∈ P.bl ∨ w.heap.size ≤ x
  laid : Laid w'
  bnd : Bnd ws'
  len : ws'.length = ws.length
  tri : m'.tri = P.m.tri
end
section
variable {w w' : World} {B T N p d cc : Nat} {P : Part} {ws ws' : List Int} {m' : Mv} {g' : Gs}
theorem part_step {wait : Bool} {no : Int} (hM : MemAt w p d cc ws) (h : PartAt w B T N P) (hL : Laid w) (hb : Bnd ws) (hN : N ≤ 997) (h2 : 2 ≤ B) (hd : 2 ≤ d) (hB : B ≤ w.heap.size) (hS : mstpO T ws P.m P.g = some (m', g', ws', wait, no)) :
    Calls Tryz.prog 150 #[.pointer (some ⟨P.q, 0, none⟩), .iface 24 (.pointer (some ⟨p, 0, none⟩))] w (fun e w' => e = .returned (.tuple #[.bool wait, .int .i64 no]) ∧ ∃ P', PStep (ws := ws) w B T N p d cc P m' g' ws' P' w') := by
  have hA : AllAt w p d cc B P.q T P.qe P.ql P.a P.n P.c ws P.m P.g := ⟨hM, h.mv, h.wk, h.en, h.le⟩
  have hMS := mstpO_ok hb hS
  have hq := h.lo P.q (by simp [Part.bl])
  refine (Step_mv hA h.ok hL (by omega) (by omega) hB (by have := h.wkl; omega) hMS).mono ?_
  rintro e w' ⟨rfl, a2, n2, c2, hF2, hA2, hx2⟩
  obtain ⟨k1, k2, k3⟩ := hMS.keep h.mv.t64 h.mv.tT hb h.ok
  refine ⟨rfl, ⟨P.q, P.qe, P.ql, a2, n2, c2, m', g'⟩, rfl, rfl, rfl, hF2, hA2.mem, ⟨hA2.mv, hA2.wk, hA2.en, hA2.le, k1, ?_, Nat.le_trans hMS.wkl (Nat.add_le_add_right h.wkl 2)⟩, ?_, hL.frm hF2 ?_, k2, hMS.len, k3⟩
  · intro x hx
    simp only [Part.bl, List.mem_cons] at hx
    rcases hx with rfl | rfl | rfl | hx
    · exact hq
    · exact h.lo _ (by simp [Part.bl])
    · exact h.lo _ (by simp [Part.bl])
    · rcases hx2 x hx with hx | hx
      · exact h.lo _ (by simp [Part.bl, hx])
      · omega
  · intro x hx
    simp only [Part.bl, List.mem_cons] at hx ⊢
    rcases hx with rfl | rfl | rfl | hx
    · simp
    · simp
    · simp
    · rcases hx2 x hx with hx | hx
      · simp [hx]
      · exact .inr hx
  · intro x hx
    rcases List.mem_cons.1 hx with rfl | hx
    · omega
    · have := h.lo x (by simpa [Part.bl] using hx); omega
end
end Go.Proofs.YticbbfcachnkiaaGreatDoor
