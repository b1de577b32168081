/- Where everything of McsHolds lies: the arena, the programs, who has the lock. -/
import Derived.Test.YtoieedlkffmcgaaMcQu
import Derived.Test.YtoieedlkffmcgaaMcHi
namespace Go.Proofs.Ytoieedlkffmcgaa
open Go.ChangeShapes Go.WideShapes Go.ChangeAt Go.RowKit
set_option linter.unusedVariables false

/-- The blocks: nodes nq, the arena p and its words d, the programs bp, who has the lock bh. -/
structure Sb (B : Nat) (w : World) (n nq p d c bp bh : Nat) (ws : List Int) (pg : Nat → Option Pr) (hs : Nat → Bool) (qa : Nat → Nat) : Prop where
  nd : Nd w nq 1 n
  mem : MemAt w p d c ws
  pos : ∀ x ∈ ws, 0 ≤ x
  len : ws.length = 1 + 6 * n
  progs : w.heap[bp]? = some (.cells (vof (fun i => pvI (pg i) (qa i)) n) 37 (0, 0))
  hass : w.heap[bh]? = some (.cells (vof (fun i => .bool (hs i)) n) 4 (0, 0))
  low : B ≤ d ∧ B ≤ bp ∧ B ≤ bh
  ne : nq ≠ d ∧ nq ≠ bp ∧ nq ≠ bh ∧ p ≠ bp ∧ p ≠ bh ∧ d ≠ bp ∧ d ≠ bh ∧ bp ≠ bh
  qne : ∀ i, i < n → pg i ≠ none → qa i ≠ d ∧ qa i ≠ p ∧ qa i ≠ bp ∧ qa i ≠ bh ∧ qa i ≠ nq ∧ B ≤ qa i
  qq : ∀ i j, i < n → j < n → i ≠ j → pg i ≠ none → pg j ≠ none → qa i ≠ qa j
/-- The programs lie where the blocks say. -/
def Ps (w : World) (n : Nat) (pg : Nat → Option Pr) (qa : Nat → Nat) : Prop := ∀ i, i < n → ∀ back s o, pg i = some (back, s, o) → PgR w (qa i) back 1 n 0 (2 * i) s o false

variable {B : Nat} {w w' : World} {n nq p d c bp bh t : Nat} {ws ws' : List Int} {pg : Nat → Option Pr} {hs : Nat → Bool} {qa : Nat → Nat}
theorem Sb.frm {D : List Nat} (h : Sb B w n nq p d c bp bh ws pg hs qa) (hf : Frm D w w') (h1 : nq ∉ D) (h2 : p ∉ D) (h3 : d ∉ D) (h4 : bp ∉ D) (h5 : bh ∉ D) : Sb B w' n nq p d c bp bh ws pg hs qa :=
  ⟨h.nd.frmD hf h1, h.mem.frm hf h2 h3, h.pos, h.len, hf.heap h.progs h4, hf.heap h.hass h5, h.low, h.ne, h.qne, h.qq⟩
theorem Sb.frm0 (h : Sb B w n nq p d c bp bh ws pg hs qa) (hf : Frm [] w w') : Sb B w' n nq p d c bp bh ws pg hs qa := h.frm hf (by simp) (by simp) (by simp) (by simp) (by simp)
theorem Ps.frm {D : List Nat} (h : Ps w n pg qa) (hf : Frm D w w') (hd : ∀ i, i < n → pg i ≠ none → qa i ∉ D) : Ps w' n pg qa := fun i hi back s o hp => (h i hi back s o hp).frm hf (hd i hi (by rw [hp]; simp))
theorem Ps.frm0 (h : Ps w n pg qa) (hf : Frm [] w w') : Ps w' n pg qa := h.frm hf (by simp)
theorem vof_congr {f g : Nat → Value} {n : Nat} (h : ∀ i, i < n → f i = g i) : vof f n = vof g n := by
  apply Array.ext_getElem?; intro j
  by_cases hj : j < n
  · rw [vof_get _ hj, vof_get _ hj, h j hj]
  · rw [Array.getElem?_eq_none (by rw [vof_size]; omega), Array.getElem?_eq_none (by rw [vof_size]; omega)]

/-- A new program of a thread is put down. -/
theorem Sb.begin (h : Sb B w n nq p d c bp bh ws pg hs qa) (hps : Ps w n pg qa) (ht : t < n) (hp : pg t = none) {q' : Nat} (hf : Frm [] w w') (hB : B ≤ w.heap.size) (hR : PgR w' q' (hs t) 1 n 0 (2 * t) 1 0 false) (hq : w.heap.size ≤ q') (v : Bool) :
    Sb B ((w'.setCell ⟨bp, t, none⟩ (.iface (Ip (hs t)) (.pointer (some ⟨q', 0, none⟩)))).setCell ⟨bh, t, none⟩ (.bool v)) n nq p d c bp bh ws (up pg t (some (hs t, 1, 0))) (up hs t v) (up qa t q') ∧
    Ps ((w'.setCell ⟨bp, t, none⟩ (.iface (Ip (hs t)) (.pointer (some ⟨q', 0, none⟩)))).setCell ⟨bh, t, none⟩ (.bool v)) n (up pg t (some (hs t, 1, 0))) (up qa t q') := by
  have h' := h.frm0 hf
  obtain ⟨e1, e2, e3, e4, e5, e6, e7, e8⟩ := h.ne
  have l1 := h.nd.lt
  have l2 := h.mem.plt
  have l3 := h.mem.dlt
  have l4 := lt_of_heap h.progs
  have l5 := lt_of_heap h.hass
  have hF : Frm [bp, bh] w' ((w'.setCell ⟨bp, t, none⟩ (.iface (Ip (hs t)) (.pointer (some ⟨q', 0, none⟩)))).setCell ⟨bh, t, none⟩ (.bool v)) := ((Frm.refl _ _).setCell _ _ (.inl (by simp))).setCell _ _ (.inl (by simp))
  have old : ∀ i, i < n → pg i ≠ none → qa i < w.heap.size := fun i hi hn => by
    cases hv : pg i with
    | none => exact absurd hv hn
    | some x => obtain ⟨b, s, o⟩ := x; exact (hps i hi b s o hv).lt
  refine ⟨⟨h'.nd.frmD hF (by simp; exact ⟨e2, e3⟩), h'.mem.frm hF (by simp; exact ⟨e4, e5⟩) (by simp; exact ⟨e6, e7⟩), h.pos, h.len, ?_, ?_, h.low, h.ne, fun i hi hn => ?_, fun i j hi hj hij hn1 hn2 => ?_⟩, fun i hi b s o hv => ?_⟩
  · rw [heap_setCell_far _ _ (Ne.symm e8) (heap_setCell_at _ h'.progs), vof_set _ ht]
    congr 2
    apply vof_congr; intro i hi
    by_cases e : i = t
    · subst e; simp [up, pvI]
    · simp [up, e]
  · rw [heap_setCell_at _ (heap_setCell_far _ _ e8 h'.hass), vof_set _ ht]
    congr 2
    apply vof_congr; intro i hi
    by_cases e : i = t
    · subst e; simp [up]
    · simp [up, e]
  · by_cases e : i = t
    · subst e; rw [up_eq]; exact ⟨by omega, by omega, by omega, by omega, by omega, by omega⟩
    · rw [up_ne _ _ e] at hn ⊢; exact h.qne i hi hn
  · by_cases e : i = t
    · have e' : j ≠ t := fun x => hij (e.trans x.symm)
      rw [up_ne _ _ e'] at hn2
      have := old j hj hn2
      rw [e, up_eq, up_ne _ _ e']; omega
    · rw [up_ne _ _ e] at hn1
      have := old i hi hn1
      by_cases e' : j = t
      · rw [e', up_eq, up_ne _ _ e]; omega
      · rw [up_ne _ _ e'] at hn2
        rw [up_ne _ _ e, up_ne _ _ e']; exact h.qq i j hi hj hij hn1 hn2
  · by_cases e : i = t
    · subst e
      rw [up_eq] at hv; simp only [Option.some.injEq, Prod.mk.injEq] at hv
      obtain ⟨rfl, rfl, rfl⟩ := hv
      rw [up_eq]; exact hR.frm hF (by simp; omega)
    · rw [up_ne _ _ e] at hv
      have h1 := old i hi (by rw [hv]; simp)
      have h2 := h.qne i hi (by rw [hv]; simp)
      rw [up_ne _ _ e]
      exact ((hps i hi b s o hv).frm hf (by simp)).frm hF (by simp; exact ⟨h2.2.2.1, h2.2.2.2.1⟩)
/-- A step of a thread's program is made. -/
theorem Sb.step (h : Sb B w n nq p d c bp bh ws pg hs qa) (hps : Ps w n pg qa) (ht : t < n) {back : Bool} {s o s' o' : Int} {e' : Bool} (hp : pg t = some (back, s, o)) (hA : Aftr p d c (qa t) back 1 n 0 (2 * t) w ws' s' o' e' w') (hpos : ∀ x ∈ ws', 0 ≤ x) (hl : ws'.length = ws.length) :
    Sb B w' n nq p d c bp bh ws' (up pg t (some (back, s', o'))) hs qa ∧ Ps w' n (up pg t none) qa ∧ (e' = false → Ps w' n (up pg t (some (back, s', o'))) qa) := by
  obtain ⟨hF, hM, hR⟩ := hA
  obtain ⟨e1, e2, e3, e4, e5, e6, e7, e8⟩ := h.ne
  have hpt : pg t ≠ none := by rw [hp]; simp
  obtain ⟨q1, q2, q3, q4, q5, q6⟩ := h.qne t ht hpt
  have oth : ∀ i, i < n → i ≠ t → ∀ b s o, pg i = some (b, s, o) → PgR w' (qa i) b 1 n 0 (2 * i) s o false := fun i hi hit b s o hv => by
    have hin : pg i ≠ none := by rw [hv]; simp
    exact (hps i hi b s o hv).frm hF (by simp; exact ⟨(h.qne i hi hin).1, h.qq i t hi ht hit hin hpt⟩)
  have hpn : ∀ i v, up pg t (some v) i ≠ none → pg i ≠ none := fun i v hx => by
    by_cases e : i = t
    · rw [e]; exact hpt
    · rw [up_ne _ _ e] at hx; exact hx
  refine ⟨⟨h.nd.frmD hF (by simp; exact ⟨e1, Ne.symm q5⟩), hM, hpos, hl.trans h.len, ?_, hF.heap h.hass (by simp; exact ⟨Ne.symm e7, Ne.symm q4⟩), h.low, h.ne, fun i hi hx => h.qne i hi (hpn i _ hx), fun i j hi hj hij hx hy => h.qq i j hi hj hij (hpn i _ hx) (hpn j _ hy)⟩, fun i hi b s o hv => ?_, fun he i hi b s1 o1 hv => ?_⟩
  · rw [hF.heap h.progs (by simp; exact ⟨Ne.symm e6, Ne.symm q3⟩)]
    congr 2
    apply vof_congr; intro i hi
    by_cases e : i = t
    · subst e; rw [up_eq, hp]; rfl
    · rw [up_ne _ _ e]
  · by_cases e : i = t
    · rw [e, up_eq] at hv; cases hv
    · rw [up_ne _ _ e] at hv; exact oth i hi e b s o hv
  · by_cases e : i = t
    · subst e
      rw [up_eq] at hv; simp only [Option.some.injEq, Prod.mk.injEq] at hv
      obtain ⟨rfl, rfl, rfl⟩ := hv
      rw [he] at hR; exact hR
    · rw [up_ne _ _ e] at hv; exact oth i hi e b s1 o1 hv
/-- A program that has ended is taken away. -/
theorem Sb.drop {v : Option Pr} (h : Sb B w n nq p d c bp bh ws (up pg t v) hs qa) (ht : t < n) (hps : Ps w n (up pg t none) qa) :
    Sb B (w.setCell ⟨bp, t, none⟩ .nilIface) n nq p d c bp bh ws (up pg t none) hs qa ∧ Ps (w.setCell ⟨bp, t, none⟩ .nilIface) n (up pg t none) qa := by
  obtain ⟨e1, e2, e3, e4, e5, e6, e7, e8⟩ := h.ne
  have hF : Frm [bp] w (w.setCell ⟨bp, t, none⟩ .nilIface) := (Frm.refl _ _).setCell _ _ (.inl (by simp))
  have hpn : ∀ i, up pg t none i ≠ none → up pg t v i ≠ none := fun i hx => by
    by_cases e : i = t
    · rw [e, up_eq] at hx; exact absurd rfl hx
    · rw [up_ne _ _ e] at hx ⊢; exact hx
  refine ⟨⟨h.nd.frmD hF (by simp; exact e2), h.mem.frm hF (by simp; exact e4) (by simp; exact e6), h.pos, h.len, ?_, hF.heap h.hass (by simp; exact Ne.symm e8), h.low, h.ne, fun i hi hx => h.qne i hi (hpn i hx), fun i j hi hj hij hx hy => h.qq i j hi hj hij (hpn i hx) (hpn j hy)⟩, hps.frm hF (fun i hi hx => by simp; exact (h.qne i hi (hpn i hx)).2.2.1)⟩
  rw [heap_setCell_at _ h.progs, vof_set _ ht]
  congr 2
  apply vof_congr; intro i hi
  by_cases e : i = t
  · subst e; simp [up, pvI]
  · simp [up, e]
/-- A thread has got the lock. -/
theorem Sb.got (h : Sb B w n nq p d c bp bh ws pg hs qa) (ht : t < n) (hps : Ps w n pg qa) :
    Sb B (w.setCell ⟨bh, t, none⟩ (.bool true)) n nq p d c bp bh ws pg (up hs t true) qa ∧ Ps (w.setCell ⟨bh, t, none⟩ (.bool true)) n pg qa := by
  obtain ⟨e1, e2, e3, e4, e5, e6, e7, e8⟩ := h.ne
  have hF : Frm [bh] w (w.setCell ⟨bh, t, none⟩ (.bool true)) := (Frm.refl _ _).setCell _ _ (.inl (by simp))
  refine ⟨⟨h.nd.frmD hF (by simp; exact e3), h.mem.frm hF (by simp; exact e5) (by simp; exact e7), h.pos, h.len, hF.heap h.progs (by simp; exact e8), ?_, h.low, h.ne, h.qne, h.qq⟩, hps.frm hF (fun i hi hx => by simp; exact (h.qne i hi hx).2.2.2.1)⟩
  rw [heap_setCell_at _ h.hass, vof_set _ ht]
  congr 2
  apply vof_congr; intro i hi
  by_cases e : i = t
  · subst e; simp [up]
  · simp [up, e]
#print axioms Sb.begin
end Go.Proofs.Ytoieedlkffmcgaa
