/- Stage 12: Step of a chain. -/
import Derived.Test.YtieccmmnfnpcoaaThM
namespace Go.Proofs.Ytieccmmnfnpcoaa
open Go.ChangeShapes Go.WideShapes Go.ChangeAt Go.RowKit
set_option linter.unusedVariables false
theorem Mm.apart {K : Bool} {w : World} {p d cm qm : Nat} {a : Acc} {ws : List Int} (h : Mm K w p d cm qm a ws) {q b c : Nat} {x : Cd} (hA : CodeAt w q b c x) : (q ≠ p ∧ q ≠ d ∧ q ≠ qm) ∧ (b ≠ p ∧ b ≠ d ∧ b ≠ qm) := by
  refine ⟨h.ne hA.obj (by decide) (by decide) (by decide), ?_⟩
  obtain ⟨_, _, ⟨hh, _⟩ | ⟨g, cs, hg, _, hb, _⟩⟩ := hA.row
  · cases hh
  · cases hg; exact h.ne hb (by decide) (by decide) (by decide)
theorem Mm.apartH {K : Bool} {w : World} {p d cm qm : Nat} {ac : Acc} {ws : List Int} (h : Mm K w p d cm qm ac ws) {q pb o c : Nat} {a : Option Addr} {cl : List Ce} {res : Int} (hA : ChAt w q pb o c a cl res) : (q ≠ p ∧ q ≠ d ∧ q ≠ qm) ∧ (pb ≠ p ∧ pb ≠ d ∧ pb ≠ qm) := by
  refine ⟨h.ne hA.obj (by decide) (by decide) (by decide), ?_⟩
  obtain ⟨cs, h1, _⟩ := hA.row
  exact h.ne h1 (by decide) (by decide) (by decide)
theorem CodeAt.bne {w : World} {q b c q2 b2 c2 : Nat} {x y : Cd} (h : CodeAt w q b c x) (h2 : CodeAt w q2 b2 c2 y) : b2 ≠ q := by
  have := h2.row.ne h.obj (by decide) b2 (by simp [bkG]); exact this
namespace ChAt
variable {w w' : World} {q pb o c : Nat} {a : Option Addr} {res : Int} {e : Ce} {l : List Ce}
theorem step {D : List Nat} (h : ChAt w q pb o c a (e :: l) res) (hf : Frm D w w') (hq : q ∉ D) (hp : pb ∉ D) (hl : ∀ (i : Nat) (f : Ce), l[i]? = some f → f.q ∉ D ∧ f.b ∉ D) {x' : Cd} (hA : CodeAt w' e.q e.b e.c x') :
    ChAt w' q pb o c a ({ e with x := x' } :: l) res := by
  obtain ⟨cs, h1, h2⟩ := h.row
  refine ⟨hf.heap h.obj hq, h.ad, h.cap, ⟨cs, hf.heap h1 hp, fun i f hi => ?_⟩, fun i f hi => ?_, fun i j f g hi hj hij => ?_⟩
  · rcases i with _ | i
    · simp at hi; subst hi; exact h2 0 e rfl
    · exact h2 (i + 1) f hi
  · rcases i with _ | i
    · simp at hi; subst hi; exact hA
    · have hi' : l[i]? = some f := by simpa using hi
      exact (h.code (i + 1) f hi).frm hf (hl i f hi').1 (hl i f hi').2
  · have key : ∀ (i : Nat) (f : Ce), (({ e with x := x' } : Ce) :: l)[i]? = some f → ∃ f', (e :: l)[i]? = some f' ∧ f'.q = f.q := by
      intro i f hi
      rcases i with _ | i
      · simp at hi; subst hi; exact ⟨e, rfl, rfl⟩
      · exact ⟨f, hi, rfl⟩
    obtain ⟨f', a1, a2⟩ := key i f hi
    obtain ⟨g', b1, b2⟩ := key j g hj
    rw [← a2, ← b2]; exact h.one i j f' g' a1 b1 hij
theorem put0 (h : ChAt w q pb o c a (e :: l) res) : ChAt (w.setCell ⟨pb, o, none⟩ (.iface 76 (.pointer (some ⟨e.q, 0, none⟩)))) q pb o c a (e :: l) res := by
  obtain ⟨cs, h1, h2⟩ := h.row
  have hF : Frm [pb] w (w.setCell ⟨pb, o, none⟩ (.iface 76 (.pointer (some ⟨e.q, 0, none⟩)))) := (Frm.refl [pb] w).setCell _ _ (.inl (by simp))
  have hne := h.ne
  refine ⟨hF.heap h.obj (by simpa using hne), h.ad, h.cap, ⟨_, heap_setCell_at _ h1, fun i f hi => ?_⟩, fun i f hi => ?_, h.one⟩
  · rw [Array.getElem?_setIfInBounds]
    have h0 := h2 0 e rfl
    have hlt : o + 0 < cs.size := (Array.getElem?_eq_some_iff.1 h0).1
    rcases i with _ | i
    · simp at hi; subst hi
      rw [if_pos (show o = o + 0 from rfl), if_pos (show o < cs.size by omega)]; rfl
    · rw [if_neg (by omega)]; exact h2 (i + 1) f hi
  · have hA := h.code i f hi
    refine hA.frm hF ?_ ?_
    · have := h.neq hA.obj (by decide) (by decide); simpa using this.2
    · have := hA.row.ne h1 (by decide) f.b (by simp [bkG]); simpa using this
end ChAt
/-- The codes of a chain after a step of the first one. -/
def cl' (e : Ce) (l : List Ce) (R : Rs) : List Ce := if R.e ≠ 0 then e :: l else if R.x.nx = R.x.l.length then l else { e with x := R.x } :: l
def HsQ (K : Bool) (w : World) (p d cm qm q pb : Nat) (e : Ce) (l : List Ce) (R : Rs) (en : Ending) (w' : World) : Prop :=
  Ret (.tuple #[.bool R.wt, .int .i64 R.e]) (fun w' => Frm [d, qm, q, pb, e.q] w w' ∧ Mm K w' p d cm qm (nAcc K R.did) R.ws ∧ ∃ a o c r, ChAt w' q pb o c a (cl' e l R) r ∧ (cl' e l R = [] → r = R.x.res)) en w'
section
variable {K : Bool} {w : World} {p d cm qm q pb o c : Nat} {ws : List Int} {a : Option Addr} {e : Ce} {l : List Ce} {res : Int}
theorem cstep_x (ws : List Int) (x : Cd) (y : Ins) : ((cstep ws x y).e ≠ 0 → (cstep ws x y).x = x ∧ (cstep ws x y).wt = false) ∧ ((cstep ws x y).x.l = x.l) := by
  have hgo : ∀ x : Cd, (x.go y).l = x.l := fun x => by
    unfold Cd.go Cd.fin; split
    · rfl
    · split
      · rfl
      · split <;> rfl
  have hreg : ∀ did, (x.reg y did).l = x.l := fun did => by
    unfold Cd.reg; split
    · rfl
    · split
      · rfl
      · split <;> rfl
  unfold cstep; split
  · exact ⟨fun _ => ⟨rfl, rfl⟩, rfl⟩
  · split
    · exact ⟨fun h => absurd rfl h, rfl⟩
    · exact ⟨fun h => absurd rfl h, by rw [hgo, hreg]⟩
set_option maxRecDepth 100000 in
set_option maxHeartbeats 4000000 in
theorem hStep_at (h : ChAt w q pb o c a (e :: l) res) (hM : Mm K w p d cm qm acc0 ws) (y : Ins) (hn : e.x.l[e.x.nx]? = some y) (hl : ∀ f ∈ l, f.x.nx < f.x.l.length) :
    Calls Try.prog 119 #[.pointer (some ⟨q, 0, none⟩), .iface (tMm K) (.pointer (some ⟨aMm K p qm, 0, none⟩))] w (HsQ K w p d cm qm q pb e l (cstep ws e.x y)) := by
  have h0 := h.c0
  obtain rfl := h.ad (by simp)
  have hA := h.code 0 e rfl
  have hp : w.cell? ⟨pb, o, none⟩ = some (.iface 76 (.pointer (some ⟨e.q, 0, none⟩))) := h.pcell (i := 0) rfl
  have H1 := Lib.hid (hdone_at h)
  have H2 := Lib.hid (sO_code hA hM y hn)
  have HX := Lib.hid (cstep_x ws e.x y)
  have hap := (hM.apartH h)
  have hapc := (hM.apart hA)
  have hqe := h.neq hA.obj (by decide) (by decide)
  have hle : ∀ (i : Nat) (f : Ce), l[i]? = some f → f.q ∉ [d, qm, e.q] ∧ f.b ∉ [d, qm, e.q] := fun i f hi => by
    have hf := h.code (i + 1) f (by simpa using hi)
    have h1 := hM.apart hf
    have h2 := h.one (i + 1) 0 f e (by simpa using hi) rfl (by omega)
    have h3 := hA.bne hf
    simp only [List.mem_cons, List.not_mem_nil, or_false, not_or]
    exact ⟨⟨h1.1.2.1, h1.1.2.2, h2⟩, ⟨h1.2.2.1, h1.2.2.2, h3⟩⟩
  generalize cstep ws e.x y = R at H2 HX ⊢
  rw [List.length_cons] at h0
  have hd : decide ((e :: l).length = 0) = false := by simp
  rw [hd] at H1
  have H := Lib.hid h
  have HM := Lib.hid hM
  have HLE := Lib.hid hle
  have HL := Lib.hid hl
  have HAP := Lib.hid hap
  have HQE := Lib.hid hqe
  clear h hM hA hd hle hl hn hap hapc hqe
  go_enter Try.func119, Try.ntmps119
  go_wp2_with fail
  refine H1.out.mono ?_
  rintro e1 w' ⟨rfl, rfl⟩
  go_wp2_with fail
  refine (keeps_any _ _).mono ?_
  rintro e1 w' ⟨rfl, rfl⟩
  go_wp2_with fail
  refine H2.out.mono ?_
  rintro e1 w2 ⟨rfl, hF2, hM2, hA2⟩
  obtain ⟨a1, a2⟩ := HAP.out
  obtain ⟨b1, b2⟩ := HQE.out
  have hq3 : q ∉ [d, qm, e.q] := by simp only [List.mem_cons, List.not_mem_nil, or_false, not_or]; exact ⟨a1.2.1, a1.2.2, fun x => b1 x.symm⟩
  have hp3 : pb ∉ [d, qm, e.q] := by simp only [List.mem_cons, List.not_mem_nil, or_false, not_or]; exact ⟨a2.2.1, a2.2.2, fun x => b2 x.symm⟩
  have hC2 := H.out.step hF2 hq3 hp3 HLE.out hA2
  have HF2 := Lib.hid (hF2.weak (D' := [d, qm, q, pb, e.q]) (by simp))
  have HM2 := Lib.hid hM2
  by_cases he : R.e = 0
  · have hb : (R.e != 0) = false := by simp [he]
    have HE := Lib.hid he
    clear h0 hp hM2 hA2 he hq3 hp3 hF2
    have h0 := hC2.c0
    rw [List.length_cons] at h0
    have hp : w2.cell? ⟨pb, o, none⟩ = some (.iface 76 (.pointer (some ⟨e.q, 0, none⟩))) := hC2.pcell (i := 0) (e := { e with x := R.x }) rfl
    have hfz := hC2.pfrz
    have hpl := hC2.plt
    have hC3 : ChAt (w2.setCell ⟨pb, o, none⟩ (.iface 76 (.pointer (some ⟨e.q, 0, none⟩)))) q pb o c _ ({ e with x := R.x } :: l) res := hC2.put0
    have hF3 : Frm [d, qm, q, pb, e.q] w2 (w2.setCell ⟨pb, o, none⟩ (.iface 76 (.pointer (some ⟨e.q, 0, none⟩)))) := (Frm.refl _ w2).setCell _ _ (.inl (by simp))
    have hF3' : Frm [pb] w2 (w2.setCell ⟨pb, o, none⟩ (.iface 76 (.pointer (some ⟨e.q, 0, none⟩)))) := (Frm.refl _ w2).setCell _ _ (.inl (by simp))
    have hM3 := HM2.out.frm hF3' (by simpa using a2.1.symm) (by simpa using a2.2.1.symm) (by simpa using a2.2.2.symm)
    have HF3 := Lib.hid (HF2.out.trans hF3)
    have HC3 := Lib.hid hC3
    have HM3 := Lib.hid hM3
    clear hC2 hC3 hF3 hF3' hM3 HF2 HM2
    have hw := HE.out
    obtain ⟨hx2⟩ : Nonempty (R.x.l = e.x.l) := ⟨HX.out.2⟩
    have HX2 := Lib.hid hx2
    clear hw hx2
    go_wp2_with fail
    by_cases hend : R.x.nx = R.x.l.length
    · cases l with
      | nil =>
        have hcl : cl' e [] R = [] := by unfold cl'; rw [if_neg (by rw [HE.out]; simp), if_pos hend]
        refine (hgo_end HC3.out hend).mono ?_
        rintro e3 w4 ⟨rfl, hF4, a', o', hC4⟩
        have HF4 := Lib.hid (HF3.out.trans (hF4.weak (D' := [d, qm, q, pb, e.q]) (by simp)))
        have HM4 := Lib.hid (HM3.out.frm hF4 (by simpa using a1.1.symm) (by simpa using a1.2.1.symm) (by simpa using a1.2.2.symm))
        have HC4 := Lib.hid hC4
        have HCL := Lib.hid hcl
        clear hF4 hC4 hcl hend
        go_wp2
        go_ret2
        unfold HsQ
        rw [HCL.out, HE.out]
        exact ⟨rfl, HF4.out, HM4.out, _, _, _, _, HC4.out, fun _ => rfl⟩
      | cons f l =>
        have hcl : cl' e (f :: l) R = f :: l := by unfold cl'; rw [if_neg (by rw [HE.out]; simp), if_pos hend]
        refine (hgo_next HC3.out hend (HL.out f (by simp))).mono ?_
        rintro e3 w4 ⟨rfl, hF4, a', o', r', hC4⟩
        have HF4 := Lib.hid (HF3.out.trans (hF4.weak (D' := [d, qm, q, pb, e.q]) (by simp)))
        have HM4 := Lib.hid (HM3.out.frm hF4 (by simpa using a1.1.symm) (by simpa using a1.2.1.symm) (by simpa using a1.2.2.symm))
        have HC4 := Lib.hid hC4
        have HCL := Lib.hid hcl
        clear hF4 hC4 hcl hend
        go_wp2
        go_ret2
        unfold HsQ
        rw [HCL.out, HE.out]
        exact ⟨rfl, HF4.out, HM4.out, _, _, _, _, HC4.out, fun h => by cases h⟩
    · have hcl : cl' e l R = { e with x := R.x } :: l := by unfold cl'; rw [if_neg (by rw [HE.out]; simp), if_neg hend]
      have hnle := (HC3.out.code 0 _ rfl).nle
      refine (hgo_keep HC3.out (by dsimp only at hnle ⊢; omega)).mono ?_
      rintro e3 w4 ⟨rfl, hF4⟩
      have HF4 := Lib.hid (HF3.out.trans (hF4.weak (D' := [d, qm, q, pb, e.q]) (by simp)))
      have HM4 := Lib.hid (HM3.out.frm0 hF4)
      have HC4 := Lib.hid (HC3.out.frm0 hF4)
      have HCL := Lib.hid hcl
      clear hF4 hcl hend
      go_wp2
      go_ret2
      unfold HsQ
      rw [HCL.out, HE.out]
      exact ⟨rfl, HF4.out, HM4.out, _, _, _, _, HC4.out, fun h => by cases h⟩
  · have hb : (R.e != 0) = true := by simp [he]
    obtain ⟨x1, x2⟩ := HX.out.1 he
    have hcl : cl' e l R = e :: l := if_pos he
    have HC := Lib.hid hC2
    have HCL := Lib.hid hcl
    have HW := Lib.hid x2
    have HX1 := Lib.hid x1
    clear h0 hp hM2 hA2 he hq3 hp3 hF2 hC2 hcl x1 x2
    go_wp2
    go_ret2
    unfold HsQ
    rw [HCL.out, HW.out]
    have := HC.out
    rw [HX1.out] at this
    exact ⟨rfl, HF2.out, HM2.out, _, _, _, _, this, fun h => by cases h⟩
end
end Go.Proofs.Ytieccmmnfnpcoaa
