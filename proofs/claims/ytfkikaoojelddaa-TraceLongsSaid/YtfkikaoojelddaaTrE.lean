/- Stage 13: what a trace is; Valid and wrong. -/
import Derived.Test.YtfkikaoojelddaaTrC
import Derived.LoopTactic
namespace Go.Proofs.Ytfkikaoojelddaa
open Go.ChangeShapes Go.WideShapes Go.ChangeAt Go.RowKit
set_option linter.unusedVariables false
set_option linter.unusedSimpArgs false
/-- Something among these has ended a thread. -/
def endd (l : List Dd) (t : Int) : Bool := l.any (fun e => e.en && e.i == t)
def okAt (l : List Dd) (k : Nat) : Bool :=
  match l[k]? with
  | none => true
  | some d => may d && !endd (l.take k) d.i
def vldT (l : List Dd) : Bool := (List.range l.length).all (okAt l)
/-- It is a trace. -/
def vld (l : List Dd) : Bool := decide (l.length ≤ 100000) && vldT l
theorem vldT_iff {l : List Dd} : vldT l = true ↔ ∀ k, k < l.length → okAt l k = true := by
  unfold vldT; simp
theorem vldT_no {l : List Dd} {k : Nat} (hk : k < l.length) (h : okAt l k = false) : vldT l = false := by
  cases hv : vldT l with
  | false => rfl
  | true => have := vldT_iff.1 hv k hk; rw [h] at this; cases this
theorem may_th {d : Dd} (h : may d = true) : ∃ t : Nat, d.i = (t : Int) ∧ t < 64 := by
  unfold may isTh at h
  simp at h
  exact ⟨d.i.toNat, by omega, by omega⟩
theorem endd_take {l : List Dd} {k : Nat} {d : Dd} (hd : l[k]? = some d) (t : Int) : endd (l.take (k + 1)) t = (endd (l.take k) t || (d.en && d.i == t)) := by
  unfold endd
  rw [List.take_add_one, hd]; simp
/-- Cells of bools. -/
def bsC (n : Nat) (f : Nat → Bool) : Array Value := ((List.range n).map (fun t => Value.bool (f t))).toArray
theorem bsC_get {n : Nat} {f : Nat → Bool} {t : Nat} (ht : t < n) : (bsC n f)[t]? = some (.bool (f t)) := by
  unfold bsC; simp [ht]
theorem bsC_set {n : Nat} {f : Nat → Bool} {t : Nat} {g : Nat → Bool} (v : Bool) (hg : ∀ j, j < n → g j = if j = t then v else f j) : (bsC n f).setIfInBounds t (.bool v) = bsC n g := by
  apply Array.ext
  · simp [bsC]
  · intro i h1 h2
    simp [bsC] at h1 h2
    rw [Array.getElem_setIfInBounds (by simpa [bsC] using h2)]
    split
    · rename_i e; simp [bsC, hg i h2, e]
    · rename_i e; simp [bsC, hg i h2, Ne.symm e]
theorem bsC_zero : bsC 64 (fun t => endd [] (t : Int)) = #[.bool false, .bool false, .bool false, .bool false, .bool false, .bool false, .bool false, .bool false, .bool false, .bool false, .bool false, .bool false, .bool false, .bool false, .bool false, .bool false, .bool false, .bool false, .bool false, .bool false, .bool false, .bool false, .bool false, .bool false, .bool false, .bool false, .bool false, .bool false, .bool false, .bool false, .bool false, .bool false, .bool false, .bool false, .bool false, .bool false, .bool false, .bool false, .bool false, .bool false, .bool false, .bool false, .bool false, .bool false, .bool false, .bool false, .bool false, .bool false, .bool false, .bool false, .bool false, .bool false, .bool false, .bool false, .bool false, .bool false, .bool false, .bool false, .bool false, .bool false, .bool false, .bool false, .bool false, .bool false] := by rfl
section
variable {w : World} {a : Option Addr} {n c b o : Nat} {l : List Dd}
set_option maxRecDepth 100000 in
set_option maxHeartbeats 1600000 in
/-- Valid. -/
theorem Valid_any (h : DL w a n c b o l) : Calls Try.prog 9 #[.slice a n c] w (Ret (.bool (vld l)) (fun w' => Frm [] w w')) := by
  obtain ⟨r, hr⟩ : ∃ r, r = vld l := ⟨_, rfl⟩
  rw [← hr]
  have HR := Lib.hid hr
  clear hr
  have HL := Lib.hid h.len
  have H := Lib.hid h
  clear h
  by_cases hlong : 100000 < n
  · have hb : decide ((100000 : Int) < (n : Int)) = true := by simp; omega
    have HB := Lib.hid (show vld l = false by unfold vld; simp [HL.out]; omega)
    clear hlong
    go_enter Try.func9, Try.ntmps9
    go_wp2_with fail
    go_ret
    exact ⟨by rw [HR.out, HB.out]; rfl, Frm.refl _ _⟩
  · have hb : decide ((100000 : Int) < (n : Int)) = false := by simp; omega
    have hn2 : (n : Int) ≤ 100000 := by omega
    have HV := Lib.hid (show vld l = vldT l by unfold vld; simp [HL.out]; omega)
    clear hlong
    go_enter Try.func9, Try.ntmps9
    go_wp2_with fail
    go_loopw [11] (fun i wr => ∃ k : Nat, k ≤ n ∧ i = .int .i64 k ∧ Frm [] w wr ∧ wr.heap[w.heap.size]? = some (.cells (bsC 64 (fun t => endd (l.take k) (t : Int))) 79 (0, 0)) ∧ ∀ j, j < k → okAt l j = true) (fun i _ => n - (intOf i).toNat)
    case atStart => exact ⟨0, Nat.zero_le _, rfl, (Frm.refl _ _).alloc _, by rw [List.take_zero, bsC_zero]; exact heap_alloc_new _ _, fun j hj => by omega⟩
    case round =>
      obtain ⟨k, hk, rfl, hF, hE, hok⟩ := hrel
      have HOK := Lib.hid hok
      clear hok
      by_cases hlt : k < n
      · obtain ⟨d, hd⟩ : ∃ d, l[k]? = some d := ⟨_, List.getElem?_eq_getElem (by rw [HL.out]; exact hlt)⟩
        have hL1 := H.out.frm0 hF
        have hi1 := ix_did (c := c) hL1.ad hlt
        have p0 := hL1.get hd 0 _ rfl
        have p1 := hL1.get hd 1 _ rfl
        have p2 := hL1.get hd 2 _ rfl
        have p3 := hL1.get hd 3 _ rfl
        have p4 := hL1.get hd 4 _ rfl
        have p5 := hL1.get hd 5 _ rfl
        have p6 := hL1.get hd 6 _ rfl
        rw [Nat.add_zero] at p0
        have HF := Lib.hid hF
        have HE := Lib.hid hE
        have HS := Lib.hid (lt_of_heap hE)
        have hokk : okAt l k = (may d && !endd (l.take k) d.i) := by unfold okAt; rw [hd]
        have HOKK := Lib.hid hokk
        have HET := Lib.hid (endd_take hd)
        have HD := Lib.hid hd
        have HC2 := Lib.hid (show ∀ (V w' : World) (T : TypeId), Frm [] (V.alloc (Obj.cells #[.int .i64 d.i, .int .i64 d.a.k, .int .i64 d.a.w, .int .u64 d.a.b, .int .u64 d.a.a, .bool d.wt, .bool d.en] T)) w' → ∀ o, w'.cell? ⟨V.heap.size, o, none⟩ = (#[Value.int .i64 d.i, .int .i64 d.a.k, .int .i64 d.a.w, .int .u64 d.a.b, .int .u64 d.a.a, .bool d.wt, .bool d.en])[o]? from fun V w' T h o => by
          rw [h.cell (by simp) (by simp)]; exact cell_of_heap (heap_alloc_new _ _))
        clear hF hE hL1 hokk hd
        cases hm : may d
        · have HM := Lib.hid hm
          have HMB := Lib.hid (fun w => mayBe_any d.i d.a.k d.a.w d.a.b d.a.a d.wt d.en w)
          have HOF := Lib.hid (show vldT l = false from vldT_no (by rw [HL.out]; exact hlt) (by rw [HOKK.out, hm]; rfl))
          clear hm
          go_wp2_with ((with_reducible refine (HMB.out _).mono ?_); rintro e w1 ⟨rfl, hF1⟩; rw [show (⟨d.i, ⟨d.a.k, d.a.w, d.a.b, d.a.a⟩, d.wt, d.en⟩ : Dd) = d from rfl, HM.out])
          go_ret
          exact ⟨by rw [HR.out, HV.out, HOF.out]; rfl, (HF.out.alloc _).trans hF1⟩
        · obtain ⟨t, ht, ht64⟩ := may_th hm
          have HM := Lib.hid hm
          have h0i : 0 ≤ d.i := by omega
          have h1i : d.i < 64 := by omega
          have HT := Lib.hid (show d.i.toNat < 64 ∧ ((d.i.toNat : Nat) : Int) = d.i from ⟨by omega, by omega⟩)
          have HMB := Lib.hid (fun w => mayBe_any d.i d.a.k d.a.w d.a.b d.a.a d.wt d.en w)
          clear hm ht ht64
          cases he : endd (l.take k) d.i
          · have HEN := Lib.hid he
            have hbn : bsC 64 (fun t => endd (l.take (k + 1)) (t : Int)) = (bsC 64 (fun t => endd (l.take k) (t : Int))).setIfInBounds d.i.toNat (.bool d.en) := by
              refine (bsC_set d.en (fun j hj => ?_)).symm
              show endd (l.take (k + 1)) (j : Int) = _
              rw [HET.out]
              split
              · rename_i e; subst e; rw [HT.out.2, he]; simp
              · rename_i e
                have : (d.i == (j : Int)) = false := by simp; omega
                rw [this]; simp
            have HBN := Lib.hid hbn
            have HOKS := Lib.hid (show okAt l k = true by rw [HOKK.out, HM.out, he]; rfl)
            clear he hbn
            go_wp2_with ((with_reducible refine (HMB.out _).mono ?_); rintro e w1 ⟨rfl, hF1⟩; rw [show (⟨d.i, ⟨d.a.k, d.a.w, d.a.b, d.a.a⟩, d.wt, d.en⟩ : Dd) = d from rfl, HM.out]; have q0 := HC2.out _ _ _ hF1 0; have q6 := HC2.out _ _ _ hF1 6; have hE1 := hF1.heap (heap_alloc_old _ HE.out) (by simp); have HE1 := Lib.hid hE1; have e1 := (cell_of_heap (i := d.i.toNat) hE1).trans (bsC_get HT.out.1); rw [HT.out.2, HEN.out] at e1; have ez1 := frozen_of_heap (i := d.i.toNat) hE1; clear hE1)
            go_roundw
            case rel => exact ⟨k + 1, by omega, by go_num, ((HF.out.alloc _).trans hF1).setCell _ _ (.inr (Nat.le_refl _)), by rw [HBN.out]; exact heap_setCell_at _ HE1.out, fun j hj => by
              rcases Nat.lt_or_ge j k with h1 | h1
              · exact HOK.out j h1
              · have : j = k := by omega
                subst this; exact HOKS.out⟩
            case measure => simp [intOf]; omega
          · have HEN := Lib.hid he
            have HOF := Lib.hid (show vldT l = false from vldT_no (by rw [HL.out]; exact hlt) (by rw [HOKK.out, HM.out, he]; rfl))
            clear he
            go_wp2_with ((with_reducible refine (HMB.out _).mono ?_); rintro e w1 ⟨rfl, hF1⟩; rw [show (⟨d.i, ⟨d.a.k, d.a.w, d.a.b, d.a.a⟩, d.wt, d.en⟩ : Dd) = d from rfl, HM.out]; have q0 := HC2.out _ _ _ hF1 0; have q6 := HC2.out _ _ _ hF1 6; have hE1 := hF1.heap (heap_alloc_old _ HE.out) (by simp); have e1 := (cell_of_heap (i := d.i.toNat) hE1).trans (bsC_get HT.out.1); rw [HT.out.2, HEN.out] at e1; have ez1 := frozen_of_heap (i := d.i.toNat) hE1; clear hE1)
            go_ret
            exact ⟨by rw [HR.out, HV.out, HOF.out]; rfl, (HF.out.alloc _).trans hF1⟩
      · have hkn : k = n := by omega
        subst hkn
        have HF := Lib.hid hF
        have HT := Lib.hid (show vldT l = true from vldT_iff.2 (fun j hj => HOK.out j (by rw [HL.out] at hj; exact hj)))
        clear hF hE
        go_wp2_with fail
        go_ret
        exact ⟨by rw [HR.out, HV.out, HT.out]; rfl, HF.out⟩
end
end Go.Proofs.Ytfkikaoojelddaa
