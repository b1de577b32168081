/- The law's few. -/
import Derived.Test.YtbhnijkphkkalaaArgsAct11
import Derived.Test.YtbhnijkphkkalaaVpM
namespace Go.Proofs.Ytbhnijkphkkalaa
open Go.ChangeShapes Go.WideShapes Go.ChangeAt Go.RowKit
set_option linter.unusedVariables false

theorem ix_act {b o n c i : Nat} (hk : i < n) (w : World) :
    (Instr.indexAt 37 (.slice (some ⟨b, o, none⟩) n c) (.int .i64 (i : Int))).run Try.prog w = .ok (.pointer (some ⟨b, o + i * 6, none⟩)) w := by
  have h1 : (i : Int) < (n : Int) := by omega
  simp [go_sem, h1]
/-- What few asks of an act. -/
def fewB (x : ActV) : Bool := !(decide (10 < x.ln) || (decide (10 < x.m) && decide (x.m ≤ 256)))
def FewQ (w : World) (n : Nat) (xs : List ActV) (e : Ending) (w' : World) : Prop := ∃ β : Bool, Ret (.bool β) (fun w' => Frm [] w w' ∧ (β = true → n ≤ 80 ∧ ∀ x ∈ xs, fewB x = true)) e w'
section
variable {w : World} {a : Option Addr} {n c : Nat} {xs : List ActV}
theorem IsActs.cells6 {w : World} {a : Option Addr} {n : Nat} {xs : List ActV} (h : IsActs w a n xs) {i : Nat} (hi : i < n) : ∃ b o x, a = some ⟨b, o, none⟩ ∧ b < w.heap.size ∧ xs[i]? = some x ∧ ActOk w x ∧
    w.cell? ⟨b, o + i * 6, none⟩ = some (.int .i64 x.k) ∧ w.cell? ⟨b, o + i * 6 + 1, none⟩ = some (.int .i64 x.a) ∧ w.cell? ⟨b, o + i * 6 + 2, none⟩ = some (.int .i64 x.f) ∧ w.cell? ⟨b, o + i * 6 + 3, none⟩ = some (.int .i64 x.m) ∧ w.cell? ⟨b, o + i * 6 + 4, none⟩ = some (.int .i64 x.t) ∧ w.cell? ⟨b, o + i * 6 + 5, none⟩ = some (.slice x.la x.ln x.lc) := by
  obtain ⟨h1, h2, h3⟩ := h
  obtain ⟨b, o, rfl, hb, hc⟩ := h3 (by omega)
  have e : xs[i]? = some (xs[i]'(by omega)) := List.getElem?_eq_getElem _
  exact ⟨b, o, _, rfl, hb, e, h2 _ (List.mem_of_getElem? e), hc i _ e 0 _ rfl, hc i _ e 1 _ rfl, hc i _ e 2 _ rfl, hc i _ e 3 _ rfl, hc i _ e 4 _ rfl, hc i _ e 5 _ rfl⟩
theorem IsActs.frm {w w' : World} {a : Option Addr} {n : Nat} {xs : List ActV} (h : IsActs w a n xs) (hf : Frm [] w w') : IsActs w' a n xs := by
  obtain ⟨h1, h2, h3⟩ := h
  refine ⟨h1, fun x hx => ?_, fun hp => ?_⟩
  · obtain ⟨k0, k1, k2, k3, k4, l, lb, lo, hL, hw⟩ := h2 x hx
    exact ⟨k0, k1, k2, k3, k4, l, lb, lo, hL.frm0 hf, hw⟩
  · obtain ⟨b, o, e, hb, hc⟩ := h3 hp
    exact ⟨b, o, e, Nat.lt_of_lt_of_le hb hf.size, fun i x hx j u hu => (hf.cell hb (by simp)).trans (hc i x hx j u hu)⟩
set_option maxRecDepth 100000 in
set_option maxHeartbeats 2000000 in
theorem few_any (h : IsActs w a n xs) :
    Calls Try.prog 19 #[.slice a n c] w (FewQ w n xs) := by
  have H := Lib.hid h
  clear h
  go_enter Try.func19, Try.ntmps19
  go_wp2_with fail
  go_loopw [3] (fun i wr => ∃ k : Nat, k ≤ n ∧ k ≤ 81 ∧ i = .int .i64 k ∧ (∀ j x, j < k → xs[j]? = some x → fewB x = true) ∧ Hid (Frm [] w wr)) (fun i _ => 81 - (intOf i).toNat)
  case atStart => exact ⟨0, by omega, by omega, rfl, fun j x hj => by omega, Lib.hid (Frm.refl _ _)⟩
  case round =>
    obtain ⟨k, hk, hk81, rfl, hall, HF⟩ := hrel
    have HALL := Lib.hid hall
    clear hall
    by_cases hlt : k < n
    · by_cases h81 : k < 81
      · obtain ⟨b, o, x, rfl, hb, hx, hxo, c0, c1, c2, c3, c4, c5⟩ := (H.out.frm HF.out).cells6 hlt
        have HX := Lib.hid hx
        have hix : ∀ w, _ := ix_act (b := b) (o := o) (c := c) hlt
        clear hxo hx
        by_cases g1 : 10 < x.ln
        · go_wp2
          go_ret
          exact ⟨false, rfl, by (repeat' (first | exact HF.out | apply Frm.drew | apply Frm.drewN)), fun h => by cases h⟩
        · by_cases g2 : 10 < x.m
          · by_cases g3 : x.m ≤ 256
            · go_wp2
              go_ret
              exact ⟨false, rfl, by (repeat' (first | exact HF.out | apply Frm.drew | apply Frm.drewN)), fun h => by cases h⟩
            · have HB : Hid (fewB x = true) := Lib.hid (by simp [fewB, g1, g3])
              go_wp2
              go_roundw
              case rel => exact ⟨k + 1, by omega, by omega, by go_num, fun j y hj hy => by
                by_cases e : j = k
                · subst e; have := HX.out.symm.trans hy; cases this; exact HB.out
                · exact HALL.out j y (by omega) hy, Lib.hid (by (repeat' (first | exact HF.out | apply Frm.drew | apply Frm.drewN)))⟩
              case measure => simp [intOf]; omega
          · have HB : Hid (fewB x = true) := Lib.hid (by simp [fewB, g1, g2])
            go_wp2
            go_roundw
            case rel => exact ⟨k + 1, by omega, by omega, by go_num, fun j y hj hy => by
              by_cases e : j = k
              · subst e; have := HX.out.symm.trans hy; cases this; exact HB.out
              · exact HALL.out j y (by omega) hy, Lib.hid (by (repeat' (first | exact HF.out | apply Frm.drew | apply Frm.drewN)))⟩
            case measure => simp [intOf]; omega
      · have hk : k = 81 := by omega
        subst hk
        have hn80 : decide ((n : Int) ≤ 80) = false := by simp; omega
        go_wp2
        go_ret
        exact ⟨false, rfl, by (repeat' (first | exact HF.out | apply Frm.drew | apply Frm.drewN)), fun h => by cases h⟩
    · have hk : k = n := by omega
      subst hk
      go_wp2
      go_ret
      refine ⟨decide ((k : Int) ≤ 80), rfl, by (repeat' (first | exact HF.out | apply Frm.drew | apply Frm.drewN)), fun h => ⟨by simp at h; omega, fun x hx => ?_⟩⟩
      obtain ⟨j, hj⟩ := List.getElem?_of_mem hx
      have hjl := (List.getElem?_eq_some_iff.1 hj).1
      exact HALL.out j x (by have := H.out.1; omega) hj
end
#print axioms few_any
end Go.Proofs.Ytbhnijkphkkalaa
