/- The reference's Next by what a step comes to (by gen_mco.py). -/
import Derived.Test.YtoieedlkffmcgaaMcJ
namespace Go.Proofs.Ytoieedlkffmcgaa
open Go.ChangeShapes Go.WideShapes Go.ChangeAt Go.RowKit
set_option linter.unusedVariables false

section
variable {ws : List Int} {n i : Nat} {x bf af : Int}
theorem me_ok {k : Int} (hn : ws.length = n) (hx : ws[i]? = some x) (h1 : 1 ≤ k) (h4 : k ≤ 4) : mErr n k i = 0 := by
  have := (List.getElem?_eq_some_iff.1 hx).1
  unfold mErr; rw [if_neg (by omega), if_neg (by omega)]
theorem me_out {k : Int} (hn : ws.length = n) (hx : ws.length ≤ i) (h1 : 1 ≤ k) (h4 : k ≤ 4) : mErr n k i = 3 := by
  unfold mErr; rw [if_neg (by omega), if_pos (by omega)]
theorem mr_ok {k : Int} (hx : ws[i]? = some x) (h1 : 1 ≤ k) (h4 : k ≤ 4) : mRes ws ⟨k, i, bf, af⟩ = ⟨k, i, x, aft k bf af x⟩ := by
  have h0 := me_ok (n := ws.length) rfl hx h1 h4
  have hg : ws.getD ((i : Nat) : Int).toNat 0 = x := by rw [List.getD_eq_getElem?_getD, Int.toNat_natCast, hx]; rfl
  unfold mRes; simp only []; rw [if_pos h0, hg]
theorem mw_ok {k : Int} (hx : ws[i]? = some x) (h1 : 1 ≤ k) (h4 : k ≤ 4) : mWs ws ⟨k, i, bf, af⟩ = ws.set i (aft k bf af x) := by
  have h0 := me_ok (n := ws.length) rfl hx h1 h4
  have hg : ws.getD ((i : Nat) : Int).toNat 0 = x := by rw [List.getD_eq_getElem?_getD, Int.toNat_natCast, hx]; rfl
  unfold mWs; simp only []; rw [if_pos h0, hg, Int.toNat_natCast]
theorem set_same (hx : ws[i]? = some x) : ws.set i x = ws := by
  have hl := (List.getElem?_eq_some_iff.1 hx).1
  apply List.ext_getElem?; intro j; rw [List.getElem?_set]; split
  · rename_i e; subst e; exact hx.symm
  · rfl
theorem get_any (h : i < ws.length) : ∃ x, ws[i]? = some x := ⟨_, List.getElem?_eq_getElem h⟩
end

theorem Next_any {w : World} {b t L k : Nat} {ws ws' : List Int} {back e' wait : Bool} {s o s' oq no : Int} {n g oo c : Nat} (hn : ws.length = n) (h0 : 0 < n) (hrd : Rd w (.slice (some ⟨g, oo, none⟩) n c) (u64s ws)) (hle : n ≤ 65536) (t64 : t ≤ 64) (fit : b + 6 * t ≤ 65536) (hk : k < 2 * t) (hS : Stp b t L k ws back s o e' s' oq ws' wait no) :
    Calls Try.prog 28 #[.agg #[.int .i64 b, .int .i64 t, .int .i64 L, .int .i64 k, .bool back, .int .i64 s, .int .u64 o, .bool false], .slice (some ⟨g, oo, none⟩) n c] w (fun e w' => ∃ g' o' c', Ret (.tuple #[.agg #[.int .i64 b, .int .i64 t, .int .i64 L, .int .i64 k, .bool back, .int .i64 s', .int .u64 oq, .bool e'], .slice (some ⟨g', o', none⟩) n c', .bool wait, .int .i64 no]) (fun w' => Frm [] w w' ∧ Rd w' (.slice (some ⟨g', o', none⟩) n c') (u64s ws') ∧ (g' = g ∨ w.heap.size ≤ g')) e w') := by
  have HN := Lib.hid hn
  have HR := Lib.hid hrd
  have same : ∀ {v e w'}, Ret v (fun w' => Frm [] w w') e w' → Ret v (fun w' => Frm [] w w' ∧ Rd w' (.slice (some ⟨g, oo, none⟩) n c) (u64s ws) ∧ (g = g ∨ w.heap.size ≤ g)) e w' := fun hh => ⟨hh.1, hh.2, hrd.frm hh.2 (by simp), .inl rfl⟩
  cases hS
  case a1 h =>
    obtain ⟨x, hx⟩ := get_any h
    exact next_ok HN h0 HR hle (Lib.hid fun w => acc_a1 w t64 fit hk) (me_ok hn hx (by decide) (by decide)) (mr_ok hx (by decide) (by decide)) (by rw [mw_ok hx (by decide) (by decide)]; rfl) (Lib.hid fun w => aft_a1 w _ _ _)
  case a1x h =>
    exact (next_err2 HN h0 HR hle (Lib.hid fun w => acc_a1 w t64 fit hk) (me_out hn h (by decide) (by decide))).mono fun _ _ hh => ⟨g, oo, c, same hh⟩
  case a2 h =>
    obtain ⟨x, hx⟩ := get_any h
    exact next_ok HN h0 HR hle (Lib.hid fun w => acc_a2 w t64 fit hk) (me_ok hn hx (by decide) (by decide)) (mr_ok hx (by decide) (by decide)) (by rw [mw_ok hx (by decide) (by decide)]; rfl) (Lib.hid fun w => aft_a2 w _ _ _)
  case a2x h =>
    exact (next_err2 HN h0 HR hle (Lib.hid fun w => acc_a2 w t64 fit hk) (me_out hn h (by decide) (by decide))).mono fun _ _ hh => ⟨g, oo, c, same hh⟩
  case a3f h =>
    exact next_ok HN h0 HR hle (Lib.hid fun w => acc_a3 w t64 fit hk) (me_ok hn h (by decide) (by decide)) (mr_ok h (by decide) (by decide)) (by rw [mw_ok h (by decide) (by decide)]; rfl) (Lib.hid fun w => aft_a3f w _ _ _)
  case a3l hu h =>
    exact next_ok HN h0 HR hle (Lib.hid fun w => acc_a3 w t64 fit hk) (me_ok hn h (by decide) (by decide)) (mr_ok h (by decide) (by decide)) (by rw [mw_ok h (by decide) (by decide)]; rfl) (Lib.hid fun w => aft_a3l w hu _ _ _)
  case a3x h =>
    exact (next_err2 HN h0 HR hle (Lib.hid fun w => acc_a3 w t64 fit hk) (me_out hn h (by decide) (by decide))).mono fun _ _ hh => ⟨g, oo, c, same hh⟩
  case a4b h =>
    exact (next_err1 (Lib.hid fun w => acc_bad w h t64 fit hk) (by decide)).mono fun _ _ hh => ⟨g, oo, c, same hh⟩
  case a4 x h1 h2 h =>
    obtain ⟨y, hy⟩ := get_any h
    exact next_ok HN h0 HR hle (Lib.hid fun w => acc_a4 w h1 h2 t64 fit hk) (me_ok hn hy (by decide) (by decide)) (mr_ok hy (by decide) (by decide)) (by rw [mw_ok hy (by decide) (by decide)]; rfl) (Lib.hid fun w => aft_a4 w _ _ _)
  case a4x x h1 h2 h =>
    exact (next_err2 HN h0 HR hle (Lib.hid fun w => acc_a4 w h1 h2 t64 fit hk) (me_out hn h (by decide) (by decide))).mono fun _ _ hh => ⟨g, oo, c, same hh⟩
  case a5w u hu h =>
    exact next_ok HN h0 HR hle (Lib.hid fun w => acc_a5 w t64 fit hk) (me_ok hn h (by decide) (by decide)) (mr_ok h (by decide) (by decide)) (by rw [mw_ok h (by decide) (by decide)]; exact set_same h) (Lib.hid fun w => aft_a5w w hu _ _ _)
  case a5g h =>
    exact next_ok HN h0 HR hle (Lib.hid fun w => acc_a5 w t64 fit hk) (me_ok hn h (by decide) (by decide)) (mr_ok h (by decide) (by decide)) (by rw [mw_ok h (by decide) (by decide)]; exact set_same h) (Lib.hid fun w => aft_a5g w _ _ _)
  case a5x h =>
    exact (next_err2 HN h0 HR hle (Lib.hid fun w => acc_a5 w t64 fit hk) (me_out hn h (by decide) (by decide))).mono fun _ _ hh => ⟨g, oo, c, same hh⟩
  case r1n h =>
    exact next_ok HN h0 HR hle (Lib.hid fun w => acc_r1 w t64 fit hk) (me_ok hn h (by decide) (by decide)) (mr_ok h (by decide) (by decide)) (by rw [mw_ok h (by decide) (by decide)]; exact set_same h) (Lib.hid fun w => aft_r1n w _ _ _)
  case r1s hu h =>
    exact next_ok HN h0 HR hle (Lib.hid fun w => acc_r1 w t64 fit hk) (me_ok hn h (by decide) (by decide)) (mr_ok h (by decide) (by decide)) (by rw [mw_ok h (by decide) (by decide)]; exact set_same h) (Lib.hid fun w => aft_r1s w hu _ _ _)
  case r1x h =>
    exact (next_err2 HN h0 HR hle (Lib.hid fun w => acc_r1 w t64 fit hk) (me_out hn h (by decide) (by decide))).mono fun _ _ hh => ⟨g, oo, c, same hh⟩
  case r2y h =>
    exact next_ok HN h0 HR hle (Lib.hid fun w => acc_r2 w t64 fit hk) (me_ok hn h (by decide) (by decide)) (mr_ok h (by decide) (by decide)) (by rw [mw_ok h (by decide) (by decide)]; simp [aft]) (Lib.hid fun w => aft_r2y w (by omega) _ _ _)
  case r2n u hu h =>
    exact next_ok HN h0 HR hle (Lib.hid fun w => acc_r2 w t64 fit hk) (me_ok hn h (by decide) (by decide)) (mr_ok h (by decide) (by decide)) (by rw [mw_ok h (by decide) (by decide)]; rw [show aft 3 ((k : Int) + 1) 0 u = u by simp [aft, hu]]; exact set_same h) (Lib.hid fun w => aft_r2n w (by omega) hu _ _ _)
  case r2x h =>
    exact (next_err2 HN h0 HR hle (Lib.hid fun w => acc_r2 w t64 fit hk) (me_out hn h (by decide) (by decide))).mono fun _ _ hh => ⟨g, oo, c, same hh⟩
  case r3w h =>
    exact next_ok HN h0 HR hle (Lib.hid fun w => acc_r3 w t64 fit hk) (me_ok hn h (by decide) (by decide)) (mr_ok h (by decide) (by decide)) (by rw [mw_ok h (by decide) (by decide)]; exact set_same h) (Lib.hid fun w => aft_r3w w _ _ _)
  case r3s hu h =>
    exact next_ok HN h0 HR hle (Lib.hid fun w => acc_r3 w t64 fit hk) (me_ok hn h (by decide) (by decide)) (mr_ok h (by decide) (by decide)) (by rw [mw_ok h (by decide) (by decide)]; exact set_same h) (Lib.hid fun w => aft_r3s w hu _ _ _)
  case r3x h =>
    exact (next_err2 HN h0 HR hle (Lib.hid fun w => acc_r3 w t64 fit hk) (me_out hn h (by decide) (by decide))).mono fun _ _ hh => ⟨g, oo, c, same hh⟩
  case r4b h =>
    exact (next_err1 (Lib.hid fun w => acc_bad w h t64 fit hk) (by decide)).mono fun _ _ hh => ⟨g, oo, c, same hh⟩
  case r4 x h1 h2 h =>
    obtain ⟨y, hy⟩ := get_any h
    exact next_ok HN h0 HR hle (Lib.hid fun w => acc_r4 w h1 h2 t64 fit hk) (me_ok hn hy (by decide) (by decide)) (mr_ok hy (by decide) (by decide)) (by rw [mw_ok hy (by decide) (by decide)]; rfl) (Lib.hid fun w => aft_r4 w _ _ _)
  case r4x x h1 h2 h =>
    exact (next_err2 HN h0 HR hle (Lib.hid fun w => acc_r4 w h1 h2 t64 fit hk) (me_out hn h (by decide) (by decide))).mono fun _ _ hh => ⟨g, oo, c, same hh⟩
#print axioms Next_any
end Go.Proofs.Ytoieedlkffmcgaa
