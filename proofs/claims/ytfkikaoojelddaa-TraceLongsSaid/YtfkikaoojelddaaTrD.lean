/- Stage 13: the reference's right. -/
import Derived.Test.YtfkikaoojelddaaTrC
namespace Go.Proofs.Ytfkikaoojelddaa
open Go.ChangeShapes Go.WideShapes Go.ChangeAt Go.RowKit
set_option linter.unusedVariables false
set_option linter.unusedSimpArgs false
set_option maxRecDepth 100000 in
set_option maxHeartbeats 1600000 in
/-- right: the same as mayBe. -/
theorem right_any (i k wd b a : Int) (wt en : Bool) (w : World) : Calls Try.prog 35 #[(.agg #[.int .i64 i, .int .i64 k, .int .i64 wd, .int .u64 b, .int .u64 a, .bool wt, .bool en])] w (Ret (.bool (may ⟨i, ⟨k, wd, b, a⟩, wt, en⟩)) (fun w' => Frm [] w w')) := by
  obtain ⟨r, hr⟩ : ∃ r, r = may ⟨i, ⟨k, wd, b, a⟩, wt, en⟩ := ⟨_, rfl⟩
  rw [← hr]
  have HR := Lib.hid hr
  clear hr
  obtain ⟨u, hu⟩ : ∃ u, u = isKd k := ⟨_, rfl⟩
  have c1 : ∀ w, Calls Try.prog 59 #[.int .i64 k] w (Ret (.bool u) (fun w' => Frm [] w w')) := fun w => by rw [hu]; exact Kind_any k w
  have HU := Lib.hid hu
  have C1 := Lib.hid c1
  have HC2 := Lib.hid (show ∀ w' : World, Frm [] (w.alloc (Obj.cells #[.int .i64 i, .int .i64 k, .int .i64 wd, .int .u64 b, .int .u64 a, .bool wt, .bool en] 40)) w' → ∀ o, w'.cell? ⟨w.heap.size, o, none⟩ = (#[Value.int .i64 i, .int .i64 k, .int .i64 wd, .int .u64 b, .int .u64 a, .bool wt, .bool en])[o]? from fun w' h o => by
    rw [h.cell (by simp) (by simp)]; exact cell_of_heap (heap_alloc_new _ _))
  clear hu c1
  by_cases k0 : k = 0
  · subst k0
    go_enter Try.func35, Try.ntmps35
    cases wt <;> cases en
    all_goals
      go_wp2_with fail
      all_goals
        go_ret
        refine ⟨by rw [HR.out]; unfold may isTh isAc; first | (simp_all; done) | (simp_all <;> omega), ?_⟩
        first | exact (Frm.refl _ _).alloc _
  · have e0 : (k == 0) = false := by simpa using k0
    have e0' : (k != 0) = true := by simpa using k0
    by_cases k1 : k = 1
    · subst k1
      go_enter Try.func35, Try.ntmps35
      obtain rfl : u = true := by rw [HU.out]; rfl
      cases wt <;> cases en
      all_goals
        go_wp2_with ((with_reducible refine (C1.out _).mono ?_); rintro e w1 ⟨rfl, hF⟩; have q1 := HC2.out _ hF 1; have q2 := HC2.out _ hF 2; have q3 := HC2.out _ hF 3; have q4 := HC2.out _ hF 4)
        all_goals
          go_ret
          refine ⟨by rw [HR.out]; unfold may isTh isAc isWd; first | (simp_all; done) | (simp_all <;> omega), ?_⟩
          first | exact ((Frm.refl _ _).alloc _).trans hF | exact (Frm.refl _ _).alloc _
    · have e1 : (k == 1) = false := by simpa using k1
      have e1' : (k != 1) = true := by simpa using k1
      go_enter Try.func35, Try.ntmps35
      cases u <;> cases wt <;> cases en
      all_goals
        go_wp2_with ((with_reducible refine (C1.out _).mono ?_); rintro e w1 ⟨rfl, hF⟩; have q1 := HC2.out _ hF 1; have q2 := HC2.out _ hF 2; have q3 := HC2.out _ hF 3; have q4 := HC2.out _ hF 4)
        all_goals
          have hu := HU.out
          unfold isKd at hu
          clear HC2 C1
          go_ret
          refine ⟨by rw [HR.out]; unfold may isTh isAc isWd; first | (simp_all; done) | (simp_all <;> omega), ?_⟩
          first | exact ((Frm.refl _ _).alloc _).trans hF | exact (Frm.refl _ _).alloc _
end Go.Proofs.Ytfkikaoojelddaa
