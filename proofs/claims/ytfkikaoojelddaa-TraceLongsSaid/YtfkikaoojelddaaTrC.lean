/- Stage 13: isAccess, mayBe and the reference's right. -/
import Derived.Test.YtfkikaoojelddaaTrB
import Derived.StillTailTactics
namespace Go.Proofs.Ytfkikaoojelddaa
open Go.ChangeShapes Go.WideShapes Go.ChangeAt Go.RowKit
set_option linter.unusedVariables false
set_option linter.unusedSimpArgs false
set_option maxRecDepth 100000 in
set_option maxHeartbeats 1600000 in
/-- isAccess. -/
theorem isAccess_any (k wd b a : Int) (w : World) : Calls Try.prog 58 #[(.agg #[.int .i64 k, .int .i64 wd, .int .u64 b, .int .u64 a])] w (Ret (.bool (isAc ⟨k, wd, b, a⟩)) (fun w' => Frm [] w w')) := by
  obtain ⟨r, hr⟩ : ∃ r, r = isAc ⟨k, wd, b, a⟩ := ⟨_, rfl⟩
  rw [← hr]
  have HR := Lib.hid hr
  clear hr
  by_cases k0 : k = 0
  · subst k0
    go_enter Try.func58, Try.ntmps58
    go_wp2_with fail
    all_goals
      go_ret
      refine ⟨by rw [HR.out]; unfold isAc; first | (simp_all [bne]; done) | (simp_all [bne, isWd] <;> omega), ?_⟩
      first | exact Frm.refl _ _ | exact (Frm.refl _ _).alloc _ | exact ((Frm.refl _ _).alloc _).trans (by assumption) | exact ((Frm.refl _ _).alloc _).trans (hF.out)
  · have e0 : (k == 0) = false := by simpa using k0
    by_cases k1 : k = 1
    · subst k1
      obtain ⟨u, hu⟩ : ∃ u, u = isWd wd := ⟨_, rfl⟩
      have c1 : ∀ w, Calls Try.prog 60 #[.int .i64 wd] w (Ret (.bool u) (fun w' => Frm [] w w')) := fun w => by rw [hu]; exact isWord_any wd w
      have HU := Lib.hid hu
      have C1 := Lib.hid c1
      have HC2 := Lib.hid (show ∀ w' : World, Frm [] (w.alloc (Obj.cells #[.int .i64 1, .int .i64 wd, .int .u64 b, .int .u64 a] 38)) w' → ∀ o, w'.cell? ⟨w.heap.size, o, none⟩ = (#[Value.int .i64 1, .int .i64 wd, .int .u64 b, .int .u64 a])[o]? from fun w' h o => by
        rw [h.cell (by simp) (by simp)]; exact cell_of_heap (heap_alloc_new _ _))
      clear hu c1
      go_enter Try.func58, Try.ntmps58
      cases u
      all_goals
        go_wp2_with ((with_reducible refine (C1.out _).mono ?_); rintro e w1 ⟨rfl, hF⟩; have q2 := HC2.out _ hF 2; have q3 := HC2.out _ hF 3)
        go_ret
        refine ⟨by rw [HR.out]; unfold isAc; simp only [← HU.out]; simp [bne], ?_⟩
        exact ((Frm.refl _ _).alloc _).trans hF
    · have e1 : (k == 1) = false := by simpa using k1
      by_cases k2 : k = 2
      · subst k2
        go_enter Try.func58, Try.ntmps58
        go_wp2_with ((with_reducible refine (isWord_any _ _).mono ?_); rintro e w' ⟨rfl, hF⟩)
        all_goals
          go_ret
          refine ⟨by rw [HR.out]; unfold isAc; first | (simp_all [bne]; done) | (simp_all [bne, isWd] <;> omega), ?_⟩
          first | exact Frm.refl _ _ | exact (Frm.refl _ _).alloc _ | exact ((Frm.refl _ _).alloc _).trans (by assumption) | exact ((Frm.refl _ _).alloc _).trans (hF.out)
      · have e2 : (k == 2) = false := by simpa using k2
        by_cases k3 : k = 3
        · subst k3
          go_enter Try.func58, Try.ntmps58
          go_wp2_with ((with_reducible refine (isWord_any _ _).mono ?_); rintro e w' ⟨rfl, hF⟩)
          all_goals
            go_ret
            refine ⟨by rw [HR.out]; unfold isAc; first | (simp_all [bne]; done) | (simp_all [bne, isWd] <;> omega), ?_⟩
            first | exact Frm.refl _ _ | exact (Frm.refl _ _).alloc _ | exact ((Frm.refl _ _).alloc _).trans (by assumption) | exact ((Frm.refl _ _).alloc _).trans (hF.out)
        · have e3 : (k == 3) = false := by simpa using k3
          by_cases k4 : k = 4
          · subst k4
            go_enter Try.func58, Try.ntmps58
            go_wp2_with ((with_reducible refine (isWord_any _ _).mono ?_); rintro e w' ⟨rfl, hF⟩)
            all_goals
              go_ret
              refine ⟨by rw [HR.out]; unfold isAc; first | (simp_all [bne]; done) | (simp_all [bne, isWd] <;> omega), ?_⟩
              first | exact Frm.refl _ _ | exact (Frm.refl _ _).alloc _ | exact ((Frm.refl _ _).alloc _).trans (by assumption) | exact ((Frm.refl _ _).alloc _).trans (hF.out)
          · have e4 : (k == 4) = false := by simpa using k4
            have HK := Lib.hid (show isAc ⟨k, wd, b, a⟩ = false by unfold isAc; simp [e0, e1]; omega)
            clear k0 k1 k2 k3 k4
            go_enter Try.func58, Try.ntmps58
            go_wp2_with fail
            go_ret
            exact ⟨by rw [HR.out, HK.out]; rfl, (Frm.refl _ _).alloc _⟩
set_option maxRecDepth 100000 in
set_option maxHeartbeats 1600000 in
/-- mayBe. -/
theorem mayBe_any (i k wd b a : Int) (wt en : Bool) (w : World) : Calls Try.prog 34 #[(.agg #[.int .i64 i, .int .i64 k, .int .i64 wd, .int .u64 b, .int .u64 a, .bool wt, .bool en])] w (Ret (.bool (may ⟨i, ⟨k, wd, b, a⟩, wt, en⟩)) (fun w' => Frm [] w w')) := by
  obtain ⟨r, hr⟩ : ∃ r, r = may ⟨i, ⟨k, wd, b, a⟩, wt, en⟩ := ⟨_, rfl⟩
  rw [← hr]
  have HR := Lib.hid hr
  clear hr
  obtain ⟨t, ht⟩ : ∃ t, t = isTh i := ⟨_, rfl⟩
  obtain ⟨u, hu⟩ : ∃ u, u = isAc ⟨k, wd, b, a⟩ := ⟨_, rfl⟩
  have c1 : ∀ w, Calls Try.prog 57 #[.int .i64 i] w (Ret (.bool t) (fun w' => Frm [] w w')) := fun w => by rw [ht]; exact isThread_any i w
  have c2 : ∀ w, Calls Try.prog 58 #[(.agg #[.int .i64 k, .int .i64 wd, .int .u64 b, .int .u64 a])] w (Ret (.bool u) (fun w' => Frm [] w w')) := fun w => by rw [hu]; exact isAccess_any k wd b a w
  have HT := Lib.hid ht
  have HU := Lib.hid hu
  have C1 := Lib.hid c1
  have C2 := Lib.hid c2
  clear ht hu c1 c2
  have HC : ∀ w' : World, Frm [] (w.alloc (Obj.cells #[.int .i64 i, .int .i64 k, .int .i64 wd, .int .u64 b, .int .u64 a, .bool wt, .bool en] 40)) w' → ∀ o, w'.cell? ⟨w.heap.size, o, none⟩ = (#[Value.int .i64 i, .int .i64 k, .int .i64 wd, .int .u64 b, .int .u64 a, .bool wt, .bool en])[o]? := fun w' h o => by
    rw [h.cell (by simp) (by simp)]; exact cell_of_heap (heap_alloc_new _ _)
  have HC2 := Lib.hid HC
  clear HC
  go_enter Try.func34, Try.ntmps34
  cases t <;> cases u <;> cases wt <;> cases en
  all_goals
    go_wp2_with (first | ((with_reducible refine (C1.out _).mono ?_); rintro e w1 ⟨rfl, hF1⟩; have q1 := HC2.out _ hF1 1; have q2 := HC2.out _ hF1 2; have q3 := HC2.out _ hF1 3; have q4 := HC2.out _ hF1 4; have q5 := HC2.out _ hF1 5; have q6 := HC2.out _ hF1 6) | ((with_reducible refine (C2.out _).mono ?_); rintro e w2 ⟨rfl, hF2⟩; have p1 := HC2.out _ (hF1.trans hF2) 1; have p5 := HC2.out _ (hF1.trans hF2) 5; have p6 := HC2.out _ (hF1.trans hF2) 6))
    all_goals
      go_ret
      refine ⟨by rw [HR.out]; unfold may; simp only [← HT.out, ← HU.out]; simp [*], ?_⟩
      first | exact ((Frm.refl _ _).alloc _).trans hF1 | exact (((Frm.refl _ _).alloc _).trans hF1).trans hF2
end Go.Proofs.Ytfkikaoojelddaa
