/- McsAny: what has ended: the reference's Access and Next, the law's does (by gen_mcax.py). -/
import Derived.Test.YtoieedlkffmcgaaMcDo
import Derived.Test.YtoieedlkffmcgaaMcNw
namespace Go.Proofs.Ytoieedlkffmcgaa
open Go.ChangeShapes Go.WideShapes Go.ChangeAt Go.RowKit
set_option linter.unusedVariables false
set_option linter.unusedSimpArgs false

set_option maxRecDepth 100000 in
set_option maxHeartbeats 1000000 in
theorem acc_end4_ (w : World) {b t L k : Nat} {o : Int} {back β γ : Bool} (y3 : decide (2 * (t : Int) < o) = β) (y7 : (o == 0) = γ) (t64 : t ≤ 64) (fit : b + 6 * t ≤ 65536) (hk : k < 2 * t) :
    Calls Try.prog 37 #[.agg #[.int .i64 b, .int .i64 t, .int .i64 L, .int .i64 k, .bool back, .int .i64 4, .int .u64 o, .bool true]] w (Ret (.tuple #[.agg #[.int .i64 0, .int .i64 0, .int .u64 0, .int .u64 0], .int .i64 17]) (fun w' => Frm [] w w')) := by
  have y4 : decide ((t : Int) * 2 < o) = β := by rw [Int.mul_comm]; exact y3
  cases β <;> cases γ
  all_goals
    obtain ⟨y1, y2⟩ := wrap_two t t64
    obtain ⟨X, hX⟩ : ∃ X, X = (w.alloc (.cells #[.int .i64 b, .int .i64 t, .int .i64 L, .int .i64 k, .bool back, .int .i64 4, .int .u64 o, .bool true] 42)).alloc (.cells #[.int .i64 0, .int .i64 0, .int .u64 0, .int .u64 0] 99) := ⟨_, rfl⟩
    have hFX : Frm [] w X := by rw [hX]; exact ((Frm.refl _ _).alloc _).alloc _
    have hb0 : X.heap[w.heap.size]? = some (.cells #[.int .i64 b, .int .i64 t, .int .i64 L, .int .i64 k, .bool back, .int .i64 4, .int .u64 o, .bool true] 42 (0, 0)) := by rw [hX]; exact heap_alloc_old _ (heap_alloc_new _ _)
    have hb1 : X.heap[w.heap.size + 1]? = some (.cells #[.int .i64 0, .int .i64 0, .int .u64 0, .int .u64 0] 99 (0, 0)) := by rw [hX]; exact heap_alloc_at _ (by simp)
    obtain ⟨c0, c1, c2, c3, c4, c5, c6, c7⟩ := cells8 hb0
    have hwx : w.heap.size + 1 < X.heap.size := lt_of_heap hb1
    have HFX := Lib.hid hFX
    have HB0 := Lib.hid hb0
    have HB1 := Lib.hid hb1
    clear hFX hb0 hb1
    go_enter Try.func37, Try.ntmps37
    go_wp2_with fail
    rw [← hX]
    clear hX
    refine (rnextx X t64 fit hk).mono ?_
    rintro e w1 ⟨rfl, g1⟩
    have HG := Lib.hid g1
    have hb0 := g1.heap HB0.out (by simp)
    clear c0 c1 c2 c3 c4 c5 c6 c7
    obtain ⟨c0, c1, c2, c3, c4, c5, c6, c7⟩ := cells8 hb0
    clear hb0 g1
    go_wp2_with fail
    refine (rwaitx w1 t64 fit hk).mono ?_
    rintro e w2 ⟨rfl, g1⟩
    replace HG := Lib.hid (HG.out.trans g1)
    have hb0 := HG.out.heap HB0.out (by simp)
    have hb1 := HG.out.heap HB1.out (by simp)
    clear c0 c1 c2 c3 c4 c5 c6 c7
    obtain ⟨c0, c1, c2, c3, c4, c5, c6, c7⟩ := cells8 hb0
    obtain ⟨r0, r1, r2, r3⟩ := cells4 hb1
    obtain ⟨f0, f1, f2, f3⟩ := frozen4 hb1
    have hws := HG.out.size
    have HC0 := Lib.hid hb0
    have HC1 := Lib.hid hb1
    clear hb0 hb1 g1
    go_wp2
    have hR3 := setCells4 HC1.out (.int .i64 0) (.int .i64 0) (.int .u64 0) (.int .u64 0)
    have hF3 := (HFX.out.trans HG.out).set4 (w.heap.size + 1) 0 1 2 3 (.int .i64 0) (.int .i64 0) (.int .u64 0) (.int .u64 0) (.inr (Nat.le_succ _))
    obtain ⟨k0, k1, k2, k3⟩ := cells4 hR3
    refine bodyPost_ret (v := .tuple #[.agg #[.int .i64 0, .int .i64 0, .int .u64 0, .int .u64 0], .int .i64 17]) (by simp [results, Try.results37, go_sem, k0, k1, k2, k3]) rfl ⟨rfl, ?_⟩
    exact hF3

theorem Next_over (w : World) {b t L k : Nat} {s o : Int} {back : Bool} {n g oo c : Nat} (t64 : t ≤ 64) (fit : b + 6 * t ≤ 65536) (hk : k < 2 * t) :
    Calls Try.prog 28 #[.agg #[.int .i64 b, .int .i64 t, .int .i64 L, .int .i64 k, .bool back, .int .i64 s, .int .u64 o, .bool true], .slice (some ⟨g, oo, none⟩) n c] w (Ret (.tuple #[.agg #[.int .i64 b, .int .i64 t, .int .i64 L, .int .i64 k, .bool back, .int .i64 s, .int .u64 o, .bool true], .slice (some ⟨g, oo, none⟩) n c, .bool false, .int .i64 17]) (fun w' => Frm [] w w')) := by
  by_cases h4 : s = 4
  · subst h4
    exact next_err1 (Lib.hid fun w => acc_end4_ w rfl rfl t64 fit hk) (by decide)
  · exact next_err1 (Lib.hid fun w => acc_end w h4 t64 fit hk) (by decide)
/-- does at a program that has ended. -/
theorem does_over {w : World} {b t L k : Nat} {ws : List Int} {back : Bool} {s o : Int} {n g oo c p d cc q : Nat}
    (hM : MemAt w p d cc ws) (hR : PgR w q back b t L k s o true) (hn : ws.length = n) (hrd : Rd w (.slice (some ⟨g, oo, none⟩) n c) (u64s ws)) (hgd : g ≠ d) (hgq : g ≠ q) (hp : q ≠ p) (t64 : t ≤ 64) (fit : b + 6 * t ≤ 65536) (hk : k < 2 * t) :
    Calls Try.prog 13 #[.iface (Ip back) (.pointer (some ⟨q, 0, none⟩)), .agg #[.int .i64 b, .int .i64 t, .int .i64 L, .int .i64 k, .bool back, .int .i64 s, .int .u64 o, .bool true], .pointer (some ⟨p, 0, none⟩), .slice (some ⟨g, oo, none⟩) n c] w
      (fun e0 w' => ∃ g' o' c', Ret (.tuple #[.agg #[.int .i64 b, .int .i64 t, .int .i64 L, .int .i64 k, .bool back, .int .i64 s, .int .u64 o, .bool true], .slice (some ⟨g', o', none⟩) n c', .bool true]) (fun w' => Aftr p d cc q back b t L k w ws s o true w' ∧ Rd w' (.slice (some ⟨g', o', none⟩) n c') (u64s ws) ∧ (g' = g ∨ w.heap.size ≤ g')) e0 w') := by
  have HN : Hid (∀ w', Frm [] w w' → Calls Try.prog 28 #[.agg #[.int .i64 b, .int .i64 t, .int .i64 L, .int .i64 k, .bool back, .int .i64 s, .int .u64 o, .bool true], .slice (some ⟨g, oo, none⟩) n c] w' (fun e0 w2 => ∃ g' o' c', Ret (.tuple #[.agg #[.int .i64 b, .int .i64 t, .int .i64 L, .int .i64 k, .bool back, .int .i64 s, .int .u64 o, .bool true], .slice (some ⟨g', o', none⟩) n c', .bool false, .int .i64 17]) (fun w2 => Frm [] w' w2 ∧ Rd w2 (.slice (some ⟨g', o', none⟩) n c') (u64s ws) ∧ (g' = g ∨ w'.heap.size ≤ g')) e0 w2)) :=
    Lib.hid fun w' hf => (Next_over w' t64 fit hk).mono fun _ _ hh => ⟨g, oo, c, hh.1, hh.2, (hrd.frm hf (by simp)).frm hh.2 (by simp), .inl rfl⟩
  have HS : Hid (∀ w', Frm [] w w' → Calls Try.prog (fStep back) #[.pointer (some ⟨q, 0, none⟩), .iface 29 (.pointer (some ⟨p, 0, none⟩))] w' (Ret (.tuple #[.bool false, .int .i64 17]) (Aftr p d cc q back b t L k w' ws s o true))) :=
    Lib.hid fun w' hf => (Step_over (p := p) (hR.frm hf (by simp))).mono fun _ _ hh => ⟨hh.1, hh.2.nil, (hM.frm hf (by simp) (by simp)).frm hh.2 (by simp) (by simp), (hR.frm hf (by simp)).frm hh.2 (by simp)⟩
  exact does_true HN HS (Lib.hid hn) hrd.cells.1 hgd hgq hM.plt hM.dlt hR.lt hp
#print axioms does_over
end Go.Proofs.Ytoieedlkffmcgaa
