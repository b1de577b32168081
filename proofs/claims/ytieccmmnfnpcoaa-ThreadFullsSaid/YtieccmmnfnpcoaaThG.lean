/- Stage 12: the access of an instruction. -/
import Derived.Test.YtieccmmnfnpcoaaThD
namespace Go.Proofs.Ytieccmmnfnpcoaa
open Go.ChangeShapes Go.WideShapes Go.ChangeAt Go.RowKit
set_option linter.unusedVariables false
/-- What access returns: the register's new value, and the error. -/
def AccQ (K : Bool) (w : World) (p d cm q : Nat) (ws : List Int) (y : Ins) (g : List Int) (e : Ending) (w' : World) : Prop :=
  ∃ u : Int, Ret (.tuple #[.int .u64 u, .int .i64 (mErr ws.length (iacc y g).k (iacc y g).w)]) (fun w' => Frm [d, q] w w' ∧ Mm K w' p d cm q (nAcc K (mRes ws (iacc y g))) (mWs ws (iacc y g))) e w'
    ∧ (mErr ws.length (iacc y g).k (iacc y g).w = 0 → u = ival y g (mRes ws (iacc y g)))
section
variable {K : Bool} {w : World} {p d cm q b c qc : Nat} {ws : List Int} {x : Cd}

set_option maxRecDepth 100000 in
theorem cacc_1 (h : CodeAt w qc b c x) (hM : Mm K w p d cm q acc0 ws) (y : Ins) (hk : y.k = 1) (hr : 0 ≤ y.r ∧ y.r < 4) :
    Calls Try.prog 85 #[.pointer (some ⟨qc, 0, none⟩), .iface (tMm K) (.pointer (some ⟨aMm K p q, 0, none⟩)), .agg #[.int .i64 y.k, .int .i64 y.r, .int .i64 y.w, .int .u64 y.v]] w (AccQ K w p d cm q ws y x.g) := by
  obtain ⟨k, r, w0, v⟩ := y
  dsimp only at hk hr
  subst hk
  obtain ⟨r, rfl⟩ := Int.eq_ofNat_of_zero_le hr.1
  have hr4 : r < 4 := by omega
  have hix := ix_reg (q := qc) hr4
  obtain ⟨u, hu⟩ : ∃ u, x.g.getD r 0 = u := ⟨_, rfl⟩
  have ha : iacc ⟨1, r, w0, v⟩ x.g = ⟨1, w0, 0, 0⟩ := by
    unfold iacc; dsimp only; simp only [Int.toNat_natCast, hu]; rfl
  have hv : ∀ did, ival ⟨1, r, w0, v⟩ x.g did = did.b := by
    intro did; unfold ival; dsimp only; simp only [Int.toNat_natCast, hu]; rfl
  have HQ := Lib.hid ha
  have HV := Lib.hid hv
  have hm := m_Load K (aMm K p q)
  have hc := c_Load K
  obtain ⟨X, hX⟩ : ∃ X, X = w.alloc (.cells #[.int .i64 1, .int .i64 r, .int .i64 w0, .int .u64 v] 74) := ⟨_, rfl⟩
  have hF : Frm [] w X := by rw [hX]; exact (Frm.refl _ _).alloc _
  have hx0 : X.cell? ⟨w.heap.size, 0, none⟩ = some (.int .i64 1) := by rw [hX, cell_of_heap (heap_alloc_new _ _)]; rfl
  have hx1 : X.cell? ⟨w.heap.size, 1, none⟩ = some (.int .i64 r) := by rw [hX, cell_of_heap (heap_alloc_new _ _)]; rfl
  have hx2 : X.cell? ⟨w.heap.size, 2, none⟩ = some (.int .i64 w0) := by rw [hX, cell_of_heap (heap_alloc_new _ _)]; rfl
  have hx3 : X.cell? ⟨w.heap.size, 3, none⟩ = some (.int .u64 v) := by rw [hX, cell_of_heap (heap_alloc_new _ _)]; rfl
  have hcr := (h.frm0 hF).cr hr4
  rw [hu] at hcr
  have HM := Lib.hid (hM.frm0 hF)
  have HF := Lib.hid hF
  clear h hF hM ha hv hu hr
  go_enter Try.func85, Try.ntmps85
  go_wp2_with fail
  rw [← hX]
  clear hX
  go_wp2_with fail
  go_quiet (fail)
  go_wp2_with fail
  refine (Load_m0 (HM.out.drewN _) _).mono ?_
  rintro e w3 ⟨rfl, hF3, hM3⟩
  have HF3 := Lib.hid ((HF.out.nil.drewN _).trans hF3)
  have HM3 := Lib.hid hM3
  clear hF3 hM3
  go_wp2
  go_ret2
  unfold AccQ
  rw [HQ.out]
  simp only [HV.out]
  exact ⟨_, ⟨rfl, HF3.out, HM3.out⟩, fun _ => rfl⟩

set_option maxRecDepth 100000 in
theorem cacc_2 (h : CodeAt w qc b c x) (hM : Mm K w p d cm q acc0 ws) (y : Ins) (hk : y.k = 2) (hr : 0 ≤ y.r ∧ y.r < 4) :
    Calls Try.prog 85 #[.pointer (some ⟨qc, 0, none⟩), .iface (tMm K) (.pointer (some ⟨aMm K p q, 0, none⟩)), .agg #[.int .i64 y.k, .int .i64 y.r, .int .i64 y.w, .int .u64 y.v]] w (AccQ K w p d cm q ws y x.g) := by
  obtain ⟨k, r, w0, v⟩ := y
  dsimp only at hk hr
  subst hk
  obtain ⟨r, rfl⟩ := Int.eq_ofNat_of_zero_le hr.1
  have hr4 : r < 4 := by omega
  have hix := ix_reg (q := qc) hr4
  obtain ⟨u, hu⟩ : ∃ u, x.g.getD r 0 = u := ⟨_, rfl⟩
  have ha : iacc ⟨2, r, w0, v⟩ x.g = ⟨2, w0, 0, u⟩ := by
    unfold iacc; dsimp only; simp only [Int.toNat_natCast, hu]; rfl
  have hv : ∀ did, ival ⟨2, r, w0, v⟩ x.g did = u := by
    intro did; unfold ival; dsimp only; simp only [Int.toNat_natCast, hu]; rfl
  have HQ := Lib.hid ha
  have HV := Lib.hid hv
  have hm := m_Store K (aMm K p q)
  have hc := c_Store K
  obtain ⟨X, hX⟩ : ∃ X, X = w.alloc (.cells #[.int .i64 2, .int .i64 r, .int .i64 w0, .int .u64 v] 74) := ⟨_, rfl⟩
  have hF : Frm [] w X := by rw [hX]; exact (Frm.refl _ _).alloc _
  have hx0 : X.cell? ⟨w.heap.size, 0, none⟩ = some (.int .i64 2) := by rw [hX, cell_of_heap (heap_alloc_new _ _)]; rfl
  have hx1 : X.cell? ⟨w.heap.size, 1, none⟩ = some (.int .i64 r) := by rw [hX, cell_of_heap (heap_alloc_new _ _)]; rfl
  have hx2 : X.cell? ⟨w.heap.size, 2, none⟩ = some (.int .i64 w0) := by rw [hX, cell_of_heap (heap_alloc_new _ _)]; rfl
  have hx3 : X.cell? ⟨w.heap.size, 3, none⟩ = some (.int .u64 v) := by rw [hX, cell_of_heap (heap_alloc_new _ _)]; rfl
  have hcr := (h.frm0 hF).cr hr4
  rw [hu] at hcr
  have HM := Lib.hid (hM.frm0 hF)
  have HF := Lib.hid hF
  clear h hF hM ha hv hu hr
  go_enter Try.func85, Try.ntmps85
  go_wp2_with fail
  rw [← hX]
  clear hX
  go_wp2_with fail
  go_quiet (fail)
  go_wp2_with fail
  refine (Store_m0 (HM.out.drewN _) _ _).mono ?_
  rintro e w3 ⟨rfl, hF3, hM3⟩
  have HF3 := Lib.hid ((HF.out.nil.drewN _).trans hF3)
  have HM3 := Lib.hid hM3
  clear hF3 hM3
  go_wp2
  go_ret2
  unfold AccQ
  rw [HQ.out]
  simp only [HV.out]
  exact ⟨_, ⟨rfl, HF3.out, HM3.out⟩, fun _ => rfl⟩

set_option maxRecDepth 100000 in
theorem cacc_3 (h : CodeAt w qc b c x) (hM : Mm K w p d cm q acc0 ws) (y : Ins) (hk : y.k = 3) (hr : 0 ≤ y.r ∧ y.r < 4) :
    Calls Try.prog 85 #[.pointer (some ⟨qc, 0, none⟩), .iface (tMm K) (.pointer (some ⟨aMm K p q, 0, none⟩)), .agg #[.int .i64 y.k, .int .i64 y.r, .int .i64 y.w, .int .u64 y.v]] w (AccQ K w p d cm q ws y x.g) := by
  obtain ⟨k, r, w0, v⟩ := y
  dsimp only at hk hr
  subst hk
  obtain ⟨r, rfl⟩ := Int.eq_ofNat_of_zero_le hr.1
  have hr4 : r < 4 := by omega
  have hix := ix_reg (q := qc) hr4
  obtain ⟨u, hu⟩ : ∃ u, x.g.getD r 0 = u := ⟨_, rfl⟩
  have ha : iacc ⟨3, r, w0, v⟩ x.g = ⟨4, w0, 0, u⟩ := by
    unfold iacc; dsimp only; simp only [Int.toNat_natCast, hu]; rfl
  have hv : ∀ did, ival ⟨3, r, w0, v⟩ x.g did = did.b := by
    intro did; unfold ival; dsimp only; simp only [Int.toNat_natCast, hu]; rfl
  have HQ := Lib.hid ha
  have HV := Lib.hid hv
  have hm := m_Swap K (aMm K p q)
  have hc := c_Swap K
  obtain ⟨X, hX⟩ : ∃ X, X = w.alloc (.cells #[.int .i64 3, .int .i64 r, .int .i64 w0, .int .u64 v] 74) := ⟨_, rfl⟩
  have hF : Frm [] w X := by rw [hX]; exact (Frm.refl _ _).alloc _
  have hx0 : X.cell? ⟨w.heap.size, 0, none⟩ = some (.int .i64 3) := by rw [hX, cell_of_heap (heap_alloc_new _ _)]; rfl
  have hx1 : X.cell? ⟨w.heap.size, 1, none⟩ = some (.int .i64 r) := by rw [hX, cell_of_heap (heap_alloc_new _ _)]; rfl
  have hx2 : X.cell? ⟨w.heap.size, 2, none⟩ = some (.int .i64 w0) := by rw [hX, cell_of_heap (heap_alloc_new _ _)]; rfl
  have hx3 : X.cell? ⟨w.heap.size, 3, none⟩ = some (.int .u64 v) := by rw [hX, cell_of_heap (heap_alloc_new _ _)]; rfl
  have hcr := (h.frm0 hF).cr hr4
  rw [hu] at hcr
  have HM := Lib.hid (hM.frm0 hF)
  have HF := Lib.hid hF
  clear h hF hM ha hv hu hr
  go_enter Try.func85, Try.ntmps85
  go_wp2_with fail
  rw [← hX]
  clear hX
  go_wp2_with fail
  go_quiet (fail)
  go_wp2_with fail
  refine (Swap_m0 (HM.out.drewN _) _ _).mono ?_
  rintro e w3 ⟨rfl, hF3, hM3⟩
  have HF3 := Lib.hid ((HF.out.nil.drewN _).trans hF3)
  have HM3 := Lib.hid hM3
  clear hF3 hM3
  go_wp2
  go_ret2
  unfold AccQ
  rw [HQ.out]
  simp only [HV.out]
  exact ⟨_, ⟨rfl, HF3.out, HM3.out⟩, fun _ => rfl⟩

set_option maxRecDepth 100000 in
theorem cacc_4 (h : CodeAt w qc b c x) (hM : Mm K w p d cm q acc0 ws) (y : Ins) (hk : y.k = 4) (hr : 0 ≤ y.r ∧ y.r < 4) :
    Calls Try.prog 85 #[.pointer (some ⟨qc, 0, none⟩), .iface (tMm K) (.pointer (some ⟨aMm K p q, 0, none⟩)), .agg #[.int .i64 y.k, .int .i64 y.r, .int .i64 y.w, .int .u64 y.v]] w (AccQ K w p d cm q ws y x.g) := by
  obtain ⟨k, r, w0, v⟩ := y
  dsimp only at hk hr
  subst hk
  obtain ⟨r, rfl⟩ := Int.eq_ofNat_of_zero_le hr.1
  have hr4 : r < 4 := by omega
  have hix := ix_reg (q := qc) hr4
  obtain ⟨u, hu⟩ : ∃ u, x.g.getD r 0 = u := ⟨_, rfl⟩
  have ha : iacc ⟨4, r, w0, v⟩ x.g = ⟨3, w0, v, u⟩ := by
    unfold iacc; dsimp only; simp only [Int.toNat_natCast, hu]; rfl
  have hv : ∀ did, ival ⟨4, r, w0, v⟩ x.g did = (if did.b = v then 1 else 0) := by
    intro did; unfold ival; dsimp only; simp only [Int.toNat_natCast, hu]; rfl
  have HQ := Lib.hid ha
  have HV := Lib.hid hv
  have hm := m_CAS K (aMm K p q)
  have hc := c_CAS K
  obtain ⟨X, hX⟩ : ∃ X, X = w.alloc (.cells #[.int .i64 4, .int .i64 r, .int .i64 w0, .int .u64 v] 74) := ⟨_, rfl⟩
  have hF : Frm [] w X := by rw [hX]; exact (Frm.refl _ _).alloc _
  have hx0 : X.cell? ⟨w.heap.size, 0, none⟩ = some (.int .i64 4) := by rw [hX, cell_of_heap (heap_alloc_new _ _)]; rfl
  have hx1 : X.cell? ⟨w.heap.size, 1, none⟩ = some (.int .i64 r) := by rw [hX, cell_of_heap (heap_alloc_new _ _)]; rfl
  have hx2 : X.cell? ⟨w.heap.size, 2, none⟩ = some (.int .i64 w0) := by rw [hX, cell_of_heap (heap_alloc_new _ _)]; rfl
  have hx3 : X.cell? ⟨w.heap.size, 3, none⟩ = some (.int .u64 v) := by rw [hX, cell_of_heap (heap_alloc_new _ _)]; rfl
  have hcr := (h.frm0 hF).cr hr4
  rw [hu] at hcr
  have HM := Lib.hid (hM.frm0 hF)
  have HF := Lib.hid hF
  clear h hF hM ha hv hu hr
  go_enter Try.func85, Try.ntmps85
  go_wp2_with fail
  rw [← hX]
  clear hX
  go_wp2_with fail
  go_quiet (fail)
  go_wp2_with fail
  refine (CAS_m0 (HM.out.drewN _) _ _ _).mono ?_
  rintro e w3 ⟨rfl, hF3, hM3⟩
  have HF3 := Lib.hid ((HF.out.nil.drewN _).trans hF3)
  have HM3 := Lib.hid hM3
  clear hF3 hM3
  by_cases he : mErr ws.length 3 w0 = 0
  · by_cases hb : (mRes ws ⟨3, w0, v, u⟩).b = v
    · have e1 : (mErr ws.length 3 w0 == 0 && (mRes ws ⟨3, w0, v, u⟩).b == v) = true := by simp [he, hb]
      have HB := Lib.hid hb
      have HE := Lib.hid he
      clear hb he
      go_wp2
      go_ret2
      unfold AccQ
      rw [HQ.out]
      simp only [HV.out]
      refine ⟨_, ⟨rfl, HF3.out, HM3.out⟩, fun _ => ?_⟩
      rw [if_pos HB.out]
    · have e1 : (mErr ws.length 3 w0 == 0 && (mRes ws ⟨3, w0, v, u⟩).b == v) = false := by simp [hb]
      have HB := Lib.hid hb
      have HE := Lib.hid he
      clear hb he
      go_wp2
      go_ret2
      unfold AccQ
      rw [HQ.out]
      simp only [HV.out]
      refine ⟨_, ⟨rfl, HF3.out, HM3.out⟩, fun _ => ?_⟩
      rw [if_neg HB.out]
  · have e1 : (mErr ws.length 3 w0 == 0 && (mRes ws ⟨3, w0, v, u⟩).b == v) = false := by simp [he]
    have HE := Lib.hid he
    clear he
    go_wp2
    go_ret2
    unfold AccQ
    rw [HQ.out]
    simp only [HV.out]
    exact ⟨_, ⟨rfl, HF3.out, HM3.out⟩, fun h => absurd h HE.out⟩

theorem cacc_at (h : CodeAt w qc b c x) (hM : Mm K w p d cm q acc0 ws) (y : Ins) (hk : 1 ≤ y.k ∧ y.k ≤ 4) (hr : 0 ≤ y.r ∧ y.r < 4) :
    Calls Try.prog 85 #[.pointer (some ⟨qc, 0, none⟩), .iface (tMm K) (.pointer (some ⟨aMm K p q, 0, none⟩)), .agg #[.int .i64 y.k, .int .i64 y.r, .int .i64 y.w, .int .u64 y.v]] w (AccQ K w p d cm q ws y x.g) := by
  have : y.k = 1 ∨ y.k = 2 ∨ y.k = 3 ∨ y.k = 4 := by omega
  rcases this with e | e | e | e
  · exact cacc_1 h hM y e hr
  · exact cacc_2 h hM y e hr
  · exact cacc_3 h hM y e hr
  · exact cacc_4 h hM y e hr
end
#print axioms cacc_at
end Go.Proofs.Ytieccmmnfnpcoaa
