/- VersionNil. (By gen_veu.py.) -/
import Derived.Test.YtbhnijkphkkalaaVeU0
namespace Go.Proofs.Ytbhnijkphkkalaa
open Go.ChangeShapes Go.WideShapes Go.ChangeAt Go.RowKit
set_option linter.unusedVariables false

def Pv (v : Value) : Prop := v = .pointer none ∨ ∃ q, v = .pointer (some ⟨q, 0, none⟩)
theorem Nz.pv {R : Bool} {w : World} {v : Value} (h : Nz R w v) : Pv v := by
  rcases h with h | ⟨q, h, _⟩
  · exact .inl h
  · exact .inr ⟨q, h⟩
theorem mz_Step (R : Bool) {v : Value} (h : Pv v) (w : World) : (method 230 (Ip R) v "Step").run Try.prog w = .ok (fStep R, v) w := by rcases h with rfl | ⟨q, rfl⟩ <;> cases R <;> kernel_rfl
theorem mz_Done (R : Bool) {v : Value} (h : Pv v) (w : World) : (method 230 (Ip R) v "Done").run Try.prog w = .ok (fDone R, v) w := by rcases h with rfl | ⟨q, rfl⟩ <;> cases R <;> kernel_rfl
theorem mz_Result (R : Bool) {v : Value} (h : Pv v) (w : World) : (method 230 (Ip R) v "Result").run Try.prog w = .ok (fResult R, v) w := by rcases h with rfl | ⟨q, rfl⟩ <;> cases R <;> kernel_rfl
theorem mz_Copy (R : Bool) {v : Value} (h : Pv v) (w : World) : (method 230 (Ip R) v "Copy").run Try.prog w = .ok (fCopy R, v) w := by rcases h with rfl | ⟨q, rfl⟩ <;> cases R <;> kernel_rfl

/-- What the law goes over. -/
def Four (w : World) (g : Nat) : Prop := ∀ k, k < 4 → ∃ R v, w.cell? ⟨g, k, none⟩ = some (.iface (Ip R) v) ∧ Nz R w v
theorem Four.frm0 {w w' : World} {g : Nat} (h : Four w g) (hg : g < w.heap.size) (hf : Frm [] w w') : Four w' g := fun k hk => by
  obtain ⟨R, v, h1, h2⟩ := h k hk
  exact ⟨R, v, (hf.cell hg (by simp)).trans h1, h2.frm0 hf⟩
set_option maxRecDepth 100000 in
set_option maxHeartbeats 8000000 in
theorem walk_VersionNil (x : Int) (_wx : (Lit.int .u64 x).wf = true) (v : Int) (_wv : (Lit.int .u64 v).wf = true) (w : World) :
    Calls Try.prog 6 #[.int .u64 x, .int .u64 v] w (Ret (.bool true) (fun w' => Below w.heap.size w w')) := by
  have H0 := Lib.hid (made_any (w := w.alloc (.cells #[.int .u64 x, .int .u64 v] 22)) (rd_u64 (n := 2) (l := [x, v]) rfl (heap_alloc_new _ _)) (by simp) (by simp))
  have hv0 := u_nn _wv
  have hx0 := u_nn _wx
  have HNN : Hid (∀ y ∈ [x, v], 0 ≤ y) := Lib.hid (by simp; exact ⟨hx0, hv0⟩)
  have HN1 : Hid (∀ y ∈ [v], 0 ≤ y) := Lib.hid (by simpa using hv0)
  clear _wx _wv hv0 hx0
  go_enter Try.func6, Try.ntmps6
  go_wp2_with fail
  refine H0.out.mono ?_
  rintro e w1 ⟨p, d, c, rfl, hF, hM, hp, hd⟩
  have HF1 : Hid (Frm [] w w1) := Lib.hid (((Frm.refl _ _).alloc _).trans hF)
  have HM1 := Lib.hid hM
  have HR := Lib.hid (read_yes 0 1 1 1 w1 (by decide) (by decide))
  clear hF hM hp hd H0
  go_wp2_with fail
  refine HR.out.mono ?_
  rintro e w2 ⟨q, b, rfl, hF, hP, hq, hb⟩
  have HF2 : Hid (Frm [] w w2) := Lib.hid (HF1.out.trans hF)
  have HM2 := Lib.hid (HM1.out.frm hF (by simp) (by simp))
  have HP2 := Lib.hid hP
  have HW := Lib.hid (write_yes (li_u64 (w := w2.alloc (.cells #[.int .u64 v] 22)) (n := 1) (l := [v]) rfl (heap_alloc_new _ _)) 0 1 (by decide))
  clear hF hP hq hb HR HF1 HM1
  go_wp2_with fail
  refine HW.out.mono ?_
  rintro e w3 ⟨q2, b2, rfl, hF, hP, hq, hb⟩
  have hFa : Frm [] w2 w3 := ((Frm.refl _ _).alloc _).trans hF
  have HF3 : Hid (Frm [] w w3) := Lib.hid (HF2.out.trans hFa)
  have HP3 := Lib.hid (HP2.out.frm0 hFa)
  have HPW := Lib.hid hP
  have HS := Lib.hid (Step_nilmem true HP3.out (by decide))
  clear hF hP hq hb HW HF2 HM2 HP2 hFa
  go_wp2_with fail
  refine HS.out.mono ?_
  rintro e w4 ⟨rfl, hF⟩
  have HF4 : Hid (Frm [] w w4) := Lib.hid (HF3.out.trans hF)
  have HP4 := Lib.hid (HP3.out.frm0 hF)
  have HPW4 := Lib.hid (HPW.out.frm0 hF)
  have HS4 := Lib.hid (Step_nilmem false HPW4.out (show (1 : Int) ≠ 0 by decide))
  clear hF HS HF3 HP3 HPW
  go_wp2_with fail
  refine HS4.out.mono ?_
  rintro e w5 ⟨rfl, hF⟩
  have HF5 : Hid (Frm [] w w5) := Lib.hid (HF4.out.trans hF)
  have HD := Lib.hid (Done_pg true (HP4.out.frm0 hF) (by decide))
  have HD2 := Lib.hid (Done_pg false (HPW4.out.frm0 hF) (show (1 : Int) ≠ 0 by decide))
  clear hF HS4 HF4 HP4 HPW4
  go_wp2_with fail
  refine HD.out.mono ?_
  rintro e w' ⟨rfl, rfl⟩
  go_wp2_with fail
  refine HD2.out.mono ?_
  rintro e w' ⟨rfl, rfl⟩
  clear HD HD2
  go_wp2_with fail
  obtain ⟨X, hX⟩ : ∃ X, X = ((w5.alloc (.cells (zcells true) (Tp true))).alloc (.cells (zcells false) (Tp false))).alloc (.cells #[.iface (Ip true) (.pointer none), .iface (Ip true) (.pointer (some ⟨w5.heap.size, 0, none⟩)), .iface (Ip false) (.pointer none), .iface (Ip false) (.pointer (some ⟨w5.heap.size + 1, 0, none⟩))] 46) := ⟨_, rfl⟩
  have hFX : Frm [] w X := by rw [hX]; exact ((HF5.out.alloc _).alloc _).alloc _
  have hb1 : Z true X w5.heap.size := by unfold Z; rw [hX]; exact heap_alloc_old _ (heap_alloc_old _ (heap_alloc_new _ _))
  have hb2 : Z false X (w5.heap.size + 1) := by unfold Z; rw [hX]; exact heap_alloc_old _ (heap_alloc_at _ (by simp))
  have hb3 : X.heap[w5.heap.size + 2]? = some (.cells #[.iface (Ip true) (.pointer none), .iface (Ip true) (.pointer (some ⟨w5.heap.size, 0, none⟩)), .iface (Ip false) (.pointer none), .iface (Ip false) (.pointer (some ⟨w5.heap.size + 1, 0, none⟩))] 46 (0, 0)) := by rw [hX]; exact heap_alloc_at _ (by simp)
  have hfour : Four X (w5.heap.size + 2) := by
    intro k hk
    have hk4 : k = 0 ∨ k = 1 ∨ k = 2 ∨ k = 3 := by omega
    rcases hk4 with rfl | rfl | rfl | rfl
    · exact ⟨true, .pointer none, by rw [cell_of_heap hb3]; rfl, .inl rfl⟩
    · exact ⟨true, _, by rw [cell_of_heap hb3]; rfl, .inr ⟨_, rfl, hb1⟩⟩
    · exact ⟨false, .pointer none, by rw [cell_of_heap hb3]; rfl, .inl rfl⟩
    · exact ⟨false, _, by rw [cell_of_heap hb3]; rfl, .inr ⟨_, rfl, hb2⟩⟩
  have hgl := lt_of_heap hb3
  have HFX := Lib.hid hFX
  have HX := Lib.hid hX
  have H4 := Lib.hid hfour
  clear hX hFX hb1 hb2 hb3 hfour HF5
  conv => arg 5; change (((w5.alloc (.cells (zcells true) (Tp true))).alloc (.cells (zcells false) (Tp false))).alloc (.cells #[.iface (Ip true) (.pointer none), .iface (Ip true) (.pointer (some ⟨w5.heap.size, 0, none⟩)), .iface (Ip false) (.pointer none), .iface (Ip false) (.pointer (some ⟨w5.heap.size + 1, 0, none⟩))] 46))
  rw [← HX.out]
  generalize hg : w5.heap.size + 2 = g at *
  clear HX hg
  go_loopw [72] (fun i wr => ∃ k : Nat, k ≤ 4 ∧ i = .int .i64 k ∧ Hid (Frm [] X wr)) (fun i _ => 4 - (intOf i).toNat)
  case atStart => exact ⟨0, by omega, rfl, Lib.hid (Frm.refl _ _)⟩
  case round =>
    obtain ⟨k, hk, rfl, HFR⟩ := hrel
    by_cases hlt : k < 4
    · obtain ⟨R, pv, hc, hz⟩ := (H4.out.frm0 hgl HFR.out) k hlt
      have ms := mz_Step R hz.pv
      have md := mz_Done R hz.pv
      have mr := mz_Result R hz.pv
      have mc := mz_Copy R hz.pv
      have cs := c_Step R
      have cd := c_Done R
      have cr := c_Result R
      have cc := c_Copy R
      have hlt2 : (k : Int) < 4 := by omega
      have HZ := Lib.hid hz
      clear hz
      go_wp2_with fail
      refine (Step_z HZ.out _).mono ?_
      rintro e w6 ⟨rfl, hF6⟩
      have HF6 := Lib.hid (HFR.out.trans hF6)
      have HZ6 := Lib.hid (HZ.out.frm0 hF6)
      clear hF6 HZ
      go_wp2_with fail
      refine (Done_z HZ6.out).mono ?_
      rintro e w' ⟨rfl, rfl⟩
      go_wp2_with fail
      refine (Result_z HZ6.out).mono ?_
      rintro e w' ⟨rfl, rfl⟩
      go_wp2_with fail
      refine (Copy_z HZ6.out).mono ?_
      rintro e w' ⟨rfl, rfl⟩
      go_wp2
      go_roundw
      case rel => exact ⟨k + 1, by omega, by go_num, HF6⟩
      case measure => simp [intOf]; omega
    · obtain rfl : k = 4 := by omega
      have hlt2 : decide (((4 : Nat) : Int) < 4) = false := by decide
      go_wp2_with fail
      refine (Words_n _).mono ?_
      rintro e w' ⟨rfl, rfl⟩
      go_wp2_with fail
      refine (Version_n _).mono ?_
      rintro e w' ⟨rfl, rfl⟩
      go_wp2_with fail
      refine (known_true _).mono ?_
      rintro e w9 ⟨rfl, hF9⟩
      go_wp2
      go_ret
      exact ⟨rfl, bel ((HFX.out.trans HFR.out).trans hF9)⟩
#print axioms walk_VersionNil
end Go.Proofs.Ytbhnijkphkkalaa
