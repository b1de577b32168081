/- McsAny: the ways of a round: the loop, the walk (by gen_mcaz.py). -/
import Derived.Test.YtoieedlkffmcgaaMcAn
namespace Go.Proofs.Ytoieedlkffmcgaa
open Go.ChangeShapes Go.WideShapes Go.ChangeAt Go.RowKit
set_option linter.unusedVariables false
set_option linter.unusedSimpArgs false

set_option maxRecDepth 100000 in
set_option maxHeartbeats 1000000 in
theorem any_loop {g0 oo0 n0 cap0 b t n3 c3 : Nat} {a3 : Option Addr} {xs : List Int} {acts : List ActV} {w : World}
    (hr : Rd w (.slice (some ⟨g0, oo0, none⟩) n0 cap0) (u64s xs)) (hxl : xs.length = n0) (hpos : ∀ x ∈ xs, 0 ≤ x) (n1 : 1 ≤ n0) (n60 : n0 ≤ 60) (b60 : b ≤ 60) (t1 : 1 ≤ t) (t6 : t ≤ 6) (hA : IsActs w a3 n3 acts) (n3l : n3 ≤ 60) :
    Calls Try.prog 4 #[.slice (some ⟨g0, oo0, none⟩) n0 cap0, .int .u8 b, .int .u8 t, .slice a3 n3 c3] w (Ret (.bool true) (fun w' => Frm [] w w')) := by
  have d1 : decide ((n0 : Int) < 1) = false := by simp; omega
  have d1' : decide (n0 < 1) = false := by simp; omega
  have d2 : decide ((60 : Int) < (n0 : Int)) = false := by simp; omega
  have d2' : decide (60 < n0) = false := by simp; omega
  have d3 : decide ((60 : Int) < (b : Int)) = false := by simp; omega
  have d3' : decide (60 < b) = false := by simp; omega
  have d4 : decide ((t : Int) < 1) = false := by simp; omega
  have d4' : decide (t < 1) = false := by simp; omega
  have d5 : decide ((6 : Int) < (t : Int)) = false := by simp; omega
  have d5' : decide (6 < t) = false := by simp; omega
  have d6 : decide ((60 : Int) < (n3 : Int)) = false := by simp; omega
  have d6' : decide (60 < n3) = false := by simp; omega
  have HR := Lib.hid hr
  have HXL := Lib.hid hxl
  have HPOS := Lib.hid hpos
  have HACT := Lib.hid hA
  have hg0 : g0 < w.heap.size := hr.cells.1
  clear hr hxl hpos hA
  go_enter Try.func4, Try.ntmps4
  go_wp2_with fail
  refine (nodes_new _ b t t1 (by omega) (by omega)).mono ?_
  rintro e w1 ⟨rfl, hF1, hN1⟩
  have HN := Lib.hid hN1
  have HF := Lib.hid hF1
  have HR1 := Lib.hid (HR.out.frm hF1 (by simp))
  have hz1 := HN.out.lt
  clear hN1 hF1
  go_wp2_with fail
  refine (made_any HR1.out (by rw [HXL.out]; exact n1) (by rw [HXL.out]; omega)).mono ?_
  rintro e w2 ⟨p, d, c, rfl, hF, hM, hp, hd⟩
  have HM := Lib.hid hM
  have HN2 := Lib.hid (HN.out.frm hF)
  have HF2 := Lib.hid (HF.out.trans hF)
  have HR2 := Lib.hid (HR1.out.frm hF (by simp))
  have hz2 := hF.size
  clear hF hM
  go_wp2_with fail
  obtain ⟨bn, hbn⟩ : ∃ bn, bn = w2.heap.size := ⟨_, rfl⟩
  obtain ⟨W9, hW9⟩ : ∃ W, W = w2.alloc (.cells #[.int .i64 b, .int .i64 t] 32) := ⟨_, rfl⟩
  have hF9 : Frm [] w2 W9 := by rw [hW9]; exact (Frm.refl _ _).alloc _
  have hnn : W9.heap[bn]? = some (.cells #[.int .i64 b, .int .i64 t] 32 (0, 0)) := by rw [hW9, hbn]; exact heap_alloc_new _ _
  have hR0 : Rq w b t w.heap.size p d c bn g0 oo0 cap0 n0 none 0 none 0 0 W9 :=
    ⟨xs, fun _ => ⟨0, 0, false, 0, 0, false, 0⟩, HF2.out.trans hF9,
      ⟨HN2.out.frm hF9, HM.out.frm hF9 (by simp) (by simp), HPOS.out, HXL.out, hnn, HR2.out.frm hF9 (by simp), Gr.nil _ _ _ _ _, Gr.nil _ _ _ _ _, fun i hi => by omega, by omega,
        ⟨by omega, by simp [bkG], by simp [bkG], fun i hi => by omega⟩, ⟨by omega, by simp [bkG], by simp [bkG], fun i hi => by omega⟩, fun i hi => by omega, fun i j hi => by omega⟩⟩
  have HR0 := Lib.hid hR0
  rw [← hW9, ← hbn]
  clear hR0 hnn hF9 hW9 hbn HM HN2 HF2 HR2 HN HF HR1 HR HXL HPOS
  go_loopw [0, 13, 14, 16, 17, 18, 19, 20, 21, 22, 23, 24, 25, 26, 80, 81, 82, 83, 84, 85, 86, 87, 88, 89, 90, 91, 92, 93, 94, 95, 96, 97, 98, 99, 100, 101, 102, 103, 104, 105, 106, 107, 108, 109, 110, 111, 112, 113, 114, 115, 116, 117, 118, 119, 120, 121, 122, 123, 124, 125, 126, 127, 128, 129, 130, 131, 132, 133, 134, 135, 136, 137, 138, 139, 140, 141, 142, 143, 144, 145, 146, 147, 148, 149, 150, 151, 152, 153, 154, 155, 156, 157, 158, 159, 160, 161, 162, 163, 164, 165, 166, 167, 168, 169, 170, 171, 172, 173, 174, 175, 176, 177, 178, 179, 180, 181, 182, 183, 184, 185, 186, 187, 188, 189, 190, 191, 192, 193, 194, 195, 196, 197, 198, 199, 200, 201, 202, 203, 204, 205, 206, 207, 208, 209] (fun s0 s13 s14 _ _ _ _ _ _ _ _ _ _ _ sk _ _ _ _ _ _ _ _ _ _ _ _ _ _ _ _ _ _ _ _ _ _ _ _ _ _ _ _ _ _ _ _ _ _ _ _ _ _ _ _ _ _ _ _ _ _ _ _ _ _ _ _ _ _ _ _ _ _ _ _ _ _ _ _ _ _ _ _ _ _ _ _ _ _ _ _ _ _ _ _ _ _ _ _ _ _ _ _ _ _ _ _ _ _ _ _ _ _ _ _ _ _ _ _ _ _ _ _ _ _ _ _ _ _ _ _ _ _ _ _ _ _ _ _ _ _ _ _ _ wr => ∃ (k g oo cg : Nat) (a1 : Option Addr) (c1 : Nat) (a2 : Option Addr) (c2 m : Nat), k ≤ n3 ∧ m ≤ k ∧ sk = .int .i64 k ∧ s0 = .slice (some ⟨g, oo, none⟩) n0 cg ∧ s13 = .slice a1 m c1 ∧ s14 = .slice a2 m c2 ∧ Rq w b t w.heap.size p d c bn g oo cg n0 a1 c1 a2 c2 m wr) (fun _ _ _ _ _ _ _ _ _ _ _ _ _ _ sk _ _ _ _ _ _ _ _ _ _ _ _ _ _ _ _ _ _ _ _ _ _ _ _ _ _ _ _ _ _ _ _ _ _ _ _ _ _ _ _ _ _ _ _ _ _ _ _ _ _ _ _ _ _ _ _ _ _ _ _ _ _ _ _ _ _ _ _ _ _ _ _ _ _ _ _ _ _ _ _ _ _ _ _ _ _ _ _ _ _ _ _ _ _ _ _ _ _ _ _ _ _ _ _ _ _ _ _ _ _ _ _ _ _ _ _ _ _ _ _ _ _ _ _ _ _ _ _ _ _ => n3 - (intOf sk).toNat)
  case atStart => exact ⟨0, _, _, _, _, _, _, _, 0, Nat.zero_le _, Nat.le_refl _, rfl, rfl, rfl, rfl, HR0.out⟩
  case round =>
    clear HR0
    obtain ⟨k, g, oo, cg, a1, c1, a2, c2, m, hk, hmk, rfl, rfl, rfl, rfl, ws, en, hF, hG⟩ := hrel
    have HF := Lib.hid hF
    have HG := Lib.hid hG
    clear hF hG
    by_cases hlt : k < n3
    · obtain ⟨hal, hat⟩ := HACT.out
      obtain ⟨b3, o3, rfl, hb3, hat⟩ := hat (by omega)
      obtain ⟨x, hx⟩ : ∃ x, acts[k]? = some x := ⟨_, List.getElem?_eq_getElem (by omega)⟩
      have hax := (hat k x hx).frm HF.out hb3 (by simp)
      have HAX := Lib.hid hax
      have hkl : (k : Int) < (n3 : Int) := by omega
      clear hal hat hx hax
      go_upto_block 1 with fail
      refine wp_block ?_
      refine any_round _ _ _ _ _ _ _ _ _ _ _ _ _ _ _ _ _ _ _ _ _ _ _ _ _ _ _ _ _ _ _ _ _ _ _ _ _ _ _ _ _ _ _ _ _ _ _ _ _ _ _ _ _ _ _ _ _ _ _ _ _ _ _ _ _ _ _ _ _ _ _ _ _ _ _ _ _ _ _ _ _ _ _ _ _ _ _ _ _ _ _ _ _ _ _ _ _ _ _ _ _ _ _ _ _ _ _ _ _ _ _ _ _ _ _ _ _ _ _ _ _ _ _ _ _ _ _ _ _ _ _ _ _ _ _ _ _ _ _ _ _ _ _ _ _ _ _ _ _ _ _ _ _ _ _ _ _ _ _ _ _ _ _ _ _ _ _ _ _ _ _ _ _ _ _ _ _ _ _ _ _ _ _ _ _ _ _ _ _ _ _ _ _ _ _ _ _ _ _ _ _ _ _ HF.out HG.out (by omega) (by omega) (by omega) hmk hlt n3l HAX.out.1 HAX.out.2.1 HAX.out.2.2 ?_
      intro _ _ _ _ _ _ _ _ _ _ _ _ _ _ _ _ _ _ _ _ _ _ _ _ _ _ _ _ _ _ _ _ _ _ _ _ _ _ _ _ _ _ _ _ _ _ _ _ _ _ _ _ _ _ _ _ _ _ _ _ _ _ _ _ _ _ _ _ _ _ _ _ _ _ _ _ _ _ _ _ _ _ _ _ _ _ _ _ _ _ _ _ _ _ _ _ _ _ _ _ _ _ _ _ _ _ _ _ _ _ _ _ _ _ _ _ _ _ _ _ _ _ _ _ _ _ _ _ _ _ _ _ _ _ _ _ _ _ g' oo' cg' a1' c1' a2' c2' m' w' hm' hR
      have HRR := Lib.hid hR
      clear hR
      refine ⟨?_, ?_⟩
      all_goals
        try simp only [Exit.inBlock, if_true]
        go_wp2
        go_roundw
        case rel => exact ⟨k + 1, g', oo', cg', a1', c1', a2', c2', m', by omega, hm', by go_num, rfl, rfl, rfl, HRR.out⟩
        case measure => simp [intOf]; omega
    · have hkl : ¬ ((k : Int) < (n3 : Int)) := by omega
      clear HG
      go_wp2_with fail
      refine known_true.mono ?_
      rintro e w7 ⟨rfl, g7⟩
      go_wp2
      go_ret
      exact ⟨rfl, HF.out.trans g7⟩
#print axioms any_loop
end Go.Proofs.Ytoieedlkffmcgaa
