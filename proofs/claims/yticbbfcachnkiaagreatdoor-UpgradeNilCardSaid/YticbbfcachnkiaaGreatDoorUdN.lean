/- UpgradeNil (by gen_udn.py). -/
import Derived.Test.YticbbfcachnkiaaGreatDoorUdM
namespace Go.Proofs.YticbbfcachnkiaaGreatDoor
open Go.ChangeShapes Go.WideShapes Go.ChangeAt Go.RowKit
set_option linter.unusedVariables false
set_option linter.unusedSimpArgs false
noncomputable def unT (k : Nat) : Code := dropS k (Tryz.f5.body.getD .skip)
/-- What is known behind the first statements. -/
structure Kz (w W : World) (B np p d g : Nat) : Prop where
  sc : Sc 1 W B np p d 13 (List.replicate 13 0)
  at_ : W.heap[g]? = some (.cells #[.pointer (some ⟨p, 0, none⟩), .pointer (some ⟨np, 0, none⟩), .int .i64 10] 27 (0, 0))
  frm : Frm [] w W
theorem Kz.lt {w W : World} {B np p d g : Nat} (h : Kz w W B np p d g) : g < W.heap.size := lt_of_heap h.at_
theorem Kz.frm0 {w W W' : World} {B np p d g : Nat} (h : Kz w W B np p d g) (hf : Frm [] W W') : Kz w W' B np p d g := ⟨h.sc.frm0 hf, hf.heap h.at_ (by simp), h.frm.trans hf⟩
section
variable {w Y : World} {B np p d g : Nat}
end
set_option maxRecDepth 1000000 in
set_option maxHeartbeats 4000000 in
theorem walk_UpgradeNil (at_ : Int) (wat : (Lit.int .i64 at_).wf = true) (t : Int) (wt : (Lit.int .i64 t).wf = true) (md : Int) (wmd : (Lit.int .i64 md).wf = true) (W : World) (hW : Laid W) :
    Calls Tryz.prog 5 #[.int .i64 at_, .int .i64 t, .int .i64 md] W (Ret (.bool true) (fun w' => Below W.heap.size W w')) := by
  have hb : ∀ e w', Ret (.bool true) (fun w' => Frm [] W w') e w' → Ret (.bool true) (fun w' => Below W.heap.size W w') e w' := fun e w' h => ⟨h.1, h.2.below (Nat.le_refl _) (by simp)⟩
  refine Calls.mono ?_ hb
  have H := Lib.hid (made_1 hW)
  clear hW hb
  go_enter Tryz.func5, Tryz.ntmps5
  refine wp_seq_k ?_
  intro Ka hKa
  have HKa := Lib.hid hKa
  clear hKa
  go_wp2_with fail
  refine HKa.out _ _ ?_
  clear HKa Ka
  refine wp_seq_k ?_
  intro Ka hKa
  have HKa := Lib.hid hKa
  clear hKa
  go_wp2_with fail
  refine HKa.out _ _ ?_
  clear HKa Ka
  refine wp_seq_k ?_
  intro Ka hKa
  have HKa := Lib.hid hKa
  clear hKa
  go_wp2_with fail
  refine H.out.mono ?_
  rintro e w1 ⟨np, p, d, rfl, hF, hSc, hd⟩
  have hf1 : Frm [] w1 (w1.alloc (.cells #[.pointer (some ⟨p, 0, none⟩), .pointer (some ⟨np, 0, none⟩), .int .i64 10] 27)) := (Frm.refl _ _).alloc _
  have HK : Hid (Kz W (w1.alloc (.cells #[.pointer (some ⟨p, 0, none⟩), .pointer (some ⟨np, 0, none⟩), .int .i64 10] 27)) w1.heap.size np p d w1.heap.size) := Lib.hid ⟨hSc.frm0 hf1, heap_alloc_new _ _, hF.trans hf1⟩
  obtain ⟨c0, c1, c2⟩ := cells3 HK.out.at_
  have hgl := HK.out.lt
  clear hF hSc hd hf1 H
  go_wp2_with fail
  refine HKa.out _ _ ?_
  clear HKa Ka
  generalize hg9 : w1.heap.size = g at HK c0 c1 c2 hgl ⊢
  generalize (w1.alloc (.cells #[.pointer (some ⟨p, 0, none⟩), .pointer (some ⟨np, 0, none⟩), .int .i64 10] 27)) = Y at HK c0 c1 c2 hgl ⊢
  clear hg9
  go_wp2_with fail
  refine (move_any (B := g) HK.out.sc.nd 10 HK.out.sc.hi.2.2.2 (wd := 0) (by decide) (by decide) 0 (by decide) 1 1 (by decide) (by decide)).mono ?_
  rintro e w2 ⟨P1, rfl, hF, hP1, hm1, hg1, hf1⟩
  have HK2 := Lib.hid (HK.out.frm0 hF)
  have HP1 : Hid (∀ w', Frm [] w2 w' → PartAt w' g 1 0 P1) := Lib.hid fun w' hf => hP1.frm0 hf
  have HM1 : Hid (P1.m.wk = []) := Lib.hid (by rw [hm1]; rfl)
  have HB : Hid (∀ w', Frm [] w2 w' → g ≤ w'.heap.size) := Lib.hid fun w' hf => by have := hf.size; have := HK2.out.sc.hi; omega
  clear hF hP1 hm1 hg1 hf1 c0 c1 c2 hgl
  go_wp2_with fail
  refine (raise_nil (v := .pointer none) (.inl rfl) at_ t).mono ?_
  rintro e w3 ⟨rfl, hF3⟩
  have HF3 := Lib.hid hF3
  clear hF3
  go_wp2_with fail
  refine (lower_nil (v := .pointer none) (.inl rfl) at_ t md).mono ?_
  rintro e w4 ⟨rfl, hF4⟩
  have HF4 := Lib.hid (HF3.out.trans hF4)
  clear hF4
  go_wp2_with fail
  refine (decide_nil0 (v := .pointer none) (.inl rfl) at_ t (HP1.out _ HF4.out) (HP1.out _ HF4.out) HM1.out HM1.out (HB.out _ HF4.out)).mono ?_
  rintro e w5 ⟨rfl, hF5⟩
  have HF5 := Lib.hid (HF4.out.trans hF5)
  have HK5 := Lib.hid (HK2.out.frm0 HF5.out)
  obtain ⟨c0, c1, c2⟩ := cells3 HK5.out.at_
  have hgl := HK5.out.lt
  clear hF5
  go_wp2_with fail
  refine (decide_nil2 (v := .pointer (some ⟨np, 0, none⟩)) at_ t (HP1.out _ HF5.out) HM1.out (HB.out _ HF5.out)).mono ?_
  rintro e w6 ⟨rfl, hF6⟩
  have HF6 := Lib.hid (HF5.out.trans hF6)
  have HK6 := Lib.hid (HK2.out.frm0 HF6.out)
  clear hF6 c0 c1 c2 hgl
  obtain ⟨c0, c1, c2⟩ := cells3 HK6.out.at_
  have hgl := HK6.out.lt
  go_wp2_with fail
  refine (decide_nil1 (v := .pointer (some ⟨np, 0, none⟩)) at_ t (HP1.out _ HF6.out) HM1.out (HB.out _ HF6.out) (.inr rfl)).mono ?_
  rintro e w7 ⟨rfl, hF7⟩
  have HF7 := Lib.hid (HF6.out.trans hF7)
  have HK7 := Lib.hid (HK2.out.frm0 HF7.out)
  clear hF7 c0 c1 c2 hgl
  obtain ⟨c0, c1, c2⟩ := cells3 HK7.out.at_
  have hgl := HK7.out.lt
  go_wp2_with fail
  refine (ldecide (B := g) HK7.out.sc.nd 10 0 (by decide) (HP1.out _ HF7.out) (HP1.out _ HF7.out) HM1.out HM1.out (HB.out _ HF7.out)).mono ?_
  rintro e w8 ⟨D, P, rfl, hF8, hD, -, -⟩
  have HK8 := Lib.hid (HK7.out.frm0 hF8)
  have HD : Hid (DObj w8 D (P 0).q (P 1).q (P 2).q (P 3).q (P 4).q 0 0) := Lib.hid hD.obj
  clear hF8 hD c0 c1 c2 hgl
  go_wp2_with fail
  refine (StepD_nilmem HD.out).mono ?_
  rintro e w9 ⟨rfl, hF⟩
  have HK9 := Lib.hid (HK8.out.frm0 hF)
  have HD1 := Lib.hid (HD.out.frm0 hF)
  clear hF
  go_wp2_with fail
  refine (Done_d HD1.out).mono ?_
  rintro e w10 ⟨rfl, rfl⟩
  rw [show ((0 : Nat) == 5) = false from rfl]
  go_wp2_with fail
  obtain ⟨V, hV⟩ : ∃ V, V = (w9.alloc (.cells #[.nilIface, .nilIface, .nilIface, .nilIface, .nilIface, .int .i64 0, .int .u64 0] 85)).alloc (.cells #[.pointer none, .pointer (some ⟨w9.heap.size, 0, none⟩)] 57) := ⟨_, rfl⟩
  have hFV : Frm [] w9 V := by rw [hV]; exact ((Frm.refl _ _).alloc _).alloc _
  have HZ : Hid (V.heap[w9.heap.size]? = some (.cells #[.nilIface, .nilIface, .nilIface, .nilIface, .nilIface, .int .i64 0, .int .u64 0] 85 (0, 0))) := Lib.hid (by rw [hV]; exact heap_alloc_old _ (heap_alloc_new _ _))
  have HPz : Hid (V.heap[w9.heap.size + 1]? = some (.cells #[.pointer none, .pointer (some ⟨w9.heap.size, 0, none⟩)] 57 (0, 0))) := Lib.hid (by rw [hV]; exact heap_alloc_at _ (by simp))
  have HKv := Lib.hid (HK9.out.frm0 hFV)
  clear hFV
  rw [← hV]
  clear hV
  go_loopw [144] (fun i wr => (i = .int .i64 0 ∨ i = .int .i64 1 ∨ i = .int .i64 2) ∧ Frm [] V wr) (fun i _ => 2 - (intOf i).toNat)
  case atStart => exact ⟨.inl rfl, Frm.refl _ _⟩
  case round =>
    obtain ⟨hi, hF⟩ := hrel
    have HFz2 := Lib.hid hF
    have hp := hF.heap HPz.out (by simp)
    obtain ⟨g0, g1⟩ := cells2L hp
    have hgl := lt_of_heap hp
    have HN0 := Lib.hid (show NilD wr (.pointer none) from .inl rfl)
    have HN1 := Lib.hid (show NilD wr (.pointer (some ⟨w9.heap.size, 0, none⟩)) from .inr ⟨w9.heap.size, rfl, hF.heap HZ.out (by simp)⟩)
    have HKz3 := Lib.hid (HKv.out.frm0 hF)
    obtain ⟨x0, x1, x2⟩ := cells3 HKz3.out.at_
    have hxl := HKz3.out.lt
    clear hF hp
    rcases hi with rfl | rfl | rfl
    · go_wp2_with fail
      refine (Step_nild HN0.out _).mono ?_
      rintro e wE ⟨rfl, hFe⟩
      have HNe := Lib.hid (HN0.out.frm hFe)
      have HFe := Lib.hid (HFz2.out.trans hFe)
      clear hFe g0 g1 hgl
      go_wp2_with fail
      refine (Done_nild HNe.out).mono ?_
      rintro e wf ⟨rfl, rfl⟩
      go_wp2_with fail
      refine (Result_nild HNe.out).mono ?_
      rintro e wf ⟨rfl, rfl⟩
      go_wp2_with fail
      refine (Copy_nild HNe.out).mono ?_
      rintro e wf ⟨rfl, rfl⟩
      go_wp2
      go_roundw
      case rel => exact ⟨by simp, HFe.out⟩
      case measure => simp [intOf]
    · go_wp2_with fail
      refine (Step_nild HN1.out _).mono ?_
      rintro e wE ⟨rfl, hFe⟩
      have HNe := Lib.hid (HN1.out.frm hFe)
      have HFe := Lib.hid (HFz2.out.trans hFe)
      clear hFe g0 g1 hgl
      go_wp2_with fail
      refine (Done_nild HNe.out).mono ?_
      rintro e wf ⟨rfl, rfl⟩
      go_wp2_with fail
      refine (Result_nild HNe.out).mono ?_
      rintro e wf ⟨rfl, rfl⟩
      go_wp2_with fail
      refine (Copy_nild HNe.out).mono ?_
      rintro e wf ⟨rfl, rfl⟩
      go_wp2
      go_roundw
      case rel => exact ⟨by simp, HFe.out⟩
      case measure => simp [intOf]
    · clear g0 g1 hgl
      go_wp2_with fail
      refine (known_true HKz3.out.sc.laid).mono ?_
      rintro e wz ⟨rfl, hFz⟩
      have HFz := Lib.hid (HKz3.out.frm.trans hFz)
      clear hFz
      go_wp2
      go_ret
      exact ⟨rfl, HFz.out⟩
#print axioms walk_UpgradeNil
end Go.Proofs.YticbbfcachnkiaaGreatDoor
