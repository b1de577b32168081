/- Stage 12: Copy of a machine: the walk. -/
import Derived.Test.YtieccmmnfnpcoaaTic
namespace Go.Proofs.Ytieccmmnfnpcoaa
open Go.ChangeShapes Go.WideShapes Go.ChangeAt Go.RowKit
set_option linter.unusedVariables false
section
variable {w : World} {X : Mb} {F : List Nat} {ts : List Ti}
set_option maxRecDepth 100000 in
set_option maxHeartbeats 4000000 in
theorem mcopy_at (h : MachAt w F X ts) : Calls Try.prog 41 #[.pointer (some ⟨X.q, 0, none⟩)] w
    (fun e w' => ∃ q' F', Ret (.pointer (some ⟨q', 0, none⟩)) (fun w' => Frm [] w w' ∧ MAt w' F' q' (md X ts) ∧ ∀ z ∈ F', w.heap.size ≤ z) e w') := by
  have h0 : ∀ w', Frm [] w w' → w'.cell? ⟨X.q, 0, none⟩ = some (.pointer (some ⟨X.p, 0, none⟩)) := fun w' hf => (h.b.frm0 hf).c0
  have h1 : ∀ w', Frm [] w w' → w'.cell? ⟨X.q, 1, none⟩ = some (.slice X.ta X.tv.length X.tc) := fun w' hf => (h.b.frm0 hf).c1
  have HN := Lib.hid (mnone_at h.b)
  have HS1 : Hid (∀ w', Frm [] w w' → Calls Try.prog 12 #[.pointer (some ⟨X.p, 0, none⟩)] w' (fun e w'' => ∃ p' d' c', Ret (.pointer (some ⟨p', 0, none⟩)) (fun w'' => Frm [] w' w'' ∧ MemAt w'' p' d' c' X.ws ∧ w'.heap.size ≤ p' ∧ w'.heap.size ≤ d') e w'')) := Lib.hid fun w' hf => copy_ok (h.b.frm0 hf).mem
  have HS2 : Hid (∀ w', Frm [] w w' → Calls Try.prog 76 #[.slice X.ta X.tv.length X.tc] w' (fun e w'' => ∃ a c, Ret (.slice a X.tv.length c) (fun w'' => Frm [] w' w'' ∧ Gr 121 3 0 w'' a X.tv.length c (tvF X.tv) ∧ ∀ x ∈ bkG a, w'.heap.size ≤ x) e w'')) := Lib.hid fun w' hf => clone_ths (h.b.frm0 hf)
  have H0 := Lib.hid h0
  have H1 := Lib.hid h1
  have hql := h.b.lt
  have H := Lib.hid h
  clear h
  go_enter Try.func41, Try.ntmps41
  go_wp2_with fail
  refine HN.out.mono ?_
  rintro e w' ⟨rfl, rfl⟩
  go_wp2_with fail
  go_region_held3 (fun w' => Frm [] w w') (repeat' (first | assumption | exact Frm.refl _ _ | apply Frm.drew | apply Frm.drewN | apply Frm.alloc)) (first
    | (go_at_call 12; (with_reducible refine (HS1.out _ (by assumption)).mono ?_); rintro e wm ⟨p', d', c', rfl, hFm, hMm, hpm, hdm⟩; have gm : Frm [] w wm := Frm.trans (by (repeat' (first | assumption | exact Frm.refl _ _ | apply Frm.drew | apply Frm.drewN))) hFm)
    | (go_at_call 76; (with_reducible refine (HS2.out _ (by assumption)).mono ?_); rintro e wc ⟨a', c2, rfl, hFc, hGc, hbc⟩; have gc : Frm [] w wc := Frm.trans (by (repeat' (first | assumption | exact Frm.refl _ _ | apply Frm.drew | apply Frm.drewN))) hFc))
  obtain ⟨Y0, hY0⟩ : ∃ Y0 : Mb, Y0 = ⟨wc.heap.size, p', d', c', a', c2, X.ws, X.tv⟩ := ⟨_, rfl⟩
  have hMc := hMm.frm hFc (by simp) (by simp)
  have hs1 := gm.size
  have hs2 := hFc.size
  have hsd : w.heap.size ≤ p' ∧ w.heap.size ≤ d' := by
    have : w.drew.heap.size = w.heap.size := rfl
    omega
  have hFX : Frm [] w (wc.alloc (.cells #[.pointer (some ⟨p', 0, none⟩), .slice a' X.tv.length c2] 93)) := gc.alloc _
  have hCp : Cpy w (wc.alloc (.cells #[.pointer (some ⟨p', 0, none⟩), .slice a' X.tv.length c2] 93)) Y0 X ts 0 := by
    rw [hY0]
    refine ⟨hFX, ⟨heap_alloc_new _ _, hMc.alloc _, hGc.frm0 ((Frm.refl _ _).alloc _), H.out.b.le⟩, rfl, by dsimp only; omega, hsd.1, hsd.2, fun x hx => by have := hbc x hx; omega, H.out.len, fun i x hx _ => H.out.thr hx, fun _ => 0, fun _ => [], fun i x hx hi => by omega, fun i j x y hx hy hi => by omega⟩
  generalize wc.alloc (.cells #[.pointer (some ⟨p', 0, none⟩), .slice a' X.tv.length c2] 93) = W0 at hFX hCp ⊢
  have hYq : Y0.q = wc.heap.size := by rw [hY0]
  generalize wc.heap.size = qn at hYq ⊢
  subst hYq
  have hYl : Y0.tv.length = X.tv.length := by rw [hY0]
  have hYa : Y0.ta = a' := by rw [hY0]
  have hYc : Y0.tc = c2 := by rw [hY0]
  have h1w := (H.out.b.frm0 hFX).c1
  have HCp := Lib.hid hCp
  have HYl := Lib.hid hYl
  have HFX := Lib.hid hFX
  clear hMc hCp hY0 hs1 hs2 hsd hFX hYl hYa hYc hMm hGc hbc hFm hFc gm gc h0 h1 HS1 HS2 HN hpm hdm
  obtain ⟨n, hn⟩ : ∃ n, X.tv.length = n := ⟨_, rfl⟩
  have hnl := H.out.len
  rw [hn] at h1w hnl
  have HNL := Lib.hid hnl
  have HNN := Lib.hid hn
  have hnle : n ≤ 64 := by have := H.out.b.le; omega
  rw [hn]
  clear hn hnl
  go_wp2_with fail
  go_loopw [26] (fun i wr => ∃ k : Nat, k ≤ n ∧ i = .int .i64 k ∧ ∃ Y, Y.q = Y0.q ∧ Cpy w wr Y X ts k) (fun i _ => n - (intOf i).toNat)
  case atStart => exact ⟨0, Nat.zero_le _, rfl, Y0, rfl, HCp.out⟩
  case round =>
    obtain ⟨k, hk, rfl, Y, hYq, hC⟩ := hrel
    by_cases hlt : k < n
    · obtain ⟨x, hx⟩ : ∃ x, ts[k]? = some x := ⟨_, List.getElem?_eq_getElem (by have := HNL.out; omega)⟩
      have hbw := H.out.b.frm0 hC.frm
      obtain ⟨gx, hgx, hgl, hgz, k0, k1, k2⟩ := hbw.thr (H.out.thr hx)
      obtain ⟨gy, hgy, hgyl, hgyz, j0, j1, j2⟩ := hC.b.thr (hC.rest k x hx (Nat.le_refl _))
      have hYn : Y.tv.length = n := by rw [hC.len]; exact HNL.out.symm
      have hc1 := hC.b.c1
      rw [hYn, hgy, hYq] at hc1
      have hixx := ix_run (b := gx) (n := n) (c := X.tc) hlt
      have hixy := ix_run (b := gy) (n := n) (c := Y.tc) hlt
      obtain ⟨Bf, hb1, hb2⟩ := H.out.pg
      have hpg := (hb1 k x hx).1.frm0 hC.frm
      obtain ⟨hv0, hv1, hv2⟩ : (w.heap.size ≤ w.heap.size) ∧ True ∧ True := ⟨Nat.le_refl _, trivial, trivial⟩
      rw [hgx]
      have HC := Lib.hid hC
      have HX := Lib.hid hx
      have HPG := Lib.hid hpg
      have HGY := Lib.hid hgy
      have HYQ := Lib.hid hYq
      have hqn := hC.b.lt
      clear hC hx hpg hgy hb1 hb2 hbw hgx hYn hYq hv0 hv1 hv2
      unfold Ti.tv at k0 k1 k2 j0 j1 j2
      dsimp only at k0 k1 k2 j0 j1 j2
      have hFa : Frm [] wr (wr.alloc (.cells #[.iface (tPg x.ch) (.pointer (some ⟨x.q, 0, none⟩)), .int .i64 x.t.st, .int .i64 x.t.lk] 121)) := (Frm.refl _ _).alloc _
      have HA := Lib.hid (cO_pg (HPG.out.frm0 hFa))
      have HFA := Lib.hid hFa
      clear hFa
      go_wp2_with fail
      refine HA.out.mono ?_
      rintro e w2 ⟨q', rfl, hF2, B', hB1, hB2⟩
      have hF02 := HFA.out.trans hF2
      have hb2 := HC.out.b.frm0 hF02
      have hN := HC.out.next HX.out hF02 hB1 (fun z hz => by have := hB2 z hz; have := HFA.out.size; omega) HGY.out
      obtain ⟨gy', hgy', hgyl2, hgyz2, j0', j1', j2'⟩ := hb2.thr (HC.out.rest k x HX.out (Nat.le_refl _))
      obtain rfl : gy' = gy := by have := hgy'.symm.trans HGY.out; simpa using this
      have hc1' := hb2.c1
      have hYn : Y.tv.length = n := by rw [HC.out.len]; exact HNL.out.symm
      rw [hYn, HGY.out, HYQ.out] at hc1'
      have hfs : Frm [] w (w2.setCell ⟨gy', k * 3, none⟩ (.iface (tPg x.ch) (.pointer (some ⟨q', 0, none⟩)))) := hN.frm
      have HN2 := Lib.hid hN
      unfold Ti.tv at j0'
      dsimp only at j0'
      clear hF2 hB1 hB2 hF02 hb2 hN hgy' hYn hfs j1' j2' k0 k1 k2 j0 j1 j2 hc1 hgz hgyz HA HPG
      go_wp2
      go_roundw
      case rel => exact ⟨k + 1, by omega, by go_num, { Y with tv := Y.tv.set k ⟨tPg x.ch, q', x.t.st, x.t.lk⟩ }, HYQ.out, HN2.out⟩
      case measure => simp [intOf]; omega
    · have hkn : k = ts.length := by have := HNL.out; omega
      subst hkn
      have HA := Lib.hid (hC.all H.out)
      have HF := Lib.hid hC.frm
      have HYQ := Lib.hid hYq
      clear hC hYq
      go_wp2
      go_ret
      obtain ⟨F', hm, hF'⟩ := HA.out
      rw [HYQ.out] at hm
      exact ⟨_, F', rfl, HF.out, hm, hF'⟩
theorem mat_Copy {q : Nat} {M : Md} (h : MAt w F q M) : Calls Try.prog 41 #[.pointer (some ⟨q, 0, none⟩)] w
    (fun e w' => ∃ q' F', Ret (.pointer (some ⟨q', 0, none⟩)) (fun w' => Frm [] w w' ∧ MAt w' F' q' M ∧ ∀ z ∈ F', w.heap.size ≤ z) e w') := by
  obtain ⟨X, ts, rfl, h2, rfl⟩ := h
  exact mcopy_at h2
end
#print axioms mat_Copy
end Go.Proofs.Ytieccmmnfnpcoaa
