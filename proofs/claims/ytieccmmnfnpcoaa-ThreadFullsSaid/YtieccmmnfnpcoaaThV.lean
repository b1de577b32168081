/- Stage 12: Step, Add and Put of a machine. -/
import Derived.Test.YtieccmmnfnpcoaaThU
namespace Go.Proofs.Ytieccmmnfnpcoaa
open Go.ChangeShapes Go.WideShapes Go.ChangeAt Go.RowKit
set_option linter.unusedVariables false
section
variable {w : World} {X : Mb}
def did0 : Value := didV 0 acc0 false false
set_option maxRecDepth 100000 in
theorem mStep_no (h : MbAt w X) (t : Int) (ht : noTh X.tv.length t = true) : Calls Try.prog 20 #[.pointer (some ⟨X.q, 0, none⟩), .int .i64 t] w (Ret (.tuple #[did0, .int .i64 2]) (fun w' => Frm [] w w')) := by
  have hA := h.frm0 ((Frm.refl [] w).alloc (.cells #[.int .i64 0, .int .i64 0, .int .i64 0, .int .u64 0, .int .u64 0, .bool false, .bool false] 64))
  have H := mno_at hA t
  rw [ht] at H
  have HH := Lib.hid H
  have HN := Lib.hid (mnone_at hA)
  clear h ht H hA
  go_enter Try.func20, Try.ntmps20
  go_wp2_with fail
  refine HN.out.mono ?_
  rintro e w' ⟨rfl, rfl⟩
  go_wp2_with fail
  refine HH.out.mono ?_
  rintro e w' ⟨rfl, rfl⟩
  go_wp2
  have hRz := setCells7 (heap_alloc_new w (.cells #[.int .i64 0, .int .i64 0, .int .i64 0, .int .u64 0, .int .u64 0, .bool false, .bool false] 64)) (.int .i64 0) (.int .i64 0) (.int .i64 0) (.int .u64 0) (.int .u64 0) (.bool false) (.bool false)
  have hFz := ((Frm.refl [] w).alloc (.cells #[.int .i64 0, .int .i64 0, .int .i64 0, .int .u64 0, .int .u64 0, .bool false, .bool false] 64)).set7 w.heap.size (.int .i64 0) (.int .i64 0) (.int .i64 0) (.int .u64 0) (.int .u64 0) (.bool false) (.bool false) (.inr (Nat.le_refl _))
  first
  | (generalize (((((((((w.alloc (.cells #[.int .i64 0, .int .i64 0, .int .i64 0, .int .u64 0, .int .u64 0, .bool false, .bool false] 64))).setCell ⟨w.heap.size, 0, none⟩ (.int .i64 0)).setCell ⟨w.heap.size, 1, none⟩ (.int .i64 0)).setCell ⟨w.heap.size, 2, none⟩ (.int .i64 0)).setCell ⟨w.heap.size, 3, none⟩ (.int .u64 0)).setCell ⟨w.heap.size, 4, none⟩ (.int .u64 0)).setCell ⟨w.heap.size, 5, none⟩ (.bool false)).setCell ⟨w.heap.size, 6, none⟩ (.bool false)) = wz at hRz hFz ⊢
     obtain ⟨r0, r1, r2, r3, r4, r5, r6⟩ := cells7 hRz
     exact bodyPost_ret (v := .tuple #[did0, .int .i64 2]) (by simp [results, Try.results20, go_sem, r0, r1, r2, r3, r4, r5, r6, did0, didV, acc0]) rfl ⟨rfl, hFz⟩)
  | exact bodyPost_ret (v := .tuple #[did0, .int .i64 2]) (by simp [results, Try.results20, go_sem, did0, didV, acc0]) rfl ⟨rfl, (Frm.refl _ _).alloc _⟩
theorem mStep_end (h : MbAt w X) {i : Nat} {t : Tv} (ht : X.tv[i]? = some t)
    (HE : ∀ w1, Frm [] w w1 → Calls Try.prog 61 #[.iface t.T (.pointer (some ⟨t.a, 0, none⟩))] w1 (Ret (.bool true) (fun w' => Frm [] w1 w'))) :
    Calls Try.prog 20 #[.pointer (some ⟨X.q, 0, none⟩), .int .i64 (i : Int)] w (Ret (.tuple #[did0, .int .i64 17]) (fun w' => Frm [] w w')) := by
  have hi : i < X.tv.length := (List.getElem?_eq_some_iff.1 ht).1
  have hF0 := (Frm.refl [] w).alloc (.cells #[.int .i64 0, .int .i64 0, .int .i64 0, .int .u64 0, .int .u64 0, .bool false, .bool false] 64)
  have hA := h.frm0 hF0
  have H := mno_at hA i
  rw [noTh_nat hi] at H
  have HH := Lib.hid H
  have HN := Lib.hid (mnone_at hA)
  have HD := Lib.hid (mDone_at hA ht (HE _ hF0))
  clear h ht H hA HE hF0
  go_enter Try.func20, Try.ntmps20
  go_wp2_with fail
  refine HN.out.mono ?_
  rintro e w' ⟨rfl, rfl⟩
  go_wp2_with fail
  refine HH.out.mono ?_
  rintro e w' ⟨rfl, rfl⟩
  go_wp2_with fail
  refine HD.out.mono ?_
  rintro e w1 ⟨rfl, hF1⟩
  have hR1 := hF1.heap (heap_alloc_new w (.cells #[.int .i64 0, .int .i64 0, .int .i64 0, .int .u64 0, .int .u64 0, .bool false, .bool false] 64)) (by simp)
  have hF := ((Frm.refl [] w).alloc (.cells #[.int .i64 0, .int .i64 0, .int .i64 0, .int .u64 0, .int .u64 0, .bool false, .bool false] 64)).trans hF1
  have HF := Lib.hid hF
  have HR := Lib.hid hR1
  obtain ⟨r0, r1, r2, r3, r4, r5, r6⟩ := cells7 hR1
  obtain ⟨f0, f1, f2, f3, f4, f5, f6⟩ := frozen7 hR1
  have hrl := lt_of_heap hR1
  clear hF hF1 hR1
  go_wp2
  have hRz := setCells7 HR.out (.int .i64 0) (.int .i64 0) (.int .i64 0) (.int .u64 0) (.int .u64 0) (.bool false) (.bool false)
  have hFz := HF.out.set7 w.heap.size (.int .i64 0) (.int .i64 0) (.int .i64 0) (.int .u64 0) (.int .u64 0) (.bool false) (.bool false) (.inr (Nat.le_refl _))
  generalize (((((((w1.setCell ⟨w.heap.size, 0, none⟩ (.int .i64 0)).setCell ⟨w.heap.size, 1, none⟩ (.int .i64 0)).setCell ⟨w.heap.size, 2, none⟩ (.int .i64 0)).setCell ⟨w.heap.size, 3, none⟩ (.int .u64 0)).setCell ⟨w.heap.size, 4, none⟩ (.int .u64 0)).setCell ⟨w.heap.size, 5, none⟩ (.bool false)).setCell ⟨w.heap.size, 6, none⟩ (.bool false)) = wz at hRz hFz ⊢
  clear r0 r1 r2 r3 r4 r5 r6
  obtain ⟨r0, r1, r2, r3, r4, r5, r6⟩ := cells7 hRz
  exact bodyPost_ret (v := .tuple #[did0, .int .i64 17]) (by simp [results, Try.results20, go_sem, r0, r1, r2, r3, r4, r5, r6, did0, didV, acc0]) rfl ⟨rfl, hFz⟩
set_option maxRecDepth 100000 in
set_option maxHeartbeats 2000000 in
theorem mStep_go (h : MbAt w X) {i : Nat} {t : Tv} (ht : X.tv[i]? = some t) {i0 : Int} {a : Acc} {wt en : Bool} {er : Int} {D : List Nat} {R R3 : World → Prop}
    (HE : ∀ w1, Frm [] w w1 → Calls Try.prog 61 #[.iface t.T (.pointer (some ⟨t.a, 0, none⟩))] w1 (Ret (.bool false) (fun w' => Frm [] w1 w')))
    (H : ∀ w1, Frm [] w w1 → Calls Try.prog 60 #[.pointer (some ⟨X.q, 0, none⟩), .int .i64 (i : Int)] w1 (Ret (.tuple #[didV i0 a wt en, .int .i64 er]) (fun w' => Frm D w1 w' ∧ R w')))
    (hD : ∀ x ∈ D, x < w.heap.size) (hR : ∀ w2 w3, R w2 → Frm [w.heap.size] w2 w3 → w2.heap[w.heap.size]? = some (.cells #[.int .i64 0, .int .i64 0, .int .i64 0, .int .u64 0, .int .u64 0, .bool false, .bool false] 64 (0, 0)) → R3 w3) :
    Calls Try.prog 20 #[.pointer (some ⟨X.q, 0, none⟩), .int .i64 (i : Int)] w (Ret (.tuple #[didV i0 a wt en, .int .i64 er]) (fun w' => Frm D w w' ∧ R3 w')) := by
  have hi : i < X.tv.length := (List.getElem?_eq_some_iff.1 ht).1
  have hF0 := (Frm.refl [] w).alloc (.cells #[.int .i64 0, .int .i64 0, .int .i64 0, .int .u64 0, .int .u64 0, .bool false, .bool false] 64)
  have hA := h.frm0 hF0
  have HNo := mno_at hA i
  rw [noTh_nat hi] at HNo
  have HH := Lib.hid HNo
  have HN := Lib.hid (mnone_at hA)
  have HDn := Lib.hid (mDone_at hA ht (HE _ hF0))
  have HS := Lib.hid H
  have HD := Lib.hid hD
  have HRR := Lib.hid hR
  clear h ht H hA HE hF0 HNo hD hR
  go_enter Try.func20, Try.ntmps20
  go_wp2_with fail
  refine HN.out.mono ?_
  rintro e w' ⟨rfl, rfl⟩
  go_wp2_with fail
  refine HH.out.mono ?_
  rintro e w' ⟨rfl, rfl⟩
  go_wp2_with fail
  refine HDn.out.mono ?_
  rintro e w1 ⟨rfl, hF1⟩
  have hR1 := hF1.heap (heap_alloc_new w (.cells #[.int .i64 0, .int .i64 0, .int .i64 0, .int .u64 0, .int .u64 0, .bool false, .bool false] 64)) (by simp)
  have hF := ((Frm.refl [] w).alloc (.cells #[.int .i64 0, .int .i64 0, .int .i64 0, .int .u64 0, .int .u64 0, .bool false, .bool false] 64)).trans hF1
  have HF := Lib.hid hF
  have HR1 := Lib.hid hR1
  have H1 := Lib.hid (HS.out _ hF)
  clear hF hF1 hR1
  go_wp2_with fail
  refine H1.out.mono ?_
  rintro e w2 ⟨rfl, hF2, hR2⟩
  have hc2 := hF2.heap HR1.out (fun hx => by have := HD.out _ hx; omega)
  have HF2 := Lib.hid (HF.out.nil.trans hF2)
  have HR2 := Lib.hid hR2
  have HR := Lib.hid hc2
  obtain ⟨r0, r1, r2, r3, r4, r5, r6⟩ := cells7 hc2
  obtain ⟨f0, f1, f2, f3, f4, f5, f6⟩ := frozen7 hc2
  have hrl := lt_of_heap hc2
  clear hF2 hR2 hc2
  unfold didV
  go_wp2
  have hRz := setCells7 HR.out (.int .i64 i0) (.int .i64 a.k) (.int .i64 a.w) (.int .u64 a.b) (.int .u64 a.a) (.bool wt) (.bool en)
  have hFz := (Frm.refl [w.heap.size] w2).set7 w.heap.size (.int .i64 i0) (.int .i64 a.k) (.int .i64 a.w) (.int .u64 a.b) (.int .u64 a.a) (.bool wt) (.bool en) (.inl (by simp))
  generalize (((((((w2.setCell ⟨w.heap.size, 0, none⟩ (.int .i64 i0)).setCell ⟨w.heap.size, 1, none⟩ (.int .i64 a.k)).setCell ⟨w.heap.size, 2, none⟩ (.int .i64 a.w)).setCell ⟨w.heap.size, 3, none⟩ (.int .u64 a.b)).setCell ⟨w.heap.size, 4, none⟩ (.int .u64 a.a)).setCell ⟨w.heap.size, 5, none⟩ (.bool wt)).setCell ⟨w.heap.size, 6, none⟩ (.bool en)) = wz at hRz hFz ⊢
  clear r0 r1 r2 r3 r4 r5 r6
  obtain ⟨r0, r1, r2, r3, r4, r5, r6⟩ := cells7 hRz
  exact bodyPost_ret (v := .tuple #[.agg #[.int .i64 i0, .int .i64 a.k, .int .i64 a.w, .int .u64 a.b, .int .u64 a.a, .bool wt, .bool en], .int .i64 er]) (by simp [results, Try.results20, go_sem, r0, r1, r2, r3, r4, r5, r6]) rfl ⟨rfl, HF2.out.trans_new hFz (by simp), HRR.out _ _ HR2.out hFz HR.out⟩
end
end Go.Proofs.Ytieccmmnfnpcoaa
