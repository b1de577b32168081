/- known: the examples of the chapter (by gen_mck.py). -/
import Derived.Test.YtoieedlkffmcgaaMcX
namespace Go.Proofs.Ytoieedlkffmcgaa
open Go.ChangeShapes Go.WideShapes Go.ChangeAt Go.RowKit
set_option linter.unusedVariables false

theorem ch0 : Stn 1 2 0 0 false 3 1 0 false [0, 0, 0, 0, 0, 0, 0, 0, 0, 0, 0, 0, 0] 4 0 true [1, 0, 1, 0, 0, 0, 0, 0, 0, 0, 0, 0, 0] := .cons (.a1 0 (by decide)) (fun _ => ⟨by decide, by decide, by decide, by decide⟩) (.cons (.a2 0 (by decide)) (fun _ => ⟨by decide, by decide, by decide, by decide⟩) (.cons (.a3f 0 (by decide)) (fun h => by cases h) (.nil _ _ _ _)))
theorem ch1 : Stn 1 2 0 0 true 2 1 0 false [1, 0, 1, 0, 0, 0, 0, 0, 0, 0, 0, 0, 0] 3 0 true [0, 0, 1, 0, 0, 0, 0, 0, 0, 0, 0, 0, 0] := .cons (.r1n 0 (by decide)) (fun _ => ⟨by decide, by decide, by decide, by decide⟩) (.cons (.r2y 0 (by decide)) (fun h => by cases h) (.nil _ _ _ _))
theorem ch2 : Stn 1 2 0 0 false 3 1 0 false [0, 0, 1, 0, 0, 0, 0, 0, 0, 0, 0, 0, 0] 4 0 true [1, 0, 1, 0, 0, 0, 0, 0, 0, 0, 0, 0, 0] := .cons (.a1 0 (by decide)) (fun _ => ⟨by decide, by decide, by decide, by decide⟩) (.cons (.a2 0 (by decide)) (fun _ => ⟨by decide, by decide, by decide, by decide⟩) (.cons (.a3f 0 (by decide)) (fun h => by cases h) (.nil _ _ _ _)))
theorem ch3 : Stn 1 2 0 2 false 4 1 0 false [1, 0, 1, 0, 0, 0, 0, 0, 0, 0, 0, 0, 0] 5 1 false [3, 3, 1, 0, 0, 0, 0, 0, 1, 0, 0, 0, 0] := .cons (.a1 0 (by decide)) (fun _ => ⟨by decide, by decide, by decide, by decide⟩) (.cons (.a2 0 (by decide)) (fun _ => ⟨by decide, by decide, by decide, by decide⟩) (.cons (.a3l 0 1 (by decide) (by decide)) (fun _ => ⟨by decide, by decide, by decide, by decide⟩) (.cons (.a4 1 (by decide) (by decide) (by decide)) (fun _ => ⟨by decide, by decide, by decide, by decide⟩) (.nil _ _ _ _))))
theorem ch4 : Stn 1 2 0 0 true 2 1 0 false [3, 3, 1, 0, 0, 0, 0, 0, 1, 0, 0, 0, 0] 4 3 true [3, 3, 1, 0, 0, 0, 0, 0, 0, 0, 0, 0, 0] := .cons (.r1s 0 3 (by decide) (by decide)) (fun _ => ⟨by decide, by decide, by decide, by decide⟩) (.cons (.r4 3 (by decide) (by decide) (by decide)) (fun h => by cases h) (.nil _ _ _ _))
theorem ch5 : Stn 1 2 0 2 false 1 5 1 false [3, 3, 1, 0, 0, 0, 0, 0, 0, 0, 0, 0, 0] 5 1 true [3, 3, 1, 0, 0, 0, 0, 0, 0, 0, 0, 0, 0] := .cons (.a5g 1 (by decide)) (fun h => by cases h) (.nil _ _ _ _)
theorem ch6 : Stn 1 2 0 2 false 3 1 0 false [1, 0, 1, 0, 0, 0, 0, 0, 0, 0, 0, 0, 0] 4 1 false [3, 0, 1, 0, 0, 0, 0, 0, 1, 0, 0, 0, 0] := .cons (.a1 0 (by decide)) (fun _ => ⟨by decide, by decide, by decide, by decide⟩) (.cons (.a2 0 (by decide)) (fun _ => ⟨by decide, by decide, by decide, by decide⟩) (.cons (.a3l 0 1 (by decide) (by decide)) (fun _ => ⟨by decide, by decide, by decide, by decide⟩) (.nil _ _ _ _)))
theorem ch7 : Stn 1 2 0 0 true 2 1 0 false [3, 0, 1, 0, 0, 0, 0, 0, 1, 0, 0, 0, 0] 3 0 false [3, 0, 1, 0, 0, 0, 0, 0, 1, 0, 0, 0, 0] := .cons (.r1n 0 (by decide)) (fun _ => ⟨by decide, by decide, by decide, by decide⟩) (.cons (.r2n 0 3 (by decide) (by decide)) (fun _ => ⟨by decide, by decide, by decide, by decide⟩) (.nil _ _ _ _))
theorem ch8 : Stn 1 2 0 2 false 1 4 1 false [3, 0, 1, 0, 0, 0, 0, 0, 1, 0, 0, 0, 0] 5 1 false [3, 3, 1, 0, 0, 0, 0, 0, 1, 0, 0, 0, 0] := .cons (.a4 1 (by decide) (by decide) (by decide)) (fun _ => ⟨by decide, by decide, by decide, by decide⟩) (.nil _ _ _ _)
theorem ch9 : Stn 1 2 0 0 true 2 3 0 false [3, 3, 1, 0, 0, 0, 0, 0, 1, 0, 0, 0, 0] 4 3 true [3, 3, 1, 0, 0, 0, 0, 0, 0, 0, 0, 0, 0] := .cons (.r3s 0 3 (by decide) (by decide)) (fun _ => ⟨by decide, by decide, by decide, by decide⟩) (.cons (.r4 3 (by decide) (by decide) (by decide)) (fun h => by cases h) (.nil _ _ _ _))
theorem kn_new (w : World) : Calls Try.prog 9 #[.int .i64 1, .int .i64 2] w (Ret (.tuple #[.pointer (some ⟨w.heap.size, 0, none⟩), .int .i64 0]) (fun w' => Frm [] w w' ∧ Nd w' w.heap.size 1 2)) := nodes_new w 1 2 (by decide) (by decide) (by decide)
theorem kn_begina0 {w : World} {n : Nat} (h : Nd w n 1 2) : Calls Try.prog 11 #[.pointer (some ⟨n, 0, none⟩), .int .i64 0, .int .i64 0, .bool false] w (fun e w' => ∃ q, Ret (.tuple #[.iface (Ip false) (.pointer (some ⟨q, 0, none⟩)), .int .i64 0]) (fun w' => Frm [] w w' ∧ PgR w' q false 1 2 0 0 1 0 false ∧ w.heap.size ≤ q) e w') := begin_yes h (by decide) ⟨by decide, by decide, .inl (by decide)⟩ (by decide) false
theorem kn_begina2 {w : World} {n : Nat} (h : Nd w n 1 2) : Calls Try.prog 11 #[.pointer (some ⟨n, 0, none⟩), .int .i64 0, .int .i64 2, .bool false] w (fun e w' => ∃ q, Ret (.tuple #[.iface (Ip false) (.pointer (some ⟨q, 0, none⟩)), .int .i64 0]) (fun w' => Frm [] w w' ∧ PgR w' q false 1 2 0 2 1 0 false ∧ w.heap.size ≤ q) e w') := begin_yes h (by decide) ⟨by decide, by decide, .inl (by decide)⟩ (by decide) false
theorem kn_beginr0 {w : World} {n : Nat} (h : Nd w n 1 2) : Calls Try.prog 11 #[.pointer (some ⟨n, 0, none⟩), .int .i64 0, .int .i64 0, .bool true] w (fun e w' => ∃ q, Ret (.tuple #[.iface (Ip true) (.pointer (some ⟨q, 0, none⟩)), .int .i64 0]) (fun w' => Frm [] w w' ∧ PgR w' q true 1 2 0 0 1 0 false ∧ w.heap.size ≤ q) e w') := begin_yes h (by decide) ⟨by decide, by decide, .inl (by decide)⟩ (by decide) true
theorem kn_bad0 {w : World} {n : Nat} (h : Nd w n 1 2) : Calls Try.prog 11 #[.pointer (some ⟨n, 0, none⟩), .int .i64 1, .int .i64 0, .bool false] w (Ret (.tuple #[.nilIface, .int .i64 2]) (fun w' => Frm [] w w')) := begin_lock h (by unfold lockOk; omega) false
theorem kn_bad1 {w : World} {n : Nat} (h : Nd w n 1 2) : Calls Try.prog 11 #[.pointer (some ⟨n, 0, none⟩), .int .i64 0, .int .i64 4, .bool false] w (Ret (.tuple #[.nilIface, .int .i64 2]) (fun w' => Frm [] w w')) := begin_node h (by decide) (by unfold lockOk; omega) (by decide) false
theorem kn_bad2 {w : World} {n : Nat} (h : Nd w n 1 2) : Calls Try.prog 11 #[.pointer (some ⟨n, 0, none⟩), .int .i64 (-1), .int .i64 0, .bool true] w (Ret (.tuple #[.nilIface, .int .i64 2]) (fun w' => Frm [] w w')) := begin_lock h (by unfold lockOk; omega) true
/-- Words that a call has just made. -/
theorem rd_new (w : World) (n : Nat) : Rd (w.alloc (.cells (u64s (List.replicate n 0)).toArray 40)) (.slice (some ⟨w.heap.size, 0, none⟩) n n) (u64s (List.replicate n 0)) :=
  .inr ⟨w.heap.size, 0, n, by simp [u64s], by simp [u64s], by simp, fun i u hu => by
    rw [cell_of_heap (heap_alloc_new _ _), Nat.zero_add, List.getElem?_toArray]; exact hu⟩
theorem rd_13 (w : World) : Rd (w.alloc (.cells (u64s (List.replicate 13 0)).toArray 40)) (.slice (some ⟨w.heap.size, 0, none⟩) 13 13) (u64s [0, 0, 0, 0, 0, 0, 0, 0, 0, 0, 0, 0, 0]) := rd_new w 13
theorem mk_13 (w : World) : (Instr.makeSlice 28 (.int .i64 13) (.int .i64 13)).run Try.prog w = .ok (.slice (some ⟨w.heap.size, 0, none⟩) 13 13) (w.alloc (.cells (u64s (List.replicate 13 0)).toArray 40)) := make_u64 13 (by decide) w
theorem cells6 {w : World} {b : Nat} {x0 x1 x2 x3 x4 x5 : Value} {t : TypeId} (h : w.heap[b]? = some (.cells #[x0, x1, x2, x3, x4, x5] t (0, 0))) :
    w.cell? ⟨b, 0, none⟩ = some x0 ∧ w.cell? ⟨b, 1, none⟩ = some x1 ∧ w.cell? ⟨b, 2, none⟩ = some x2 ∧ w.cell? ⟨b, 3, none⟩ = some x3 ∧ w.cell? ⟨b, 4, none⟩ = some x4 ∧ w.cell? ⟨b, 5, none⟩ = some x5 := by
  refine ⟨?_, ?_, ?_, ?_, ?_, ?_⟩ <;> rw [cell_of_heap h] <;> rfl

set_option maxRecDepth 100000 in
set_option maxHeartbeats 16000000 in
theorem known_true {w : World} : Calls Try.prog 8 #[] w (Ret (.bool true) (fun w' => Frm [] w w')) := by
  go_enter Try.func8, Try.ntmps8
  go_wp2_with fail
  refine (kn_new _).mono ?_
  rintro e w1 ⟨rfl, hF, hN⟩
  have HN := Lib.hid hN
  have HF := Lib.hid hF
  clear hN hF
  have hn0 := HN.out.lt
  have hm13 := mk_13
  go_wp2_with fail
  have hrw2 := rd_13 w1
  refine (made_any hrw2 (by decide) (by decide)).mono ?_
  rintro e w2 ⟨p, d, c, rfl, hF, hM, hp, hd⟩
  have hF : Frm [] w1 w2 := ((Frm.refl _ _).alloc _).trans hF
  have hp0 : w.heap.size ≤ p := by have := HF.out.size; simp at hp; omega
  have hd0 : w.heap.size ≤ d := by have := HF.out.size; simp at hd; omega
  have hnd : w.heap.size ≠ d := by have := HN.out.lt; simp at hd; omega
  clear hp hd hrw2
  replace HN := Lib.hid (HN.out.frm hF)
  replace HF := Lib.hid (HF.out.trans_new hF (by simp))
  have HM := Lib.hid hM
  clear hM hF
  go_wp2_with fail
  refine (kn_begina0 HN.out).mono ?_
  rintro e w3 ⟨qa, rfl, hF, hQ, hq⟩
  have hqap : qa ≠ p := by have := HM.out.plt; omega
  have hqad : qa ≠ d := by have := HM.out.dlt; omega
  have hqan : w.heap.size ≠ qa := by have := HN.out.lt; omega
  have hqa0 : w.heap.size ≤ qa := by have := HF.out.size; omega
  clear hq
  replace HN := Lib.hid (HN.out.frm hF)
  replace HM := Lib.hid (HM.out.frm hF (by simp) (by simp))
  replace HF := Lib.hid (HF.out.trans_new hF (by simp))
  have Hqa := Lib.hid hQ
  clear hQ hF
  go_wp2_with fail
  refine (kn_beginr0 HN.out).mono ?_
  rintro e w4 ⟨qr, rfl, hF, hQ, hq⟩
  have hqrp : qr ≠ p := by have := HM.out.plt; omega
  have hqrd : qr ≠ d := by have := HM.out.dlt; omega
  have hqrn : w.heap.size ≠ qr := by have := HN.out.lt; omega
  have hqr0 : w.heap.size ≤ qr := by have := HF.out.size; omega
  have hqrqa : qa ≠ qr := by have := Hqa.out.lt; omega
  clear hq
  replace HN := Lib.hid (HN.out.frm hF)
  replace HM := Lib.hid (HM.out.frm hF (by simp) (by simp))
  replace Hqa := Lib.hid (Hqa.out.frm hF (by simp))
  replace HF := Lib.hid (HF.out.trans_new hF (by simp))
  have Hqr := Lib.hid hQ
  clear hQ hF
  go_wp2_with fail
  refine (steps_any HM.out Hqa.out hqad hqap (by decide) ch0).mono ?_
  rintro e w5 ⟨rfl, hF, hM, hQ⟩
  replace HN := Lib.hid (HN.out.frmD hF (by simp; omega))
  replace Hqr := Lib.hid (Hqr.out.frm hF (by simp; omega))
  replace HF := Lib.hid (HF.out.trans_new hF (by simp; omega))
  replace HM := Lib.hid hM
  replace Hqa := Lib.hid hQ
  clear hM hQ hF
  go_wp2_with fail
  refine (lword_yes HM.out 0 1 (by decide)).mono ?_
  rintro e w6 ⟨rfl, hF, hM⟩
  replace HN := Lib.hid (HN.out.frmD hF (by simp; omega))
  replace Hqa := Lib.hid (Hqa.out.frm hF (by simp; omega))
  replace Hqr := Lib.hid (Hqr.out.frm hF (by simp; omega))
  replace HF := Lib.hid (HF.out.trans_new hF (by simp; omega))
  replace HM := Lib.hid hM
  clear hM hF
  go_wp2_with fail
  refine (steps_any HM.out Hqr.out hqrd hqrp (by decide) ch1).mono ?_
  rintro e w7 ⟨rfl, hF, hM, hQ⟩
  replace HN := Lib.hid (HN.out.frmD hF (by simp; omega))
  replace Hqa := Lib.hid (Hqa.out.frm hF (by simp; omega))
  replace HF := Lib.hid (HF.out.trans_new hF (by simp; omega))
  replace HM := Lib.hid hM
  replace Hqr := Lib.hid hQ
  clear hM hQ hF
  go_wp2_with fail
  refine (lword_yes HM.out 0 0 (by decide)).mono ?_
  rintro e w8 ⟨rfl, hF, hM⟩
  replace HN := Lib.hid (HN.out.frmD hF (by simp; omega))
  replace Hqa := Lib.hid (Hqa.out.frm hF (by simp; omega))
  replace Hqr := Lib.hid (Hqr.out.frm hF (by simp; omega))
  replace HF := Lib.hid (HF.out.trans_new hF (by simp; omega))
  replace HM := Lib.hid hM
  clear hM hF
  clear Hqa Hqr hqap hqad hqan hqa0 hqrp hqrd hqrn hqr0 hqrqa
  go_wp2_with fail
  refine (kn_begina0 HN.out).mono ?_
  rintro e w9 ⟨qb, rfl, hF, hQ, hq⟩
  have hqbp : qb ≠ p := by have := HM.out.plt; omega
  have hqbd : qb ≠ d := by have := HM.out.dlt; omega
  have hqbn : w.heap.size ≠ qb := by have := HN.out.lt; omega
  have hqb0 : w.heap.size ≤ qb := by have := HF.out.size; omega
  clear hq
  replace HN := Lib.hid (HN.out.frm hF)
  replace HM := Lib.hid (HM.out.frm hF (by simp) (by simp))
  replace HF := Lib.hid (HF.out.trans_new hF (by simp))
  have Hqb := Lib.hid hQ
  clear hQ hF
  go_wp2_with fail
  refine (kn_begina2 HN.out).mono ?_
  rintro e w10 ⟨qc, rfl, hF, hQ, hq⟩
  have hqcp : qc ≠ p := by have := HM.out.plt; omega
  have hqcd : qc ≠ d := by have := HM.out.dlt; omega
  have hqcn : w.heap.size ≠ qc := by have := HN.out.lt; omega
  have hqc0 : w.heap.size ≤ qc := by have := HF.out.size; omega
  have hqcqb : qb ≠ qc := by have := Hqb.out.lt; omega
  clear hq
  replace HN := Lib.hid (HN.out.frm hF)
  replace HM := Lib.hid (HM.out.frm hF (by simp) (by simp))
  replace Hqb := Lib.hid (Hqb.out.frm hF (by simp))
  replace HF := Lib.hid (HF.out.trans_new hF (by simp))
  have Hqc := Lib.hid hQ
  clear hQ hF
  go_wp2_with fail
  refine (steps_any HM.out Hqb.out hqbd hqbp (by decide) ch2).mono ?_
  rintro e w11 ⟨rfl, hF, hM, hQ⟩
  replace HN := Lib.hid (HN.out.frmD hF (by simp; omega))
  replace Hqc := Lib.hid (Hqc.out.frm hF (by simp; omega))
  replace HF := Lib.hid (HF.out.trans_new hF (by simp; omega))
  replace HM := Lib.hid hM
  replace Hqb := Lib.hid hQ
  clear hM hQ hF
  go_wp2_with fail
  refine (steps_any HM.out Hqc.out hqcd hqcp (by decide) ch3).mono ?_
  rintro e w12 ⟨rfl, hF, hM, hQ⟩
  replace HN := Lib.hid (HN.out.frmD hF (by simp; omega))
  replace Hqb := Lib.hid (Hqb.out.frm hF (by simp; omega))
  replace HF := Lib.hid (HF.out.trans_new hF (by simp; omega))
  replace HM := Lib.hid hM
  replace Hqc := Lib.hid hQ
  clear hM hQ hF
  go_wp2_with fail
  refine (waits_yes HM.out Hqc.out hqcd hqcp (.a5w 1 1 (by decide) (by decide)) ⟨by decide, by decide, by decide, by decide⟩).mono ?_
  rintro e w13 ⟨rfl, hF, hM, hQ⟩
  replace HN := Lib.hid (HN.out.frmD hF (by simp; omega))
  replace Hqb := Lib.hid (Hqb.out.frm hF (by simp; omega))
  replace HF := Lib.hid (HF.out.trans_new hF (by simp; omega))
  replace HM := Lib.hid hM
  replace Hqc := Lib.hid hQ
  clear hM hQ hF
  go_wp2_with fail
  refine (lword_yes HM.out 0 3 (by decide)).mono ?_
  rintro e w14 ⟨rfl, hF, hM⟩
  replace HN := Lib.hid (HN.out.frmD hF (by simp; omega))
  replace Hqb := Lib.hid (Hqb.out.frm hF (by simp; omega))
  replace Hqc := Lib.hid (Hqc.out.frm hF (by simp; omega))
  replace HF := Lib.hid (HF.out.trans_new hF (by simp; omega))
  replace HM := Lib.hid hM
  clear hM hF
  go_wp2_with fail
  refine (lword_yes HM.out 1 3 (by decide)).mono ?_
  rintro e w15 ⟨rfl, hF, hM⟩
  replace HN := Lib.hid (HN.out.frmD hF (by simp; omega))
  replace Hqb := Lib.hid (Hqb.out.frm hF (by simp; omega))
  replace Hqc := Lib.hid (Hqc.out.frm hF (by simp; omega))
  replace HF := Lib.hid (HF.out.trans_new hF (by simp; omega))
  replace HM := Lib.hid hM
  clear hM hF
  go_wp2_with fail
  refine (kn_beginr0 HN.out).mono ?_
  rintro e w16 ⟨qs, rfl, hF, hQ, hq⟩
  have hqsp : qs ≠ p := by have := HM.out.plt; omega
  have hqsd : qs ≠ d := by have := HM.out.dlt; omega
  have hqsn : w.heap.size ≠ qs := by have := HN.out.lt; omega
  have hqs0 : w.heap.size ≤ qs := by have := HF.out.size; omega
  have hqsqb : qb ≠ qs := by have := Hqb.out.lt; omega
  have hqsqc : qc ≠ qs := by have := Hqc.out.lt; omega
  clear hq
  replace HN := Lib.hid (HN.out.frm hF)
  replace HM := Lib.hid (HM.out.frm hF (by simp) (by simp))
  replace Hqb := Lib.hid (Hqb.out.frm hF (by simp))
  replace Hqc := Lib.hid (Hqc.out.frm hF (by simp))
  replace HF := Lib.hid (HF.out.trans_new hF (by simp))
  have Hqs := Lib.hid hQ
  clear hQ hF
  go_wp2_with fail
  refine (steps_any HM.out Hqs.out hqsd hqsp (by decide) ch4).mono ?_
  rintro e w17 ⟨rfl, hF, hM, hQ⟩
  replace HN := Lib.hid (HN.out.frmD hF (by simp; omega))
  replace Hqb := Lib.hid (Hqb.out.frm hF (by simp; omega))
  replace Hqc := Lib.hid (Hqc.out.frm hF (by simp; omega))
  replace HF := Lib.hid (HF.out.trans_new hF (by simp; omega))
  replace HM := Lib.hid hM
  replace Hqs := Lib.hid hQ
  clear hM hQ hF
  go_wp2_with fail
  refine (steps_any HM.out Hqc.out hqcd hqcp (by decide) ch5).mono ?_
  rintro e w18 ⟨rfl, hF, hM, hQ⟩
  replace HN := Lib.hid (HN.out.frmD hF (by simp; omega))
  replace Hqb := Lib.hid (Hqb.out.frm hF (by simp; omega))
  replace Hqs := Lib.hid (Hqs.out.frm hF (by simp; omega))
  replace HF := Lib.hid (HF.out.trans_new hF (by simp; omega))
  replace HM := Lib.hid hM
  replace Hqc := Lib.hid hQ
  clear hM hQ hF
  go_wp2_with fail
  refine (lword_yes HM.out 0 3 (by decide)).mono ?_
  rintro e w19 ⟨rfl, hF, hM⟩
  replace HN := Lib.hid (HN.out.frmD hF (by simp; omega))
  replace Hqb := Lib.hid (Hqb.out.frm hF (by simp; omega))
  replace Hqc := Lib.hid (Hqc.out.frm hF (by simp; omega))
  replace Hqs := Lib.hid (Hqs.out.frm hF (by simp; omega))
  replace HF := Lib.hid (HF.out.trans_new hF (by simp; omega))
  replace HM := Lib.hid hM
  clear hM hF
  clear hqbp hqbd hqbn hqb0 hqcp hqcd hqcn hqc0 hqcqb hqsp hqsd hqsn hqs0 hqsqb hqsqc
  go_wp2_with fail
  have hrw20 := rd_13 w19
  refine (made_any hrw20 (by decide) (by decide)).mono ?_
  rintro e w20 ⟨p2, d2, c2, rfl, hF, hM, hp, hd⟩
  have hF : Frm [] w19 w20 := ((Frm.refl _ _).alloc _).trans hF
  have hp0 : w.heap.size ≤ p2 := by have := HF.out.size; simp at hp; omega
  have hd0 : w.heap.size ≤ d2 := by have := HF.out.size; simp at hd; omega
  have hnd : w.heap.size ≠ d2 := by have := HN.out.lt; simp at hd; omega
  clear hp hd hrw20
  clear Hqb Hqc Hqs HM
  replace HN := Lib.hid (HN.out.frm hF)
  replace HF := Lib.hid (HF.out.trans_new hF (by simp))
  have HM := Lib.hid hM
  clear hM hF
  go_wp2_with fail
  refine (kn_begina0 HN.out).mono ?_
  rintro e w21 ⟨qd, rfl, hF, hQ, hq⟩
  have hqdp : qd ≠ p2 := by have := HM.out.plt; omega
  have hqdd : qd ≠ d2 := by have := HM.out.dlt; omega
  have hqdn : w.heap.size ≠ qd := by have := HN.out.lt; omega
  have hqd0 : w.heap.size ≤ qd := by have := HF.out.size; omega
  clear hq
  replace HN := Lib.hid (HN.out.frm hF)
  replace HM := Lib.hid (HM.out.frm hF (by simp) (by simp))
  replace HF := Lib.hid (HF.out.trans_new hF (by simp))
  have Hqd := Lib.hid hQ
  clear hQ hF
  go_wp2_with fail
  refine (kn_begina2 HN.out).mono ?_
  rintro e w22 ⟨qe, rfl, hF, hQ, hq⟩
  have hqep : qe ≠ p2 := by have := HM.out.plt; omega
  have hqed : qe ≠ d2 := by have := HM.out.dlt; omega
  have hqen : w.heap.size ≠ qe := by have := HN.out.lt; omega
  have hqe0 : w.heap.size ≤ qe := by have := HF.out.size; omega
  have hqeqd : qd ≠ qe := by have := Hqd.out.lt; omega
  clear hq
  replace HN := Lib.hid (HN.out.frm hF)
  replace HM := Lib.hid (HM.out.frm hF (by simp) (by simp))
  replace Hqd := Lib.hid (Hqd.out.frm hF (by simp))
  replace HF := Lib.hid (HF.out.trans_new hF (by simp))
  have Hqe := Lib.hid hQ
  clear hQ hF
  go_wp2_with fail
  refine (kn_beginr0 HN.out).mono ?_
  rintro e w23 ⟨qf, rfl, hF, hQ, hq⟩
  have hqfp : qf ≠ p2 := by have := HM.out.plt; omega
  have hqfd : qf ≠ d2 := by have := HM.out.dlt; omega
  have hqfn : w.heap.size ≠ qf := by have := HN.out.lt; omega
  have hqf0 : w.heap.size ≤ qf := by have := HF.out.size; omega
  have hqfqd : qd ≠ qf := by have := Hqd.out.lt; omega
  have hqfqe : qe ≠ qf := by have := Hqe.out.lt; omega
  clear hq
  replace HN := Lib.hid (HN.out.frm hF)
  replace HM := Lib.hid (HM.out.frm hF (by simp) (by simp))
  replace Hqd := Lib.hid (Hqd.out.frm hF (by simp))
  replace Hqe := Lib.hid (Hqe.out.frm hF (by simp))
  replace HF := Lib.hid (HF.out.trans_new hF (by simp))
  have Hqf := Lib.hid hQ
  clear hQ hF
  go_wp2_with fail
  refine (steps_any HM.out Hqd.out hqdd hqdp (by decide) ch0).mono ?_
  rintro e w24 ⟨rfl, hF, hM, hQ⟩
  replace HN := Lib.hid (HN.out.frmD hF (by simp; omega))
  replace Hqe := Lib.hid (Hqe.out.frm hF (by simp; omega))
  replace Hqf := Lib.hid (Hqf.out.frm hF (by simp; omega))
  replace HF := Lib.hid (HF.out.trans_new hF (by simp; omega))
  replace HM := Lib.hid hM
  replace Hqd := Lib.hid hQ
  clear hM hQ hF
  go_wp2_with fail
  refine (steps_any HM.out Hqe.out hqed hqep (by decide) ch6).mono ?_
  rintro e w25 ⟨rfl, hF, hM, hQ⟩
  replace HN := Lib.hid (HN.out.frmD hF (by simp; omega))
  replace Hqd := Lib.hid (Hqd.out.frm hF (by simp; omega))
  replace Hqf := Lib.hid (Hqf.out.frm hF (by simp; omega))
  replace HF := Lib.hid (HF.out.trans_new hF (by simp; omega))
  replace HM := Lib.hid hM
  replace Hqe := Lib.hid hQ
  clear hM hQ hF
  go_wp2_with fail
  refine (steps_any HM.out Hqf.out hqfd hqfp (by decide) ch7).mono ?_
  rintro e w26 ⟨rfl, hF, hM, hQ⟩
  replace HN := Lib.hid (HN.out.frmD hF (by simp; omega))
  replace Hqd := Lib.hid (Hqd.out.frm hF (by simp; omega))
  replace Hqe := Lib.hid (Hqe.out.frm hF (by simp; omega))
  replace HF := Lib.hid (HF.out.trans_new hF (by simp; omega))
  replace HM := Lib.hid hM
  replace Hqf := Lib.hid hQ
  clear hM hQ hF
  go_wp2_with fail
  refine (waits_yes HM.out Hqf.out hqfd hqfp (.r3w 0 (by decide)) ⟨by decide, by decide, by decide, by decide⟩).mono ?_
  rintro e w27 ⟨rfl, hF, hM, hQ⟩
  replace HN := Lib.hid (HN.out.frmD hF (by simp; omega))
  replace Hqd := Lib.hid (Hqd.out.frm hF (by simp; omega))
  replace Hqe := Lib.hid (Hqe.out.frm hF (by simp; omega))
  replace HF := Lib.hid (HF.out.trans_new hF (by simp; omega))
  replace HM := Lib.hid hM
  replace Hqf := Lib.hid hQ
  clear hM hQ hF
  go_wp2_with fail
  refine (steps_any HM.out Hqe.out hqed hqep (by decide) ch8).mono ?_
  rintro e w28 ⟨rfl, hF, hM, hQ⟩
  replace HN := Lib.hid (HN.out.frmD hF (by simp; omega))
  replace Hqd := Lib.hid (Hqd.out.frm hF (by simp; omega))
  replace Hqf := Lib.hid (Hqf.out.frm hF (by simp; omega))
  replace HF := Lib.hid (HF.out.trans_new hF (by simp; omega))
  replace HM := Lib.hid hM
  replace Hqe := Lib.hid hQ
  clear hM hQ hF
  go_wp2_with fail
  refine (steps_any HM.out Hqf.out hqfd hqfp (by decide) ch9).mono ?_
  rintro e w29 ⟨rfl, hF, hM, hQ⟩
  replace HN := Lib.hid (HN.out.frmD hF (by simp; omega))
  replace Hqd := Lib.hid (Hqd.out.frm hF (by simp; omega))
  replace Hqe := Lib.hid (Hqe.out.frm hF (by simp; omega))
  replace HF := Lib.hid (HF.out.trans_new hF (by simp; omega))
  replace HM := Lib.hid hM
  replace Hqf := Lib.hid hQ
  clear hM hQ hF
  clear Hqe Hqf
  go_wp2_with fail
  obtain ⟨X, hX⟩ : ∃ X, X = w29.alloc (.cells #[.int .i64 1, .int .i64 0, .int .i64 0, .int .i64 4, .int .i64 (-1), .int .i64 0] 79) := ⟨_, rfl⟩
  have hFX : Frm [] w29 X := by rw [hX]; exact (Frm.refl _ _).alloc _
  have hb : X.heap[w29.heap.size]? = some (.cells #[.int .i64 1, .int .i64 0, .int .i64 0, .int .i64 4, .int .i64 (-1), .int .i64 0] 79 (0, 0)) := by rw [hX]; exact heap_alloc_new _ _
  rw [← hX]
  replace HN := Lib.hid (HN.out.frm hFX)
  replace HM := Lib.hid (HM.out.frm hFX (by simp) (by simp))
  replace Hqd := Lib.hid (Hqd.out.frm hFX (by simp))
  replace HF := Lib.hid (HF.out.trans hFX)
  have HB := Lib.hid hb
  clear hX hb hFX
  go_loopw [10, 11, 12, 252, 253, 254, 255, 256, 257, 258, 259, 260, 261, 262, 263, 264, 265, 266, 267, 268, 269, 270, 271, 272, 273, 274] (fun _ _ _ i _ _ _ _ _ _ _ _ _ _ _ _ _ _ _ _ _ _ _ _ _ _ wr => ∃ k : Nat, k ≤ 3 ∧ i = .int .i64 k ∧ Frm [] X wr) (fun _ _ _ i _ _ _ _ _ _ _ _ _ _ _ _ _ _ _ _ _ _ _ _ _ _ _ => 3 - (intOf i).toNat)
  case atStart => exact ⟨0, by omega, rfl, Frm.refl _ _⟩
  case round =>
    obtain ⟨k, hk, rfl, hF⟩ := hrel
    obtain ⟨s0, s1, s2, s3, s4, s5⟩ := cells6 (hF.heap HB.out (by simp))
    have hBl := Nat.lt_of_lt_of_le (lt_of_heap HB.out) hF.size
    have HR := Lib.hid hF
    have HNr := Lib.hid (HN.out.frm hF)
    clear hF
    have hkk : k = 0 ∨ k = 1 ∨ k = 2 ∨ k = 3 := by omega
    rcases hkk with rfl | rfl | rfl | rfl
    · go_wp2_with fail
      refine (kn_bad0 (HNr.out.frm ((Frm.refl [] _).alloc _))).mono ?_
      rintro e y1 ⟨rfl, g1⟩
      have g2 : Frm [] wr y1 := ((Frm.refl [] wr).alloc _).trans g1
      go_wp2
      go_roundw
      case rel => exact ⟨1, by omega, by go_num, HR.out.trans g2⟩
      case measure => simp [intOf]
    · go_wp2_with fail
      refine (kn_bad1 (HNr.out.frm ((Frm.refl [] _).alloc _))).mono ?_
      rintro e y1 ⟨rfl, g1⟩
      have g2 : Frm [] wr y1 := ((Frm.refl [] wr).alloc _).trans g1
      go_wp2
      go_roundw
      case rel => exact ⟨2, by omega, by go_num, HR.out.trans g2⟩
      case measure => simp [intOf]
    · go_wp2_with fail
      refine (kn_bad2 (HNr.out.frm ((Frm.refl [] _).alloc _))).mono ?_
      rintro e y1 ⟨rfl, g1⟩
      have g2 : Frm [] wr y1 := ((Frm.refl [] wr).alloc _).trans g1
      go_wp2
      go_roundw
      case rel => exact ⟨3, by omega, by go_num, HR.out.trans g2⟩
      case measure => simp [intOf]
    · have hm := m_Step false qd
      have hc1 := c_Step false
      go_wp2_with fail
      refine (Step_over (Hqd.out.frm HR.out (by simp))).mono ?_
      rintro e y1 ⟨rfl, g1⟩
      have HR1 := Lib.hid (HR.out.trans g1)
      clear g1
      go_wp2
      go_ret
      exact ⟨rfl, HF.out.trans HR1.out⟩
#print axioms known_true
end Go.Proofs.Ytoieedlkffmcgaa
