/- McP, McQ in one text (by mkbundle.py). -/
import Derived.Test.YticbbfcachnkiaaGreatDoorBn5
import Derived.Test.YticbbfcachnkiaaGreatDoorBn1
/- Package mcs: where a program lies; accesses of an arena, plainly; none, done, result, ref, other, meet, store. -/
namespace Go.Proofs.YticbbfcachnkiaaGreatDoor
open Go.ChangeShapes Go.WideShapes Go.ChangeAt Go.RowKit

/-! Accesses of an arena, plainly. -/
theorem Load_ok {w : World} {p d c : Nat} {ws : List Int} (hM : MemAt w p d c ws) (x : Nat) (v : Int) (hx : ws[x]? = some v) :
    Calls Tryz.prog 142 #[.pointer (some ⟨p, 0, none⟩), .int .i64 x] w (Ret (.tuple #[.int .u64 v, .int .i64 0]) (fun w' => Frm [d] w w' ∧ MemAt w' p d c ws)) := by
  have hl : x < ws.length := (List.getElem?_eq_some_iff.1 hx).1
  have h0 : mErr ws.length 1 x = 0 := by unfold mErr; rw [if_neg (by omega), if_neg (by omega)]
  have hg : ws.getD (x : Int).toNat 0 = v := by rw [List.getD_eq_getElem?_getD, Int.toNat_natCast, hx]; rfl
  have h1 : mWs ws ⟨1, x, 0, 0⟩ = ws := by
    unfold mWs; simp only []; rw [if_pos h0, hg]; simp only [aft]
    rw [if_neg (by decide), if_neg (by decide)]
    apply List.ext_getElem?; intro j; rw [List.getElem?_set]; split
    · rename_i e; subst e; rw [if_pos (by simpa using hl)]; simpa using hx.symm
    · rfl
  have h2 : (mRes ws ⟨1, x, 0, 0⟩).b = v := by unfold mRes; simp only []; rw [if_pos h0]; exact hg
  refine (Load_mem hM x).mono fun e w' hh => ?_
  rw [h0, h1, h2] at hh
  exact hh
theorem Load_out {w : World} {p d c : Nat} {ws : List Int} (hM : MemAt w p d c ws) (x : Nat) (hx : ws.length ≤ x) :
    Calls Tryz.prog 142 #[.pointer (some ⟨p, 0, none⟩), .int .i64 x] w (Ret (.tuple #[.int .u64 0, .int .i64 3]) (fun w' => Frm [d] w w' ∧ MemAt w' p d c ws)) := by
  have h0 : mErr ws.length 1 x = 3 := by unfold mErr; rw [if_neg (by omega), if_pos (by omega)]
  have h1 : mWs ws ⟨1, x, 0, 0⟩ = ws := by unfold mWs; simp only []; rw [h0]; rfl
  have h2 : (mRes ws ⟨1, x, 0, 0⟩).b = 0 := by unfold mRes; simp only []; rw [h0]; rfl
  refine (Load_mem hM x).mono fun e w' hh => ?_
  rw [h0, h1, h2] at hh
  exact hh
theorem Store_ok {w : World} {p d c : Nat} {ws : List Int} (hM : MemAt w p d c ws) (x : Nat) (v : Int) (hx : x < ws.length) :
    Calls Tryz.prog 217 #[.pointer (some ⟨p, 0, none⟩), .int .i64 x, .int .u64 v] w (Ret (.int .i64 0) (fun w' => Frm [d] w w' ∧ MemAt w' p d c (ws.set x v))) := by
  have h0 : mErr ws.length 2 x = 0 := by unfold mErr; rw [if_neg (by omega), if_neg (by omega)]
  have h1 : mWs ws ⟨2, x, 0, v⟩ = ws.set x v := by unfold mWs; simp only []; rw [if_pos h0]; simp [aft]
  refine (Store_mem hM x v).mono fun e w' hh => ?_
  rw [h0, h1] at hh
  exact hh
theorem Store_out {w : World} {p d c : Nat} {ws : List Int} (hM : MemAt w p d c ws) (x : Nat) (v : Int) (hx : ws.length ≤ x) :
    Calls Tryz.prog 217 #[.pointer (some ⟨p, 0, none⟩), .int .i64 x, .int .u64 v] w (Ret (.int .i64 3) (fun w' => Frm [d] w w' ∧ MemAt w' p d c ws)) := by
  have h0 : mErr ws.length 2 x = 3 := by unfold mErr; rw [if_neg (by omega), if_pos (by omega)]
  have h1 : mWs ws ⟨2, x, 0, v⟩ = ws := by unfold mWs; simp only []; rw [h0]; rfl
  refine (Store_mem hM x v).mono fun e w' hh => ?_
  rw [h0, h1] at hh
  exact hh
theorem Swap_ok {w : World} {p d c : Nat} {ws : List Int} (hM : MemAt w p d c ws) (x : Nat) (v u : Int) (hx : ws[x]? = some u) :
    Calls Tryz.prog 218 #[.pointer (some ⟨p, 0, none⟩), .int .i64 x, .int .u64 v] w (Ret (.tuple #[.int .u64 u, .int .i64 0]) (fun w' => Frm [d] w w' ∧ MemAt w' p d c (ws.set x v))) := by
  have hl : x < ws.length := (List.getElem?_eq_some_iff.1 hx).1
  have h0 : mErr ws.length 4 x = 0 := by unfold mErr; rw [if_neg (by omega), if_neg (by omega)]
  have hg : ws.getD (x : Int).toNat 0 = u := by rw [List.getD_eq_getElem?_getD, Int.toNat_natCast, hx]; rfl
  have h1 : mWs ws ⟨4, x, 0, v⟩ = ws.set x v := by unfold mWs; simp only []; rw [if_pos h0]; simp [aft]
  have h2 : (mRes ws ⟨4, x, 0, v⟩).b = u := by unfold mRes; simp only []; rw [if_pos h0]; exact hg
  refine (Swap_mem hM x v).mono fun e w' hh => ?_
  rw [h0, h1, h2] at hh
  exact hh
theorem Swap_out {w : World} {p d c : Nat} {ws : List Int} (hM : MemAt w p d c ws) (x : Nat) (v : Int) (hx : ws.length ≤ x) :
    Calls Tryz.prog 218 #[.pointer (some ⟨p, 0, none⟩), .int .i64 x, .int .u64 v] w (Ret (.tuple #[.int .u64 0, .int .i64 3]) (fun w' => Frm [d] w w' ∧ MemAt w' p d c ws)) := by
  have h0 : mErr ws.length 4 x = 3 := by unfold mErr; rw [if_neg (by omega), if_pos (by omega)]
  have h1 : mWs ws ⟨4, x, 0, v⟩ = ws := by unfold mWs; simp only []; rw [h0]; rfl
  have h2 : (mRes ws ⟨4, x, 0, v⟩).b = 0 := by unfold mRes; simp only []; rw [h0]; rfl
  refine (Swap_mem hM x v).mono fun e w' hh => ?_
  rw [h0, h1, h2] at hh
  exact hh
theorem CAS_yes {w : World} {p d c : Nat} {ws : List Int} (hM : MemAt w p d c ws) (x : Nat) (o v : Int) (hx : ws[x]? = some o) :
    Calls Tryz.prog 216 #[.pointer (some ⟨p, 0, none⟩), .int .i64 x, .int .u64 o, .int .u64 v] w (Ret (.tuple #[.bool true, .int .i64 0]) (fun w' => Frm [d] w w' ∧ MemAt w' p d c (ws.set x v))) := by
  have hl : x < ws.length := (List.getElem?_eq_some_iff.1 hx).1
  have h0 : mErr ws.length 3 x = 0 := by unfold mErr; rw [if_neg (by omega), if_neg (by omega)]
  have hg : ws.getD (x : Int).toNat 0 = o := by rw [List.getD_eq_getElem?_getD, Int.toNat_natCast, hx]; rfl
  have h1 : mWs ws ⟨3, x, o, v⟩ = ws.set x v := by unfold mWs; simp only []; rw [if_pos h0, hg]; simp [aft]
  have h2 : (mRes ws ⟨3, x, o, v⟩).b = o := by unfold mRes; simp only []; rw [if_pos h0]; exact hg
  refine (CAS_mem hM x o v).mono fun e w' hh => ?_
  rw [h0, h1, h2] at hh
  simpa using hh
theorem CAS_no {w : World} {p d c : Nat} {ws : List Int} (hM : MemAt w p d c ws) (x : Nat) (o v u : Int) (hx : ws[x]? = some u) (hne : u ≠ o) :
    Calls Tryz.prog 216 #[.pointer (some ⟨p, 0, none⟩), .int .i64 x, .int .u64 o, .int .u64 v] w (Ret (.tuple #[.bool false, .int .i64 0]) (fun w' => Frm [d] w w' ∧ MemAt w' p d c ws)) := by
  have hl : x < ws.length := (List.getElem?_eq_some_iff.1 hx).1
  have h0 : mErr ws.length 3 x = 0 := by unfold mErr; rw [if_neg (by omega), if_neg (by omega)]
  have hg : ws.getD (x : Int).toNat 0 = u := by rw [List.getD_eq_getElem?_getD, Int.toNat_natCast, hx]; rfl
  have h1 : mWs ws ⟨3, x, o, v⟩ = ws := by
    unfold mWs; simp only []; rw [if_pos h0, hg]; simp only [aft]
    rw [if_neg (by decide), if_pos (by decide), if_neg hne]
    apply List.ext_getElem?; intro j; rw [List.getElem?_set]; split
    · rename_i e; subst e; rw [if_pos (by simpa using hl)]; simpa using hx.symm
    · rfl
  have h2 : (mRes ws ⟨3, x, o, v⟩).b = u := by unfold mRes; simp only []; rw [if_pos h0]; exact hg
  have h3 : (u == o) = false := by simpa using hne
  refine (CAS_mem hM x o v).mono fun e w' hh => ?_
  rw [h0, h1, h2, h3] at hh
  simpa using hh
theorem CAS_out {w : World} {p d c : Nat} {ws : List Int} (hM : MemAt w p d c ws) (x : Nat) (o v : Int) (hx : ws.length ≤ x) :
    Calls Tryz.prog 216 #[.pointer (some ⟨p, 0, none⟩), .int .i64 x, .int .u64 o, .int .u64 v] w (Ret (.tuple #[.bool false, .int .i64 3]) (fun w' => Frm [d] w w' ∧ MemAt w' p d c ws)) := by
  have h0 : mErr ws.length 3 x = 3 := by unfold mErr; rw [if_neg (by omega), if_pos (by omega)]
  have h1 : mWs ws ⟨3, x, o, v⟩ = ws := by unfold mWs; simp only []; rw [h0]; rfl
  refine (CAS_mem hM x o v).mono fun e w' hh => ?_
  rw [h0, h1] at hh
  simpa using hh

/-! Where a program lies. -/
structure PgC (w : World) (q : Nat) (T : TypeId) (b t L k : Nat) (st met : Int) : Prop where
  obj : w.heap[q]? = some (.cells #[.int .i64 b, .int .i64 t, .int .i64 L, .int .i64 k, .int .i64 st, .int .u64 met] T (0, 0))
  t1 : 1 ≤ t
  t64 : t ≤ 64
  fit : b + 6 * t ≤ 65536
  kt : k < 2 * t
namespace PgC
variable {w w' : World} {q : Nat} {T : TypeId} {b t L k : Nat} {st met : Int}
theorem nd (h : PgC w q T b t L k st met) : Nd w q b t := .heap h.obj rfl rfl h.t1 h.t64
theorem lt (h : PgC w q T b t L k st met) : q < w.heap.size := lt_of_heap h.obj
theorem frm {D : List Nat} (h : PgC w q T b t L k st met) (hf : Frm D w w') (hd : q ∉ D) : PgC w' q T b t L k st met := ⟨hf.heap h.obj hd, h.t1, h.t64, h.fit, h.kt⟩
theorem setSt (h : PgC w q T b t L k st met) (v : Int) : PgC (w.setCell ⟨q, 4, none⟩ (.int .i64 v)) q T b t L k v met :=
  ⟨by have := heap_setCell_at (i := 4) (.int .i64 v) h.obj; simpa using this, h.t1, h.t64, h.fit, h.kt⟩
theorem setMet (h : PgC w q T b t L k st met) (v : Int) : PgC (w.setCell ⟨q, 5, none⟩ (.int .u64 v)) q T b t L k st v :=
  ⟨by have := heap_setCell_at (i := 5) (.int .u64 v) h.obj; simpa using this, h.t1, h.t64, h.fit, h.kt⟩
theorem cells (h : PgC w q T b t L k st met) : w.cell? ⟨q, 0, none⟩ = some (.int .i64 b) ∧ w.cell? ⟨q, 1, none⟩ = some (.int .i64 t) ∧ w.cell? ⟨q, 2, none⟩ = some (.int .i64 L) ∧ w.cell? ⟨q, 3, none⟩ = some (.int .i64 k) ∧ w.cell? ⟨q, 4, none⟩ = some (.int .i64 st) ∧ w.cell? ⟨q, 5, none⟩ = some (.int .u64 met) := by
  refine ⟨?_, ?_, ?_, ?_, ?_, ?_⟩ <;> rw [cell_of_heap h.obj] <;> rfl
theorem frz (h : PgC w q T b t L k st met) (i : Nat) : w.frozen? ⟨q, i, none⟩ = false := frozen_of_heap h.obj
end PgC

section
variable {w : World} {q : Nat} {T : TypeId} {b t L k : Nat} {st met : Int}

theorem cnone_pg (h : PgC w q T b t L k st met) : Calls Tryz.prog 193 #[.pointer (some ⟨q, 0, none⟩)] w (Ret (.bool false) (fun w' => w = w')) := by
  have H := Lib.hid h
  have hb : ((t : Int) == 0) = false := by have := h.t1; simp; omega
  clear h
  go_enter Tryz.func193, Tryz.ntmps193
  go_wp2_with fail
  refine (threads_nd H.out.nd).mono ?_
  rintro e w' ⟨rfl, rfl⟩
  go_wp2
  go_ret
  exact ⟨rfl, rfl⟩
theorem cdone_0 (h : PgC w q T b t L k 0 met) : Calls Tryz.prog 194 #[.pointer (some ⟨q, 0, none⟩)] w (Ret (.bool true) (fun w' => w = w')) := by
  obtain ⟨c0, c1, c2, c3, c4, c5⟩ := h.cells
  clear h
  go_enter Tryz.func194, Tryz.ntmps194
  go_wp2
  go_ret
  exact ⟨rfl, rfl⟩
theorem cdone_1 (h : PgC w q T b t L k st met) (hst : st ≠ 0) : Calls Tryz.prog 194 #[.pointer (some ⟨q, 0, none⟩)] w (Ret (.bool false) (fun w' => w = w')) := by
  obtain ⟨c0, c1, c2, c3, c4, c5⟩ := h.cells
  have hb : (st == 0) = false := by simpa using hst
  clear h
  go_enter Tryz.func194, Tryz.ntmps194
  go_wp2
  go_ret
  exact ⟨rfl, rfl⟩
theorem cresult_0 (h : PgC w q T b t L k 0 met) : Calls Tryz.prog 195 #[.pointer (some ⟨q, 0, none⟩)] w (Ret (.int .u64 1) (fun w' => w = w')) := by
  have H := Lib.hid h
  clear h
  go_enter Tryz.func195, Tryz.ntmps195
  go_wp2_with fail
  refine (cnone_pg H.out).mono ?_
  rintro e w' ⟨rfl, rfl⟩
  go_wp2_with fail
  refine (cdone_0 H.out).mono ?_
  rintro e w' ⟨rfl, rfl⟩
  go_wp2
  go_ret
  exact ⟨rfl, rfl⟩
theorem cresult_1 (h : PgC w q T b t L k st met) (hst : st ≠ 0) : Calls Tryz.prog 195 #[.pointer (some ⟨q, 0, none⟩)] w (Ret (.int .u64 0) (fun w' => w = w')) := by
  have H := Lib.hid h
  have HS := Lib.hid hst
  clear h hst
  go_enter Tryz.func195, Tryz.ntmps195
  go_wp2_with fail
  refine (cnone_pg H.out).mono ?_
  rintro e w' ⟨rfl, rfl⟩
  go_wp2_with fail
  refine (cdone_1 H.out HS.out).mono ?_
  rintro e w' ⟨rfl, rfl⟩
  go_wp2
  go_ret
  exact ⟨rfl, rfl⟩
theorem ref_q (h : PgC w q T b t L k st met) (n : Nat) : Calls Tryz.prog 180 #[.pointer (some ⟨q, 0, none⟩), .int .i64 k] (w.drewN n) fun e w'' => e = .returned (.tuple #[.int .u64 ((k : Int) + 1), .int .i64 0]) ∧ ∃ m, w'' = w.drewN m :=
  Calls.quiet_of_same ((ref_yes (h.nd.frm ((Frm.refl [] w).drewN n)) k h.kt).mono fun _ _ hh => ⟨hh.1, hh.2.symm⟩)
theorem cref_pg (h : PgC w q T b t L k st met) : Calls Tryz.prog 203 #[.pointer (some ⟨q, 0, none⟩)] w (fun e w' => ∃ m, Ret (.int .u64 ((k : Int) + 1)) (fun w' => w' = w.drewN m) e w') := by
  obtain ⟨c0, c1, c2, c3, c4, c5⟩ := h.cells
  have H := Lib.hid h
  clear h
  go_enter Tryz.func203, Tryz.ntmps203
  go_wp2_with fail
  go_quiet ((go_at_call 180; with_reducible exact ref_q H.out _))
  go_wp2
  go_ret
  exact ⟨_, rfl, rfl⟩
theorem node_q (h : PgC w q T b t L k st met) (x : Nat) (hx : x ≤ 2 * t) (n : Nat) : Calls Tryz.prog 106 #[.pointer (some ⟨q, 0, none⟩), .int .u64 x] (w.drewN n) fun e w'' => e = .returned (.tuple #[.int .i64 ((x : Int) - 1), .int .i64 0]) ∧ ∃ m, w'' = w.drewN m :=
  Calls.quiet_of_same ((node_yes (h.nd.frm ((Frm.refl [] w).drewN n)) x hx).mono fun _ _ hh => ⟨hh.1, hh.2.symm⟩)
theorem node_qn (h : PgC w q T b t L k st met) (x : Int) (hx : 2 * (t : Int) < x) (n : Nat) : Calls Tryz.prog 106 #[.pointer (some ⟨q, 0, none⟩), .int .u64 x] (w.drewN n) fun e w'' => e = .returned (.tuple #[.int .i64 0, .int .i64 12]) ∧ ∃ m, w'' = w.drewN m :=
  Calls.quiet_of_same ((node_no (h.nd.frm ((Frm.refl [] w).drewN n)) x hx).mono fun _ _ hh => ⟨hh.1, hh.2.symm⟩)
theorem cother_yes {x : Nat} (h : PgC w q T b t L k st (x : Int)) (hx : x ≤ 2 * t) : Calls Tryz.prog 205 #[.pointer (some ⟨q, 0, none⟩)] w (fun e w' => ∃ m, Ret (.tuple #[.int .i64 ((x : Int) - 1), .int .i64 0]) (fun w' => w' = w.drewN m) e w') := by
  obtain ⟨c0, c1, c2, c3, c4, c5⟩ := h.cells
  have H := Lib.hid h
  have HX := Lib.hid hx
  clear h hx
  go_enter Tryz.func205, Tryz.ntmps205
  go_wp2_with fail
  go_quiet ((go_at_call 106; with_reducible exact node_q H.out x HX.out _))
  go_wp2
  go_ret2
  exact ⟨_, rfl, rfl⟩
theorem cother_no (h : PgC w q T b t L k st met) (hx : 2 * (t : Int) < met) : Calls Tryz.prog 205 #[.pointer (some ⟨q, 0, none⟩)] w (fun e w' => ∃ m, Ret (.tuple #[.int .i64 0, .int .i64 12]) (fun w' => w' = w.drewN m) e w') := by
  obtain ⟨c0, c1, c2, c3, c4, c5⟩ := h.cells
  have H := Lib.hid h
  have HX := Lib.hid hx
  clear h hx
  go_enter Tryz.func205, Tryz.ntmps205
  go_wp2_with fail
  go_quiet ((go_at_call 106; with_reducible exact node_qn H.out met HX.out _))
  go_wp2
  go_ret2
  exact ⟨_, rfl, rfl⟩
theorem cmeet_pg (h : PgC w q T b t L k st met) (r s : Int) : Calls Tryz.prog 204 #[.pointer (some ⟨q, 0, none⟩), .int .u64 r, .int .i64 s] w (Ret (.tuple #[]) (fun w' => Frm [q] w w' ∧ PgC w' q T b t L k s r)) := by
  obtain ⟨c0, c1, c2, c3, c4, c5⟩ := h.cells
  have z4 := h.frz 4
  have z5 := h.frz 5
  have H := Lib.hid h
  clear h
  go_enter Tryz.func204, Tryz.ntmps204
  go_wp2
  go_end0
  exact ⟨rfl, ((Frm.refl [q] w).setCell _ _ (.inl (by simp))).setCell _ _ (.inl (by simp)), (H.out.setMet r).setSt s⟩
end
#print axioms cmeet_pg
end Go.Proofs.YticbbfcachnkiaaGreatDoor

/- Package mcs: store; the words of nodes. -/
namespace Go.Proofs.YticbbfcachnkiaaGreatDoor
open Go.ChangeShapes Go.WideShapes Go.ChangeAt Go.RowKit

theorem m_store (p : Nat) (w : World) : (method 369 24 (.pointer (some ⟨p, 0, none⟩)) "Store").run Tryz.prog w = .ok (217, .pointer (some ⟨p, 0, none⟩)) w := by kernel_rfl
theorem m_load (p : Nat) (w : World) : (method 358 24 (.pointer (some ⟨p, 0, none⟩)) "Load").run Tryz.prog w = .ok (142, .pointer (some ⟨p, 0, none⟩)) w := by kernel_rfl
theorem m_swap (p : Nat) (w : World) : (method 358 24 (.pointer (some ⟨p, 0, none⟩)) "Swap").run Tryz.prog w = .ok (218, .pointer (some ⟨p, 0, none⟩)) w := by kernel_rfl
theorem m_cas (p : Nat) (w : World) : (method 358 24 (.pointer (some ⟨p, 0, none⟩)) "CAS").run Tryz.prog w = .ok (216, .pointer (some ⟨p, 0, none⟩)) w := by kernel_rfl
theorem n_swap (p : Nat) (w : World) : (nilAhead 358 24 (.pointer (some ⟨p, 0, none⟩)) "Swap").run Tryz.prog w = .ok (some false) w := by kernel_rfl
theorem n_load (p : Nat) (w : World) : (nilAhead 358 24 (.pointer (some ⟨p, 0, none⟩)) "Load").run Tryz.prog w = .ok (some false) w := by kernel_rfl
theorem n_cas (p : Nat) (w : World) : (nilAhead 358 24 (.pointer (some ⟨p, 0, none⟩)) "CAS").run Tryz.prog w = .ok (some false) w := by kernel_rfl

section
variable {w : World} {p d c : Nat} {ws : List Int} {q : Nat} {T : TypeId} {b t L k : Nat} {st met : Int}

/-- What is true behind a step: the arena, the program. -/
def Aft (p d c q : Nat) (T : TypeId) (b t L k : Nat) (w : World) (ws : List Int) (st met : Int) (w' : World) : Prop :=
  Frm [d, q] w w' ∧ MemAt w' p d c ws ∧ PgC w' q T b t L k st met

set_option maxRecDepth 100000 in
theorem cstore_ok (hM : MemAt w p d c ws) (hP : PgC w q T b t L k st met) (hd : q ≠ d) (hp : q ≠ p) (x : Nat) (v s : Int) (hx : x < ws.length) :
    Calls Tryz.prog 199 #[.pointer (some ⟨q, 0, none⟩), .iface 24 (.pointer (some ⟨p, 0, none⟩)), .int .i64 x, .int .u64 v, .int .i64 s] w
      (Ret (.tuple #[.bool false, .int .i64 0]) (Aft p d c q T b t L k w (ws.set x v) s met)) := by
  have hm := m_store p
  have HM := Lib.hid hM
  have HP := Lib.hid hP
  have HX := Lib.hid hx
  clear hM hP hx
  go_enter Tryz.func199, Tryz.ntmps199
  go_wp2_with fail
  refine (Store_ok HM.out x v HX.out).mono ?_
  rintro e w1 ⟨rfl, hF1, hM1⟩
  have hP1 := HP.out.frm hF1 (by simpa using hd)
  obtain ⟨c0, c1, c2, c3, c4, c5⟩ := hP1.cells
  have z4 := hP1.frz 4
  have H1 := Lib.hid hP1
  have HM1 := Lib.hid hM1
  clear hP1 hM1
  go_wp2
  go_ret2
  exact ⟨rfl, (hF1.weak (by simp)).setCell _ _ (.inl (by simp)), HM1.out.setFar _ _ hp hd, H1.out.setSt s⟩
set_option maxRecDepth 100000 in
theorem cstore_out (hM : MemAt w p d c ws) (hP : PgC w q T b t L k st met) (hd : q ≠ d) (x : Nat) (v s : Int) (hx : ws.length ≤ x) :
    Calls Tryz.prog 199 #[.pointer (some ⟨q, 0, none⟩), .iface 24 (.pointer (some ⟨p, 0, none⟩)), .int .i64 x, .int .u64 v, .int .i64 s] w
      (Ret (.tuple #[.bool false, .int .i64 3]) (Aft p d c q T b t L k w ws st met)) := by
  have hm := m_store p
  have HM := Lib.hid hM
  have HP := Lib.hid hP
  have HX := Lib.hid hx
  clear hM hP hx
  go_enter Tryz.func199, Tryz.ntmps199
  go_wp2_with fail
  refine (Store_out HM.out x v HX.out).mono ?_
  rintro e w1 ⟨rfl, hF1, hM1⟩
  have hP1 := HP.out.frm hF1 (by simpa using hd)
  have H1 := Lib.hid hP1
  have HM1 := Lib.hid hM1
  clear hP1 hM1
  go_wp2
  go_ret2
  exact ⟨rfl, hF1.weak (by simp), HM1.out, H1.out⟩


/-- The words next and wait of a node. -/
def nxW (b k : Nat) : Nat := b + k * 3
def wtW (b k : Nat) : Nat := b + k * 3 + 1
theorem cnext (h : PgC w q T b t L k st met) : Calls Tryz.prog 120 #[.pointer (some ⟨q, 0, none⟩), .int .i64 k] w (Ret (.int .i64 (nxW b k : Nat)) (fun w' => w = w')) := by
  refine (next_yes h.nd h.fit k h.kt).mono fun e w' hh => ?_
  have : ((b : Int) + (k : Int) * 3 + 0) = ((nxW b k : Nat) : Int) := by unfold nxW; omega
  rw [this] at hh; exact hh
theorem cwait (h : PgC w q T b t L k st met) : Calls Tryz.prog 163 #[.pointer (some ⟨q, 0, none⟩), .int .i64 k] w (Ret (.int .i64 (wtW b k : Nat)) (fun w' => w = w')) := by
  refine (wait_yes h.nd h.fit k h.kt).mono fun e w' hh => ?_
  have : ((b : Int) + (k : Int) * 3 + 1) = ((wtW b k : Nat) : Int) := by unfold wtW; omega
  rw [this] at hh; exact hh
theorem cnextx (h : PgC w q T b t L k st met) (x : Nat) (h1 : 1 ≤ x) (h2 : x ≤ 2 * t) : Calls Tryz.prog 120 #[.pointer (some ⟨q, 0, none⟩), .int .i64 ((x : Int) - 1)] w (Ret (.int .i64 (nxW b (x - 1) : Nat)) (fun w' => w = w')) := by
  have e : ((x : Int) - 1) = ((x - 1 : Nat) : Int) := by omega
  rw [e]
  refine (next_yes h.nd h.fit (x - 1) (by omega)).mono fun e w' hh => ?_
  have : ((b : Int) + ((x - 1 : Nat) : Int) * 3 + 0) = ((nxW b (x - 1) : Nat) : Int) := by unfold nxW; omega
  rw [this] at hh; exact hh
theorem cwaitx (h : PgC w q T b t L k st met) (x : Nat) (h1 : 1 ≤ x) (h2 : x ≤ 2 * t) : Calls Tryz.prog 163 #[.pointer (some ⟨q, 0, none⟩), .int .i64 ((x : Int) - 1)] w (Ret (.int .i64 (wtW b (x - 1) : Nat)) (fun w' => w = w')) := by
  have e : ((x : Int) - 1) = ((x - 1 : Nat) : Int) := by omega
  rw [e]
  refine (wait_yes h.nd h.fit (x - 1) (by omega)).mono fun e w' hh => ?_
  have : ((b : Int) + ((x - 1 : Nat) : Int) * 3 + 1) = ((wtW b (x - 1) : Nat) : Int) := by unfold wtW; omega
  rw [this] at hh; exact hh
end
end Go.Proofs.YticbbfcachnkiaaGreatDoor
