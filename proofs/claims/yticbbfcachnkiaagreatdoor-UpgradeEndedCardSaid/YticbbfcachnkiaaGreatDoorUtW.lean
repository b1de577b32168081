/- Package latch: where a move lies; take, give (by gen_ltw.py). -/
import Derived.Test.YticbbfcachnkiaaGreatDoorUtR
import Derived.Test.YticbbfcachnkiaaGreatDoorBn10
namespace Go.Proofs.YticbbfcachnkiaaGreatDoor
open Go.ChangeShapes Go.WideShapes Go.ChangeAt Go.RowKit
set_option linter.unusedVariables false
set_option linter.unusedSimpArgs false

/-- A move: its thread, kind, mode, next step; what the words are now, what they are to say; what the first one waits for; who is woken; whether it was refused, and is to wait. -/
structure Mv where
  nb : Nat
  wd : Nat
  t : Nat
  k : Int
  md : Int
  nx : Int
  s0 : Nat
  s1 : Int
  s : LS
  fr : Int
  wk : List Int
  rf : Bool
  wt : Bool
def Mv.tri (m : Mv) : Nat × Nat × Nat := (m.t, m.nb, m.wd)
theorem tri_t {m m' : Mv} (h : m'.tri = m.tri) : m'.t = m.t := congrArg (·.1) h
theorem tri_b {m m' : Mv} (h : m'.tri = m.tri) : m'.nb = m.nb := congrArg (·.2.1) h
theorem tri_w {m m' : Mv} (h : m'.tri = m.tri) : m'.wd = m.wd := congrArg (·.2.2) h
/-- A move lies at q; its programs for the guard at qe and ql; a, n, c: the slice of who is woken. -/
structure MvAt (w : World) (q T qe ql : Nat) (a : Option Addr) (n c : Nat) (m : Mv) : Prop where
  obj : w.heap[q]? = some (.cells #[.int .i64 (m.nb : Int), .int .i64 (T : Int), .int .i64 (m.wd : Int), .int .i64 (m.t : Int), .int .i64 m.k, .int .i64 m.md, .int .i64 m.nx, .iface (Ip false) (.pointer (some ⟨qe, 0, none⟩)), .iface (Ip true) (.pointer (some ⟨ql, 0, none⟩)), .int .u64 (m.s0 : Int), .int .u64 m.s1, .int .u64 (m.s.sh : Int), .int .i64 m.s.up, .int .i64 m.s.ex, .int .i64 m.s.wa, .int .i64 m.s.gr, .int .i64 m.s.fi, .int .i64 m.s.la, .int .i64 m.fr, .slice a n c, .bool m.rf, .bool m.wt] 132 (0, 0))
  t1 : 1 ≤ T
  t64 : T ≤ 64
  tT : m.t < T
  fit : m.nb + 6 * T ≤ 65536
  wdf : m.wd + 3 ≤ 65536
namespace MvAt
variable {w w' : World} {q T qe ql : Nat} {a : Option Addr} {n c : Nat} {m : Mv}
theorem lt (h : MvAt w q T qe ql a n c m) : q < w.heap.size := lt_of_heap h.obj
theorem frm {D : List Nat} (h : MvAt w q T qe ql a n c m) (hf : Frm D w w') (hd : q ∉ D) : MvAt w' q T qe ql a n c m := ⟨hf.heap h.obj hd, h.t1, h.t64, h.tT, h.fit, h.wdf⟩
theorem drewN (h : MvAt w q T qe ql a n c m) (k : Nat) : MvAt (w.drewN k) q T qe ql a n c m := h.frm ((Frm.refl [] w).drewN k) (by simp)
theorem nd (h : MvAt w q T qe ql a n c m) : Nd w q m.nb T := .heap h.obj rfl rfl h.t1 h.t64
theorem cells (h : MvAt w q T qe ql a n c m) : w.cell? ⟨q, 0, none⟩ = some (.int .i64 (m.nb : Int)) ∧ w.cell? ⟨q, 1, none⟩ = some (.int .i64 (T : Int)) ∧ w.cell? ⟨q, 2, none⟩ = some (.int .i64 (m.wd : Int)) ∧ w.cell? ⟨q, 3, none⟩ = some (.int .i64 (m.t : Int)) ∧ w.cell? ⟨q, 4, none⟩ = some (.int .i64 m.k) ∧ w.cell? ⟨q, 5, none⟩ = some (.int .i64 m.md) ∧ w.cell? ⟨q, 6, none⟩ = some (.int .i64 m.nx) ∧ w.cell? ⟨q, 7, none⟩ = some (.iface (Ip false) (.pointer (some ⟨qe, 0, none⟩))) ∧ w.cell? ⟨q, 8, none⟩ = some (.iface (Ip true) (.pointer (some ⟨ql, 0, none⟩))) ∧ w.cell? ⟨q, 9, none⟩ = some (.int .u64 (m.s0 : Int)) ∧ w.cell? ⟨q, 10, none⟩ = some (.int .u64 m.s1) ∧ w.cell? ⟨q, 11, none⟩ = some (.int .u64 (m.s.sh : Int)) ∧ w.cell? ⟨q, 12, none⟩ = some (.int .i64 m.s.up) ∧ w.cell? ⟨q, 13, none⟩ = some (.int .i64 m.s.ex) ∧ w.cell? ⟨q, 14, none⟩ = some (.int .i64 m.s.wa) ∧ w.cell? ⟨q, 15, none⟩ = some (.int .i64 m.s.gr) ∧ w.cell? ⟨q, 16, none⟩ = some (.int .i64 m.s.fi) ∧ w.cell? ⟨q, 17, none⟩ = some (.int .i64 m.s.la) ∧ w.cell? ⟨q, 18, none⟩ = some (.int .i64 m.fr) ∧ w.cell? ⟨q, 19, none⟩ = some (.slice a n c) ∧ w.cell? ⟨q, 20, none⟩ = some (.bool m.rf) ∧ w.cell? ⟨q, 21, none⟩ = some (.bool m.wt) := by
  refine ⟨?_, ?_, ?_, ?_, ?_, ?_, ?_, ?_, ?_, ?_, ?_, ?_, ?_, ?_, ?_, ?_, ?_, ?_, ?_, ?_, ?_, ?_⟩ <;> rw [cell_of_heap h.obj] <;> rfl
theorem st (h : MvAt w q T qe ql a n c m) : StAt w q 11 m.s := by
  refine ⟨?_, ?_, ?_, ?_, ?_, ?_, ?_⟩ <;> rw [cell_of_heap h.obj] <;> rfl
theorem frz (h : MvAt w q T qe ql a n c m) (i : Nat) : w.frozen? ⟨q, i, none⟩ = false := frozen_of_heap h.obj
theorem set_nx (h : MvAt w q T qe ql a n c m) (v : Int) : MvAt (w.setCell ⟨q, 6, none⟩ (.int .i64 v)) q T qe ql a n c { m with nx := v } :=
  ⟨by have := heap_setCell_at (i := 6) (.int .i64 v) h.obj; simpa using this, h.t1, h.t64, h.tT, h.fit, h.wdf⟩
theorem set_s0 (h : MvAt w q T qe ql a n c m) (v : Nat) : MvAt (w.setCell ⟨q, 9, none⟩ (.int .u64 (v : Int))) q T qe ql a n c { m with s0 := v } :=
  ⟨by have := heap_setCell_at (i := 9) (.int .u64 (v : Int)) h.obj; simpa using this, h.t1, h.t64, h.tT, h.fit, h.wdf⟩
theorem set_s1 (h : MvAt w q T qe ql a n c m) (v : Int) : MvAt (w.setCell ⟨q, 10, none⟩ (.int .u64 v)) q T qe ql a n c { m with s1 := v } :=
  ⟨by have := heap_setCell_at (i := 10) (.int .u64 v) h.obj; simpa using this, h.t1, h.t64, h.tT, h.fit, h.wdf⟩
theorem set_sh (h : MvAt w q T qe ql a n c m) (v : Nat) : MvAt (w.setCell ⟨q, 11, none⟩ (.int .u64 (v : Int))) q T qe ql a n c { m with s := { m.s with sh := v } } :=
  ⟨by have := heap_setCell_at (i := 11) (.int .u64 (v : Int)) h.obj; simpa using this, h.t1, h.t64, h.tT, h.fit, h.wdf⟩
theorem set_up (h : MvAt w q T qe ql a n c m) (v : Int) : MvAt (w.setCell ⟨q, 12, none⟩ (.int .i64 v)) q T qe ql a n c { m with s := { m.s with up := v } } :=
  ⟨by have := heap_setCell_at (i := 12) (.int .i64 v) h.obj; simpa using this, h.t1, h.t64, h.tT, h.fit, h.wdf⟩
theorem set_ex (h : MvAt w q T qe ql a n c m) (v : Int) : MvAt (w.setCell ⟨q, 13, none⟩ (.int .i64 v)) q T qe ql a n c { m with s := { m.s with ex := v } } :=
  ⟨by have := heap_setCell_at (i := 13) (.int .i64 v) h.obj; simpa using this, h.t1, h.t64, h.tT, h.fit, h.wdf⟩
theorem set_wa (h : MvAt w q T qe ql a n c m) (v : Int) : MvAt (w.setCell ⟨q, 14, none⟩ (.int .i64 v)) q T qe ql a n c { m with s := { m.s with wa := v } } :=
  ⟨by have := heap_setCell_at (i := 14) (.int .i64 v) h.obj; simpa using this, h.t1, h.t64, h.tT, h.fit, h.wdf⟩
theorem set_gr (h : MvAt w q T qe ql a n c m) (v : Int) : MvAt (w.setCell ⟨q, 15, none⟩ (.int .i64 v)) q T qe ql a n c { m with s := { m.s with gr := v } } :=
  ⟨by have := heap_setCell_at (i := 15) (.int .i64 v) h.obj; simpa using this, h.t1, h.t64, h.tT, h.fit, h.wdf⟩
theorem set_fi (h : MvAt w q T qe ql a n c m) (v : Int) : MvAt (w.setCell ⟨q, 16, none⟩ (.int .i64 v)) q T qe ql a n c { m with s := { m.s with fi := v } } :=
  ⟨by have := heap_setCell_at (i := 16) (.int .i64 v) h.obj; simpa using this, h.t1, h.t64, h.tT, h.fit, h.wdf⟩
theorem set_la (h : MvAt w q T qe ql a n c m) (v : Int) : MvAt (w.setCell ⟨q, 17, none⟩ (.int .i64 v)) q T qe ql a n c { m with s := { m.s with la := v } } :=
  ⟨by have := heap_setCell_at (i := 17) (.int .i64 v) h.obj; simpa using this, h.t1, h.t64, h.tT, h.fit, h.wdf⟩
theorem set_fr (h : MvAt w q T qe ql a n c m) (v : Int) : MvAt (w.setCell ⟨q, 18, none⟩ (.int .i64 v)) q T qe ql a n c { m with fr := v } :=
  ⟨by have := heap_setCell_at (i := 18) (.int .i64 v) h.obj; simpa using this, h.t1, h.t64, h.tT, h.fit, h.wdf⟩
theorem set_rf (h : MvAt w q T qe ql a n c m) (v : Bool) : MvAt (w.setCell ⟨q, 20, none⟩ (.bool v)) q T qe ql a n c { m with rf := v } :=
  ⟨by have := heap_setCell_at (i := 20) (.bool v) h.obj; simpa using this, h.t1, h.t64, h.tT, h.fit, h.wdf⟩
theorem set_wt (h : MvAt w q T qe ql a n c m) (v : Bool) : MvAt (w.setCell ⟨q, 21, none⟩ (.bool v)) q T qe ql a n c { m with wt := v } :=
  ⟨by have := heap_setCell_at (i := 21) (.bool v) h.obj; simpa using this, h.t1, h.t64, h.tT, h.fit, h.wdf⟩
theorem set_wk (h : MvAt w q T qe ql a n c m) (a' : Option Addr) (n' c' : Nat) (l : List Int) : MvAt (w.setCell ⟨q, 19, none⟩ (.slice a' n' c')) q T qe ql a' n' c' { m with wk := l } :=
  ⟨by have := heap_setCell_at (i := 19) (.slice a' n' c') h.obj; simpa using this, h.t1, h.t64, h.tT, h.fit, h.wdf⟩
theorem of_eq {m' : Mv} (h : MvAt w q T qe ql a n c m) (e : m = m') : MvAt w q T qe ql a n c m' := e ▸ h
end MvAt
theorem two_lt (t : Nat) (h : t < 64) : 2 ^ t < 18446744073709551616 := by
  have : 2 ^ t < 2 ^ 64 := Nat.pow_lt_pow_right (by decide) h
  simpa using this
theorem u64_shl1 (t : Nat) (h : t < 64) : IntKind.u64.wrap (2 ^ t) = ((2 ^ t : Nat) : Int) := by
  have h1 := two_lt t h
  have e : ((2 : Int) ^ t) = ((2 ^ t : Nat) : Int) := by simp
  rw [e, IntKind.wrap_u64]
  generalize 2 ^ t = y at h1 ⊢
  omega
theorem u64_bic (x t : Nat) (hx : x < 18446744073709551616) (h : t < 64) : Go.bits BinOp.andNot IntKind.u64 (x : Int) (IntKind.u64.wrap (2 ^ t)) = ((x &&& (18446744073709551615 - 2 ^ t) : Nat) : Int) := by
  rw [u64_shl1 t h, u64_andNot_nat _ _ hx (two_lt t h)]
theorem u64_bis (x t : Nat) (hx : x < 18446744073709551616) (h : t < 64) : Go.bits BinOp.or IntKind.u64 (x : Int) (IntKind.u64.wrap (2 ^ t)) = ((x ||| 2 ^ t : Nat) : Int) := by
  rw [u64_shl1 t h, u64_or_nat _ _ hx (two_lt t h)]
section
variable {w : World} {q T qe ql : Nat} {a : Option Addr} {n c : Nat} {m : Mv}
set_option maxRecDepth 100000 in
set_option maxHeartbeats 4000000 in
theorem take_any (h : MvAt w q T qe ql a n c m) (t : Nat) (ht : t < 64) (hsh : m.s.sh < 18446744073709551616) :
    Calls Tryz.prog 176 #[.pointer (some ⟨q, 11, none⟩), .int .i64 (t : Int)] w (Ret (.tuple #[]) (fun w' => Frm [q] w w' ∧ MvAt w' q T qe ql a n c { m with s := m.s.take t })) := by
  have HO := Lib.hid (of_any h.st (t : Int) (by omega) (by omega) hsh)
  have HM := Lib.hid h
  obtain ⟨x, hx⟩ : ∃ x, x = m.s.sh &&& (18446744073709551615 - 2 ^ t) := ⟨_, rfl⟩
  have hb := u64_bic m.s.sh t hsh ht
  rw [← hx] at hb
  have HX := Lib.hid hx
  obtain ⟨c0, c1, c2, c3, c4, c5, c6, c7, c8, c9, c10, c11, c12, c13, c14, c15, c16, c17, c18, c19, c20, c21⟩ := h.cells
  have hbl := h.lt
  have z11 := h.frz 11
  have z12 := h.frz 12
  have z13 := h.frz 13
  have z15 := h.frz 15
  clear h hx
  have hcs : m.s.of t = 0 ∨ m.s.of t = 1 ∨ m.s.of t = 2 ∨ m.s.of t = 3 := by unfold LS.of; split; simp; split; simp; split <;> simp
  rcases hcs with e | e | e | e
  all_goals rw [e] at HO
  · have he : m.s.drop t = m.s := by simp [LS.drop, e]
    by_cases hz : m.s.sh = 0
    · have ez : ((m.s.sh : Int) == 0) = true := by simp [hz]
      have hE : m.s.take t = { m.s with gr := 0 } := by unfold LS.take LS.nil0; rw [he]; exact if_pos hz
      rw [hE]
      clear hE he hz e
      go_enter Tryz.func176, Tryz.ntmps176
      go_wp2_with fail
      refine HO.out.mono ?_
      rintro e w1 ⟨rfl, rfl⟩
      go_wp2
      go_end0
      exact ⟨rfl, ((Frm.refl [q] w).setCell ⟨q, 15, none⟩ (.int .i64 0) (.inl (by simp))), (HM.out.set_gr 0)⟩
    · have ez : ((m.s.sh : Int) == 0) = false := by simp; omega
      have hE : m.s.take t = m.s := by unfold LS.take LS.nil0; rw [he]; exact if_neg hz
      rw [hE]
      clear hE he hz e
      go_enter Tryz.func176, Tryz.ntmps176
      go_wp2_with fail
      refine HO.out.mono ?_
      rintro e w1 ⟨rfl, rfl⟩
      go_wp2
      go_end0
      exact ⟨rfl, (Frm.refl [q] w), HM.out⟩
  · have he : m.s.drop t = { m.s with sh := x } := by rw [HX.out]; simp [LS.drop, e]
    by_cases hz : x = 0
    · have ez : ((x : Int) == 0) = true := by simp [hz]
      have hE : m.s.take t = { m.s with sh := x, gr := 0 } := by unfold LS.take LS.nil0; rw [he]; exact if_pos hz
      rw [hE]
      clear hE he hz e
      go_enter Tryz.func176, Tryz.ntmps176
      go_wp2_with fail
      refine HO.out.mono ?_
      rintro e w1 ⟨rfl, rfl⟩
      go_wp2_with fail
      go_region
      go_wp2
      go_end0
      exact ⟨rfl, ((((Frm.refl [q] w).setCell ⟨q, 11, none⟩ (.int .u64 (x : Int)) (.inl (by simp))).setCell ⟨q, 15, none⟩ (.int .i64 0) (.inl (by simp))).drewN 1), (((HM.out.set_sh x).set_gr 0).drewN 1)⟩
    · have ez : ((x : Int) == 0) = false := by simp; omega
      have hE : m.s.take t = { m.s with sh := x } := by unfold LS.take LS.nil0; rw [he]; exact if_neg hz
      rw [hE]
      clear hE he hz e
      go_enter Tryz.func176, Tryz.ntmps176
      go_wp2_with fail
      refine HO.out.mono ?_
      rintro e w1 ⟨rfl, rfl⟩
      go_wp2_with fail
      go_region
      go_wp2
      go_end0
      exact ⟨rfl, (((Frm.refl [q] w).setCell ⟨q, 11, none⟩ (.int .u64 (x : Int)) (.inl (by simp))).drewN 1), ((HM.out.set_sh x).drewN 1)⟩
  · have he : m.s.drop t = { m.s with up := -1 } := by simp [LS.drop, e]
    by_cases hz : m.s.sh = 0
    · have ez : ((m.s.sh : Int) == 0) = true := by simp [hz]
      have hE : m.s.take t = { m.s with up := -1, gr := 0 } := by unfold LS.take LS.nil0; rw [he]; exact if_pos hz
      rw [hE]
      clear hE he hz e
      go_enter Tryz.func176, Tryz.ntmps176
      go_wp2_with fail
      refine HO.out.mono ?_
      rintro e w1 ⟨rfl, rfl⟩
      go_wp2
      go_end0
      exact ⟨rfl, (((Frm.refl [q] w).setCell ⟨q, 12, none⟩ (.int .i64 (-1)) (.inl (by simp))).setCell ⟨q, 15, none⟩ (.int .i64 0) (.inl (by simp))), ((HM.out.set_up (-1)).set_gr 0)⟩
    · have ez : ((m.s.sh : Int) == 0) = false := by simp; omega
      have hE : m.s.take t = { m.s with up := -1 } := by unfold LS.take LS.nil0; rw [he]; exact if_neg hz
      rw [hE]
      clear hE he hz e
      go_enter Tryz.func176, Tryz.ntmps176
      go_wp2_with fail
      refine HO.out.mono ?_
      rintro e w1 ⟨rfl, rfl⟩
      go_wp2
      go_end0
      exact ⟨rfl, ((Frm.refl [q] w).setCell ⟨q, 12, none⟩ (.int .i64 (-1)) (.inl (by simp))), (HM.out.set_up (-1))⟩
  · have he : m.s.drop t = { m.s with ex := -1 } := by simp [LS.drop, e]
    by_cases hz : m.s.sh = 0
    · have ez : ((m.s.sh : Int) == 0) = true := by simp [hz]
      have hE : m.s.take t = { m.s with ex := -1, gr := 0 } := by unfold LS.take LS.nil0; rw [he]; exact if_pos hz
      rw [hE]
      clear hE he hz e
      go_enter Tryz.func176, Tryz.ntmps176
      go_wp2_with fail
      refine HO.out.mono ?_
      rintro e w1 ⟨rfl, rfl⟩
      go_wp2
      go_end0
      exact ⟨rfl, (((Frm.refl [q] w).setCell ⟨q, 13, none⟩ (.int .i64 (-1)) (.inl (by simp))).setCell ⟨q, 15, none⟩ (.int .i64 0) (.inl (by simp))), ((HM.out.set_ex (-1)).set_gr 0)⟩
    · have ez : ((m.s.sh : Int) == 0) = false := by simp; omega
      have hE : m.s.take t = { m.s with ex := -1 } := by unfold LS.take LS.nil0; rw [he]; exact if_neg hz
      rw [hE]
      clear hE he hz e
      go_enter Tryz.func176, Tryz.ntmps176
      go_wp2_with fail
      refine HO.out.mono ?_
      rintro e w1 ⟨rfl, rfl⟩
      go_wp2
      go_end0
      exact ⟨rfl, ((Frm.refl [q] w).setCell ⟨q, 13, none⟩ (.int .i64 (-1)) (.inl (by simp))), (HM.out.set_ex (-1))⟩
theorem LS.take_sh (s : LS) (t : Int) : (s.take t).sh ≤ s.sh := by
  have h1 : (s.drop t).sh ≤ s.sh := by unfold LS.drop; split; exact Nat.and_le_left; split; exact Nat.le_refl _; split <;> exact Nat.le_refl _
  unfold LS.take LS.nil0; split <;> exact h1
set_option maxRecDepth 100000 in
set_option maxHeartbeats 4000000 in
theorem give_any (h : MvAt w q T qe ql a n c m) (t : Nat) (ht : t < 64) (md : Int) (hmd : md = 1 ∨ md = 2 ∨ md = 3) (hsh : m.s.sh < 18446744073709551616) (hgr : 0 ≤ (m.s.take t).gr ∧ (m.s.take t).gr ≤ 4) :
    Calls Tryz.prog 175 #[.pointer (some ⟨q, 11, none⟩), .int .i64 (t : Int), .int .i64 md] w (Ret (.tuple #[]) (fun w' => Frm [q] w w' ∧ MvAt w' q T qe ql a n c { m with s := m.s.give t md })) := by
  have HT := Lib.hid (take_any h t ht hsh)
  have hsh2 := Nat.lt_of_le_of_lt (m.s.take_sh t) hsh
  obtain ⟨x, hx⟩ : ∃ x, x = (m.s.take t).sh ||| 2 ^ t := ⟨_, rfl⟩
  have hb := u64_bis (m.s.take t).sh t hsh2 ht
  rw [← hx] at hb
  have HX := Lib.hid hx
  obtain ⟨g0, g4⟩ := hgr
  clear h hx hsh
  rcases hmd with rfl | rfl | rfl
  · have hP : m.s.give t 1 = { m.s.take t with sh := x, gr := min ((m.s.take t).gr + 1) 4 } := by rw [HX.out]; simp [LS.give, LS.put]
    rw [hP]
    clear hP
    by_cases hg : (4 : Int) < (m.s.take t).gr + 1
    · have eg : decide ((4 : Int) < (m.s.take t).gr + 1) = true := by simpa using hg
      have eh : decide ((m.s.take t).gr + 1 ≤ (4 : Int)) = false := by simp; omega
      have hmin : min ((m.s.take t).gr + 1) 4 = 4 := by omega
      rw [hmin]
      clear hmin hg
      go_enter Tryz.func175, Tryz.ntmps175
      go_wp2_with fail
      refine HT.out.mono ?_
      rintro e w1 ⟨rfl, hF, hM⟩
      obtain ⟨c0, c1, c2, c3, c4, c5, c6, c7, c8, c9, c10, c11, c12, c13, c14, c15, c16, c17, c18, c19, c20, c21⟩ := hM.cells
      have hbl := hM.lt
      have z11 := hM.frz 11
      have z12 := hM.frz 12
      have z13 := hM.frz 13
      have z15 := hM.frz 15
      have HF := Lib.hid hF
      have HM := Lib.hid hM
      clear hF hM
      go_wp2_with fail
      go_region
      go_wp2
      all_goals try (exfalso; simp at eg; omega)
      go_end0
      exact ⟨rfl, ((HF.out.setCell ⟨q, 11, none⟩ (.int .u64 (x : Int)) (.inl (by simp))).drewN 1).setCell ⟨q, 15, none⟩ (.int .i64 4) (.inl (by simp)), ((HM.out.set_sh x).drewN 1).set_gr 4⟩
    · have eg : decide ((4 : Int) < (m.s.take t).gr + 1) = false := by simpa using hg
      have eh : decide ((m.s.take t).gr + 1 ≤ (4 : Int)) = true := by simp; omega
      have hmin : min ((m.s.take t).gr + 1) 4 = (m.s.take t).gr + 1 := by omega
      rw [hmin]
      clear hmin hg
      go_enter Tryz.func175, Tryz.ntmps175
      go_wp2_with fail
      refine HT.out.mono ?_
      rintro e w1 ⟨rfl, hF, hM⟩
      obtain ⟨c0, c1, c2, c3, c4, c5, c6, c7, c8, c9, c10, c11, c12, c13, c14, c15, c16, c17, c18, c19, c20, c21⟩ := hM.cells
      have hbl := hM.lt
      have z11 := hM.frz 11
      have z12 := hM.frz 12
      have z13 := hM.frz 13
      have z15 := hM.frz 15
      have HF := Lib.hid hF
      have HM := Lib.hid hM
      clear hF hM
      go_wp2_with fail
      go_region
      go_wp2
      all_goals try (exfalso; simp at eg; omega)
      go_end0
      exact ⟨rfl, ((HF.out.setCell ⟨q, 11, none⟩ (.int .u64 (x : Int)) (.inl (by simp))).drewN 1).setCell ⟨q, 15, none⟩ (.int .i64 ((m.s.take t).gr + 1)) (.inl (by simp)), ((HM.out.set_sh x).drewN 1).set_gr ((m.s.take t).gr + 1)⟩
  · have hP : m.s.give t 2 = { m.s.take t with up := t } := by simp [LS.give, LS.put]
    rw [hP]
    clear hP
    go_enter Tryz.func175, Tryz.ntmps175
    go_wp2_with fail
    refine HT.out.mono ?_
    rintro e w1 ⟨rfl, hF, hM⟩
    obtain ⟨c0, c1, c2, c3, c4, c5, c6, c7, c8, c9, c10, c11, c12, c13, c14, c15, c16, c17, c18, c19, c20, c21⟩ := hM.cells
    have hbl := hM.lt
    have z11 := hM.frz 11
    have z12 := hM.frz 12
    have z13 := hM.frz 13
    have z15 := hM.frz 15
    have HF := Lib.hid hF
    have HM := Lib.hid hM
    clear hF hM
    go_wp2
    go_end0
    exact ⟨rfl, HF.out.setCell ⟨q, 12, none⟩ (.int .i64 (t : Int)) (.inl (by simp)), HM.out.set_up t⟩
  · have hP : m.s.give t 3 = { m.s.take t with ex := t } := by simp [LS.give, LS.put]
    rw [hP]
    clear hP
    go_enter Tryz.func175, Tryz.ntmps175
    go_wp2_with fail
    refine HT.out.mono ?_
    rintro e w1 ⟨rfl, hF, hM⟩
    obtain ⟨c0, c1, c2, c3, c4, c5, c6, c7, c8, c9, c10, c11, c12, c13, c14, c15, c16, c17, c18, c19, c20, c21⟩ := hM.cells
    have hbl := hM.lt
    have z11 := hM.frz 11
    have z12 := hM.frz 12
    have z13 := hM.frz 13
    have z15 := hM.frz 15
    have HF := Lib.hid hF
    have HM := Lib.hid hM
    clear hF hM
    go_wp2
    go_end0
    exact ⟨rfl, HF.out.setCell ⟨q, 13, none⟩ (.int .i64 (t : Int)) (.inl (by simp)), HM.out.set_ex t⟩
end
end Go.Proofs.YticbbfcachnkiaaGreatDoor
