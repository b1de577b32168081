/- LtW, LtX, LtY, Ap in one text (by mkbundle.py). -/
import Derived.Test.YtjhidkjhfgbaeaaGreatDoorLtR
import Derived.Test.YtjhidkjhfgbaeaaGreatDoorBn10
import Derived.Test.YtjhidkjhfgbaeaaGreatDoorBn2
import Derived.Maps.AppendAt
import Derived.Deep.RegionHeld3
/- Package latch: where a move lies; take, give (by gen_ltw.py). -/
namespace Go.Proofs.YtjhidkjhfgbaeaaGreatDoor
open Go.ChangeShapes Go.WideShapes Go.ChangeAt Go.RowKit
set_option linter.unusedVariables false
set_option linter.unusedSimpArgs false

/-- A move: its thread, kind, mode, next step; what the words are now, what they are to say; what the first one waits for; who is woken; whether it was refused, and is to wait. -/
structure Mv where
  t : Nat
  k : Int
  md : Int
  nx : Int
  s0 : Nat
  s1 : Int
  s : LS
  fr : Int
  wk : List Int
  rf : Bool
  wt : Bool
/-- A move lies at q; its programs for the guard at qe and ql; a, n, c: the slice of who is woken. -/
structure MvAt (w : World) (q T qe ql : Nat) (a : Option Addr) (n c : Nat) (m : Mv) : Prop where
  obj : w.heap[q]? = some (.cells #[.int .i64 3, .int .i64 (T : Int), .int .i64 0, .int .i64 (m.t : Int), .int .i64 m.k, .int .i64 m.md, .int .i64 m.nx, .iface (Ip false) (.pointer (some ⟨qe, 0, none⟩)), .iface (Ip true) (.pointer (some ⟨ql, 0, none⟩)), .int .u64 (m.s0 : Int), .int .u64 m.s1, .int .u64 (m.s.sh : Int), .int .i64 m.s.up, .int .i64 m.s.ex, .int .i64 m.s.wa, .int .i64 m.s.gr, .int .i64 m.s.fi, .int .i64 m.s.la, .int .i64 m.fr, .slice a n c, .bool m.rf, .bool m.wt] 91 (0, 0))
  t1 : 1 ≤ T
  t64 : T ≤ 64
  tT : m.t < T
namespace MvAt
variable {w w' : World} {q T qe ql : Nat} {a : Option Addr} {n c : Nat} {m : Mv}
theorem lt (h : MvAt w q T qe ql a n c m) : q < w.heap.size := lt_of_heap h.obj
theorem frm {D : List Nat} (h : MvAt w q T qe ql a n c m) (hf : Frm D w w') (hd : q ∉ D) : MvAt w' q T qe ql a n c m := ⟨hf.heap h.obj hd, h.t1, h.t64, h.tT⟩
theorem drewN (h : MvAt w q T qe ql a n c m) (k : Nat) : MvAt (w.drewN k) q T qe ql a n c m := h.frm ((Frm.refl [] w).drewN k) (by simp)
theorem nd (h : MvAt w q T qe ql a n c m) : Nd w q 3 T := .heap h.obj rfl rfl h.t1 h.t64
theorem cells (h : MvAt w q T qe ql a n c m) : w.cell? ⟨q, 0, none⟩ = some (.int .i64 3) ∧ w.cell? ⟨q, 1, none⟩ = some (.int .i64 (T : Int)) ∧ w.cell? ⟨q, 2, none⟩ = some (.int .i64 0) ∧ w.cell? ⟨q, 3, none⟩ = some (.int .i64 (m.t : Int)) ∧ w.cell? ⟨q, 4, none⟩ = some (.int .i64 m.k) ∧ w.cell? ⟨q, 5, none⟩ = some (.int .i64 m.md) ∧ w.cell? ⟨q, 6, none⟩ = some (.int .i64 m.nx) ∧ w.cell? ⟨q, 7, none⟩ = some (.iface (Ip false) (.pointer (some ⟨qe, 0, none⟩))) ∧ w.cell? ⟨q, 8, none⟩ = some (.iface (Ip true) (.pointer (some ⟨ql, 0, none⟩))) ∧ w.cell? ⟨q, 9, none⟩ = some (.int .u64 (m.s0 : Int)) ∧ w.cell? ⟨q, 10, none⟩ = some (.int .u64 m.s1) ∧ w.cell? ⟨q, 11, none⟩ = some (.int .u64 (m.s.sh : Int)) ∧ w.cell? ⟨q, 12, none⟩ = some (.int .i64 m.s.up) ∧ w.cell? ⟨q, 13, none⟩ = some (.int .i64 m.s.ex) ∧ w.cell? ⟨q, 14, none⟩ = some (.int .i64 m.s.wa) ∧ w.cell? ⟨q, 15, none⟩ = some (.int .i64 m.s.gr) ∧ w.cell? ⟨q, 16, none⟩ = some (.int .i64 m.s.fi) ∧ w.cell? ⟨q, 17, none⟩ = some (.int .i64 m.s.la) ∧ w.cell? ⟨q, 18, none⟩ = some (.int .i64 m.fr) ∧ w.cell? ⟨q, 19, none⟩ = some (.slice a n c) ∧ w.cell? ⟨q, 20, none⟩ = some (.bool m.rf) ∧ w.cell? ⟨q, 21, none⟩ = some (.bool m.wt) := by
  refine ⟨?_, ?_, ?_, ?_, ?_, ?_, ?_, ?_, ?_, ?_, ?_, ?_, ?_, ?_, ?_, ?_, ?_, ?_, ?_, ?_, ?_, ?_⟩ <;> rw [cell_of_heap h.obj] <;> rfl
theorem st (h : MvAt w q T qe ql a n c m) : StAt w q 11 m.s := by
  refine ⟨?_, ?_, ?_, ?_, ?_, ?_, ?_⟩ <;> rw [cell_of_heap h.obj] <;> rfl
theorem frz (h : MvAt w q T qe ql a n c m) (i : Nat) : w.frozen? ⟨q, i, none⟩ = false := frozen_of_heap h.obj
theorem set_nx (h : MvAt w q T qe ql a n c m) (v : Int) : MvAt (w.setCell ⟨q, 6, none⟩ (.int .i64 v)) q T qe ql a n c { m with nx := v } :=
  ⟨by have := heap_setCell_at (i := 6) (.int .i64 v) h.obj; simpa using this, h.t1, h.t64, h.tT⟩
theorem set_s0 (h : MvAt w q T qe ql a n c m) (v : Nat) : MvAt (w.setCell ⟨q, 9, none⟩ (.int .u64 (v : Int))) q T qe ql a n c { m with s0 := v } :=
  ⟨by have := heap_setCell_at (i := 9) (.int .u64 (v : Int)) h.obj; simpa using this, h.t1, h.t64, h.tT⟩
theorem set_s1 (h : MvAt w q T qe ql a n c m) (v : Int) : MvAt (w.setCell ⟨q, 10, none⟩ (.int .u64 v)) q T qe ql a n c { m with s1 := v } :=
  ⟨by have := heap_setCell_at (i := 10) (.int .u64 v) h.obj; simpa using this, h.t1, h.t64, h.tT⟩
theorem set_sh (h : MvAt w q T qe ql a n c m) (v : Nat) : MvAt (w.setCell ⟨q, 11, none⟩ (.int .u64 (v : Int))) q T qe ql a n c { m with s := { m.s with sh := v } } :=
  ⟨by have := heap_setCell_at (i := 11) (.int .u64 (v : Int)) h.obj; simpa using this, h.t1, h.t64, h.tT⟩
theorem set_up (h : MvAt w q T qe ql a n c m) (v : Int) : MvAt (w.setCell ⟨q, 12, none⟩ (.int .i64 v)) q T qe ql a n c { m with s := { m.s with up := v } } :=
  ⟨by have := heap_setCell_at (i := 12) (.int .i64 v) h.obj; simpa using this, h.t1, h.t64, h.tT⟩
theorem set_ex (h : MvAt w q T qe ql a n c m) (v : Int) : MvAt (w.setCell ⟨q, 13, none⟩ (.int .i64 v)) q T qe ql a n c { m with s := { m.s with ex := v } } :=
  ⟨by have := heap_setCell_at (i := 13) (.int .i64 v) h.obj; simpa using this, h.t1, h.t64, h.tT⟩
theorem set_wa (h : MvAt w q T qe ql a n c m) (v : Int) : MvAt (w.setCell ⟨q, 14, none⟩ (.int .i64 v)) q T qe ql a n c { m with s := { m.s with wa := v } } :=
  ⟨by have := heap_setCell_at (i := 14) (.int .i64 v) h.obj; simpa using this, h.t1, h.t64, h.tT⟩
theorem set_gr (h : MvAt w q T qe ql a n c m) (v : Int) : MvAt (w.setCell ⟨q, 15, none⟩ (.int .i64 v)) q T qe ql a n c { m with s := { m.s with gr := v } } :=
  ⟨by have := heap_setCell_at (i := 15) (.int .i64 v) h.obj; simpa using this, h.t1, h.t64, h.tT⟩
theorem set_fi (h : MvAt w q T qe ql a n c m) (v : Int) : MvAt (w.setCell ⟨q, 16, none⟩ (.int .i64 v)) q T qe ql a n c { m with s := { m.s with fi := v } } :=
  ⟨by have := heap_setCell_at (i := 16) (.int .i64 v) h.obj; simpa using this, h.t1, h.t64, h.tT⟩
theorem set_la (h : MvAt w q T qe ql a n c m) (v : Int) : MvAt (w.setCell ⟨q, 17, none⟩ (.int .i64 v)) q T qe ql a n c { m with s := { m.s with la := v } } :=
  ⟨by have := heap_setCell_at (i := 17) (.int .i64 v) h.obj; simpa using this, h.t1, h.t64, h.tT⟩
theorem set_fr (h : MvAt w q T qe ql a n c m) (v : Int) : MvAt (w.setCell ⟨q, 18, none⟩ (.int .i64 v)) q T qe ql a n c { m with fr := v } :=
  ⟨by have := heap_setCell_at (i := 18) (.int .i64 v) h.obj; simpa using this, h.t1, h.t64, h.tT⟩
theorem set_rf (h : MvAt w q T qe ql a n c m) (v : Bool) : MvAt (w.setCell ⟨q, 20, none⟩ (.bool v)) q T qe ql a n c { m with rf := v } :=
  ⟨by have := heap_setCell_at (i := 20) (.bool v) h.obj; simpa using this, h.t1, h.t64, h.tT⟩
theorem set_wt (h : MvAt w q T qe ql a n c m) (v : Bool) : MvAt (w.setCell ⟨q, 21, none⟩ (.bool v)) q T qe ql a n c { m with wt := v } :=
  ⟨by have := heap_setCell_at (i := 21) (.bool v) h.obj; simpa using this, h.t1, h.t64, h.tT⟩
theorem set_wk (h : MvAt w q T qe ql a n c m) (a' : Option Addr) (n' c' : Nat) (l : List Int) : MvAt (w.setCell ⟨q, 19, none⟩ (.slice a' n' c')) q T qe ql a' n' c' { m with wk := l } :=
  ⟨by have := heap_setCell_at (i := 19) (.slice a' n' c') h.obj; simpa using this, h.t1, h.t64, h.tT⟩
theorem of_eq {m' : Mv} (h : MvAt w q T qe ql a n c m) (e : m = m') : MvAt w q T qe ql a n c m' := e ▸ h
end MvAt
theorem two_lt (t : Nat) (h : t < 64) : 2 ^ t < 18446744073709551616 := by
  have : 2 ^ t < 2 ^ 64 := Nat.pow_lt_pow_right (by decide) h
  simpa using this
theorem u64_shl1 (t : Nat) (h : t < 64) : IntKind.u64.wrap (2 ^ t) = ((2 ^ t : Nat) : Int) := by
  have h1 := two_lt t h
  have e : ((2 : Int) ^ t) = ((2 ^ t : Nat) : Int) := by simp
  rw [e, IntKind.wrap_u64]
  generalize 2 ^ t = y at h1 ⊢
  omega
theorem u64_bic (x t : Nat) (hx : x < 18446744073709551616) (h : t < 64) : Go.bits BinOp.andNot IntKind.u64 (x : Int) (IntKind.u64.wrap (2 ^ t)) = ((x &&& (18446744073709551615 - 2 ^ t) : Nat) : Int) := by
  rw [u64_shl1 t h, u64_andNot_nat _ _ hx (two_lt t h)]
theorem u64_bis (x t : Nat) (hx : x < 18446744073709551616) (h : t < 64) : Go.bits BinOp.or IntKind.u64 (x : Int) (IntKind.u64.wrap (2 ^ t)) = ((x ||| 2 ^ t : Nat) : Int) := by
  rw [u64_shl1 t h, u64_or_nat _ _ hx (two_lt t h)]
section
variable {w : World} {q T qe ql : Nat} {a : Option Addr} {n c : Nat} {m : Mv}
set_option maxRecDepth 100000 in
set_option maxHeartbeats 4000000 in
theorem take_any (h : MvAt w q T qe ql a n c m) (t : Nat) (ht : t < 64) (hsh : m.s.sh < 18446744073709551616) :
    Calls Tryz.prog 163 #[.pointer (some ⟨q, 11, none⟩), .int .i64 (t : Int)] w (Ret (.tuple #[]) (fun w' => Frm [q] w w' ∧ MvAt w' q T qe ql a n c { m with s := m.s.take t })) := by
  have HO := Lib.hid (of_any h.st (t : Int) (by omega) (by omega) hsh)
  have HM := Lib.hid h
  obtain ⟨x, hx⟩ : ∃ x, x = m.s.sh &&& (18446744073709551615 - 2 ^ t) := ⟨_, rfl⟩
  have hb := u64_bic m.s.sh t hsh ht
  rw [← hx] at hb
  have HX := Lib.hid hx
  obtain ⟨c0, c1, c2, c3, c4, c5, c6, c7, c8, c9, c10, c11, c12, c13, c14, c15, c16, c17, c18, c19, c20, c21⟩ := h.cells
  have hbl := h.lt
  have z11 := h.frz 11
  have z12 := h.frz 12
  have z13 := h.frz 13
  have z15 := h.frz 15
  clear h hx
  have hcs : m.s.of t = 0 ∨ m.s.of t = 1 ∨ m.s.of t = 2 ∨ m.s.of t = 3 := by unfold LS.of; split; simp; split; simp; split <;> simp
  rcases hcs with e | e | e | e
  all_goals rw [e] at HO
  · have he : m.s.drop t = m.s := by simp [LS.drop, e]
    by_cases hz : m.s.sh = 0
    · have ez : ((m.s.sh : Int) == 0) = true := by simp [hz]
      have hE : m.s.take t = { m.s with gr := 0 } := by unfold LS.take LS.nil0; rw [he]; exact if_pos hz
      rw [hE]
      clear hE he hz e
      go_enter Tryz.func163, Tryz.ntmps163
      go_wp2_with fail
      refine HO.out.mono ?_
      rintro e w1 ⟨rfl, rfl⟩
      go_wp2
      go_end0
      exact ⟨rfl, ((Frm.refl [q] w).setCell ⟨q, 15, none⟩ (.int .i64 0) (.inl (by simp))), (HM.out.set_gr 0)⟩
    · have ez : ((m.s.sh : Int) == 0) = false := by simp; omega
      have hE : m.s.take t = m.s := by unfold LS.take LS.nil0; rw [he]; exact if_neg hz
      rw [hE]
      clear hE he hz e
      go_enter Tryz.func163, Tryz.ntmps163
      go_wp2_with fail
      refine HO.out.mono ?_
      rintro e w1 ⟨rfl, rfl⟩
      go_wp2
      go_end0
      exact ⟨rfl, (Frm.refl [q] w), HM.out⟩
  · have he : m.s.drop t = { m.s with sh := x } := by rw [HX.out]; simp [LS.drop, e]
    by_cases hz : x = 0
    · have ez : ((x : Int) == 0) = true := by simp [hz]
      have hE : m.s.take t = { m.s with sh := x, gr := 0 } := by unfold LS.take LS.nil0; rw [he]; exact if_pos hz
      rw [hE]
      clear hE he hz e
      go_enter Tryz.func163, Tryz.ntmps163
      go_wp2_with fail
      refine HO.out.mono ?_
      rintro e w1 ⟨rfl, rfl⟩
      go_wp2_with fail
      go_region
      go_wp2
      go_end0
      exact ⟨rfl, ((((Frm.refl [q] w).setCell ⟨q, 11, none⟩ (.int .u64 (x : Int)) (.inl (by simp))).setCell ⟨q, 15, none⟩ (.int .i64 0) (.inl (by simp))).drewN 1), (((HM.out.set_sh x).set_gr 0).drewN 1)⟩
    · have ez : ((x : Int) == 0) = false := by simp; omega
      have hE : m.s.take t = { m.s with sh := x } := by unfold LS.take LS.nil0; rw [he]; exact if_neg hz
      rw [hE]
      clear hE he hz e
      go_enter Tryz.func163, Tryz.ntmps163
      go_wp2_with fail
      refine HO.out.mono ?_
      rintro e w1 ⟨rfl, rfl⟩
      go_wp2_with fail
      go_region
      go_wp2
      go_end0
      exact ⟨rfl, (((Frm.refl [q] w).setCell ⟨q, 11, none⟩ (.int .u64 (x : Int)) (.inl (by simp))).drewN 1), ((HM.out.set_sh x).drewN 1)⟩
  · have he : m.s.drop t = { m.s with up := -1 } := by simp [LS.drop, e]
    by_cases hz : m.s.sh = 0
    · have ez : ((m.s.sh : Int) == 0) = true := by simp [hz]
      have hE : m.s.take t = { m.s with up := -1, gr := 0 } := by unfold LS.take LS.nil0; rw [he]; exact if_pos hz
      rw [hE]
      clear hE he hz e
      go_enter Tryz.func163, Tryz.ntmps163
      go_wp2_with fail
      refine HO.out.mono ?_
      rintro e w1 ⟨rfl, rfl⟩
      go_wp2
      go_end0
      exact ⟨rfl, (((Frm.refl [q] w).setCell ⟨q, 12, none⟩ (.int .i64 (-1)) (.inl (by simp))).setCell ⟨q, 15, none⟩ (.int .i64 0) (.inl (by simp))), ((HM.out.set_up (-1)).set_gr 0)⟩
    · have ez : ((m.s.sh : Int) == 0) = false := by simp; omega
      have hE : m.s.take t = { m.s with up := -1 } := by unfold LS.take LS.nil0; rw [he]; exact if_neg hz
      rw [hE]
      clear hE he hz e
      go_enter Tryz.func163, Tryz.ntmps163
      go_wp2_with fail
      refine HO.out.mono ?_
      rintro e w1 ⟨rfl, rfl⟩
      go_wp2
      go_end0
      exact ⟨rfl, ((Frm.refl [q] w).setCell ⟨q, 12, none⟩ (.int .i64 (-1)) (.inl (by simp))), (HM.out.set_up (-1))⟩
  · have he : m.s.drop t = { m.s with ex := -1 } := by simp [LS.drop, e]
    by_cases hz : m.s.sh = 0
    · have ez : ((m.s.sh : Int) == 0) = true := by simp [hz]
      have hE : m.s.take t = { m.s with ex := -1, gr := 0 } := by unfold LS.take LS.nil0; rw [he]; exact if_pos hz
      rw [hE]
      clear hE he hz e
      go_enter Tryz.func163, Tryz.ntmps163
      go_wp2_with fail
      refine HO.out.mono ?_
      rintro e w1 ⟨rfl, rfl⟩
      go_wp2
      go_end0
      exact ⟨rfl, (((Frm.refl [q] w).setCell ⟨q, 13, none⟩ (.int .i64 (-1)) (.inl (by simp))).setCell ⟨q, 15, none⟩ (.int .i64 0) (.inl (by simp))), ((HM.out.set_ex (-1)).set_gr 0)⟩
    · have ez : ((m.s.sh : Int) == 0) = false := by simp; omega
      have hE : m.s.take t = { m.s with ex := -1 } := by unfold LS.take LS.nil0; rw [he]; exact if_neg hz
      rw [hE]
      clear hE he hz e
      go_enter Tryz.func163, Tryz.ntmps163
      go_wp2_with fail
      refine HO.out.mono ?_
      rintro e w1 ⟨rfl, rfl⟩
      go_wp2
      go_end0
      exact ⟨rfl, ((Frm.refl [q] w).setCell ⟨q, 13, none⟩ (.int .i64 (-1)) (.inl (by simp))), (HM.out.set_ex (-1))⟩
theorem LS.take_sh (s : LS) (t : Int) : (s.take t).sh ≤ s.sh := by
  have h1 : (s.drop t).sh ≤ s.sh := by unfold LS.drop; split; exact Nat.and_le_left; split; exact Nat.le_refl _; split <;> exact Nat.le_refl _
  unfold LS.take LS.nil0; split <;> exact h1
set_option maxRecDepth 100000 in
set_option maxHeartbeats 4000000 in
theorem give_any (h : MvAt w q T qe ql a n c m) (t : Nat) (ht : t < 64) (md : Int) (hmd : md = 1 ∨ md = 2 ∨ md = 3) (hsh : m.s.sh < 18446744073709551616) (hgr : 0 ≤ (m.s.take t).gr ∧ (m.s.take t).gr ≤ 4) :
    Calls Tryz.prog 155 #[.pointer (some ⟨q, 11, none⟩), .int .i64 (t : Int), .int .i64 md] w (Ret (.tuple #[]) (fun w' => Frm [q] w w' ∧ MvAt w' q T qe ql a n c { m with s := m.s.give t md })) := by
  have HT := Lib.hid (take_any h t ht hsh)
  have hsh2 := Nat.lt_of_le_of_lt (m.s.take_sh t) hsh
  obtain ⟨x, hx⟩ : ∃ x, x = (m.s.take t).sh ||| 2 ^ t := ⟨_, rfl⟩
  have hb := u64_bis (m.s.take t).sh t hsh2 ht
  rw [← hx] at hb
  have HX := Lib.hid hx
  obtain ⟨g0, g4⟩ := hgr
  clear h hx hsh
  rcases hmd with rfl | rfl | rfl
  · have hP : m.s.give t 1 = { m.s.take t with sh := x, gr := min ((m.s.take t).gr + 1) 4 } := by rw [HX.out]; simp [LS.give, LS.put]
    rw [hP]
    clear hP
    by_cases hg : (4 : Int) < (m.s.take t).gr + 1
    · have eg : decide ((4 : Int) < (m.s.take t).gr + 1) = true := by simpa using hg
      have eh : decide ((m.s.take t).gr + 1 ≤ (4 : Int)) = false := by simp; omega
      have hmin : min ((m.s.take t).gr + 1) 4 = 4 := by omega
      rw [hmin]
      clear hmin hg
      go_enter Tryz.func155, Tryz.ntmps155
      go_wp2_with fail
      refine HT.out.mono ?_
      rintro e w1 ⟨rfl, hF, hM⟩
      obtain ⟨c0, c1, c2, c3, c4, c5, c6, c7, c8, c9, c10, c11, c12, c13, c14, c15, c16, c17, c18, c19, c20, c21⟩ := hM.cells
      have hbl := hM.lt
      have z11 := hM.frz 11
      have z12 := hM.frz 12
      have z13 := hM.frz 13
      have z15 := hM.frz 15
      have HF := Lib.hid hF
      have HM := Lib.hid hM
      clear hF hM
      go_wp2_with fail
      go_region
      go_wp2
      all_goals try (exfalso; simp at eg; omega)
      go_end0
      exact ⟨rfl, ((HF.out.setCell ⟨q, 11, none⟩ (.int .u64 (x : Int)) (.inl (by simp))).drewN 1).setCell ⟨q, 15, none⟩ (.int .i64 4) (.inl (by simp)), ((HM.out.set_sh x).drewN 1).set_gr 4⟩
    · have eg : decide ((4 : Int) < (m.s.take t).gr + 1) = false := by simpa using hg
      have eh : decide ((m.s.take t).gr + 1 ≤ (4 : Int)) = true := by simp; omega
      have hmin : min ((m.s.take t).gr + 1) 4 = (m.s.take t).gr + 1 := by omega
      rw [hmin]
      clear hmin hg
      go_enter Tryz.func155, Tryz.ntmps155
      go_wp2_with fail
      refine HT.out.mono ?_
      rintro e w1 ⟨rfl, hF, hM⟩
      obtain ⟨c0, c1, c2, c3, c4, c5, c6, c7, c8, c9, c10, c11, c12, c13, c14, c15, c16, c17, c18, c19, c20, c21⟩ := hM.cells
      have hbl := hM.lt
      have z11 := hM.frz 11
      have z12 := hM.frz 12
      have z13 := hM.frz 13
      have z15 := hM.frz 15
      have HF := Lib.hid hF
      have HM := Lib.hid hM
      clear hF hM
      go_wp2_with fail
      go_region
      go_wp2
      all_goals try (exfalso; simp at eg; omega)
      go_end0
      exact ⟨rfl, ((HF.out.setCell ⟨q, 11, none⟩ (.int .u64 (x : Int)) (.inl (by simp))).drewN 1).setCell ⟨q, 15, none⟩ (.int .i64 ((m.s.take t).gr + 1)) (.inl (by simp)), ((HM.out.set_sh x).drewN 1).set_gr ((m.s.take t).gr + 1)⟩
  · have hP : m.s.give t 2 = { m.s.take t with up := t } := by simp [LS.give, LS.put]
    rw [hP]
    clear hP
    go_enter Tryz.func155, Tryz.ntmps155
    go_wp2_with fail
    refine HT.out.mono ?_
    rintro e w1 ⟨rfl, hF, hM⟩
    obtain ⟨c0, c1, c2, c3, c4, c5, c6, c7, c8, c9, c10, c11, c12, c13, c14, c15, c16, c17, c18, c19, c20, c21⟩ := hM.cells
    have hbl := hM.lt
    have z11 := hM.frz 11
    have z12 := hM.frz 12
    have z13 := hM.frz 13
    have z15 := hM.frz 15
    have HF := Lib.hid hF
    have HM := Lib.hid hM
    clear hF hM
    go_wp2
    go_end0
    exact ⟨rfl, HF.out.setCell ⟨q, 12, none⟩ (.int .i64 (t : Int)) (.inl (by simp)), HM.out.set_up t⟩
  · have hP : m.s.give t 3 = { m.s.take t with ex := t } := by simp [LS.give, LS.put]
    rw [hP]
    clear hP
    go_enter Tryz.func155, Tryz.ntmps155
    go_wp2_with fail
    refine HT.out.mono ?_
    rintro e w1 ⟨rfl, hF, hM⟩
    obtain ⟨c0, c1, c2, c3, c4, c5, c6, c7, c8, c9, c10, c11, c12, c13, c14, c15, c16, c17, c18, c19, c20, c21⟩ := hM.cells
    have hbl := hM.lt
    have z11 := hM.frz 11
    have z12 := hM.frz 12
    have z13 := hM.frz 13
    have z15 := hM.frz 15
    have HF := Lib.hid hF
    have HM := Lib.hid hM
    clear hF hM
    go_wp2
    go_end0
    exact ⟨rfl, HF.out.setCell ⟨q, 13, none⟩ (.int .i64 (t : Int)) (.inl (by simp)), HM.out.set_ex t⟩
end
end Go.Proofs.YtjhidkjhfgbaeaaGreatDoor

/- Package latch: node, finish, refuse, standLast, park (by gen_ltx.py). -/
namespace Go.Proofs.YtjhidkjhfgbaeaaGreatDoor
open Go.ChangeShapes Go.WideShapes Go.ChangeAt Go.RowKit
set_option linter.unusedVariables false
set_option linter.unusedSimpArgs false

/-- The numbers of a state are those of threads and nodes that there are. -/
structure Gd (T : Nat) (s : LS) : Prop where
  sh : s.sh < 18446744073709551616
  up : -1 ≤ s.up ∧ s.up < T
  ex : -1 ≤ s.ex ∧ s.ex < T
  wa : -1 ≤ s.wa ∧ s.wa < T
  gr : 0 ≤ s.gr ∧ s.gr ≤ 4
  fi : -1 ≤ s.fi ∧ s.fi < 2 * T
  la : -1 ≤ s.la ∧ s.la < 2 * T
namespace Gd
variable {T : Nat} {s : LS}
theorem fit (h : Gd T s) (hT : T ≤ 64) : s.Fit := ⟨h.sh, ⟨h.up.1, by have := h.up.2; omega⟩, ⟨h.ex.1, by have := h.ex.2; omega⟩, ⟨h.wa.1, by have := h.wa.2; omega⟩, h.gr, ⟨h.fi.1, by have := h.fi.2; omega⟩, ⟨h.la.1, by have := h.la.2; omega⟩⟩
theorem drop (h : Gd T s) (t : Int) : Gd T (s.drop t) := by
  unfold LS.drop
  split
  · exact ⟨Nat.lt_of_le_of_lt Nat.and_le_left h.sh, h.up, h.ex, h.wa, h.gr, h.fi, h.la⟩
  · split
    · exact ⟨h.sh, ⟨Int.le_refl _, by have := h.up; show (-1 : Int) < T; omega⟩, h.ex, h.wa, h.gr, h.fi, h.la⟩
    · split
      · exact ⟨h.sh, h.up, ⟨Int.le_refl _, by have := h.up; show (-1 : Int) < T; omega⟩, h.wa, h.gr, h.fi, h.la⟩
      · exact h
theorem nil0 (h : Gd T s) : Gd T s.nil0 := by
  unfold LS.nil0
  split
  · exact ⟨h.sh, h.up, h.ex, h.wa, ⟨Int.le_refl _, by show (0 : Int) ≤ 4; decide⟩, h.fi, h.la⟩
  · exact h
theorem take (h : Gd T s) (t : Int) : Gd T (s.take t) := (h.drop t).nil0
theorem put (h : Gd T s) (t : Nat) (ht : t < T) (hT : T ≤ 64) (md : Int) : Gd T (s.put t md) := by
  unfold LS.put
  have h2 : 2 ^ t < 18446744073709551616 := two_lt t (by omega)
  split
  · exact ⟨by show s.sh ||| 2 ^ (Int.toNat (t : Int)) < _; rw [Int.toNat_natCast]; exact Nat.or_lt_two_pow (n := 64) h.sh h2, h.up, h.ex, h.wa, by have := h.gr; constructor <;> (show _ ≤ _; simp only []; omega), h.fi, h.la⟩
  · split
    · exact ⟨h.sh, ⟨by show (-1 : Int) ≤ t; omega, by show (t : Int) < T; omega⟩, h.ex, h.wa, h.gr, h.fi, h.la⟩
    · split
      · exact ⟨h.sh, h.up, ⟨by show (-1 : Int) ≤ t; omega, by show (t : Int) < T; omega⟩, h.wa, h.gr, h.fi, h.la⟩
      · exact h
theorem give (h : Gd T s) (t : Nat) (ht : t < T) (hT : T ≤ 64) (md : Int) : Gd T (s.give t md) := (h.take t).put t ht hT md
end Gd
theorem may_gd {T : Nat} {s : LS} (hT : T ≤ 64) (h : s.may T = true) : Gd T s := by
  have hf := may_fi h
  simp [LS.may, LS.mayB, LS.mayC, isT] at h
  obtain ⟨⟨⟨⟨h1, h2⟩, h3⟩, h4⟩, h5, ⟨h6, h7⟩, h8⟩ := h
  have hp : 2 ^ T ≤ 2 ^ 64 := Nat.pow_le_pow_right (by decide) hT
  refine ⟨by have : (2 : Nat) ^ 64 = 18446744073709551616 := by decide
             omega, by omega, by omega, by omega, by omega, ?_, ?_⟩
  · rcases hf with ⟨g, _⟩ | ⟨g, _⟩
    · omega
    · have := isL_le g; omega
  · rcases hf with ⟨_, g⟩ | ⟨_, g⟩
    · omega
    · have := isL_le g; omega

namespace Mv
def fin (m : Mv) : Int := if m.s0 ≠ m.s.sh then 10 else if m.s1 ≠ m.s.w1 then 11 else if m.wk = [] then 13 else 12
def finish (m : Mv) : Mv := { m with nx := m.fin }
def refuse (m : Mv) : Mv := { m with rf := true }.finish
def nd (m : Mv) : Int := 2 * (m.t : Int) + 1
def standLast (m : Mv) : Mv := { m with s := { m.s with fi := if m.s.fi = -1 then m.nd else m.s.fi, la := m.nd } }.finish
def park (m : Mv) : Mv := if m.k = 2 then m.finish else if m.s.la = -1 then m.standLast else { m with nx := 7 }
end Mv
section
variable {w : World} {q T qe ql : Nat} {a : Option Addr} {n c : Nat} {m : Mv}
theorem node_any (h : MvAt w q T qe ql a n c m) : Calls Tryz.prog 129 #[.pointer (some ⟨q, 0, none⟩)] w (fun e w' => ∃ k, Ret (.int .i64 m.nd) (fun w' => w' = w.drewN k) e w') := by
  have hn : (m.t : Int) * 2 + ((1 : Nat) : Int) = m.nd := by unfold Mv.nd; omega
  have HO : Hid (Qt 105 #[.pointer (some ⟨q, 0, none⟩), .int .i64 (m.t : Int), .int .i64 1] (.tuple #[.int .i64 m.nd, .int .i64 0]) w) := Lib.hid (Qt.of fun w' hf => by
    have := of_yes (h.nd.frm hf) m.t 1 h.tT (by decide)
    rw [hn] at this
    exact this)
  obtain ⟨c0, c1, c2, c3, c4, c5, c6, c7, c8, c9, c10, c11, c12, c13, c14, c15, c16, c17, c18, c19, c20, c21⟩ := h.cells
  have hbl := h.lt
  clear h hn
  go_enter Tryz.func129, Tryz.ntmps129
  go_wp2_with fail
  go_quiet ((go_at_call 105; with_reducible exact HO.out.at_ _))
  go_wp2
  go_ret
  exact ⟨_, rfl, rfl⟩
noncomputable def finT (k : Nat) : Code := dropS k (Tryz.f133.body.getD .skip)
set_option maxRecDepth 1000000 in
set_option maxHeartbeats 4000000 in
theorem finEnd {W : World} {g : Nat} (hF : Frm [q] w W) (h : MvAt W q T qe ql a n c m) (hn : n = m.wk.length) (hg : W.heap[g]? = some (.cells #[.int .u64 (m.s.sh : Int), .int .u64 m.s.w1] 27 (0, 0))) (v1 v3 v4 v5 v6 v7 v8 v9 v10 v11 v12 v13 v14 v15 v16 v17 v18 v19 v20 v21 v22 v23 v24 v25 v26 v27 v28 v29 v30 v31 v32 v33 v34 v35 v36 v37 v38 v39 v40 v41 v42 v43 v44 v45 v46 : Value) :
    Code.wp Tryz.prog (finT 1) (bodyPost Tryz.prog Tryz.f133 (Ret (.tuple #[]) (fun w' => Frm [q] w w' ∧ MvAt w' q T qe ql a n c m.finish))) ⟨List.toArray (.pointer (some ⟨q, 0, none⟩) :: v1 :: .pointer (some ⟨g, 0, none⟩) :: v3 :: v4 :: v5 :: v6 :: v7 :: v8 :: v9 :: v10 :: v11 :: v12 :: v13 :: v14 :: v15 :: v16 :: v17 :: v18 :: v19 :: v20 :: v21 :: v22 :: v23 :: v24 :: v25 :: v26 :: v27 :: v28 :: v29 :: v30 :: v31 :: v32 :: v33 :: v34 :: v35 :: v36 :: v37 :: v38 :: v39 :: v40 :: v41 :: v42 :: v43 :: v44 :: v45 :: v46 :: []), []⟩ W := by
  have HF := Lib.hid hF
  have HM := Lib.hid h
  obtain ⟨c0, c1, c2, c3, c4, c5, c6, c7, c8, c9, c10, c11, c12, c13, c14, c15, c16, c17, c18, c19, c20, c21⟩ := h.cells
  obtain ⟨y0, y1⟩ := cells2 hg
  have hbl := h.lt
  have hgl := lt_of_heap hg
  have z6 := h.frz 6
  clear h hF hg
  by_cases e0 : m.s0 = m.s.sh
  · have f0 : ((m.s0 : Int) != (m.s.sh : Int)) = false := by simp [e0]
    have HE0 := Lib.hid e0
    clear e0
    by_cases e1 : m.s1 = m.s.w1
    · have f1 : (m.s1 != m.s.w1) = false := by simp [e1]
      have HE1 := Lib.hid e1
      clear e1
      by_cases e2 : m.wk = []
      · have f2 : decide ((0 : Int) < n) = false := by simp [hn, e2]
        have f3 : n = 0 := by simp [hn, e2]
        have hfin : m.fin = 13 := by unfold Mv.fin; rw [if_neg (by simp [HE0.out]), if_neg (by simp [HE1.out]), if_pos e2]
        rw [show m.finish = { m with nx := 13 } from by unfold Mv.finish; rw [hfin]]
        clear hfin e2 hn
        conv => arg 2; whnf
        go_wp2_with fail
        go_quiet (fail)
        go_wp2_with fail
        go_quiet (fail)
        go_wp2
        go_end0
        exact ⟨rfl, (HF.out.drewN _).setCell ⟨q, 6, none⟩ (.int .i64 13) (.inl (by simp)), (HM.out.drewN _).set_nx 13⟩
      · have f2 : decide ((0 : Int) < n) = true := by have := List.length_pos_iff.2 e2; simp; omega
        have f3 : 0 < n := by simpa using f2
        have hfin : m.fin = 12 := by unfold Mv.fin; rw [if_neg (by simp [HE0.out]), if_neg (by simp [HE1.out]), if_neg e2]
        rw [show m.finish = { m with nx := 12 } from by unfold Mv.finish; rw [hfin]]
        clear hfin e2 hn
        conv => arg 2; whnf
        go_wp2_with fail
        go_quiet (fail)
        go_wp2_with fail
        go_quiet (fail)
        go_wp2
        go_end0
        exact ⟨rfl, (HF.out.drewN _).setCell ⟨q, 6, none⟩ (.int .i64 12) (.inl (by simp)), (HM.out.drewN _).set_nx 12⟩
    · have f1 : (m.s1 != m.s.w1) = true := by simp [e1]
      have hfin : m.fin = 11 := by unfold Mv.fin; rw [if_neg (by simp [HE0.out]), if_pos e1]
      rw [show m.finish = { m with nx := 11 } from by unfold Mv.finish; rw [hfin]]
      clear hfin e1 hn
      conv => arg 2; whnf
      go_wp2_with fail
      go_quiet (fail)
      go_wp2_with fail
      go_quiet (fail)
      go_wp2
      go_end0
      exact ⟨rfl, (HF.out.drewN _).setCell ⟨q, 6, none⟩ (.int .i64 11) (.inl (by simp)), (HM.out.drewN _).set_nx 11⟩
  · have f0 : ((m.s0 : Int) != (m.s.sh : Int)) = true := by simp; omega
    have hfin : m.fin = 10 := by unfold Mv.fin; rw [if_pos e0]
    rw [show m.finish = { m with nx := 10 } from by unfold Mv.finish; rw [hfin]]
    clear hfin e0 hn
    conv => arg 2; whnf
    go_wp2_with fail
    go_quiet (fail)
    go_wp2
    go_end0
    exact ⟨rfl, (HF.out.drewN _).setCell ⟨q, 6, none⟩ (.int .i64 10) (.inl (by simp)), (HM.out.drewN _).set_nx 10⟩
set_option maxRecDepth 1000000 in
set_option maxHeartbeats 4000000 in
theorem finish_any (h : MvAt w q T qe ql a n c m) (hn : n = m.wk.length) (hg : Gd T m.s) :
    Calls Tryz.prog 133 #[.pointer (some ⟨q, 0, none⟩)] w (Ret (.tuple #[]) (fun w' => Frm [q] w w' ∧ MvAt w' q T qe ql a n c m.finish)) := by
  have HM : Hid (∀ w', Frm [] w w' → MvAt w' q T qe ql a n c m) := Lib.hid fun w' hf => h.frm hf (by simp)
  have HW : Hid (∀ w', Frm [] w w' → Calls Tryz.prog 77 #[.pointer (some ⟨q, 11, none⟩), .pointer (some ⟨q, 0, none⟩)] w' (Ret (.agg #[.int .u64 m.s.sh, .int .u64 m.s.w1]) (fun x => Frm [] w' x))) := Lib.hid fun w' hf => words_any (h.st.frm hf (by simp)) (h.nd.frm hf) (hg.fit h.t64) hg.fi.2 hg.la.2
  have hz : ∀ w', Frm [] (w.alloc (.cells #[.int .u64 0, .int .u64 0] 27)) w' → (w'.cell? ⟨w.heap.size, 0, none⟩ = some (.int .u64 0) ∧ w'.cell? ⟨w.heap.size, 1, none⟩ = some (.int .u64 0)) ∧ w'.frozen? ⟨w.heap.size, 0, none⟩ = false ∧ w'.frozen? ⟨w.heap.size, 1, none⟩ = false ∧ w.heap.size < w'.heap.size := fun w' hf => by
    have := hf.heap (heap_alloc_new _ _) (by simp)
    exact ⟨cells2 this, frozen_of_heap this, frozen_of_heap this, lt_of_heap this⟩
  have HZ := Lib.hid hz
  have hbl := h.lt
  clear h hz
  go_enter Tryz.func133, Tryz.ntmps133
  refine wp_seq_k ?_
  intro K hK
  have HK := Lib.hid hK
  clear hK
  go_region_held3 (fun w' => Frm [] w w') (repeat' (first | assumption | exact Frm.refl _ _ | apply Frm.drew | apply Frm.drewN | apply Frm.alloc | (refine Frm.setCell ?_ _ _ (.inr (Nat.le_refl _))) | (refine Frm.trans ?_ g1))) ((go_at_call 77; (with_reducible refine (HW.out _ (by assumption)).mono ?_); rintro e w1 ⟨rfl, g1⟩; first | (have g2 : Frm [] (w.alloc (.cells #[.int .u64 0, .int .u64 0] 27)) w1 := (Frm.refl [] (w.alloc (.cells #[.int .u64 0, .int .u64 0] 27))).drew.trans g1; obtain ⟨⟨t0, t1⟩, u0, u1, tl⟩ := HZ.out _ g2) | (have g2 : Frm [] (w.alloc (.cells #[.int .u64 0, .int .u64 0] 27)) w1 := g1; obtain ⟨⟨t0, t1⟩, u0, u1, tl⟩ := HZ.out _ g2) | skip))
  · have hF : Frm [] w (w1.alloc (.cells #[.int .u64 (m.s.sh : Int), .int .u64 m.s.w1] 27)) := by assumption
    refine HK.out _ _ ?_
    exact finEnd (g := w1.heap.size) hF.nil (HM.out _ hF) hn (heap_alloc_new _ _) _ _ _ _ _ _ _ _ _ _ _ _ _ _ _ _ _ _ _ _ _ _ _ _ _ _ _ _ _ _ _ _ _ _ _ _ _ _ _ _ _ _ _ _ _
  · have hF : Frm [] w ((w1.setCell ⟨w.heap.size, 0, none⟩ (.int .u64 (m.s.sh : Int))).setCell ⟨w.heap.size, 1, none⟩ (.int .u64 m.s.w1)) := (((((Frm.refl [] w).alloc _).trans g2).setCell _ _ (.inr (Nat.le_refl _))).setCell _ _ (.inr (Nat.le_refl _)))
    have hB := g2.heap (heap_alloc_new _ _) (by simp)
    refine HK.out _ _ ?_
    exact finEnd (g := w.heap.size) hF.nil (HM.out _ hF) hn (heap_setCell_at (i := 1) _ (heap_setCell_at (i := 0) _ hB)) _ _ _ _ _ _ _ _ _ _ _ _ _ _ _ _ _ _ _ _ _ _ _ _ _ _ _ _ _ _ _ _ _ _ _ _ _ _ _ _ _ _ _ _ _
end
end Go.Proofs.YtjhidkjhfgbaeaaGreatDoor

/- Package latch: refuse, standLast, park (by gen_lty.py). -/
namespace Go.Proofs.YtjhidkjhfgbaeaaGreatDoor
open Go.ChangeShapes Go.WideShapes Go.ChangeAt Go.RowKit
set_option linter.unusedVariables false
set_option linter.unusedSimpArgs false
section
variable {w : World} {q T qe ql : Nat} {a : Option Addr} {n c : Nat} {m : Mv}
set_option maxRecDepth 1000000 in
set_option maxHeartbeats 4000000 in
theorem refuse_any (h : MvAt w q T qe ql a n c m) (hn : n = m.wk.length) (hg : Gd T m.s) :
    Calls Tryz.prog 162 #[.pointer (some ⟨q, 0, none⟩)] w (Ret (.tuple #[]) (fun w' => Frm [q] w w' ∧ MvAt w' q T qe ql a n c m.refuse)) := by
  have HF : Hid (Frm [q] w (w.setCell ⟨q, 20, none⟩ (.bool true))) := Lib.hid ((Frm.refl _ _).setCell _ _ (.inl (by simp)))
  have H := Lib.hid (finish_any (h.set_rf true) hn hg)
  obtain ⟨c0, c1, c2, c3, c4, c5, c6, c7, c8, c9, c10, c11, c12, c13, c14, c15, c16, c17, c18, c19, c20, c21⟩ := h.cells
  have hbl := h.lt
  have z := h.frz 20
  clear h
  go_enter Tryz.func162, Tryz.ntmps162
  go_wp2_with fail
  refine H.out.mono ?_
  rintro e w1 ⟨rfl, hF, hM⟩
  have HF1 := Lib.hid (HF.out.trans hF)
  have HM := Lib.hid hM
  clear hF hM
  go_wp2
  go_end0
  exact ⟨rfl, HF1.out, HM.out⟩
set_option maxRecDepth 1000000 in
set_option maxHeartbeats 4000000 in
theorem stand_any (h : MvAt w q T qe ql a n c m) (hn : n = m.wk.length) (hg : Gd T m.s) :
    Calls Tryz.prog 159 #[.pointer (some ⟨q, 0, none⟩)] w (Ret (.tuple #[]) (fun w' => Frm [q] w w' ∧ MvAt w' q T qe ql a n c m.standLast)) := by
  have hnd : -1 ≤ m.nd ∧ m.nd < 2 * T := by have := h.tT; unfold Mv.nd; omega
  have HN := Lib.hid (node_any h)
  obtain ⟨c0, c1, c2, c3, c4, c5, c6, c7, c8, c9, c10, c11, c12, c13, c14, c15, c16, c17, c18, c19, c20, c21⟩ := h.cells
  have hbl := h.lt
  have z16 := h.frz 16
  have z17 := h.frz 17
  by_cases hf : m.s.fi = -1
  · have hE : m.standLast = { m with s := { m.s with fi := m.nd, la := m.nd } }.finish := by unfold Mv.standLast; rw [if_pos hf]
    rw [hE]
    go_enter Tryz.func159, Tryz.ntmps159
    go_wp2_with fail
    refine HN.out.mono ?_
    rintro e w1 ⟨k, rfl, rfl⟩
    have H := Lib.hid (finish_any (m := { m with s := { m.s with fi := m.nd, la := m.nd } }) ((((h.drewN k).set_fi m.nd).set_la m.nd)) hn ⟨hg.sh, hg.up, hg.ex, hg.wa, hg.gr, hnd, hnd⟩)
    have HF : Hid (Frm [q] w (((w.drewN k).setCell ⟨q, 16, none⟩ (.int .i64 m.nd)).setCell ⟨q, 17, none⟩ (.int .i64 m.nd))) := Lib.hid (((((Frm.refl _ _).drewN k).setCell _ _ (.inl (by simp))).setCell _ _ (.inl (by simp))))
    have ef : (m.s.fi == -1) = true := by simpa using hf
    clear h hE hf hg hnd
    go_wp2_with fail
    refine H.out.mono ?_
    rintro e w1 ⟨rfl, hF, hM⟩
    have HF1 := Lib.hid (HF.out.trans hF)
    have HM := Lib.hid hM
    clear hF hM
    go_wp2
    go_end0
    exact ⟨rfl, HF1.out, HM.out⟩
  · have hE : m.standLast = { m with s := { m.s with la := m.nd } }.finish := by unfold Mv.standLast; rw [if_neg hf]
    rw [hE]
    go_enter Tryz.func159, Tryz.ntmps159
    go_wp2_with fail
    refine HN.out.mono ?_
    rintro e w1 ⟨k, rfl, rfl⟩
    have H := Lib.hid (finish_any (m := { m with s := { m.s with la := m.nd } }) (((h.drewN k).set_la m.nd)) hn ⟨hg.sh, hg.up, hg.ex, hg.wa, hg.gr, hg.fi, hnd⟩)
    have HF : Hid (Frm [q] w ((w.drewN k).setCell ⟨q, 17, none⟩ (.int .i64 m.nd))) := Lib.hid ((((Frm.refl _ _).drewN k).setCell _ _ (.inl (by simp))))
    have ef : (m.s.fi == -1) = false := by simpa using hf
    clear h hE hf hg hnd
    go_wp2_with fail
    refine H.out.mono ?_
    rintro e w1 ⟨rfl, hF, hM⟩
    have HF1 := Lib.hid (HF.out.trans hF)
    have HM := Lib.hid hM
    clear hF hM
    go_wp2
    go_end0
    exact ⟨rfl, HF1.out, HM.out⟩
set_option maxRecDepth 1000000 in
set_option maxHeartbeats 4000000 in
theorem park_any (h : MvAt w q T qe ql a n c m) (hn : n = m.wk.length) (hg : Gd T m.s) :
    Calls Tryz.prog 158 #[.pointer (some ⟨q, 0, none⟩)] w (Ret (.tuple #[]) (fun w' => Frm [q] w w' ∧ MvAt w' q T qe ql a n c m.park)) := by
  have HM := Lib.hid h
  obtain ⟨c0, c1, c2, c3, c4, c5, c6, c7, c8, c9, c10, c11, c12, c13, c14, c15, c16, c17, c18, c19, c20, c21⟩ := h.cells
  have hbl := h.lt
  have z6 := h.frz 6
  by_cases hk : m.k = 2
  · have ek : (m.k == 2) = true := by simpa using hk
    have hE : m.park = m.finish := by unfold Mv.park; rw [if_pos hk]
    rw [hE]
    have H := Lib.hid (finish_any h hn hg)
    clear h hE hk
    go_enter Tryz.func158, Tryz.ntmps158
    go_wp2_with fail
    refine H.out.mono ?_
    rintro e w1 ⟨rfl, hF, hM⟩
    have HF1 := Lib.hid hF
    have HM := Lib.hid hM
    clear hF hM
    go_wp2
    go_end0
    exact ⟨rfl, HF1.out, HM.out⟩
  · have ek : (m.k == 2) = false := by simpa using hk
    by_cases hl : m.s.la = -1
    · have el : (m.s.la == -1) = true := by simpa using hl
      have hE : m.park = m.standLast := by unfold Mv.park; rw [if_neg hk, if_pos hl]
      rw [hE]
      have H := Lib.hid (stand_any h hn hg)
      clear h hE hk hl
      go_enter Tryz.func158, Tryz.ntmps158
      go_wp2_with fail
      refine H.out.mono ?_
      rintro e w1 ⟨rfl, hF, hM⟩
      have HF1 := Lib.hid hF
      have HM := Lib.hid hM
      clear hF hM
      go_wp2
      go_end0
      exact ⟨rfl, HF1.out, HM.out⟩
    · have el : (m.s.la == -1) = false := by simpa using hl
      have hE : m.park = { m with nx := 7 } := by unfold Mv.park; rw [if_neg hk, if_neg hl]
      rw [hE]
      clear h hE hk hl
      go_enter Tryz.func158, Tryz.ntmps158
      go_wp2
      go_end0
      exact ⟨rfl, (Frm.refl _ _).setCell ⟨q, 6, none⟩ (.int .i64 7) (.inl (by simp)), HM.out.set_nx 7⟩
end
end Go.Proofs.YtjhidkjhfgbaeaaGreatDoor

/- append onto a row of the call's own, and where the new row lies; a region's operation taken by hand. No type of the program in it. -/
namespace Go.Proofs.YtjhidkjhfgbaeaaGreatDoor
open Go.ChangeShapes Go.WideShapes Go.ChangeAt Go.RowKit

/-- append of integers that are read somewhere, and where the new slice lies. -/
theorem run_app_at {k : IntKind} {t T : TypeId} {z : Value} {by_ : Nat} (hT : Tryz.prog.underlying T = some (.slice t)) (hi0 : (Tryz.prog.info? t).map (fun i => (i.zero, i.size, i.bytes)) = some (some z, 1, by_)) (hz : z.cells.size = 1) (hby : by_ ≤ 8)
    {B : Nat} {w : World} {a a2 : Option Addr} {n c m c2 b2 o2 : Nat} {l l2 : List Int} (hR : Row k t B w a n c l) (hL : Li k w a2 m c2 b2 o2 l2) (hn : l.length + m ≤ 10000000) (hB : B ≤ w.heap.size) (ty : TypeId) :
    ∃ a' c' w', (Builtin.append_ #[T, T] ty #[.slice a n c, .slice a2 m c2]).run Tryz.prog w = .ok (.slice a' (n + m) c') w' ∧ Row k t B w' a' (n + m) c' (l ++ l2) ∧ Frm (Go.Proofs.YtjhidkjhfgbaeaaGreatDoor.blk (.slice a n c)) w w' ∧
      ∀ x ∈ Go.Proofs.YtjhidkjhfgbaeaaGreatDoor.blk (.slice a' (n + m) c'), x ∈ Go.Proofs.YtjhidkjhfgbaeaaGreatDoor.blk (.slice a n c) ∨ w.heap.size ≤ x := by
  obtain ⟨i0, hi, hz0, hz1, hz2⟩ := info_parts hi0
  have hfm := hR.form
  obtain ⟨hO, rfl⟩ := hR
  have hlen := hL.len
  by_cases hm : 0 < m
  · obtain rfl := hL.ad hm
    obtain ⟨v', w', hr, hO2, hg, _, hat⟩ := run_append_own_at (P := Tryz.prog) w B T ty t i0 z 1 by_ hT hi hz0 hz1 hz2 hz (by decide) _ _ _ hO ⟨b2, o2, none⟩ m c2 (ns k l2) (by rw [ns_length]; omega)
      (fun j u hj => by
        rw [Addr.add_lit]
        have hjl := (List.getElem?_eq_some_iff.1 hj).1
        rw [ns_length] at hjl
        rw [hL.cell j (l2[j]) (List.getElem?_eq_getElem hjl), ← hj]
        simp [ns, List.getElem?_eq_getElem hjl]) (ns_one k l2) (by unfold maxLen; omega) (by
          have : (l.length + m) * by_ ≤ (l.length + m) * 8 := Nat.mul_le_mul_left _ hby
          omega) hB
    obtain ⟨a', c', rfl, _, _⟩ := own_form hO2
    refine ⟨a', c', w', hr, ⟨?_, by simp [hlen]⟩, Frm.grown hg (fun k hk => own_ownb hO k hk), fun x hx => ?_⟩
    · have e : ns k (l ++ l2) = ns k l ++ ns k l2 := by simp [ns]
      rw [e, List.length_append, hlen]; exact hO2
    · cases a' with
      | none => cases hx
      | some a'' =>
        simp [Go.Proofs.YtjhidkjhfgbaeaaGreatDoor.blk] at hx
        subst hx
        rcases hat with hat | hat
        · exact .inl (own_ownb hO _ hat.symm)
        · simp [Value.ownBlock] at hat; right; omega
  · obtain rfl : m = 0 := by omega
    obtain rfl : l2 = [] := List.eq_nil_of_length_eq_zero hlen
    have := run_append_none (P := Tryz.prog) w T ty t i0 hT hi a l.length c a2 c2 hfm.1 hfm.2
    exact ⟨a, c, w, this, ⟨by simpa using hO, by simp⟩, Frm.refl _ _, fun x hx => .inl hx⟩
/-- append at an operation in the text's order, and where the new slice lies. -/
theorem wpl_app_at {k : IntKind} {t T : TypeId} {z : Value} {by_ : Nat} (hT : Tryz.prog.underlying T = some (.slice t)) (hi0 : (Tryz.prog.info? t).map (fun i => (i.zero, i.size, i.bytes)) = some (some z, 1, by_)) (hz : z.cells.size = 1) (hby : by_ ≤ 8)
    {w : World} {ops : Array Oper} {rest : List Oper} {o : Oper} {x : Act} {Q : Exit → Act → World → Prop} (hgd : o.guard = none) (p q : Operand)
    (ho : o.op = .call { callee := .builtin .append, args := #[p, q], argTypes := #[T, T] }) {B : Nat} {a a2 : Option Addr} {n c m c2 b2 o2 : Nat} {l l2 : List Int}
    (hd : x.eval p = .slice a n c) (hq : x.eval q = .slice a2 m c2) (hR : Row k t B w a n c l) (hL : Li k w a2 m c2 b2 o2 l2) (hn : l.length + m ≤ 10000000) (hB : B ≤ w.heap.size)
    (hK : ∀ a' c' w', Row k t B w' a' (n + m) c' (l ++ l2) → Frm (blk (.slice a n c)) w w' → (∀ x ∈ blk (.slice a' (n + m) c'), x ∈ blk (.slice a n c) ∨ w.heap.size ≤ x) → wpList Tryz.prog ops Q rest (x.put o.dst (.slice a' (n + m : Nat) c')) w') : wpList Tryz.prog ops Q (o :: rest) x w := by
  refine wpList_plain hgd fun K hK' => ?_
  obtain ⟨a', c', w', hr, h1, h2, h3⟩ := run_app_at hT hi0 hz hby hR hL hn hB o.type
  unfold Oper.wp
  simp [execOp, ho, resolve, invoke, builtin, hd, hq, hr, Result.andThen]
  exact hK' _ _ (hK _ _ _ h1 h2 h3)
/-- append of integers that are read somewhere, at an operation of a region that is guarded, and wanted. -/
theorem step_appW {k : IntKind} {t T : TypeId} {z : Value} {by_ : Nat} (hT : Tryz.prog.underlying T = some (.slice t)) (hi0 : (Tryz.prog.info? t).map (fun i => (i.zero, i.size, i.bytes)) = some (some z, 1, by_)) (hz : z.cells.size = 1) (hby : by_ ≤ 8)
    {w : World} {ops : Array Oper} {o : Oper} {x : Act} {K : Act → World → Prop} {Q : Exit → Act → World → Prop} {E : Prop} (hw : Region.wanted o (yielded ops x.tmps) = true) (p q : Operand)
    (ho : o.op = .call { callee := .builtin .append, args := #[p, q], argTypes := #[T, T] }) {B : Nat} {a a2 : Option Addr} {n c m c2 b2 o2 : Nat} {l l2 : List Int}
    (hd : x.eval p = .slice a n c) (hq : x.eval q = .slice a2 m c2) (hR : Row k t B w a n c l) (hL : Li k w a2 m c2 b2 o2 l2) (hn : l.length + m ≤ 10000000) (hB : B ≤ w.heap.size)
    (hK : ∀ a' c' w', Row k t B w' a' (n + m) c' (l ++ l2) → Frm (blk (.slice a n c)) w w' → (∀ x ∈ blk (.slice a' (n + m) c'), x ∈ blk (.slice a n c) ∨ w.heap.size ≤ x) → K (x.put o.dst (.slice a' (n + m : Nat) c')) w') :
    if Region.wanted o (yielded ops x.tmps) = true then Oper.wp Tryz.prog o x w K Q else E := by
  rw [if_pos hw]
  obtain ⟨a', c', w', hr, h1, h2, h3⟩ := run_app_at hT hi0 hz hby hR hL hn hB o.type
  unfold Oper.wp
  simp [execOp, ho, resolve, invoke, builtin, hd, hq, hr, Result.andThen]
  exact hK _ _ _ h1 h2 h3

/-- An operation of a region that comes first: one that is wanted, and one that is not. -/
theorem take_in {P : Program} {ops : Array Oper} {Q : Exit → Act → World → Prop} {md : Region.Mode} {S : World → Prop} {i d : Nat} {oi : Oper} {v : Value} {fuel : Nat} {listed : Array Bool} {a : Act} {w : World} (hi : ops[i]? = some oi) (hd : oi.dst = some d)
    (hs : Region.noSelect ops = true) (hf : Region.free md ops listed i = true) (hr : (Region.ready md ops listed).contains i = true) (hQ : ∀ c a w, Q (.panic c) (a.put oi.dst v) w → Q (.panic c) a w)
    (hw : Region.wanted oi (yielded ops a.tmps) = true) (hy : ∀ w, S w → (execOp a.eval oi).run P w = .ok (.value v) w) (hS : S w) (h : wpAnyH P md ops Q S fuel (listed.setIfInBounds i true) (a.put (some d) v) w) : wpAnyH P md ops Q S (fuel + 1) listed a w :=
  wpAnyH_take hi hs hf hr hQ (.inl ⟨hw, hy⟩) hS (by rw [hd]; exact h)
theorem take_out {P : Program} {ops : Array Oper} {Q : Exit → Act → World → Prop} {md : Region.Mode} {S : World → Prop} {i d : Nat} {oi : Oper} {fuel : Nat} {listed : Array Bool} {a : Act} {w : World} (hi : ops[i]? = some oi) (hd : oi.dst = some d)
    (hs : Region.noSelect ops = true) (hf : Region.free md ops listed i = true) (hr : (Region.ready md ops listed).contains i = true) (hQ : ∀ c a w, Q (.panic c) (a.put oi.dst undef) w → Q (.panic c) a w)
    (hw : Region.wanted oi (yielded ops a.tmps) = false) (hS : S w) (h : wpAnyH P md ops Q S fuel (listed.setIfInBounds i true) (a.put (some d) undef) w) : wpAnyH P md ops Q S (fuel + 1) listed a w :=
  wpAnyH_take hi hs hf hr hQ (.inr ⟨hw, rfl⟩) hS (by rw [hd]; exact h)

end Go.Proofs.YtjhidkjhfgbaeaaGreatDoor
