/- Package latch, the state: has, of, held, goes. -/
import Derived.Test.YticbbfcachnkiaaGreatDoorBn1
import Derived.Test.YticbbfcachnkiaaGreatDoorBn3
import Derived.Laws.BitsAllLaws
import Derived.Laws.ShiftsVarLaws
namespace Go.Proofs.YticbbfcachnkiaaGreatDoor
open Go.ChangeShapes Go.WideShapes Go.ChangeAt Go.RowKit
theorem info_md : (Tryz.prog.info? 40).map (fun i => (i.zero, i.size, i.bytes)) = some (some (.int .i64 0), 1, 8) := by kernel_rfl
set_option linter.unusedVariables false

/-- A state lies in a block from the cell o on. -/
def StAt (w : World) (b o : Nat) (s : LS) : Prop :=
  w.cell? ⟨b, o, none⟩ = some (.int .u64 s.sh) ∧ w.cell? ⟨b, o + 1, none⟩ = some (.int .i64 s.up) ∧ w.cell? ⟨b, o + 2, none⟩ = some (.int .i64 s.ex) ∧ w.cell? ⟨b, o + 3, none⟩ = some (.int .i64 s.wa) ∧ w.cell? ⟨b, o + 4, none⟩ = some (.int .i64 s.gr) ∧ w.cell? ⟨b, o + 5, none⟩ = some (.int .i64 s.fi) ∧ w.cell? ⟨b, o + 6, none⟩ = some (.int .i64 s.la)
theorem StAt.lt {w : World} {b o : Nat} {s : LS} (h : StAt w b o s) : b < w.heap.size := World.block_lt_of_cell? w _ h.1
theorem StAt.frm {D : List Nat} {w w' : World} {b o : Nat} {s : LS} (h : StAt w b o s) (hf : Frm D w w') (hd : b ∉ D) : StAt w' b o s := by
  have hl := h.lt
  obtain ⟨h0, h1, h2, h3, h4, h5, h6⟩ := h
  exact ⟨(hf.cell hl hd).trans h0, (hf.cell hl hd).trans h1, (hf.cell hl hd).trans h2, (hf.cell hl hd).trans h3, (hf.cell hl hd).trans h4, (hf.cell hl hd).trans h5, (hf.cell hl hd).trans h6⟩

theorem u64_and1 (x : Nat) (hx : x < 18446744073709551616) (n : Nat) : (Go.bits BinOp.and IntKind.u64 ((x : Int) / 2 ^ n) 1 != 0) = x.testBit n := by
  have h0 : ((x : Int) / 2 ^ n) = ((x / 2 ^ n : Nat) : Int) := by simp
  have h1 : x / 2 ^ n < 18446744073709551616 := Nat.lt_of_le_of_lt (Nat.div_le_self _ _) hx
  rw [h0, show (1 : Int) = ((1 : Nat) : Int) from rfl, u64_and_nat _ _ h1 (by decide)]
  rw [Nat.testBit_eq_decide_div_mod_eq, Nat.and_one_is_mod]
  have : x / 2 ^ n % 2 = 0 ∨ x / 2 ^ n % 2 = 1 := by omega
  rcases this with h | h <;> rw [h] <;> rfl
theorem has_any {w : World} {b o : Nat} {s : LS} (h : StAt w b o s) (t : Int) (h1 : -1 ≤ t) (h2 : t < 64) (hx : s.sh < 18446744073709551616) :
    Calls Tryz.prog 115 #[.pointer (some ⟨b, o, none⟩), .int .i64 t] w (Ret (.bool (s.has t)) (fun w' => w = w')) := by
  obtain ⟨c0, c1, c2, c3, c4, c5, c6⟩ := h
  have e := u64_and1 s.sh hx t.toNat
  by_cases ht : t = -1
  · subst ht
    have e2 : s.has (-1) = false := rfl
    rw [e2]
    clear e2 e
    go_enter Tryz.func115, Tryz.ntmps115
    go_wp2
    go_ret
    exact ⟨rfl, rfl⟩
  · have e1 : (t != -1) = true := by simpa using ht
    have h1' : 0 ≤ t := by omega
    have e2 : s.has t = s.sh.testBit t.toNat := by simp [LS.has, ht]
    rw [e2, ← e]
    clear e e2 ht
    go_enter Tryz.func115, Tryz.ntmps115
    go_wp2
    go_ret
    exact ⟨rfl, rfl⟩
theorem of_any {w : World} {b o : Nat} {s : LS} (h : StAt w b o s) (t : Int) (h1 : -1 ≤ t) (h2 : t < 64) (hx : s.sh < 18446744073709551616) :
    Calls Tryz.prog 173 #[.pointer (some ⟨b, o, none⟩), .int .i64 t] w (Ret (.int .i64 (s.of t)) (fun w' => w = w')) := by
  have H := Lib.hid (has_any h t h1 h2 hx)
  obtain ⟨c0, c1, c2, c3, c4, c5, c6⟩ := h
  by_cases hE : s.ex = t
  · have e1 : (s.ex == t) = true := by simpa using hE
    have e2 : s.of t = 3 := by simp [LS.of, hE]
    rw [e2]
    clear e2 hE
    go_enter Tryz.func173, Tryz.ntmps173
    go_wp2
    go_ret
    exact ⟨rfl, rfl⟩
  · have e1 : (s.ex == t) = false := by simpa using hE
    by_cases hU : s.up = t
    · have e3 : (s.up == t) = true := by simpa using hU
      have e2 : s.of t = 2 := by simp [LS.of, hE, hU]
      rw [e2]
      clear e2 hE hU
      go_enter Tryz.func173, Tryz.ntmps173
      go_wp2
      go_ret
      exact ⟨rfl, rfl⟩
    · have e3 : (s.up == t) = false := by simpa using hU
      have e2 : s.of t = if s.has t then 1 else 0 := by simp [LS.of, hE, hU]
      rw [e2]
      clear e2 hE hU
      cases hh : s.has t with
      | true =>
        rw [hh] at H
        clear hh
        go_enter Tryz.func173, Tryz.ntmps173
        go_wp2_with fail
        refine H.out.mono ?_
        rintro e w1 ⟨rfl, rfl⟩
        go_wp2
        go_ret
        exact ⟨rfl, rfl⟩
      | false =>
        rw [hh] at H
        clear hh
        go_enter Tryz.func173, Tryz.ntmps173
        go_wp2_with fail
        refine H.out.mono ?_
        rintro e w1 ⟨rfl, rfl⟩
        go_wp2
        go_ret
        exact ⟨rfl, rfl⟩
/-- A slice of modes that a call has made for itself. -/
theorem wpl_appM {w : World} {ops : Array Oper} {rest : List Oper} {o : Oper} {x : Act} {Q : Exit → Act → World → Prop} (hgd : o.guard = none) (p q : Operand)
    (ho : o.op = .call { callee := .builtin .append, args := #[p, q], argTypes := #[100, 100] }) {B : Nat} {a a2 : Option Addr} {n c m c2 b2 o2 : Nat} {l l2 : List Int}
    (hd : x.eval p = .slice a n c) (hq : x.eval q = .slice a2 m c2) (hR : Row .i64 40 B w a n c l) (hL : Li .i64 w a2 m c2 b2 o2 l2) (hn : l.length + m ≤ 10000000) (hB : B ≤ w.heap.size)
    (hK : ∀ a' c' w', Row .i64 40 B w' a' (n + m) c' (l ++ l2) → Frm (blk (.slice a n c)) w w' → wpList Tryz.prog ops Q rest (x.put o.dst (.slice a' (n + m : Nat) c')) w') : wpList Tryz.prog ops Q (o :: rest) x w :=
  wpl_app Tryz.underlying100 info_md (by decide) (by decide) hgd p q ho hd hq hR hL hn hB hK
set_option maxHeartbeats 4000000 in
theorem held_any {w : World} {b o : Nat} {s : LS} (h : StAt w b o s) :
    Calls Tryz.prog 117 #[.pointer (some ⟨b, o, none⟩)] w (fun e w' => ∃ a n c, Ret (.slice a n c) (fun w' => Frm [] w w' ∧ Row .i64 40 w.heap.size w' a n c s.held) e w') := by
  have HS := Lib.hid h
  have hbl := h.lt
  obtain ⟨c0, c1, c2, c3, c4, c5, c6⟩ := h
  by_cases hS : s.sh = 0
  · have e0 : ((s.sh : Int) != 0) = false := by simp [hS]
    by_cases hU : s.up = -1
    · have e1 : (s.up != -1) = false := by simp [hU]
      by_cases hE : s.ex = -1
      · have e2 : (s.ex != -1) = false := by simp [hE]
        have hl : s.held = [] := by simp [LS.held, hS, hU, hE]
        rw [hl]
        clear hl hS hU hE
        go_enter Tryz.func117, Tryz.ntmps117
        go_wp2
        go_ret
        exact ⟨none, 0, 0, rfl, Frm.refl _ _, Row.nil _ _ _ _⟩
      · have e2 : (s.ex != -1) = true := by simp [hE]
        have hl : s.held = [3] := by simp [LS.held, hS, hU, hE]
        rw [hl]
        clear hl hS hU hE
        go_enter Tryz.func117, Tryz.ntmps117
        go_wp2_with (at_builtin; refine wpl_appM rfl (.tmp 25) (.tmp 26) rfl (B := w.heap.size) (a := none) (n := 0) (c := 0) (m := 1) (l := []) (l2 := [3]) (by simp [Act.eval]) (by simp [Act.eval]) (Row.nil _ _ _ _) (li_new rfl (heap_alloc_new _ _)) (by simp) (by simp) ?_; intro a1 k1 w1 hR1 f1; have g1 : Frm [] w w1 := ((Frm.refl _ _).alloc _).trans_new f1 (by intro x hx; cases hx); have q1 : StAt w1 b o s := HS.out.frm g1 (by simp); obtain ⟨c0, c1, c2, c3, c4, c5, c6⟩ := q1; rw [List.nil_append] at hR1)
        go_ret
        exact ⟨_, _, _, rfl, g1, hR1⟩
    · have e1 : (s.up != -1) = true := by simp [hU]
      by_cases hE : s.ex = -1
      · have e2 : (s.ex != -1) = false := by simp [hE]
        have hl : s.held = [2] := by simp [LS.held, hS, hU, hE]
        rw [hl]
        clear hl hS hU hE
        go_enter Tryz.func117, Tryz.ntmps117
        go_wp2_with (at_builtin; refine wpl_appM rfl (.tmp 17) (.tmp 18) rfl (B := w.heap.size) (a := none) (n := 0) (c := 0) (m := 1) (l := []) (l2 := [2]) (by simp [Act.eval]) (by simp [Act.eval]) (Row.nil _ _ _ _) (li_new rfl (heap_alloc_new _ _)) (by simp) (by simp) ?_; intro a1 k1 w1 hR1 f1; have g1 : Frm [] w w1 := ((Frm.refl _ _).alloc _).trans_new f1 (by intro x hx; cases hx); have q1 : StAt w1 b o s := HS.out.frm g1 (by simp); obtain ⟨c0, c1, c2, c3, c4, c5, c6⟩ := q1; rw [List.nil_append] at hR1)
        go_ret
        exact ⟨_, _, _, rfl, g1, hR1⟩
      · have e2 : (s.ex != -1) = true := by simp [hE]
        have hl : s.held = [2, 3] := by simp [LS.held, hS, hU, hE]
        rw [hl]
        clear hl hS hU hE
        go_enter Tryz.func117, Tryz.ntmps117
        go_wp2_with (first | (at_builtin; refine wpl_appM rfl (.tmp 17) (.tmp 18) rfl (B := w.heap.size) (a := none) (n := 0) (c := 0) (m := 1) (l := []) (l2 := [2]) (by simp [Act.eval]) (by simp [Act.eval]) (Row.nil _ _ _ _) (li_new rfl (heap_alloc_new _ _)) (by simp) (by simp) ?_; intro a1 k1 w1 hR1 f1; have g1 : Frm [] w w1 := ((Frm.refl _ _).alloc _).trans_new f1 (by intro x hx; cases hx); have q1 : StAt w1 b o s := HS.out.frm g1 (by simp); obtain ⟨c0, c1, c2, c3, c4, c5, c6⟩ := q1; rw [List.nil_append] at hR1) | (at_builtin; refine wpl_appM rfl (.tmp 25) (.tmp 26) rfl (B := w.heap.size) (a := a1) (n := 1) (c := k1) (m := 1) (l := [2]) (l2 := [3]) (by simp [Act.eval]) (by simp [Act.eval]) (hR1.frm0 ((Frm.refl _ _).alloc _)) (li_new rfl (heap_alloc_new _ _)) (by simp) (by have := g1.size; simp; omega) ?_; intro a2 k2 w2 hR2 f2; have g2 : Frm [] w w2 := (g1.alloc _).trans_new f2 (by intro x hx; have := hR1.blk x hx; right; omega); have q2 : StAt w2 b o s := HS.out.frm g2 (by simp); obtain ⟨c0, c1, c2, c3, c4, c5, c6⟩ := q2; rw [show ([2] : List Int) ++ [3] = [2, 3] from rfl] at hR2))
        go_ret
        exact ⟨_, _, _, rfl, g2, hR2⟩
  · have e0 : ((s.sh : Int) != 0) = true := by simp [hS]
    by_cases hU : s.up = -1
    · have e1 : (s.up != -1) = false := by simp [hU]
      by_cases hE : s.ex = -1
      · have e2 : (s.ex != -1) = false := by simp [hE]
        have hl : s.held = [1] := by simp [LS.held, hS, hU, hE]
        rw [hl]
        clear hl hS hU hE
        go_enter Tryz.func117, Tryz.ntmps117
        go_wp2_with (at_builtin; refine wpl_appM rfl (.tmp 9) (.tmp 10) rfl (B := w.heap.size) (a := none) (n := 0) (c := 0) (m := 1) (l := []) (l2 := [1]) (by simp [Act.eval]) (by simp [Act.eval]) (Row.nil _ _ _ _) (li_new rfl (heap_alloc_new _ _)) (by simp) (by simp) ?_; intro a1 k1 w1 hR1 f1; have g1 : Frm [] w w1 := ((Frm.refl _ _).alloc _).trans_new f1 (by intro x hx; cases hx); have q1 : StAt w1 b o s := HS.out.frm g1 (by simp); obtain ⟨c0, c1, c2, c3, c4, c5, c6⟩ := q1; rw [List.nil_append] at hR1)
        go_ret
        exact ⟨_, _, _, rfl, g1, hR1⟩
      · have e2 : (s.ex != -1) = true := by simp [hE]
        have hl : s.held = [1, 3] := by simp [LS.held, hS, hU, hE]
        rw [hl]
        clear hl hS hU hE
        go_enter Tryz.func117, Tryz.ntmps117
        go_wp2_with (first | (at_builtin; refine wpl_appM rfl (.tmp 9) (.tmp 10) rfl (B := w.heap.size) (a := none) (n := 0) (c := 0) (m := 1) (l := []) (l2 := [1]) (by simp [Act.eval]) (by simp [Act.eval]) (Row.nil _ _ _ _) (li_new rfl (heap_alloc_new _ _)) (by simp) (by simp) ?_; intro a1 k1 w1 hR1 f1; have g1 : Frm [] w w1 := ((Frm.refl _ _).alloc _).trans_new f1 (by intro x hx; cases hx); have q1 : StAt w1 b o s := HS.out.frm g1 (by simp); obtain ⟨c0, c1, c2, c3, c4, c5, c6⟩ := q1; rw [List.nil_append] at hR1) | (at_builtin; refine wpl_appM rfl (.tmp 25) (.tmp 26) rfl (B := w.heap.size) (a := a1) (n := 1) (c := k1) (m := 1) (l := [1]) (l2 := [3]) (by simp [Act.eval]) (by simp [Act.eval]) (hR1.frm0 ((Frm.refl _ _).alloc _)) (li_new rfl (heap_alloc_new _ _)) (by simp) (by have := g1.size; simp; omega) ?_; intro a2 k2 w2 hR2 f2; have g2 : Frm [] w w2 := (g1.alloc _).trans_new f2 (by intro x hx; have := hR1.blk x hx; right; omega); have q2 : StAt w2 b o s := HS.out.frm g2 (by simp); obtain ⟨c0, c1, c2, c3, c4, c5, c6⟩ := q2; rw [show ([1] : List Int) ++ [3] = [1, 3] from rfl] at hR2))
        go_ret
        exact ⟨_, _, _, rfl, g2, hR2⟩
    · have e1 : (s.up != -1) = true := by simp [hU]
      by_cases hE : s.ex = -1
      · have e2 : (s.ex != -1) = false := by simp [hE]
        have hl : s.held = [1, 2] := by simp [LS.held, hS, hU, hE]
        rw [hl]
        clear hl hS hU hE
        go_enter Tryz.func117, Tryz.ntmps117
        go_wp2_with (first | (at_builtin; refine wpl_appM rfl (.tmp 9) (.tmp 10) rfl (B := w.heap.size) (a := none) (n := 0) (c := 0) (m := 1) (l := []) (l2 := [1]) (by simp [Act.eval]) (by simp [Act.eval]) (Row.nil _ _ _ _) (li_new rfl (heap_alloc_new _ _)) (by simp) (by simp) ?_; intro a1 k1 w1 hR1 f1; have g1 : Frm [] w w1 := ((Frm.refl _ _).alloc _).trans_new f1 (by intro x hx; cases hx); have q1 : StAt w1 b o s := HS.out.frm g1 (by simp); obtain ⟨c0, c1, c2, c3, c4, c5, c6⟩ := q1; rw [List.nil_append] at hR1) | (at_builtin; refine wpl_appM rfl (.tmp 17) (.tmp 18) rfl (B := w.heap.size) (a := a1) (n := 1) (c := k1) (m := 1) (l := [1]) (l2 := [2]) (by simp [Act.eval]) (by simp [Act.eval]) (hR1.frm0 ((Frm.refl _ _).alloc _)) (li_new rfl (heap_alloc_new _ _)) (by simp) (by have := g1.size; simp; omega) ?_; intro a2 k2 w2 hR2 f2; have g2 : Frm [] w w2 := (g1.alloc _).trans_new f2 (by intro x hx; have := hR1.blk x hx; right; omega); have q2 : StAt w2 b o s := HS.out.frm g2 (by simp); obtain ⟨c0, c1, c2, c3, c4, c5, c6⟩ := q2; rw [show ([1] : List Int) ++ [2] = [1, 2] from rfl] at hR2))
        go_ret
        exact ⟨_, _, _, rfl, g2, hR2⟩
      · have e2 : (s.ex != -1) = true := by simp [hE]
        have hl : s.held = [1, 2, 3] := by simp [LS.held, hS, hU, hE]
        rw [hl]
        clear hl hS hU hE
        go_enter Tryz.func117, Tryz.ntmps117
        go_wp2_with (first | (at_builtin; refine wpl_appM rfl (.tmp 9) (.tmp 10) rfl (B := w.heap.size) (a := none) (n := 0) (c := 0) (m := 1) (l := []) (l2 := [1]) (by simp [Act.eval]) (by simp [Act.eval]) (Row.nil _ _ _ _) (li_new rfl (heap_alloc_new _ _)) (by simp) (by simp) ?_; intro a1 k1 w1 hR1 f1; have g1 : Frm [] w w1 := ((Frm.refl _ _).alloc _).trans_new f1 (by intro x hx; cases hx); have q1 : StAt w1 b o s := HS.out.frm g1 (by simp); obtain ⟨c0, c1, c2, c3, c4, c5, c6⟩ := q1; rw [List.nil_append] at hR1) | (at_builtin; refine wpl_appM rfl (.tmp 17) (.tmp 18) rfl (B := w.heap.size) (a := a1) (n := 1) (c := k1) (m := 1) (l := [1]) (l2 := [2]) (by simp [Act.eval]) (by simp [Act.eval]) (hR1.frm0 ((Frm.refl _ _).alloc _)) (li_new rfl (heap_alloc_new _ _)) (by simp) (by have := g1.size; simp; omega) ?_; intro a2 k2 w2 hR2 f2; have g2 : Frm [] w w2 := (g1.alloc _).trans_new f2 (by intro x hx; have := hR1.blk x hx; right; omega); have q2 : StAt w2 b o s := HS.out.frm g2 (by simp); obtain ⟨c0, c1, c2, c3, c4, c5, c6⟩ := q2; rw [show ([1] : List Int) ++ [2] = [1, 2] from rfl] at hR2) | (at_builtin; refine wpl_appM rfl (.tmp 25) (.tmp 26) rfl (B := w.heap.size) (a := a2) (n := 2) (c := k2) (m := 1) (l := [1, 2]) (l2 := [3]) (by simp [Act.eval]) (by simp [Act.eval]) (hR2.frm0 ((Frm.refl _ _).alloc _)) (li_new rfl (heap_alloc_new _ _)) (by simp) (by have := g2.size; simp; omega) ?_; intro a3 k3 w3 hR3 f3; have g3 : Frm [] w w3 := (g2.alloc _).trans_new f3 (by intro x hx; have := hR2.blk x hx; right; omega); have q3 : StAt w3 b o s := HS.out.frm g3 (by simp); obtain ⟨c0, c1, c2, c3, c4, c5, c6⟩ := q3; rw [show ([1, 2] : List Int) ++ [3] = [1, 2, 3] from rfl] at hR3))
        go_ret
        exact ⟨_, _, _, rfl, g3, hR3⟩
#print axioms held_any
end Go.Proofs.YticbbfcachnkiaaGreatDoor
