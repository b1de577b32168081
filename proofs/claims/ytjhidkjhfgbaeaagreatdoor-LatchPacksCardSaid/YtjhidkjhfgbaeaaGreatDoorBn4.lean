/- LtH, LtS, LtT in one text (by mkbundle.py). -/
import Derived.Test.YtjhidkjhfgbaeaaGreatDoorBn3
import Derived.Test.YtjhidkjhfgbaeaaGreatDoorBn1
import Derived.Laws.BitsAllLaws
import Derived.Laws.ShiftsVarLaws
import Derived.Deep.RegionHeld3
/- The reference's Grants. -/
namespace Go.Proofs.YtjhidkjhfgbaeaaGreatDoor
open Go.ChangeShapes Go.WideShapes Go.ChangeAt Go.RowKit

theorem info_md : (Tryz.prog.info? 54).map (fun i => (i.zero, i.size, i.bytes)) = some (some (.int .i64 0), 1, 8) := by kernel_rfl

set_option maxRecDepth 100000 in
set_option maxHeartbeats 8000000 in
theorem rGrants_any {w : World} {a1 a2 : Option Addr} {n1 c1 b1 o1 n c b o : Nat} {h q : List Int} (hH : Li .i64 w a1 n1 c1 b1 o1 h) (hQ : Li .i64 w a2 n c b o q) (hn1 : n1 ≤ 400) (hn : n ≤ 400) (g0 : Int) (hg0 : lo64 ≤ g0) :
    Calls Tryz.prog 39 #[.slice a1 n1 c1, .slice a2 n c, .int .i64 g0] w (Ret (.int .i64 (grant h q g0 : Nat)) (fun w' => Frm [] w w')) := by
  obtain ⟨R, hR⟩ : ∃ R, grant h q g0 = R := ⟨_, rfl⟩
  have hR0 : grant (h ++ q.take 0) (q.drop 0) g0 + 0 = R := by simpa using hR
  rw [hR]
  have HR := Lib.hid hR0
  have HH := Lib.hid hH
  have HQ := Lib.hid hQ
  have HG0 := Lib.hid hg0
  have HLQ := Lib.hid hQ.len
  have HLH := Lib.hid hH.len
  clear hR hR0 hH hQ hg0
  go_enter Tryz.func39, Tryz.ntmps39
  go_wp2_with (at_builtin; refine wpl_app Tryz.underlying95 info_md (by decide) (by decide) rfl (.const (.slice none 0 0)) (.tmp 9) rfl (B := w.heap.size) (a := none) (n := 0) (c := 0) (m := n1) (l := []) (l2 := h) (by simp [Act.eval]) (by simp [Act.eval]) (Row.nil _ _ _ _) HH.out (by simp; omega) (Nat.le_refl _) ?_; intro a3 c3 w3 hR3 hF3)
  have hF3' : Frm [] w w3 := hF3.weak (fun x hx => by cases hx)
  have HR3 : Hid (Row .i64 54 w.heap.size w3 a3 n1 c3 (h ++ q.take 0)) := Lib.hid (by simpa using hR3)
  clear hR3 hF3
  go_loopw [2, 7, 8] (fun s v i w' => ∃ (k r c' : Nat) (g : Int) (a' : Option Addr), k ≤ n ∧ r ≤ n1 + k ∧ i = .int .i64 k ∧ s = .int .i64 g ∧ v = .slice a' r c' ∧ Frm [] w w' ∧ Hid (Row .i64 54 w.heap.size w' a' r c' (h ++ q.take k)) ∧ Hid (grant (h ++ q.take k) (q.drop k) g + k = R) ∧ Hid (k < n → lo64 ≤ g)) (fun _ _ i _ => n - (intOf i).toNat)
  case atStart => exact ⟨0, n1, c3, g0, a3, by omega, by omega, rfl, rfl, rfl, hF3', HR3, HR, Lib.hid (fun _ => HG0.out)⟩
  case round =>
    clear hF3' HR3 HR
    obtain ⟨k, r, c', g, a', hk, hr, rfl, rfl, rfl, hF, HA, HR, HG⟩ := hrel
    by_cases hlt : k < n
    · obtain ⟨x, hx, hg, hc⟩ := (HQ.out.frm0 hF).get hlt
      have hix := ix_md (c := c) HQ.out.ad hlt
      obtain ⟨bA, hA⟩ := HA.out.li
      have HLA := Lib.hid hA
      have HX := Lib.hid hx
      have hqb := (HQ.out.frm0 hF).lt (by omega)
      have HC := Lib.hid hc
      clear hx hg hA
      have hb0 : (k : Int) < (n : Int) := by omega
      by_cases hl : k + 1 < n
      · have hbh : decide ((k : Int) + 1 < (n : Int)) = true := by simp; omega
        have hbq : decide (k + 1 < q.length) = true := by rw [HLQ.out]; simp; omega
        have HBQ := Lib.hid hbq
        clear hbq
        cases hv : goB x (h ++ q.take k) g true with
        | false =>
          have hRk := grant_halt HX.out HBQ.out hv HR.out
          have HRk := Lib.hid hRk
          have HV := Lib.hid hv
          clear hv hRk
          go_wp2_with fail
          refine (rGoes_any HLA.out (by omega) _ _ _).mono ?_
          rintro e w2 ⟨rfl, rfl⟩
          rw [HV.out]
          go_wp2_with fail
          go_ret
          exact ⟨by rw [HRk.out]; rfl, hF⟩
        | true =>
          have hRk := grant_next HX.out HBQ.out hv HR.out
          have hgw := goB_vw hv
          have HRk := Lib.hid hRk
          have HV := Lib.hid hv
          have HGW := Lib.hid hgw
          clear hv hRk hgw
          by_cases hx1 : x = 1
          · have d1 : (x == 1) = true := by simpa using hx1
            have HX1 := Lib.hid hx1
            clear hx1
            have hwr := wrap_up (HG.out hlt) (HGW.out.2.2 HX1.out (by first | rfl | trivial))
            have hg4 : g < 4 := HGW.out.2.2 HX1.out (by first | rfl | trivial)
            have d4 : decide (4 < g + 1) = false := by simp; omega
            clear hg4
            go_wp2_with fail
            refine (rGoes_any HLA.out (by omega) _ _ _).mono ?_
            rintro e w2 ⟨rfl, rfl⟩
            rw [HV.out]
            go_wp2_with (at_builtin; refine wpl_app Tryz.underlying95 info_md (by decide) (by decide) rfl (.tmp 29) (.tmp 34) rfl (B := w.heap.size) (a := a') (n := r) (c := c') (m := 1) (l := h ++ q.take k) (l2 := [x]) (by simp [Act.eval]) (by simp [Act.eval]) (HA.out.frm0 ((Frm.refl _ _).alloc _)) (li_new rfl (heap_alloc_new _ _)) (by rw [List.length_append, List.length_take, HLH.out]; omega) (by have := hF.size; simp; omega) ?_; intro a4 c4 w4 hR4 hF4; have hF4' : Frm [] w w4 := (hF.alloc (.cells #[.int .i64 x] 54)).trans_new hF4 (fun y hy => .inr (HA.out.blk y hy).1); have HR5 : Hid (Row .i64 54 w.heap.size w4 a4 (r + 1) c4 (h ++ q.take (k + 1))) := Lib.hid (by rw [take_one HX.out, ← List.append_assoc]; exact hR4); have hc4 := (HQ.out.frm0 hF4').cell k x HX.out; clear hR4 hF4)
            go_roundw
            case rel =>
              refine ⟨k + 1, r + 1, c4, _, a4, by omega, by omega, by go_num, rfl, rfl, hF4', HR5, Lib.hid ?_, Lib.hid (fun _ => ?_)⟩
              · have := HRk.out
                rw [if_pos HX1.out] at this
                rw [hwr]; exact this
              · rw [hwr]; have := HG.out hlt; omega
            case measure => simp [intOf]; omega
          · have d1 : (x == 1) = false := by simpa using hx1
            have HX1 := Lib.hid hx1
            clear hx1
            go_wp2_with fail
            refine (rGoes_any HLA.out (by omega) _ _ _).mono ?_
            rintro e w2 ⟨rfl, rfl⟩
            rw [HV.out]
            go_wp2_with (at_builtin; refine wpl_app Tryz.underlying95 info_md (by decide) (by decide) rfl (.tmp 29) (.tmp 34) rfl (B := w.heap.size) (a := a') (n := r) (c := c') (m := 1) (l := h ++ q.take k) (l2 := [x]) (by simp [Act.eval]) (by simp [Act.eval]) (HA.out.frm0 ((Frm.refl _ _).alloc _)) (li_new rfl (heap_alloc_new _ _)) (by rw [List.length_append, List.length_take, HLH.out]; omega) (by have := hF.size; simp; omega) ?_; intro a4 c4 w4 hR4 hF4; have hF4' : Frm [] w w4 := (hF.alloc (.cells #[.int .i64 x] 54)).trans_new hF4 (fun y hy => .inr (HA.out.blk y hy).1); have HR5 : Hid (Row .i64 54 w.heap.size w4 a4 (r + 1) c4 (h ++ q.take (k + 1))) := Lib.hid (by rw [take_one HX.out, ← List.append_assoc]; exact hR4); have hc4 := (HQ.out.frm0 hF4').cell k x HX.out; clear hR4 hF4)
            go_roundw
            case rel =>
              refine ⟨k + 1, r + 1, c4, g, a4, by omega, by omega, by go_num, rfl, rfl, hF4', HR5, Lib.hid ?_, Lib.hid (fun _ => HG.out hlt)⟩
              have := HRk.out
              rw [if_neg HX1.out] at this
              exact this
            case measure => simp [intOf]; omega
      · have hbh : decide ((k : Int) + 1 < (n : Int)) = false := by simp; omega
        have hbq : decide (k + 1 < q.length) = false := by rw [HLQ.out]; simp; omega
        have HBQ := Lib.hid hbq
        clear hbq
        cases hv : goB x (h ++ q.take k) g false with
        | false =>
          have hRk := grant_halt HX.out HBQ.out hv HR.out
          have HRk := Lib.hid hRk
          have HV := Lib.hid hv
          clear hv hRk
          go_wp2_with fail
          refine (rGoes_any HLA.out (by omega) _ _ _).mono ?_
          rintro e w2 ⟨rfl, rfl⟩
          rw [HV.out]
          go_wp2_with fail
          go_ret
          exact ⟨by rw [HRk.out]; rfl, hF⟩
        | true =>
          have hRk := grant_next HX.out HBQ.out hv HR.out
          have hgw := goB_vw hv
          have HRk := Lib.hid hRk
          have HV := Lib.hid hv
          have HGW := Lib.hid hgw
          clear hv hRk hgw
          by_cases hx1 : x = 1
          · have d1 : (x == 1) = true := by simpa using hx1
            have HX1 := Lib.hid hx1
            clear hx1
            cases d4 : decide (4 < wrap64 (g + 1)) with
            | false =>
              go_wp2_with fail
              refine (rGoes_any HLA.out (by omega) _ _ _).mono ?_
              rintro e w2 ⟨rfl, rfl⟩
              rw [HV.out]
              go_wp2_with (at_builtin; refine wpl_app Tryz.underlying95 info_md (by decide) (by decide) rfl (.tmp 29) (.tmp 34) rfl (B := w.heap.size) (a := a') (n := r) (c := c') (m := 1) (l := h ++ q.take k) (l2 := [x]) (by simp [Act.eval]) (by simp [Act.eval]) (HA.out.frm0 ((Frm.refl _ _).alloc _)) (li_new rfl (heap_alloc_new _ _)) (by rw [List.length_append, List.length_take, HLH.out]; omega) (by have := hF.size; simp; omega) ?_; intro a4 c4 w4 hR4 hF4; have hF4' : Frm [] w w4 := (hF.alloc (.cells #[.int .i64 x] 54)).trans_new hF4 (fun y hy => .inr (HA.out.blk y hy).1); have HR5 : Hid (Row .i64 54 w.heap.size w4 a4 (r + 1) c4 (h ++ q.take (k + 1))) := Lib.hid (by rw [take_one HX.out, ← List.append_assoc]; exact hR4); have hc4 := (HQ.out.frm0 hF4').cell k x HX.out; clear hR4 hF4)
              go_roundw
              case rel => exact ⟨k + 1, r + 1, c4, _, a4, by omega, by omega, by go_num, rfl, rfl, hF4', HR5, Lib.hid (grant_end (by rw [HLQ.out]; omega) HRk.out), Lib.hid (fun h => by omega)⟩
              case measure => simp [intOf]; omega
            | true =>
              go_wp2_with fail
              refine (rGoes_any HLA.out (by omega) _ _ _).mono ?_
              rintro e w2 ⟨rfl, rfl⟩
              rw [HV.out]
              go_wp2_with (at_builtin; refine wpl_app Tryz.underlying95 info_md (by decide) (by decide) rfl (.tmp 29) (.tmp 34) rfl (B := w.heap.size) (a := a') (n := r) (c := c') (m := 1) (l := h ++ q.take k) (l2 := [x]) (by simp [Act.eval]) (by simp [Act.eval]) (HA.out.frm0 ((Frm.refl _ _).alloc _)) (li_new rfl (heap_alloc_new _ _)) (by rw [List.length_append, List.length_take, HLH.out]; omega) (by have := hF.size; simp; omega) ?_; intro a4 c4 w4 hR4 hF4; have hF4' : Frm [] w w4 := (hF.alloc (.cells #[.int .i64 x] 54)).trans_new hF4 (fun y hy => .inr (HA.out.blk y hy).1); have HR5 : Hid (Row .i64 54 w.heap.size w4 a4 (r + 1) c4 (h ++ q.take (k + 1))) := Lib.hid (by rw [take_one HX.out, ← List.append_assoc]; exact hR4); have hc4 := (HQ.out.frm0 hF4').cell k x HX.out; clear hR4 hF4)
              go_roundw
              case rel => exact ⟨k + 1, r + 1, c4, _, a4, by omega, by omega, by go_num, rfl, rfl, hF4', HR5, Lib.hid (grant_end (by rw [HLQ.out]; omega) HRk.out), Lib.hid (fun h => by omega)⟩
              case measure => simp [intOf]; omega
          · have d1 : (x == 1) = false := by simpa using hx1
            have HX1 := Lib.hid hx1
            clear hx1
            go_wp2_with fail
            refine (rGoes_any HLA.out (by omega) _ _ _).mono ?_
            rintro e w2 ⟨rfl, rfl⟩
            rw [HV.out]
            go_wp2_with (at_builtin; refine wpl_app Tryz.underlying95 info_md (by decide) (by decide) rfl (.tmp 29) (.tmp 34) rfl (B := w.heap.size) (a := a') (n := r) (c := c') (m := 1) (l := h ++ q.take k) (l2 := [x]) (by simp [Act.eval]) (by simp [Act.eval]) (HA.out.frm0 ((Frm.refl _ _).alloc _)) (li_new rfl (heap_alloc_new _ _)) (by rw [List.length_append, List.length_take, HLH.out]; omega) (by have := hF.size; simp; omega) ?_; intro a4 c4 w4 hR4 hF4; have hF4' : Frm [] w w4 := (hF.alloc (.cells #[.int .i64 x] 54)).trans_new hF4 (fun y hy => .inr (HA.out.blk y hy).1); have HR5 : Hid (Row .i64 54 w.heap.size w4 a4 (r + 1) c4 (h ++ q.take (k + 1))) := Lib.hid (by rw [take_one HX.out, ← List.append_assoc]; exact hR4); have hc4 := (HQ.out.frm0 hF4').cell k x HX.out; clear hR4 hF4)
            go_roundw
            case rel =>
              refine ⟨k + 1, r + 1, c4, g, a4, by omega, by omega, by go_num, rfl, rfl, hF4', HR5, Lib.hid ?_, Lib.hid (fun _ => HG.out hlt)⟩
              have := HRk.out
              rw [if_neg HX1.out] at this
              exact this
            case measure => simp [intOf]; omega
    · obtain rfl : k = n := by omega
      have hRk := grant_out (by rw [HLQ.out]; exact Nat.le_refl _) HR.out
      have HRk := Lib.hid hRk
      clear hRk
      go_wp2_with fail
      go_ret
      exact ⟨by rw [HRk.out]; rfl, hF⟩
end Go.Proofs.YtjhidkjhfgbaeaaGreatDoor

/- Package latch, the state: has, of, held, goes. -/
namespace Go.Proofs.YtjhidkjhfgbaeaaGreatDoor
open Go.ChangeShapes Go.WideShapes Go.ChangeAt Go.RowKit
set_option linter.unusedVariables false

/-- A state lies in a block from the cell o on. -/
def StAt (w : World) (b o : Nat) (s : LS) : Prop :=
  w.cell? ⟨b, o, none⟩ = some (.int .u64 s.sh) ∧ w.cell? ⟨b, o + 1, none⟩ = some (.int .i64 s.up) ∧ w.cell? ⟨b, o + 2, none⟩ = some (.int .i64 s.ex) ∧ w.cell? ⟨b, o + 3, none⟩ = some (.int .i64 s.wa) ∧ w.cell? ⟨b, o + 4, none⟩ = some (.int .i64 s.gr) ∧ w.cell? ⟨b, o + 5, none⟩ = some (.int .i64 s.fi) ∧ w.cell? ⟨b, o + 6, none⟩ = some (.int .i64 s.la)
theorem StAt.lt {w : World} {b o : Nat} {s : LS} (h : StAt w b o s) : b < w.heap.size := World.block_lt_of_cell? w _ h.1
theorem StAt.frm {D : List Nat} {w w' : World} {b o : Nat} {s : LS} (h : StAt w b o s) (hf : Frm D w w') (hd : b ∉ D) : StAt w' b o s := by
  have hl := h.lt
  obtain ⟨h0, h1, h2, h3, h4, h5, h6⟩ := h
  exact ⟨(hf.cell hl hd).trans h0, (hf.cell hl hd).trans h1, (hf.cell hl hd).trans h2, (hf.cell hl hd).trans h3, (hf.cell hl hd).trans h4, (hf.cell hl hd).trans h5, (hf.cell hl hd).trans h6⟩

theorem u64_and1 (x : Nat) (hx : x < 18446744073709551616) (n : Nat) : (Go.bits BinOp.and IntKind.u64 ((x : Int) / 2 ^ n) 1 != 0) = x.testBit n := by
  have h0 : ((x : Int) / 2 ^ n) = ((x / 2 ^ n : Nat) : Int) := by simp
  have h1 : x / 2 ^ n < 18446744073709551616 := Nat.lt_of_le_of_lt (Nat.div_le_self _ _) hx
  rw [h0, show (1 : Int) = ((1 : Nat) : Int) from rfl, u64_and_nat _ _ h1 (by decide)]
  rw [Nat.testBit_eq_decide_div_mod_eq, Nat.and_one_is_mod]
  have : x / 2 ^ n % 2 = 0 ∨ x / 2 ^ n % 2 = 1 := by omega
  rcases this with h | h <;> rw [h] <;> rfl
theorem has_any {w : World} {b o : Nat} {s : LS} (h : StAt w b o s) (t : Int) (h1 : -1 ≤ t) (h2 : t < 64) (hx : s.sh < 18446744073709551616) :
    Calls Tryz.prog 110 #[.pointer (some ⟨b, o, none⟩), .int .i64 t] w (Ret (.bool (s.has t)) (fun w' => w = w')) := by
  obtain ⟨c0, c1, c2, c3, c4, c5, c6⟩ := h
  have e := u64_and1 s.sh hx t.toNat
  by_cases ht : t = -1
  · subst ht
    have e2 : s.has (-1) = false := rfl
    rw [e2]
    clear e2 e
    go_enter Tryz.func110, Tryz.ntmps110
    go_wp2
    go_ret
    exact ⟨rfl, rfl⟩
  · have e1 : (t != -1) = true := by simpa using ht
    have h1' : 0 ≤ t := by omega
    have e2 : s.has t = s.sh.testBit t.toNat := by simp [LS.has, ht]
    rw [e2, ← e]
    clear e e2 ht
    go_enter Tryz.func110, Tryz.ntmps110
    go_wp2
    go_ret
    exact ⟨rfl, rfl⟩
theorem of_any {w : World} {b o : Nat} {s : LS} (h : StAt w b o s) (t : Int) (h1 : -1 ≤ t) (h2 : t < 64) (hx : s.sh < 18446744073709551616) :
    Calls Tryz.prog 161 #[.pointer (some ⟨b, o, none⟩), .int .i64 t] w (Ret (.int .i64 (s.of t)) (fun w' => w = w')) := by
  have H := Lib.hid (has_any h t h1 h2 hx)
  obtain ⟨c0, c1, c2, c3, c4, c5, c6⟩ := h
  by_cases hE : s.ex = t
  · have e1 : (s.ex == t) = true := by simpa using hE
    have e2 : s.of t = 3 := by simp [LS.of, hE]
    rw [e2]
    clear e2 hE
    go_enter Tryz.func161, Tryz.ntmps161
    go_wp2
    go_ret
    exact ⟨rfl, rfl⟩
  · have e1 : (s.ex == t) = false := by simpa using hE
    by_cases hU : s.up = t
    · have e3 : (s.up == t) = true := by simpa using hU
      have e2 : s.of t = 2 := by simp [LS.of, hE, hU]
      rw [e2]
      clear e2 hE hU
      go_enter Tryz.func161, Tryz.ntmps161
      go_wp2
      go_ret
      exact ⟨rfl, rfl⟩
    · have e3 : (s.up == t) = false := by simpa using hU
      have e2 : s.of t = if s.has t then 1 else 0 := by simp [LS.of, hE, hU]
      rw [e2]
      clear e2 hE hU
      cases hh : s.has t with
      | true =>
        rw [hh] at H
        clear hh
        go_enter Tryz.func161, Tryz.ntmps161
        go_wp2_with fail
        refine H.out.mono ?_
        rintro e w1 ⟨rfl, rfl⟩
        go_wp2
        go_ret
        exact ⟨rfl, rfl⟩
      | false =>
        rw [hh] at H
        clear hh
        go_enter Tryz.func161, Tryz.ntmps161
        go_wp2_with fail
        refine H.out.mono ?_
        rintro e w1 ⟨rfl, rfl⟩
        go_wp2
        go_ret
        exact ⟨rfl, rfl⟩
/-- A slice of modes that a call has made for itself. -/
theorem wpl_appM {w : World} {ops : Array Oper} {rest : List Oper} {o : Oper} {x : Act} {Q : Exit → Act → World → Prop} (hgd : o.guard = none) (p q : Operand)
    (ho : o.op = .call { callee := .builtin .append, args := #[p, q], argTypes := #[95, 95] }) {B : Nat} {a a2 : Option Addr} {n c m c2 b2 o2 : Nat} {l l2 : List Int}
    (hd : x.eval p = .slice a n c) (hq : x.eval q = .slice a2 m c2) (hR : Row .i64 54 B w a n c l) (hL : Li .i64 w a2 m c2 b2 o2 l2) (hn : l.length + m ≤ 10000000) (hB : B ≤ w.heap.size)
    (hK : ∀ a' c' w', Row .i64 54 B w' a' (n + m) c' (l ++ l2) → Frm (blk (.slice a n c)) w w' → wpList Tryz.prog ops Q rest (x.put o.dst (.slice a' (n + m : Nat) c')) w') : wpList Tryz.prog ops Q (o :: rest) x w :=
  wpl_app Tryz.underlying95 info_md (by decide) (by decide) hgd p q ho hd hq hR hL hn hB hK
set_option maxHeartbeats 4000000 in
theorem held_any {w : World} {b o : Nat} {s : LS} (h : StAt w b o s) :
    Calls Tryz.prog 111 #[.pointer (some ⟨b, o, none⟩)] w (fun e w' => ∃ a n c, Ret (.slice a n c) (fun w' => Frm [] w w' ∧ Row .i64 54 w.heap.size w' a n c s.held) e w') := by
  have HS := Lib.hid h
  have hbl := h.lt
  obtain ⟨c0, c1, c2, c3, c4, c5, c6⟩ := h
  by_cases hS : s.sh = 0
  · have e0 : ((s.sh : Int) != 0) = false := by simp [hS]
    by_cases hU : s.up = -1
    · have e1 : (s.up != -1) = false := by simp [hU]
      by_cases hE : s.ex = -1
      · have e2 : (s.ex != -1) = false := by simp [hE]
        have hl : s.held = [] := by simp [LS.held, hS, hU, hE]
        rw [hl]
        clear hl hS hU hE
        go_enter Tryz.func111, Tryz.ntmps111
        go_wp2
        go_ret
        exact ⟨none, 0, 0, rfl, Frm.refl _ _, Row.nil _ _ _ _⟩
      · have e2 : (s.ex != -1) = true := by simp [hE]
        have hl : s.held = [3] := by simp [LS.held, hS, hU, hE]
        rw [hl]
        clear hl hS hU hE
        go_enter Tryz.func111, Tryz.ntmps111
        go_wp2_with (at_builtin; refine wpl_appM rfl (.tmp 25) (.tmp 26) rfl (B := w.heap.size) (a := none) (n := 0) (c := 0) (m := 1) (l := []) (l2 := [3]) (by simp [Act.eval]) (by simp [Act.eval]) (Row.nil _ _ _ _) (li_new rfl (heap_alloc_new _ _)) (by simp) (by simp) ?_; intro a1 k1 w1 hR1 f1; have g1 : Frm [] w w1 := ((Frm.refl _ _).alloc _).trans_new f1 (by intro x hx; cases hx); have q1 : StAt w1 b o s := HS.out.frm g1 (by simp); obtain ⟨c0, c1, c2, c3, c4, c5, c6⟩ := q1; rw [List.nil_append] at hR1)
        go_ret
        exact ⟨_, _, _, rfl, g1, hR1⟩
    · have e1 : (s.up != -1) = true := by simp [hU]
      by_cases hE : s.ex = -1
      · have e2 : (s.ex != -1) = false := by simp [hE]
        have hl : s.held = [2] := by simp [LS.held, hS, hU, hE]
        rw [hl]
        clear hl hS hU hE
        go_enter Tryz.func111, Tryz.ntmps111
        go_wp2_with (at_builtin; refine wpl_appM rfl (.tmp 17) (.tmp 18) rfl (B := w.heap.size) (a := none) (n := 0) (c := 0) (m := 1) (l := []) (l2 := [2]) (by simp [Act.eval]) (by simp [Act.eval]) (Row.nil _ _ _ _) (li_new rfl (heap_alloc_new _ _)) (by simp) (by simp) ?_; intro a1 k1 w1 hR1 f1; have g1 : Frm [] w w1 := ((Frm.refl _ _).alloc _).trans_new f1 (by intro x hx; cases hx); have q1 : StAt w1 b o s := HS.out.frm g1 (by simp); obtain ⟨c0, c1, c2, c3, c4, c5, c6⟩ := q1; rw [List.nil_append] at hR1)
        go_ret
        exact ⟨_, _, _, rfl, g1, hR1⟩
      · have e2 : (s.ex != -1) = true := by simp [hE]
        have hl : s.held = [2, 3] := by simp [LS.held, hS, hU, hE]
        rw [hl]
        clear hl hS hU hE
        go_enter Tryz.func111, Tryz.ntmps111
        go_wp2_with (first | (at_builtin; refine wpl_appM rfl (.tmp 17) (.tmp 18) rfl (B := w.heap.size) (a := none) (n := 0) (c := 0) (m := 1) (l := []) (l2 := [2]) (by simp [Act.eval]) (by simp [Act.eval]) (Row.nil _ _ _ _) (li_new rfl (heap_alloc_new _ _)) (by simp) (by simp) ?_; intro a1 k1 w1 hR1 f1; have g1 : Frm [] w w1 := ((Frm.refl _ _).alloc _).trans_new f1 (by intro x hx; cases hx); have q1 : StAt w1 b o s := HS.out.frm g1 (by simp); obtain ⟨c0, c1, c2, c3, c4, c5, c6⟩ := q1; rw [List.nil_append] at hR1) | (at_builtin; refine wpl_appM rfl (.tmp 25) (.tmp 26) rfl (B := w.heap.size) (a := a1) (n := 1) (c := k1) (m := 1) (l := [2]) (l2 := [3]) (by simp [Act.eval]) (by simp [Act.eval]) (hR1.frm0 ((Frm.refl _ _).alloc _)) (li_new rfl (heap_alloc_new _ _)) (by simp) (by have := g1.size; simp; omega) ?_; intro a2 k2 w2 hR2 f2; have g2 : Frm [] w w2 := (g1.alloc _).trans_new f2 (by intro x hx; have := hR1.blk x hx; right; omega); have q2 : StAt w2 b o s := HS.out.frm g2 (by simp); obtain ⟨c0, c1, c2, c3, c4, c5, c6⟩ := q2; rw [show ([2] : List Int) ++ [3] = [2, 3] from rfl] at hR2))
        go_ret
        exact ⟨_, _, _, rfl, g2, hR2⟩
  · have e0 : ((s.sh : Int) != 0) = true := by simp [hS]
    by_cases hU : s.up = -1
    · have e1 : (s.up != -1) = false := by simp [hU]
      by_cases hE : s.ex = -1
      · have e2 : (s.ex != -1) = false := by simp [hE]
        have hl : s.held = [1] := by simp [LS.held, hS, hU, hE]
        rw [hl]
        clear hl hS hU hE
        go_enter Tryz.func111, Tryz.ntmps111
        go_wp2_with (at_builtin; refine wpl_appM rfl (.tmp 9) (.tmp 10) rfl (B := w.heap.size) (a := none) (n := 0) (c := 0) (m := 1) (l := []) (l2 := [1]) (by simp [Act.eval]) (by simp [Act.eval]) (Row.nil _ _ _ _) (li_new rfl (heap_alloc_new _ _)) (by simp) (by simp) ?_; intro a1 k1 w1 hR1 f1; have g1 : Frm [] w w1 := ((Frm.refl _ _).alloc _).trans_new f1 (by intro x hx; cases hx); have q1 : StAt w1 b o s := HS.out.frm g1 (by simp); obtain ⟨c0, c1, c2, c3, c4, c5, c6⟩ := q1; rw [List.nil_append] at hR1)
        go_ret
        exact ⟨_, _, _, rfl, g1, hR1⟩
      · have e2 : (s.ex != -1) = true := by simp [hE]
        have hl : s.held = [1, 3] := by simp [LS.held, hS, hU, hE]
        rw [hl]
        clear hl hS hU hE
        go_enter Tryz.func111, Tryz.ntmps111
        go_wp2_with (first | (at_builtin; refine wpl_appM rfl (.tmp 9) (.tmp 10) rfl (B := w.heap.size) (a := none) (n := 0) (c := 0) (m := 1) (l := []) (l2 := [1]) (by simp [Act.eval]) (by simp [Act.eval]) (Row.nil _ _ _ _) (li_new rfl (heap_alloc_new _ _)) (by simp) (by simp) ?_; intro a1 k1 w1 hR1 f1; have g1 : Frm [] w w1 := ((Frm.refl _ _).alloc _).trans_new f1 (by intro x hx; cases hx); have q1 : StAt w1 b o s := HS.out.frm g1 (by simp); obtain ⟨c0, c1, c2, c3, c4, c5, c6⟩ := q1; rw [List.nil_append] at hR1) | (at_builtin; refine wpl_appM rfl (.tmp 25) (.tmp 26) rfl (B := w.heap.size) (a := a1) (n := 1) (c := k1) (m := 1) (l := [1]) (l2 := [3]) (by simp [Act.eval]) (by simp [Act.eval]) (hR1.frm0 ((Frm.refl _ _).alloc _)) (li_new rfl (heap_alloc_new _ _)) (by simp) (by have := g1.size; simp; omega) ?_; intro a2 k2 w2 hR2 f2; have g2 : Frm [] w w2 := (g1.alloc _).trans_new f2 (by intro x hx; have := hR1.blk x hx; right; omega); have q2 : StAt w2 b o s := HS.out.frm g2 (by simp); obtain ⟨c0, c1, c2, c3, c4, c5, c6⟩ := q2; rw [show ([1] : List Int) ++ [3] = [1, 3] from rfl] at hR2))
        go_ret
        exact ⟨_, _, _, rfl, g2, hR2⟩
    · have e1 : (s.up != -1) = true := by simp [hU]
      by_cases hE : s.ex = -1
      · have e2 : (s.ex != -1) = false := by simp [hE]
        have hl : s.held = [1, 2] := by simp [LS.held, hS, hU, hE]
        rw [hl]
        clear hl hS hU hE
        go_enter Tryz.func111, Tryz.ntmps111
        go_wp2_with (first | (at_builtin; refine wpl_appM rfl (.tmp 9) (.tmp 10) rfl (B := w.heap.size) (a := none) (n := 0) (c := 0) (m := 1) (l := []) (l2 := [1]) (by simp [Act.eval]) (by simp [Act.eval]) (Row.nil _ _ _ _) (li_new rfl (heap_alloc_new _ _)) (by simp) (by simp) ?_; intro a1 k1 w1 hR1 f1; have g1 : Frm [] w w1 := ((Frm.refl _ _).alloc _).trans_new f1 (by intro x hx; cases hx); have q1 : StAt w1 b o s := HS.out.frm g1 (by simp); obtain ⟨c0, c1, c2, c3, c4, c5, c6⟩ := q1; rw [List.nil_append] at hR1) | (at_builtin; refine wpl_appM rfl (.tmp 17) (.tmp 18) rfl (B := w.heap.size) (a := a1) (n := 1) (c := k1) (m := 1) (l := [1]) (l2 := [2]) (by simp [Act.eval]) (by simp [Act.eval]) (hR1.frm0 ((Frm.refl _ _).alloc _)) (li_new rfl (heap_alloc_new _ _)) (by simp) (by have := g1.size; simp; omega) ?_; intro a2 k2 w2 hR2 f2; have g2 : Frm [] w w2 := (g1.alloc _).trans_new f2 (by intro x hx; have := hR1.blk x hx; right; omega); have q2 : StAt w2 b o s := HS.out.frm g2 (by simp); obtain ⟨c0, c1, c2, c3, c4, c5, c6⟩ := q2; rw [show ([1] : List Int) ++ [2] = [1, 2] from rfl] at hR2))
        go_ret
        exact ⟨_, _, _, rfl, g2, hR2⟩
      · have e2 : (s.ex != -1) = true := by simp [hE]
        have hl : s.held = [1, 2, 3] := by simp [LS.held, hS, hU, hE]
        rw [hl]
        clear hl hS hU hE
        go_enter Tryz.func111, Tryz.ntmps111
        go_wp2_with (first | (at_builtin; refine wpl_appM rfl (.tmp 9) (.tmp 10) rfl (B := w.heap.size) (a := none) (n := 0) (c := 0) (m := 1) (l := []) (l2 := [1]) (by simp [Act.eval]) (by simp [Act.eval]) (Row.nil _ _ _ _) (li_new rfl (heap_alloc_new _ _)) (by simp) (by simp) ?_; intro a1 k1 w1 hR1 f1; have g1 : Frm [] w w1 := ((Frm.refl _ _).alloc _).trans_new f1 (by intro x hx; cases hx); have q1 : StAt w1 b o s := HS.out.frm g1 (by simp); obtain ⟨c0, c1, c2, c3, c4, c5, c6⟩ := q1; rw [List.nil_append] at hR1) | (at_builtin; refine wpl_appM rfl (.tmp 17) (.tmp 18) rfl (B := w.heap.size) (a := a1) (n := 1) (c := k1) (m := 1) (l := [1]) (l2 := [2]) (by simp [Act.eval]) (by simp [Act.eval]) (hR1.frm0 ((Frm.refl _ _).alloc _)) (li_new rfl (heap_alloc_new _ _)) (by simp) (by have := g1.size; simp; omega) ?_; intro a2 k2 w2 hR2 f2; have g2 : Frm [] w w2 := (g1.alloc _).trans_new f2 (by intro x hx; have := hR1.blk x hx; right; omega); have q2 : StAt w2 b o s := HS.out.frm g2 (by simp); obtain ⟨c0, c1, c2, c3, c4, c5, c6⟩ := q2; rw [show ([1] : List Int) ++ [2] = [1, 2] from rfl] at hR2) | (at_builtin; refine wpl_appM rfl (.tmp 25) (.tmp 26) rfl (B := w.heap.size) (a := a2) (n := 2) (c := k2) (m := 1) (l := [1, 2]) (l2 := [3]) (by simp [Act.eval]) (by simp [Act.eval]) (hR2.frm0 ((Frm.refl _ _).alloc _)) (li_new rfl (heap_alloc_new _ _)) (by simp) (by have := g2.size; simp; omega) ?_; intro a3 k3 w3 hR3 f3; have g3 : Frm [] w w3 := (g2.alloc _).trans_new f3 (by intro x hx; have := hR2.blk x hx; right; omega); have q3 : StAt w3 b o s := HS.out.frm g3 (by simp); obtain ⟨c0, c1, c2, c3, c4, c5, c6⟩ := q3; rw [show ([1, 2] : List Int) ++ [3] = [1, 2, 3] from rfl] at hR3))
        go_ret
        exact ⟨_, _, _, rfl, g3, hR3⟩
#print axioms held_any
end Go.Proofs.YtjhidkjhfgbaeaaGreatDoor

/- Package latch, the state: goes, allNodes, queues, may's thread. -/
namespace Go.Proofs.YtjhidkjhfgbaeaaGreatDoor
open Go.ChangeShapes Go.WideShapes Go.ChangeAt Go.RowKit
set_option linter.unusedVariables false

theorem LS.held_len (s : LS) : s.held.length ≤ 3 := by
  unfold LS.held; split <;> split <;> split <;> simp
set_option maxHeartbeats 4000000 in
theorem goesL_any {w : World} (hW : Laid w) {b o : Nat} {s : LS} (h : StAt w b o s) (m : Int) (beh : Bool) :
    Calls Tryz.prog 132 #[.pointer (some ⟨b, o, none⟩), .int .i64 m, .bool beh] w (Ret (.bool (s.goes m beh)) (fun w' => Frm [] w w')) := by
  have HS : Hid (∀ w', Frm [] w w' → StAt w' b o s) := Lib.hid fun w' hf => h.frm hf (by simp)
  have HL : Hid (∀ w', Frm [] w w' → Laid w') := Lib.hid fun w' hf => hW.frm0 hf
  have c4 : ∀ w', Frm [] w w' → w'.cell? ⟨b, o + 4, none⟩ = some (.int .i64 s.gr) := fun w' hf => (h.frm hf (by simp)).2.2.2.2.1
  have hbl := h.lt
  have hlen := s.held_len
  clear h hW
  unfold LS.goes
  go_enter Tryz.func132, Tryz.ntmps132
  go_wp2_with fail
  go_region_held3 (fun w' => Frm [] w w') (repeat' (first | assumption | exact Frm.refl _ _ | apply Frm.drew | apply Frm.drewN | (refine Frm.trans ?_ g1))) (first
    | (go_at_call 111; (with_reducible refine (held_any (HS.out _ (by assumption))).mono ?_); rintro e w1 ⟨a, n, c, rfl, g1, hR⟩; obtain ⟨lb, hLi⟩ := hR.li; have HLi := Lib.hid hLi; have hn : n ≤ 1000 := (by have := hR.2; omega); clear hLi hR)
    | (go_at_call 154; (with_reducible refine (Goes_any (HL.out _ (by assumption)) (HLi.out.frm0 (by (repeat' (first | exact Frm.refl _ _ | apply Frm.drew | apply Frm.drewN)))) hn m s.gr beh).mono ?_); rintro e w2 ⟨rfl, g1⟩))
  all_goals go_wp2
  all_goals go_ret
  all_goals exact ⟨rfl, by assumption⟩
/-- A node by which a thread waits for a latch. -/
def isL (T : Nat) (k : Int) : Bool := decide (0 ≤ k ∧ k < 2 * (T : Int) ∧ k % 2 = 1)
theorem queues_any {w : World} {p b t : Nat} (h : Nd w p b t) (k : Int) : Calls Tryz.prog 112 #[.pointer (some ⟨p, 0, none⟩), .int .i64 k] w (Ret (.bool (isL t k)) (fun w' => w = w')) := by
  have t64 := h.t64
  by_cases hk : k < 0 ∨ 2 * (t : Int) ≤ k
  · have H := Lib.hid (owner_no h k hk)
    have e : isL t k = false := by simp [isL]; omega
    rw [e]
    clear h e hk
    go_enter Tryz.func112, Tryz.ntmps112
    go_wp2_with fail
    refine H.out.mono ?_
    rintro e w1 ⟨rfl, rfl⟩
    go_wp2
    go_ret
    exact ⟨rfl, rfl⟩
  · obtain ⟨k, rfl⟩ := Int.eq_ofNat_of_zero_le (show 0 ≤ k by omega)
    have hk' : k < 2 * t := by omega
    have H := Lib.hid (owner_yes h k hk')
    have H2 := Lib.hid (of_yes h (k / 2) 1 (by omega) (by decide))
    have e1 : (((k / 2 : Nat) : Int) * 2 + ((1 : Nat) : Int) == (k : Int)) = isL t k := by
      rw [Bool.eq_iff_iff]; simp [isL]; omega
    have e2 : ((k / 2 : Nat) : Int) = (k : Int) / 2 := by omega
    rw [e2] at H2 e1
    rw [← e1]
    clear h hk e1 e2
    cases hx : ((k : Int) / 2 * 2 + ((1 : Nat) : Int) == (k : Int)) with
    | true =>
      have hx1 : ((k : Int) / 2 * 2 + 1 == (k : Int)) = true := hx
      clear hx
      go_enter Tryz.func112, Tryz.ntmps112
      go_wp2_with fail
      refine H.out.mono ?_
      rintro e w1 ⟨rfl, rfl⟩
      go_wp2_with fail
      refine H2.out.mono ?_
      rintro e w1 ⟨rfl, rfl⟩
      go_wp2
      go_ret
      exact ⟨rfl, rfl⟩
    | false =>
      have hx1 : ((k : Int) / 2 * 2 + 1 == (k : Int)) = false := hx
      clear hx
      go_enter Tryz.func112, Tryz.ntmps112
      go_wp2_with fail
      refine H.out.mono ?_
      rintro e w1 ⟨rfl, rfl⟩
      go_wp2_with fail
      refine H2.out.mono ?_
      rintro e w1 ⟨rfl, rfl⟩
      go_wp2
      go_ret
      exact ⟨rfl, rfl⟩
/-- A thread that there is, or nobody. -/
def isT (T : Nat) (t : Int) : Bool := decide (-1 ≤ t) && decide (t < T)
theorem mayt_any {w : World} {p b t : Nat} (h : Nd w p b t) (g : Nat) (hg : w.cell? ⟨g, 0, none⟩ = some (.pointer (some ⟨p, 0, none⟩))) (x : Int) :
    Calls Tryz.prog 109 #[.int .i64 x, .pointer (some ⟨g, 0, none⟩)] w (Ret (.bool (isT t x)) (fun w' => w = w')) := by
  have H := Lib.hid (threads_nd h)
  clear h
  by_cases hx : -1 ≤ x
  · have e1 : decide (-1 ≤ x) = true := by simpa using hx
    have e2 : isT t x = decide (x < t) := by simp [isT, hx]
    rw [e2]
    clear e2 hx
    go_enter Tryz.func109, Tryz.ntmps109
    go_wp2_with fail
    refine H.out.mono ?_
    rintro e w1 ⟨rfl, rfl⟩
    go_wp2
    go_ret
    exact ⟨rfl, rfl⟩
  · have e1 : decide (-1 ≤ x) = false := by simpa using hx
    have e2 : isT t x = false := by simp [isT]; omega
    rw [e2]
    clear e2 hx
    go_enter Tryz.func109, Tryz.ntmps109
    go_wp2
    go_ret
    exact ⟨rfl, rfl⟩
theorem allNodes_any (w : World) : Calls Tryz.prog 75 #[] w (Ret (.pointer (some ⟨w.heap.size, 0, none⟩)) (fun w' => Frm [] w w' ∧ Nd w' w.heap.size 0 64)) := by
  have H := Lib.hid (nodes_new w 0 64 (by decide) (by decide) (by decide))
  go_enter Tryz.func75, Tryz.ntmps75
  go_wp2_with fail
  refine H.out.mono ?_
  rintro e w1 ⟨rfl, hF, hN⟩
  go_wp2
  go_ret
  exact ⟨rfl, hF, hN⟩
end Go.Proofs.YtjhidkjhfgbaeaaGreatDoor
