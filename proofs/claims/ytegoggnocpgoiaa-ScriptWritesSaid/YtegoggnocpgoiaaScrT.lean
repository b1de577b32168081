/- The reference: Parse, Same. -/
import Derived.Test.YtegoggnocpgoiaaScrQ
namespace Go.Proofs.Ytegoggnocpgoiaa
open Go.ChangeShapes Go.WideShapes Go.ChangeAt Go.RowKit

theorem run_min2 {w : World} (ts : Array TypeId) (t : TypeId) (x y : Nat) : (Builtin.min_ ts t #[.int .i64 (x : Int), .int .i64 (y : Int)]).run Try.prog w = .ok (.int .i64 ((min x y : Nat) : Int)) w := by
  by_cases h : y < x
  · have : (y : Int) < (x : Int) := by omega
    simp [Builtin.min_, Builtin.min2, this, Nat.min_def, show ¬ x ≤ y by omega]
  · have : ¬ (y : Int) < (x : Int) := by omega
    simp [Builtin.min_, Builtin.min2, this, Nat.min_def, show x ≤ y by omega]

set_option maxRecDepth 100000 in
set_option maxHeartbeats 4000000 in
theorem rparse_any {w : World} {a : Option Addr} {n c b o : Nat} {l : List Int} (hL : Li .u8 w a n c b o l) (hB : Byt l) (hn : n ≤ 5000) (t : Int) (t0 : 1 ≤ t) (t1 : t ≤ 64) :
    Calls Try.prog 11 #[.slice a n c, .int .i64 t] w (fun e w' => ∃ a' c', Ret (.slice a' (prs l t).length c') (fun w' => Frm [] w w' ∧ RowP w.heap.size w' a' (prs l t).length c' (prs l t)) e w') := by
  obtain ⟨P, hP⟩ : ∃ P, prs l t = P := ⟨_, rfl⟩
  rw [hP]
  have hPl : P.length ≤ 5000 := by rw [← hP]; have := prs_le l t; have := hL.len; omega
  have hlt0 : 0 < n → b < w.heap.size := hL.lt
  have HL := Lib.hid hL
  have HB := Lib.hid hB
  have HP := Lib.hid hP
  have HT0 := Lib.hid t0
  have HT1 := Lib.hid t1
  have HLT := Lib.hid hlt0
  clear hL hB hP t0 t1 hlt0
  go_enter Try.func11, Try.ntmps11
  go_wp2_with fail
  go_loopg [0, 5] n (fun g u v w' => ∃ (k n1 c1 o1 : Nat) (a1 a' : Option Addr) (c' : Nat) (D : List Opr) (R : List Int), u = .slice a1 n1 c1 ∧ n1 ≤ 5000 ∧ v = .slice a' k c' ∧ Frm [] w w' ∧ n1 = g ∧ Hid (RowP w.heap.size w' a' k c' D) ∧
    Hid (Li .u8 w' a1 n1 c1 b o1 R) ∧ Hid (0 < n1 → b < w.heap.size) ∧ Hid (D ++ prs R t = P) ∧ Hid (Byt R))
  case atStart =>
    exact ⟨0, n, c, o, a, none, 0, [], l, rfl, by omega, rfl, Frm.refl _ _, rfl, Lib.hid (RowP.nil _ _), HL, HLT, Lib.hid (by simpa using HP.out), Lib.hid HB.out⟩
  case round =>
    obtain ⟨k, n1, c1, o1, a1, a', c', D, R, rfl, hn1, rfl, hF, hg, HR, HLi, HBL, HE, HY⟩ := hrel
    have Hg := Lib.hid hg
    clear hg
    by_cases hlt : 0 < n1
    · have hlen := HLi.out.len
      have hne : R ≠ [] := by intro e; rw [e] at hlen; simp at hlen; omega
      have hpr := prs_cons (t := t) hne
      have hlD := HE.out
      rw [hpr] at hlD
      have hkl : D.length + 1 ≤ P.length := by rw [← hlD]; simp
      have hkD : k = D.length := HR.out.2
      have HPR := Lib.hid hlD
      have hcall := rnext2_any HLi.out HY.out t HT0.out HT1.out
      have HC := Lib.hid hcall
      have hge := nxN_ge R
      obtain ⟨q, hq⟩ : ∃ q, nx R t = q := ⟨_, rfl⟩
      obtain ⟨z, hz⟩ : ∃ z, nxN R = z := ⟨_, rfl⟩
      rw [hz] at hge
      have hmin := fun (W : World) (ts : Array TypeId) (ty : TypeId) => run_min2 (w := W) ts ty z n1
      obtain ⟨a2, hcut, hL2⟩ := cut_from HLi.out (min z n1) (by omega)
      have hdrop : R.drop (min z n1) = R.drop (nxN R) := by
        by_cases h : z ≤ n1
        · rw [show min z n1 = z by omega, hz]
        · rw [show min z n1 = n1 by omega, hz, List.drop_eq_nil_of_le (by omega), List.drop_eq_nil_of_le (by omega)]
      rw [hdrop] at hL2
      rw [hz] at HC
      rw [hq] at HC HPR
      have hmz : min z n1 ≤ n1 ∧ (2 ≤ min z n1 ∨ min z n1 = n1) := by omega
      have hmzp : 0 < min z n1 := by omega
      generalize min z n1 = m at hmin hcut hL2 hmz hmzp
      have HM := Lib.hid hmin
      have HCUT := Lib.hid hcut
      have HL2 := Lib.hid hL2
      have HKD := Lib.hid hkD
      clear hlen hne hpr hlD hcall hq hz hmin hcut hL2 hdrop hkD
      go_wp2_with fail
      refine HC.out.mono ?_
      rintro e w2 ⟨rfl, hF2⟩
      have hF3 : Frm [] w w2 := hF.trans hF2
      have hx := (Frm.refl [] w2).alloc (.cells #[.int .i64 q.k, .int .i64 q.t, .int .i64 q.n, .int .i64 q.v, .string q.key, .string q.val, .string q.old, .int .i64 q.tk] 30)
      have hy := hx.alloc (.cells #[.int .i64 q.k, .int .i64 q.t, .int .i64 q.n, .int .i64 q.v, .string q.key, .string q.val, .string q.old, .int .i64 q.tk] 30)
      have HROW := Lib.hid ((HR.out.frm0 hF2).frm0 hy)
      have HL3 := Lib.hid ((HL2.out.frm0 hF2).frm0 hy)
      have hmin := HM.out
      have hcut := HCUT.out
      clear hF2 hx hy
      go_wp2_with (at_builtin; refine wpl_appP rfl (.tmp 17) (.tmp 19) rfl (B := w.heap.size) (a := a') (n := k) (c := c') (g := w2.heap.size + 1) (l := D) (y := q) (by simp [Act.eval]) (by simp [Act.eval]) HROW.out (heap_alloc_at _ (by simp)) (by omega) (by have := hF3.size; simp; omega) ?_; intro a3 c3 w3 hR3 hF4)
      have hFe : Frm [] w w3 := ((hF3.alloc _).alloc _).trans_new hF4 (fun x hx => .inr (HR.out.blk x hx).1)
      have hL5 := HL3.out.frm hF4 (fun h0 hx => by have := (HR.out.blk _ hx).1; have := HBL.out hlt; omega)
      have HROW5 := Lib.hid hR3
      have HL5 := Lib.hid hL5
      clear hR3 hF4 hL5
      go_wp2
      go_roundg (n1 - m)
      case measure => have := Hg.out; omega
      case rel =>
        exact ⟨k + 1, n1 - m, c1 - m, o1 + m, a2, a3, c3, D ++ [q], R.drop (nxN R), rfl, by omega, rfl, hFe, rfl, HROW5, HL5, Lib.hid (fun h0 => HBL.out hlt), Lib.hid (by have := HPR.out; simpa using this), Lib.hid (HY.out.drop _)⟩
    · have hPD : P = D := by
        have hlen := HLi.out.len
        obtain rfl : R = [] := List.eq_nil_of_length_eq_zero (by omega)
        have := HE.out
        rw [prs_nil] at this
        simpa using this.symm
      subst hPD
      obtain rfl := HR.out.2
      go_wp2
      go_ret
      exact ⟨a', c', rfl, hF, HR.out⟩

theorem opEq_refl (a : Opr) : opEq a a = true := opEq_iff.2 rfl
set_option maxRecDepth 100000 in
set_option maxHeartbeats 2000000 in
theorem same_yes {w : World} {a : Option Addr} {n c b o : Nat} {l : List Opr} (hL : Lo w a n c b o l) {a2 : Option Addr} {c2 b2 o2 : Nat} (hL2 : Lo w a2 n c2 b2 o2 l) (hn : n ≤ 100000) :
    Calls Try.prog 25 #[.slice a n c, .slice a2 n c2] w (Ret (.bool true) (fun w' => Frm [] w w')) := by
  have HL := Lib.hid hL
  have HL2 := Lib.hid hL2
  clear hL hL2
  have hnb : ((n : Int) != (n : Int)) = false := by simp
  go_enter Try.func25, Try.ntmps25
  go_wp2_with fail
  go_loopw [5] (fun i w' => ∃ k : Nat, k ≤ n ∧ i = .int .i64 k ∧ ∃ m, w' = w.drewN m) (fun i _ => n - (intOf i).toNat)
  case atStart => exact ⟨0, by omega, rfl, 0, rfl⟩
  case round =>
    obtain ⟨k, hk, rfl, m, rfl⟩ := hrel
    by_cases hlt : k < n
    · have hb0 : (0 : Int) ≤ (k : Int) := by omega
      have hb2 : (k : Int) < (n : Int) := by omega
      obtain ⟨x, hx, hat⟩ := HL.out.get hlt
      have hat2 := HL2.out.cell k x hx
      have hix := ix_op (c := c) HL.out.ad hlt
      have hix2 := ix_op (c := c2) HL2.out.ad hlt
      have hne := neq_op x x
      rw [opEq_refl] at hne
      obtain ⟨c0, c1, c2, c3, c4, c5, c6, c7⟩ := hat
      obtain ⟨d0, d1, d2, d3, d4, d5, d6, d7⟩ := hat2
      clear hx
      go_wp2_with fail
      go_quiet (fail)
      go_wp2
      go_roundw
      case rel => exact ⟨k + 1, by omega, by go_num, _, rfl⟩
      case measure => simp [intOf]; omega
    · obtain rfl : k = n := by omega
      go_wp2
      go_ret
      exact ⟨rfl, (Frm.refl _ _).drewN _⟩
end Go.Proofs.Ytegoggnocpgoiaa
