/- Package script: Parse. -/
import Derived.Test.YtegoggnocpgoiaaScrE
import Derived.Deep.LoopGhost
namespace Go.Proofs.Ytegoggnocpgoiaa
open Go.ChangeShapes Go.WideShapes Go.ChangeAt Go.RowKit

theorem parse_arg (w : World) (v : Value) (t : Int) (hm : mb t = false) : Calls Try.prog 21 #[v, .int .i64 t] w (Ret (.tuple #[.slice none 0 0, .int .i64 2]) (fun w' => Frm [] w w')) := by
  have HM := Lib.hid hm
  clear hm
  go_enter Try.func21, Try.ntmps21
  go_wp2_with (go_at_call 32; refine (maybe_any _ _).mono ?_; rintro e w' ⟨rfl, rfl⟩; rw [HM.out])
  go_ret2
  exact ⟨rfl, Frm.refl _ _⟩
theorem parse_long (w : World) (a : Option Addr) (n c : Nat) (t : Int) (hm : mb t = true) (hn : 4096 < n) : Calls Try.prog 21 #[.slice a n c, .int .i64 t] w (Ret (.tuple #[.slice none 0 0, .int .i64 5]) (fun w' => Frm [] w w')) := by
  have HM := Lib.hid hm
  have hb : decide ((4096 : Int) < (n : Int)) = true := by simp; omega
  clear hm
  go_enter Try.func21, Try.ntmps21
  go_wp2_with (go_at_call 32; refine (maybe_any _ _).mono ?_; rintro e w' ⟨rfl, rfl⟩; rw [HM.out])
  go_ret2
  exact ⟨rfl, Frm.refl _ _⟩

/-- The reader's block is none of a row's of operations. -/
theorem rd_row_ne {B q : Nat} {w : World} {a : Option Addr} {n c : Nat} {l : List Opr} {v : Value} (h : RowP B w a n c l) (hq : w.heap[q]? = some (.cells #[v] 63 (0, 0))) : q ∉ blk (.slice a n c) := by
  intro hx
  obtain ⟨h0, hh⟩ := h.1
  rcases hh with ⟨hv, _⟩ | ⟨g, cap, cur, hv, hg, hc, r⟩
  · rw [hv] at hx; cases hx
  · rw [hv] at hx; simp [blk] at hx; subst hx
    have := hq.symm.trans hc
    simp at this
theorem li_row_ne {B : Nat} {w : World} {a a2 : Option Addr} {n c n2 c2 b o : Nat} {l : List Opr} {l2 : List Int} (h : RowP B w a n c l) (hL : Li .u8 w a2 n2 c2 b o l2) (hb : b < B) : b ∉ blk (.slice a n c) := by
  intro hx
  have := (h.blk b hx).1
  omega

set_option maxHeartbeats 4000000 in
theorem parse_ok {w : World} {a : Option Addr} {n c b o : Nat} {l : List Int} (hL : Li .u8 w a n c b o l) (hB : Byt l) (hn : n ≤ 4096) (t : Int) (hm : mb t = true) :
    Calls Try.prog 21 #[.slice a n c, .int .i64 t] w (fun e w' => ∃ a' c', Ret (.tuple #[.slice a' (prs l t).length c', .int .i64 0]) (fun w' => Frm [] w w' ∧ RowP w.heap.size w' a' (prs l t).length c' (prs l t)) e w') := by
  obtain ⟨t0, t1⟩ := mb_iff.1 hm
  have hb : decide ((4096 : Int) < (n : Int)) = false := by simp; omega
  obtain ⟨P, hP⟩ : ∃ P, prs l t = P := ⟨_, rfl⟩
  rw [hP]
  have hPl : P.length ≤ 4096 := by rw [← hP]; have := prs_le l t; have := hL.len; omega
  have HM := Lib.hid hm
  have HL := Lib.hid hL
  have HB := Lib.hid hB
  have HP := Lib.hid hP
  have HT0 := Lib.hid t0
  have HT1 := Lib.hid t1
  clear hm hL hB hP t0 t1
  go_enter Try.func21, Try.ntmps21
  go_wp2_with fail
  refine (maybe_any _ _).mono ?_
  rintro e w' ⟨rfl, rfl⟩
  rw [HM.out]
  go_wp2_with fail
  have e7 := heap_alloc_new w (.cells #[.slice a n c] 63)
  go_loopg [6, 7] n (fun g v p w' => ∃ (q k : Nat) (a' : Option Addr) (c' : Nat) (D : List Opr) (R : List Int), p = .pointer (some ⟨q, 0, none⟩) ∧ w.heap.size ≤ q ∧ v = .slice a' k c' ∧ Frm [] w w' ∧ R.length = g ∧ Hid (RowP w.heap.size w' a' k c' D) ∧
    Hid (RdAt w.heap.size w' q R) ∧ Hid (D ++ prs R t = P) ∧ Hid (Byt R))
  case atStart =>
    exact ⟨w.heap.size, 0, none, 0, [], l, rfl, Nat.le_refl _, rfl, (Frm.refl _ _).alloc _, HL.out.len, Lib.hid (RowP.nil _ _), Lib.hid ⟨a, n, c, b, o, e7, HL.out.frm0 ((Frm.refl _ _).alloc _), fun h0 => HL.out.lt h0⟩, Lib.hid (by simpa using HP.out), Lib.hid HB.out⟩
  case round =>
    obtain ⟨q, k, a', c', D, R, rfl, hq, rfl, hF, hg, HR, HD, HE, HY⟩ := hrel
    obtain ⟨a2, n2, c2, b2, o2, hp, hL2, hb2⟩ := HD.out
    have c7 : wr.cell? ⟨q, 0, none⟩ = some (.slice a2 n2 c2) := by rw [cell_of_heap hp]; rfl
    have hlen := hL2.len
    have hgk : n2 = gk := by omega
    have Hg := Lib.hid hgk
    have Hlen := Lib.hid hlen
    have HQ := Lib.hid hp
    clear hp hL2 hg hlen hgk
    by_cases hlt : 0 < n2
    · have hne : R ≠ [] := by intro e; have := Hlen.out; rw [e] at this; simp at this; omega
      have hpr := prs_cons (t := t) hne
      have hkD : k = D.length := HR.out.2
      have hlD := HE.out
      rw [hpr] at hlD
      have hkl : D.length + 1 ≤ P.length := by rw [← hlD]; simp
      have HPR := Lib.hid hlD
      have HKD := Lib.hid hkD
      have hop := op_any HD.out HY.out t HT0.out HT1.out
      have HOP := Lib.hid hop
      clear hne hpr hlD hkD hop
      go_wp2_with fail
      refine HOP.out.mono ?_
      rintro e w2 ⟨rfl, hF2, hR2⟩
      have hq2 := rd_row_ne HR.out HQ.out
      have hRow := HR.out.frm hF2 (fun x hx => by simp; rintro rfl; exact hq2 hx)
      have hRow3 := hRow.frm0 ((Frm.refl [] w2).alloc (.cells #[.int .i64 (nx R t).k, .int .i64 (nx R t).t, .int .i64 (nx R t).n, .int .i64 (nx R t).v, .string (nx R t).key, .string (nx R t).val, .string (nx R t).old, .int .i64 (nx R t).tk] 30))
      have hF3 : Frm [] w w2 := hF.trans_new hF2 (by intro x hx; simp at hx; subst hx; exact .inr hq)
      have HRow := Lib.hid hRow3
      obtain ⟨a4, n4, c4, b4, o4, hp4, hL4, hb4⟩ := hR2
      have HP4 := Lib.hid (heap_alloc_old (.cells #[.int .i64 (nx R t).k, .int .i64 (nx R t).t, .int .i64 (nx R t).n, .int .i64 (nx R t).v, .string (nx R t).key, .string (nx R t).val, .string (nx R t).old, .int .i64 (nx R t).tk] 30) hp4)
      have HL4 := Lib.hid (hL4.frm0 ((Frm.refl [] w2).alloc (.cells #[.int .i64 (nx R t).k, .int .i64 (nx R t).t, .int .i64 (nx R t).n, .int .i64 (nx R t).v, .string (nx R t).key, .string (nx R t).val, .string (nx R t).old, .int .i64 (nx R t).tk] 30)))
      clear HOP hRow hRow3 hp4 hL4
      go_wp2_with (at_builtin; refine wpl_appP rfl (.tmp 20) (.tmp 23) rfl (B := w.heap.size) (a := a') (n := k) (c := c') (l := D) (y := nx R t) (by simp [Act.eval]) (by simp [Act.eval]) HRow.out (heap_alloc_new _ _) (by omega) (by have := hF3.size; simp; omega) ?_; intro a3 c3 w3 hR3 hF4; have hp5 := hF4.heap HP4.out hq2; have c73 : w3.cell? ⟨q, 0, none⟩ = some (.slice a4 n4 c4) := by { rw [cell_of_heap hp5]; rfl })
      have hRw := hF4
      have hFe : Frm [] w w3 := (hF3.alloc _).trans_new hF4 (fun x hx => .inr (HR.out.blk x hx).1)
      have hL5 := HL4.out.frm hF4 (fun h0 hx => by have := (HR.out.blk _ hx).1; have := hb4 h0; omega)
      have hrow5 := hR3.frm0 ((Frm.refl [] w3).alloc (.cells #[.slice a4 n4 c4] 63))
      have HROW := Lib.hid hrow5
      clear hRw hp5 hR3 hrow5 hF4
      go_wp2
      go_roundg n4
      case measure =>
        have h1 := HL4.out.len
        rw [List.length_drop] at h1
        have := Hlen.out
        have := Hg.out
        have := nxN_ge R
        omega
      case rel =>
        exact ⟨w3.heap.size, k + 1, a3, c3, D ++ [nx R t], R.drop (nxN R), rfl, hFe.size, rfl, hFe.alloc _, HL4.out.len, HROW, Lib.hid ⟨a4, n4, c4, b4, o4, heap_alloc_new _ _, hL5.frm0 ((Frm.refl _ _).alloc _), hb4⟩, Lib.hid (by have := HPR.out; simpa using this), Lib.hid (HY.out.drop _)⟩
    · have hPD : P = D := by
        have h1 := Hlen.out
        obtain rfl : R = [] := List.eq_nil_of_length_eq_zero (by omega)
        have := HE.out
        rw [prs_nil] at this
        simpa using this.symm
      subst hPD
      obtain rfl := HR.out.2
      go_wp2
      refine bodyPost_ret (v := .tuple #[.slice a' P.length c', .int .i64 0]) (by simp [results, Try.results21, go_sem]) rfl ⟨a', c', rfl, hF, HR.out⟩
end Go.Proofs.Ytegoggnocpgoiaa
