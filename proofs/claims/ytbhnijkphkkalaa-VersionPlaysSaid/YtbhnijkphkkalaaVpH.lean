/- The reference's Next, whole: it makes the same step. -/
import Derived.Test.YtbhnijkphkkalaaVpE
import Derived.Test.YtbhnijkphkkalaaVpF
import Derived.Test.YtbhnijkphkkalaaVpG
namespace Go.Proofs.Ytbhnijkphkkalaa
open Go.ChangeShapes Go.WideShapes Go.ChangeAt Go.RowKit
set_option linter.unusedVariables false

section
variable {w : World} {ws : List Int} {n g oo c : Nat}
theorem do_load (hn : ws.length = n) (h0 : 0 < n) (hrd : Rd w (.slice (some ⟨g, oo, none⟩) n c) (u64s ws)) (hle : n ≤ 65536) (x : Nat) (v : Int) (hx : ws[x]? = some v) :
    Calls Try.prog 39 #[.slice (some ⟨g, oo, none⟩) n c, .agg #[.int .i64 1, .int .i64 x, .int .u64 0, .int .u64 0]] w (DoQ w n g ws 1 x v v 0) := by
  have hl : x < ws.length := (List.getElem?_eq_some_iff.1 hx).1
  have e0 : mErr n 1 x = 0 := by unfold mErr; rw [if_neg (by omega), if_neg (by omega)]
  have hg : ws.getD (x : Int).toNat 0 = v := by rw [List.getD_eq_getElem?_getD, Int.toNat_natCast, hx]; rfl
  have ea : ∀ y : Int, aft 1 0 0 y = y := fun y => by simp [aft]
  have e1 : mWs ws ⟨1, x, 0, 0⟩ = ws := by
    unfold mWs; simp only []; rw [hn, if_pos e0, hg, ea]
    apply List.ext_getElem?; intro j; rw [List.getElem?_set]; split
    · rename_i e; subst e; rw [if_pos (by simpa using hl)]; simpa using hx.symm
    · rfl
  have e2 : mRes ws ⟨1, x, 0, 0⟩ = ⟨1, x, v, v⟩ := by unfold mRes; simp only []; rw [hn, if_pos e0, hg, ea]
  refine (refdo_n hn h0 hrd hle ⟨1, x, 0, 0⟩).mono fun e w' hh => ?_
  rw [e0, e1, e2] at hh
  exact hh
theorem do_store (hn : ws.length = n) (h0 : 0 < n) (hrd : Rd w (.slice (some ⟨g, oo, none⟩) n c) (u64s ws)) (hle : n ≤ 65536) (x : Nat) (v u : Int) (hx : ws[x]? = some v) :
    Calls Try.prog 39 #[.slice (some ⟨g, oo, none⟩) n c, .agg #[.int .i64 2, .int .i64 x, .int .u64 0, .int .u64 u]] w (DoQ w n g (ws.set x u) 2 x v u 0) := by
  have hl : x < ws.length := (List.getElem?_eq_some_iff.1 hx).1
  have e0 : mErr n 2 x = 0 := by unfold mErr; rw [if_neg (by omega), if_neg (by omega)]
  have hg : ws.getD (x : Int).toNat 0 = v := by rw [List.getD_eq_getElem?_getD, Int.toNat_natCast, hx]; rfl
  have ea : ∀ y : Int, aft 2 0 u y = u := fun y => by simp [aft]
  have e1 : mWs ws ⟨2, x, 0, u⟩ = ws.set x u := by unfold mWs; simp only []; rw [hn, if_pos e0, ea]; simp
  have e2 : mRes ws ⟨2, x, 0, u⟩ = ⟨2, x, v, u⟩ := by unfold mRes; simp only []; rw [hn, if_pos e0, hg, ea]
  refine (refdo_n hn h0 hrd hle ⟨2, x, 0, u⟩).mono fun e w' hh => ?_
  rw [e0, e1, e2] at hh
  exact hh
theorem do_out (hn : ws.length = n) (h0 : 0 < n) (hrd : Rd w (.slice (some ⟨g, oo, none⟩) n c) (u64s ws)) (hle : n ≤ 65536) (k : Int) (hk : k = 1 ∨ k = 2) (x : Nat) (u : Int) (hx : ws.length ≤ x) :
    Calls Try.prog 39 #[.slice (some ⟨g, oo, none⟩) n c, .agg #[.int .i64 k, .int .i64 x, .int .u64 0, .int .u64 u]] w (DoQ w n g ws 0 0 0 0 3) := by
  have e0 : mErr n k x = 3 := by unfold mErr; rw [if_neg (by omega), if_pos (by omega)]
  have e1 : mWs ws ⟨k, x, 0, u⟩ = ws := by unfold mWs; simp only []; rw [hn, e0]; rfl
  have e2 : mRes ws ⟨k, x, 0, u⟩ = ⟨0, 0, 0, 0⟩ := by unfold mRes; simp only []; rw [hn, e0]; rfl
  refine (refdo_n hn h0 hrd hle ⟨k, x, 0, u⟩).mono fun e w' hh => ?_
  rw [e0, e1, e2] at hh
  exact hh
end
/-- What is true of a program's words. -/
structure Fit (P : Pg) : Prop where
  le : P.buf.length ≤ 256
  kle : P.k ≤ P.buf.length
  Llt : P.L < 65536
  fit : 0 < P.buf.length → 0 ≤ P.F ∧ P.F + P.buf.length ≤ 65536
theorem At.fit {w : World} {q b c : Nat} {P : Pg} (h : At w q b c P) : Fit P := ⟨PgAt.le h, PgAt.kle h, PgAt.Llt h, PgAt.fit h⟩
theorem wrd_fit {P : Pg} (h : Fit P) (h3 : P.st = 3) (hk : P.k < P.buf.length) : P.F + (P.k : Int) = ((wrd P.L P.F P.k P.st : Nat) : Int) ∧ 0 ≤ P.F ∧ P.F ≤ 65536 := by
  have := h.fit (by omega)
  unfold wrd; rw [if_pos h3]; omega
def RV.v (R : RV) : Value := .agg #[.bool R.W, .int .i64 R.V, .int .i64 R.F, .slice R.la R.ln R.lc, .int .i64 R.many, .int .i64 R.tries, .int .i64 R.steps, .int .u64 R.first, .slice R.ra R.rn R.rcap, .int .u64 R.res, .bool R.ended]
set_option maxHeartbeats 1000000 in
/-- The access of a program that has not ended. -/
theorem acc_any {w : World} {P : Pg} {R : RV} {rl : List Int} (h : Re P R rl) (hok : Ok P) (hf : Fit P) (h5 : P.st ≠ 5) {lb lo : Nat} (hLL : P.R = false → Li .u64 w R.la R.ln R.lc lb lo P.buf) :
    Calls Try.prog 40 #[R.v] w (Ret (.agg #[.int .i64 (akind P), .int .i64 ((wrd P.L P.F P.k P.st : Nat) : Int), .int .u64 0, .int .u64 (aaft P)]) (fun w' => Frm [] w w')) := by
  obtain ⟨R0, L, F, buf, k, st, was, res, tr⟩ := P
  obtain ⟨W, V, F', la, ln, lc, many, tries, steps, first, ra, rn, rcap, res', ended⟩ := R
  obtain ⟨hw, hv, hF, hln, hmany, htr, hfirst, hres, hend, hrn, hws, hrs, hrd⟩ := h
  obtain ⟨k1, k2, k3, k4, k5, k6, k7⟩ := hok
  have hff := hf
  obtain ⟨f1, f2, f3, f4⟩ := hf
  simp only at hw hv hF hln hmany htr hfirst hres hend hrn hws hrs hrd k1 k2 k3 k4 k5 k6 k7 f1 f2 f3 f4 h5 hLL
  subst hw hv hfirst
  have hF' := hF.symm
  subst hF'
  unfold RV.v
  simp only
  cases R0 with
  | false =>
    have hln := hln rfl
    have hL := hLL rfl
    rcases hws rfl h5 with ⟨rfl, rfl⟩ | ⟨rfl, rfl⟩ | ⟨h34, rfl⟩
    · have := acc_0 (w := w) (R := ⟨true, L, F, la, ln, lc, many, tries, 0, first, ra, rn, rcap, res', ended⟩) rfl
      exact this
    · have e : wrd L F k 2 = L := rfl
      have := acc_1 (w := w) (V := (L : Int)) (F := F) (la := la) (ln := ln) (lc := lc) (many := many) (tries := tries) (first := first) (ra := ra) (rn := rn) (rcap := rcap) (res := res') (ended := ended)
      exact this
    · rcases h34 with rfl | ⟨rfl, hkn⟩
      · have hk := k4 rfl
        obtain ⟨e1, e2, e3⟩ := wrd_fit hff rfl hk
        simp only at e1 e2 e3
        obtain ⟨x, hx⟩ : ∃ x, buf[k]? = some x := ⟨_, List.getElem?_eq_getElem hk⟩
        have ev : val buf k 3 first = x := by unfold val; rw [if_neg (by decide), if_pos rfl, List.getD_eq_getElem?_getD, hx]; rfl
        have := acc_w (w := w) (V := (L : Int)) (F := F) (la := la) (ln := ln) (lc := lc) (many := many) (tries := tries) (first := first) (ra := ra) (rn := rn) (rcap := rcap) (res := res') (ended := ended) hL k x hx (by omega) e2 e3
        rw [e1] at this
        unfold akind aaft
        simp only [Bool.false_eq_true, false_or]
        rw [if_neg (by decide), if_neg (by decide), ev]
        exact this
      · subst hkn
        have := acc_e (w := w) (V := (L : Int)) (F := F) (la := la) (ln := ln) (lc := lc) (many := many) (tries := tries) (first := first) (ra := ra) (rn := rn) (rcap := rcap) (res := res') (ended := ended) (by omega)
        rw [hln] at this ⊢
        exact this
  | true =>
    have hmany := hmany rfl
    subst hmany
    rcases hrs rfl h5 with ⟨rfl, _, rfl, _⟩ | ⟨h34, rfl, _⟩
    · have := acc_0 (w := w) (R := ⟨false, L, F, la, ln, lc, (buf.length : Int), tries, 0, first, ra, rn, rcap, res', ended⟩) rfl
      exact this
    · rcases h34 with rfl | ⟨rfl, hkn⟩
      · have hk := k4 rfl
        obtain ⟨e1, e2, e3⟩ := wrd_fit hff rfl hk
        simp only at e1 e2 e3
        have := acc_r (w := w) (V := (L : Int)) (F := F) (la := la) (ln := ln) (lc := lc) (many := (buf.length : Int)) (tries := tries) (first := first) (ra := ra) (rn := rn) (rcap := rcap) (res := res') (ended := ended) k (by omega) (by omega) e2 e3
        rw [e1] at this
        exact this
      · have := acc_v (w := w) (V := (L : Int)) (F := F) (la := la) (ln := ln) (lc := lc) (many := (buf.length : Int)) (tries := tries) (first := first) (ra := ra) (rn := rn) (rcap := rcap) (res := res') (ended := ended) k (by omega) (by omega)
        exact this
#print axioms acc_any
end Go.Proofs.Ytbhnijkphkkalaa
