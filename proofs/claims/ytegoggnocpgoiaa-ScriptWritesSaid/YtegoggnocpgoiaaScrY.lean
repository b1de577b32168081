/- Layer 4: the walks of ScriptKeys, ScriptParses. -/
import Derived.Test.YtegoggnocpgoiaaScrX
namespace Go.Proofs.Ytegoggnocpgoiaa
open Go.ChangeShapes Go.WideShapes Go.ChangeAt Go.RowKit

theorem u8_bd {n : Int} (h : (Lit.int .u8 n).wf = true) : 0 ≤ n ∧ n ≤ 255 := by
  simp [Lit.wf, IntKind.min, IntKind.max, IntKind.bits, IntKind.signed] at h; omega
theorem bel {w w' : World} (h : Frm [] w w') : Below w.heap.size w w' := h.below (Nat.le_refl _) (by simp)

set_option maxHeartbeats 1000000 in
theorem walk_ScriptKeys (n : Int) (wn : (Lit.int .u8 n).wf = true) (w : World) :
    Calls Try.prog 5 #[.int .u8 n] w (Ret (.bool true) (fun w' => Below w.heap.size w w')) := by
  obtain ⟨n0, n1⟩ := u8_bd wn
  have hkk : ((keyB n).toList == (keyB n).toList) = true := by simp
  have hvv : ((valB n).toList == (valB n).toList) = true := by simp
  clear wn
  go_enter Try.func5, Try.ntmps5
  go_wp2_with fail
  refine (key_any n n0 n1 _).mono ?_
  rintro e w1 ⟨rfl, hF1⟩
  go_wp2_with fail
  refine (rkey_any n n0 n1 _).mono ?_
  rintro e w2 ⟨rfl, hF2⟩
  go_wp2_with fail
  refine (value_any n n0 n1 _).mono ?_
  rintro e w3 ⟨rfl, hF3⟩
  go_wp2_with fail
  refine (rval_any n n0 n1 _).mono ?_
  rintro e w4 ⟨rfl, hF4⟩
  go_wp2_with fail
  refine (known_true _).mono ?_
  rintro e w5 ⟨rfl, hF5⟩
  go_wp2
  go_ret
  exact ⟨rfl, bel ((((hF1.trans hF2).trans hF3).trans hF4).trans hF5)⟩

theorem row_byt {l : List Int} (h : ∀ x ∈ l, (Lit.int .u8 x).wf = true) : Byt l := fun x hx => u8_bd (h x hx)

set_option maxHeartbeats 2000000 in
theorem parses_walk {w : World} {a : Option Addr} {n c b o : Nat} {l : List Int} (hL : Li .u8 w a n c b o l) (hB : Byt l) (t : Int) :
    Calls Try.prog 3 #[.slice a n c, .int .i64 t] w (Ret (.bool true) (fun w' => Frm [] w w')) := by
  by_cases hn : 300 < n
  · have d0 : decide ((300 : Int) < (n : Int)) = true := by simp; omega
    clear hL
    go_enter Try.func3, Try.ntmps3
    go_wp2_with fail
    refine (known_true _).mono ?_
    rintro e w5 ⟨rfl, hF5⟩
    go_wp2
    go_ret
    exact ⟨rfl, hF5⟩
  · have d0 : decide ((300 : Int) < (n : Int)) = false := by simp; omega
    by_cases hm : mb t = true
    · obtain ⟨t0, t1⟩ := mb_iff.1 hm
      have b0 : decide (t < 1) = false := by simp; omega
      have b1 : decide (64 < t) = false := by simp; omega
      have HL := Lib.hid hL
      have HB := Lib.hid hB
      have HM := Lib.hid hm
      have hrp := rparse_any hL hB (by omega) t t0 t1
      have hrn := fun {w' : World} (hF : Frm [] w w') => rnext2_any (hL.frm0 hF) hB t t0 t1
      have hle := prs_le l t
      obtain ⟨P, hP⟩ : ∃ P, prs l t = P := ⟨_, rfl⟩
      obtain ⟨q, hq⟩ : ∃ q, nx l t = q := ⟨_, rfl⟩
      obtain ⟨z, hz⟩ : ∃ z, nxN l = z := ⟨_, rfl⟩
      rw [hP] at hrp
      obtain ⟨pl, hpl⟩ : ∃ pl, P.length = pl := ⟨_, rfl⟩
      rw [hpl] at hrp
      have hrn' : ∀ (w' : World), Frm [] w w' → Calls Try.prog 12 #[.slice a n c, .int .i64 t] w' (Ret (.tuple #[.agg #[.int .i64 q.k, .int .i64 q.t, .int .i64 q.n, .int .i64 q.v, .string q.key, .string q.val, .string q.old, .int .i64 q.tk], .int .i64 (z : Nat)]) (fun w'' => Frm [] w' w'')) := by
        intro w' hF
        have := hrn hF
        rw [hq, hz] at this
        exact this
      have HRP := Lib.hid hrp
      have HRN := Lib.hid hrn'
      have HP := Lib.hid hP
      have Hq := Lib.hid hq
      have Hz := Lib.hid hz
      clear hL hB hm hrp hrn hrn' hP hq hz hpl hle t0 t1
      by_cases h0 : n = 0
      · subst h0
        go_enter Try.func3, Try.ntmps3
        go_wp2_with fail
        refine HRP.out.mono ?_
        rintro e w1 ⟨a', c', rfl, hF1, hR1⟩
        obtain ⟨b1', hlo⟩ := hR1.lo
        have hps := parses_is (HL.out.frm0 hF1) HB.out (by omega) t HM.out HP.out hlo
        have HPS := Lib.hid hps
        clear hps hR1 hlo
        go_wp2_with fail
        refine HPS.out.mono ?_
        rintro e w2 ⟨rfl, hF2⟩
        go_wp2_with fail
        refine (qnext_short _ _ _ t HM.out).mono ?_
        rintro e w3 ⟨rfl, hF3⟩
        go_wp2_with fail
        refine (known_true _).mono ?_
        rintro e w4 ⟨rfl, hF4⟩
        go_wp2
        go_ret
        exact ⟨rfl, ((hF1.trans hF2).trans hF3).trans hF4⟩
      · have e0 : ((n : Int) == 0) = false := by simp; omega
        have hmin := fun (W : World) (ts : Array TypeId) (ty : TypeId) => run_min2 (w := W) ts ty z n
        have hmz : min (nxN l) n = min z n := by rw [Hz.out]
        obtain ⟨m, hm⟩ : ∃ m, min z n = m := ⟨_, rfl⟩
        rw [hm] at hmin hmz
        have HMZ := Lib.hid hmz
        clear hm hmz
        go_enter Try.func3, Try.ntmps3
        go_wp2_with fail
        refine HRP.out.mono ?_
        rintro e w1 ⟨a', c', rfl, hF1, hR1⟩
        obtain ⟨b1', hlo⟩ := hR1.lo
        have hps := parses_is (HL.out.frm0 hF1) HB.out (by omega) t HM.out HP.out hlo
        have HPS := Lib.hid hps
        clear hps hR1 hlo
        go_wp2_with fail
        refine HPS.out.mono ?_
        rintro e w2 ⟨rfl, hF2⟩
        have hF12 := hF1.trans hF2
        go_wp2_with fail
        refine (HRN.out _ hF12).mono ?_
        rintro e w3 ⟨rfl, hF3⟩
        have hF13 := (hF12.trans hF3).alloc (.cells #[.int .i64 q.k, .int .i64 q.t, .int .i64 q.n, .int .i64 q.v, .string q.key, .string q.val, .string q.old, .int .i64 q.tk] 30)
        have hqn := qnext_is (HL.out.frm0 hF13) HB.out (by omega) (by omega) t HM.out Hq.out (z := (m : Int)) (by rw [HMZ.out])
        have HQN := Lib.hid hqn
        clear hqn
        go_wp2_with fail
        refine HQN.out.mono ?_
        rintro e w4 ⟨rfl, hF4⟩
        go_wp2_with fail
        refine (known_true _).mono ?_
        rintro e w5 ⟨rfl, hF5⟩
        go_wp2
        go_ret
        exact ⟨rfl, (hF13.trans hF4).trans hF5⟩
    · have hm : mb t = false := by simpa using hm
      have hor := mb_not.1 hm
      have HM := Lib.hid hm
      have hways : (decide (t < 1) = true) ∨ (decide (t < 1) = false ∧ decide (64 < t) = true) := by simp; omega
      clear hm hor hL
      rcases hways with b0 | ⟨b0, b1⟩
      all_goals
        go_enter Try.func3, Try.ntmps3
        go_wp2_with fail
        refine (parses_err _ a n c t 2 (.inl ⟨HM.out, rfl⟩)).mono ?_
        rintro e w1 ⟨rfl, hF1⟩
        go_wp2_with fail
        refine (qnext_arg _ _ t HM.out).mono ?_
        rintro e w2 ⟨rfl, hF2⟩
        go_wp2_with fail
        refine (known_true _).mono ?_
        rintro e w5 ⟨rfl, hF5⟩
        go_wp2
        go_ret
        exact ⟨rfl, (hF1.trans hF2).trans hF5⟩

theorem walk_ScriptParses (a : Option Addr) (n c : Nat) (zs : List Int) (t : Int) (_wt : (Lit.int .i64 t).wf = true) (w : World) (h : IsRow .u8 w a n c zs) :
    Calls Try.prog 3 #[.slice a n c, .int .i64 t] w (Ret (.bool true) (fun w' => Below w.heap.size w w')) := by
  obtain ⟨b, o, hL, hw, _⟩ := li_of_row h
  exact (parses_walk hL (row_byt hw) t).mono fun _ _ hh => ⟨hh.1, bel hh.2⟩
end Go.Proofs.Ytegoggnocpgoiaa
