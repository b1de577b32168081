/- The reference's All, Goes. -/
import Derived.Test.YthnmjildeenecaaDoorModE
namespace Go.Proofs.YthnmjildeenecaaDoor
open Go.ChangeShapes Go.WideShapes Go.ChangeAt Go.RowKit

theorem cut_to_md {a : Option Addr} {n c k : Nat} (hk : k ≤ c) (W : World) : (Instr.sliceAt 30 (.slice a n c) none (some (.int .i64 (k : Int))) none).run Tryd.prog W = .ok (.slice a k c) W := by
  have h1 : (k : Int) ≤ (c : Int) := by omega
  cases a <;> simp [go_sem, h1, Addr.add]
theorem Li.take {k : IntKind} {w : World} {a : Option Addr} {n c b o : Nat} {l : List Int} (h : Li k w a n c b o l) {i : Nat} (hi : i ≤ n) : Li k w a i c b o (l.take i) := by
  have hc := h.cap
  refine ⟨by rw [List.length_take, h.len]; omega, fun hp => h.ad (by omega), fun j x hx => ?_, by omega⟩
  rw [List.getElem?_take] at hx
  split at hx
  · exact h.cell _ _ hx
  · cases hx
theorem rvalid_q {m : Int} {v : Bool} (h : vm m = v) (w : World) (n : Nat) : Calls Tryd.prog 10 #[.int .i64 m] (w.drewN n) fun e w'' => e = .returned (.bool v) ∧ ∃ m, w'' = w.drewN m := by
  subst h
  exact Calls.quiet_of_same ((rvalid_any (w.drewN n) m).mono fun _ _ hh => ⟨hh.1, hh.2.symm⟩)
theorem with_q {w : World} {a : Option Addr} {n c b o : Nat} {l : List Int} (hL : Li .i64 w a n c b o l) (hn : n ≤ 1000) {m : Int} {v : Bool} (h : wi m l = v) (k : Nat) :
    Calls Tryd.prog 28 #[.int .i64 m, .slice a n c] (w.drewN k) fun e w'' => e = .returned (.bool v) ∧ ∃ m, w'' = w.drewN m := by
  subst h
  exact Calls.quiet_of_same ((with_any (hL.frm0 ((Frm.refl [] w).drewN k)) hn m).mono fun _ _ hh => ⟨hh.1, hh.2.symm⟩)

set_option maxHeartbeats 4000000 in
theorem rAll_any {w : World} {a : Option Addr} {n c b o : Nat} {l : List Int} (hL : Li .i64 w a n c b o l) (hn : n ≤ 1000) :
    Calls Tryd.prog 18 #[.slice a n c] w (Ret (.bool (allM l)) (fun w' => Frm [] w w')) := by
  have hgood : allM (l.take n) = true → allM l = true := fun h => by rwa [List.take_of_length_le (by rw [hL.len]; exact Nat.le_refl _)] at h
  have hbad := fun k x hx h => allM_bad (l := l) (k := k) (x := x) hx h
  generalize allM l = R at hgood hbad ⊢
  have HG := Lib.hid hgood
  have HB := Lib.hid hbad
  have HL := Lib.hid hL
  have hcap := hL.cap
  clear hgood hbad hL
  go_enter Tryd.func18, Tryd.ntmps18
  go_wp2_with fail
  go_loopw [3] (fun i w' => ∃ k : Nat, k ≤ n ∧ i = .int .i64 k ∧ Frm [] w w' ∧ Hid (allM (l.take k) = true)) (fun i _ => n - (intOf i).toNat)
  case atStart => exact ⟨0, by omega, rfl, Frm.refl _ _, Lib.hid rfl⟩
  case round =>
    obtain ⟨k, hk, rfl, hF, HA⟩ := hrel
    by_cases hlt : k < n
    · have HLr := Lib.hid (HL.out.frm0 hF)
      obtain ⟨x, hx, hg, hc⟩ := HLr.out.get hlt
      have hix := ix_md (c := c) HL.out.ad hlt
      have hct := cut_to_md (a := a) (n := n) (c := c) (k := k) (by omega)
      have HX := Lib.hid hx
      clear hx hg
      have hb0 : (k : Int) < (n : Int) := by omega
      cases hv : vm x with
      | false =>
        have HR := Lib.hid (HB.out k x HX.out (by rw [hv]; rfl))
        have HV := Lib.hid hv
        clear hv
        go_wp2_with fail
        go_quiet ((go_at_call 10; with_reducible exact rvalid_q HV.out _ _))
        go_wp2
        go_ret
        exact ⟨by rw [HR.out]; rfl, hF.drewN _⟩
      | true =>
        cases hw : wi x (l.take k) with
        | false =>
          have HR := Lib.hid (HB.out k x HX.out (by rw [hv, hw]; rfl))
          have HV := Lib.hid hv
          have HI := Lib.hid hw
          clear hv hw
          go_wp2_with fail
          go_quiet (first
            | (go_at_call 10; with_reducible exact rvalid_q HV.out _ _)
            | (go_at_call 28; exact with_q (HLr.out.take hk) (by omega) HI.out _))
          go_wp2
          go_ret
          exact ⟨by rw [HR.out]; rfl, hF.drewN _⟩
        | true =>
          have HS := Lib.hid (allM_step HX.out (by rw [hv, hw]; rfl) HA.out)
          have HV := Lib.hid hv
          have HI := Lib.hid hw
          clear hv hw
          go_wp2_with fail
          go_quiet (first
            | (go_at_call 10; with_reducible exact rvalid_q HV.out _ _)
            | (go_at_call 28; exact with_q (HLr.out.take hk) (by omega) HI.out _))
          go_wp2
          go_roundw
          case rel => exact ⟨k + 1, by omega, by go_num, hF.drewN _, HS⟩
          case measure => simp [intOf]; omega
    · obtain rfl : k = n := by omega
      have HR := Lib.hid (HG.out HA.out)
      go_wp2_with fail
      go_ret
      exact ⟨by rw [HR.out]; rfl, hF⟩

set_option maxHeartbeats 4000000 in
theorem rGoes_any {w : World} {a : Option Addr} {n c b o : Nat} {l : List Int} (hL : Li .i64 w a n c b o l) (hn : n ≤ 1000) (m g : Int) (beh : Bool) :
    Calls Tryd.prog 20 #[.int .i64 m, .slice a n c, .int .i64 g, .bool beh] w (Ret (.bool (goB m l g beh)) (fun w' => w = w')) := by
  have HL := Lib.hid hL
  clear hL
  cases hv : vm m with
  | false =>
    rw [show goB m l g beh = false by unfold goB; rw [hv]; rfl]
    have HV := Lib.hid hv
    clear hv
    go_enter Tryd.func20, Tryd.ntmps20
    go_wp2_with fail
    refine (rvalid_any _ _).mono ?_
    rintro e w' ⟨rfl, rfl⟩
    rw [HV.out]
    go_wp2_with fail
    go_ret
    exact ⟨rfl, rfl⟩
  | true =>
    cases hw : wi m l with
    | false =>
      rw [show goB m l g beh = false by unfold goB; rw [hv, hw]; rfl]
      have HV := Lib.hid hv
      have HI := Lib.hid hw
      clear hv hw
      go_enter Tryd.func20, Tryd.ntmps20
      go_wp2_with fail
      refine (rvalid_any _ _).mono ?_
      rintro e w' ⟨rfl, rfl⟩
      rw [HV.out]
      go_wp2_with fail
      refine (with_any HL.out hn _).mono ?_
      rintro e w' ⟨rfl, rfl⟩
      rw [HI.out]
      go_wp2_with fail
      go_ret
      exact ⟨rfl, rfl⟩
    | true =>
      rw [show goB m l g beh = !(decide (m = 1) && beh && decide (4 ≤ g)) by unfold goB; rw [hv, hw]; rfl]
      have HV := Lib.hid hv
      have HI := Lib.hid hw
      clear hv hw
      by_cases hm : m = 1
      · subst hm
        cases beh with
        | false =>
          rw [show (!(decide ((1 : Int) = 1) && false && decide (4 ≤ g))) = true by simp]
          go_enter Tryd.func20, Tryd.ntmps20
          go_wp2_with fail
          refine (rvalid_any _ _).mono ?_
          rintro e w' ⟨rfl, rfl⟩
          rw [HV.out]
          go_wp2_with fail
          refine (with_any HL.out hn _).mono ?_
          rintro e w' ⟨rfl, rfl⟩
          rw [HI.out]
          go_wp2_with fail
          go_ret
          exact ⟨rfl, rfl⟩
        | true =>
          by_cases hg : 4 ≤ g
          · have hg' : decide (4 ≤ g) = true := by simpa using hg
            rw [show (!(decide ((1 : Int) = 1) && true && decide (4 ≤ g))) = false by simp [hg]]
            go_enter Tryd.func20, Tryd.ntmps20
            go_wp2_with fail
            refine (rvalid_any _ _).mono ?_
            rintro e w' ⟨rfl, rfl⟩
            rw [HV.out]
            go_wp2_with fail
            refine (with_any HL.out hn _).mono ?_
            rintro e w' ⟨rfl, rfl⟩
            rw [HI.out]
            go_wp2_with fail
            go_ret
            exact ⟨rfl, rfl⟩
          · have hg' : decide (4 ≤ g) = false := by simpa using hg
            rw [show (!(decide ((1 : Int) = 1) && true && decide (4 ≤ g))) = true by simp [hg]]
            go_enter Tryd.func20, Tryd.ntmps20
            go_wp2_with fail
            refine (rvalid_any _ _).mono ?_
            rintro e w' ⟨rfl, rfl⟩
            rw [HV.out]
            go_wp2_with fail
            refine (with_any HL.out hn _).mono ?_
            rintro e w' ⟨rfl, rfl⟩
            rw [HI.out]
            go_wp2_with fail
            go_ret
            exact ⟨rfl, rfl⟩
      · have d : (m == 1) = false := by simpa using hm
        rw [show (!(decide (m = 1) && beh && decide (4 ≤ g))) = true by simp [hm]]
        clear hm
        go_enter Tryd.func20, Tryd.ntmps20
        go_wp2_with fail
        refine (rvalid_any _ _).mono ?_
        rintro e w' ⟨rfl, rfl⟩
        rw [HV.out]
        go_wp2_with fail
        refine (with_any HL.out hn _).mono ?_
        rintro e w' ⟨rfl, rfl⟩
        rw [HI.out]
        go_wp2_with fail
        go_ret
        exact ⟨rfl, rfl⟩
#print axioms rGoes_any
end Go.Proofs.YthnmjildeenecaaDoor
