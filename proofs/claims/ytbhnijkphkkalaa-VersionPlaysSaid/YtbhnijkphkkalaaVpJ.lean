/- The law's looks: a program that makes the same steps looks the same. -/
import Derived.Test.YtbhnijkphkkalaaVpI
import Derived.Test.YtbhnijkphkkalaaVeT
namespace Go.Proofs.Ytbhnijkphkkalaa
open Go.ChangeShapes Go.WideShapes Go.ChangeAt Go.RowKit
set_option linter.unusedVariables false

theorem as_rd (v : Option Addr) (w : World) : (Instr.typeAssert (.iface 26 (.pointer v)) 46 26 true).run Try.prog w = .ok (.tuple #[.pointer v, .bool true]) w := by kernel_rfl
theorem as_wr (v : Option Addr) (w : World) : (Instr.typeAssert (.iface 33 (.pointer v)) 46 26 true).run Try.prog w = .ok (.tuple #[.pointer none, .bool false]) w := by kernel_rfl
theorem m_DoneF (R : Bool) (q : Nat) (w : World) : (method 230 (Ip R) (.pointer (some ⟨q, 0, none⟩)) "Done").run Try.prog w = .ok (fDone R, .pointer (some ⟨q, 0, none⟩)) w := m_Done R q w
section
variable {w : World} {q b cq : Nat} {P : Pg} {R : RV} {rl : List Int}
theorem Done_q (hP : At w q b cq P) (hok : Ok P) (n : Nat) : Calls Try.prog (fDone P.R) #[.pointer (some ⟨q, 0, none⟩)] (w.drewN n) fun e w'' => e = .returned (.bool (decide (P.st = 5))) ∧ ∃ m, w'' = w.drewN m :=
  Calls.quiet_of_same ((Done_any (hP.frm0 ((Frm.refl [] w).drewN n)) hok).mono fun _ _ hh => ⟨hh.1, hh.2.symm⟩)
theorem Result_q (hP : At w q b cq P) (n : Nat) : Calls Try.prog (fResult P.R) #[.pointer (some ⟨q, 0, none⟩)] (w.drewN n) fun e w'' => e = .returned (.int .u64 P.res) ∧ ∃ m, w'' = w.drewN m :=
  Calls.quiet_of_same ((Result_any (hP.frm0 ((Frm.refl [] w).drewN n))).mono fun _ _ hh => ⟨hh.1, hh.2.symm⟩)
theorem Version_q (hP : At w q b cq P) (hr : P.res = 1) (n : Nat) : Calls Try.prog 15 #[.pointer (some ⟨q, 0, none⟩)] (w.drewN n) fun e w'' => e = .returned (.int .u64 P.was) ∧ ∃ m, w'' = w.drewN m := by
  have h := hP.frm0 ((Frm.refl [] w).drewN n)
  unfold At at h
  rw [hr] at h
  exact Calls.quiet_of_same ((Version_1 h).mono fun _ _ hh => ⟨hh.1, hh.2.symm⟩)
theorem same_q {xs : List Int} {v1 v2 : Value} (h1 : Rd w v1 (u64s xs)) (h2 : Rd w v2 (u64s xs)) (hx : xs.length ≤ 2147483647) (n : Nat) :
    Calls Try.prog 25 #[v1, v2] (w.drewN n) fun e w'' => e = .returned (.bool true) ∧ ∃ m, w'' = w.drewN m := by
  have h := same_any (h1.frm ((Frm.refl [] w).drewN n) (by simp)) (h2.frm ((Frm.refl [] w).drewN n) (by simp)) hx hx
  rw [decide_eq_true rfl] at h
  exact h.mono fun e w'' ⟨m, hh⟩ => ⟨hh.1, n + m, hh.2.trans (World.drewN_drewN _ _ _)⟩
set_option maxRecDepth 100000 in
set_option maxHeartbeats 2000000 in
theorem looks_w (hR : P.R = false) (hP : At w q b cq P) (hok : Ok P) (h : Re P R rl) :
    Calls Try.prog 26 #[.iface 33 (.pointer (some ⟨q, 0, none⟩)), R.v] w (Ret (.bool true) (fun w' => Frm [] w w')) := by
  have hW : R.W = true := by rw [h.w, hR]; rfl
  have he := h.ended
  have hr := h.res
  have hm1 : ∀ w, (method 230 33 (.pointer (some ⟨q, 0, none⟩)) "Done").run Try.prog w = .ok (17, .pointer (some ⟨q, 0, none⟩)) w := m_Done false q
  have hm2 : ∀ w, (method 230 33 (.pointer (some ⟨q, 0, none⟩)) "Result").run Try.prog w = .ok (18, .pointer (some ⟨q, 0, none⟩)) w := m_Result false q
  have hta := as_wr (some ⟨q, 0, none⟩)
  have hne : (P.res != P.res) = false := by simp
  have hnb : ∀ β : Bool, (β != β) = false := fun β => by cases β <;> rfl
  have HQ1 : Hid (∀ o n, Calls Try.prog 17 #[.pointer (some ⟨q, 0, none⟩)] ((w.alloc o).drewN n) fun e w'' => e = .returned (.bool (decide (P.st = 5))) ∧ ∃ m, w'' = (w.alloc o).drewN m) := Lib.hid fun o n => by have := Done_q (hP.frm0 ((Frm.refl [] w).alloc o)) hok n; rw [hR] at this; exact this
  have HQ2 : Hid (∀ o n, Calls Try.prog 18 #[.pointer (some ⟨q, 0, none⟩)] ((w.alloc o).drewN n) fun e w'' => e = .returned (.int .u64 P.res) ∧ ∃ m, w'' = (w.alloc o).drewN m) := Lib.hid fun o n => by have := Result_q (hP.frm0 ((Frm.refl [] w).alloc o)) n; rw [hR] at this; exact this
  obtain ⟨W, V, F, la, ln, lc, many, tries, steps, first, ra, rn, rcap, res, ended⟩ := R
  simp only at hW he hr
  subst hW he hr
  unfold RV.v
  simp only
  generalize decide (P.st = 5) = β at *
  generalize P.res = ρ at *
  clear h hok hP hR
  cases β
  all_goals
    go_enter Try.func26, Try.ntmps26
    go_wp2_with fail
    go_quiet (first | (go_at_call 17; with_reducible exact HQ1.out _ _) | (go_at_call 18; with_reducible exact HQ2.out _ _))
    go_wp2
    go_ret
    exact ⟨rfl, by (repeat' (first | exact Frm.refl _ _ | apply Frm.alloc | apply Frm.drew | apply Frm.drewN | assumption))⟩
end
#print axioms looks_w
end Go.Proofs.Ytbhnijkphkkalaa
