/- Package version: the steps of Write. (By gen_vec.py.) -/
import Derived.Test.YtbhnijkphkkalaaVeD
namespace Go.Proofs.Ytbhnijkphkkalaa
open Go.ChangeShapes Go.WideShapes Go.ChangeAt Go.RowKit
set_option linter.unusedVariables false

section
variable {w : World} {p d c : Nat} {ws : List Int} {q b cq : Nat} {L : Nat} {F : Int} {buf : List Int} {k : Nat} {st was res tr : Int}

set_option maxRecDepth 100000 in
set_option maxHeartbeats 4000000 in
theorem wl_out (hM : MemAt w p d c ws) (hP : PgAt w q b cq 73 [] L F buf k 1 was res) (hA : Ap p d q b) (hx : ws.length ≤ wrd L F k 1)  :
    Calls Try.prog 54 #[.pointer (some ⟨q, 0, none⟩), .iface 39 (.pointer (some ⟨p, 0, none⟩))] w (Ret (.int .i64 3) (Aft p d c q b cq 73 [] w ws L F buf k 1 was res)) := by
  have hm := m_load p
  have hn := n_load p
  have hmf : ∀ (fn : Fn) (first cap : Array Value) (w : World), (Instr.makeFunc fn first cap).run Try.prog w = .ok (.func fn first cap) w := fun _ _ _ _ => rfl
  have HC : Hid (∀ w', Frm [d] w w' → PgAt w' q b cq 73 [] L F buf k 1 was res) := Lib.hid fun w' hf => hP.frm hf (by simpa using hA.qd) (by simpa using hA.bd)
  have HM := Lib.hid hM
  have HX := Lib.hid hx
  have HA := Lib.hid hA
  clear hM hP hx hA 
  go_enter Try.func54, Try.ntmps54
  go_wp2_with fail
  go_region_held3 (fun w' => Frm [d] w w') (repeat' (first | assumption | exact Frm.refl _ _ | apply Frm.drew | apply Frm.drewN)) (first
    | (go_at_call 50; (with_reducible refine (cword_any (HC.out _ (by assumption)) (fun h => absurd h (by decide))).mono ?_); rintro e w1 ⟨m1, rfl, rfl⟩)
    | (go_at_call 77; (with_reducible refine (Load_out (HM.out.frm (D := []) (by (repeat' (first | exact Frm.refl _ _ | apply Frm.drew | apply Frm.drewN))) (by simp) (by simp)) (wrd L F k 1) HX.out).mono ?_); rintro e w1 ⟨rfl, hF1, hM1⟩; have hFw : Frm [d] w w1 := Frm.trans (by (repeat' (first | exact Frm.refl _ _ | apply Frm.drew | apply Frm.drewN))) hF1))
  all_goals
    have hP1 := HC.out _ hFw
    obtain ⟨c0, c1, c2, c3, c4, c5, c6⟩ := hP1.cells
    have z4 := hP1.frz 4
    have z5 := hP1.frz 5
    have H1 := Lib.hid hP1
    have HM1 := Lib.hid hM1
    have HF1 := Lib.hid hFw
    clear hP1 hM1 hFw hF1
    go_wp2
    go_ret
    exact ⟨rfl, HF1.out.weak (by simp), HM1.out, H1.out⟩

set_option maxRecDepth 100000 in
set_option maxHeartbeats 4000000 in
theorem wl_odd {v : Int} (hM : MemAt w p d c ws) (hP : PgAt w q b cq 73 [] L F buf k 1 was res) (hA : Ap p d q b) (hx : ws[wrd L F k 1]? = some v) (h0 : 0 ≤ v) (hv : v % 2 ≠ 0) :
    Calls Try.prog 54 #[.pointer (some ⟨q, 0, none⟩), .iface 39 (.pointer (some ⟨p, 0, none⟩))] w (Ret (.int .i64 8) (Aft p d c q b cq 73 [] w ws L F buf k 1 was res)) := by
  have hm := m_load p
  have hn := n_load p
  have hmf : ∀ (fn : Fn) (first cap : Array Value) (w : World), (Instr.makeFunc fn first cap).run Try.prog w = .ok (.func fn first cap) w := fun _ _ _ _ => rfl
  have HC : Hid (∀ w', Frm [d] w w' → PgAt w' q b cq 73 [] L F buf k 1 was res) := Lib.hid fun w' hf => hP.frm hf (by simpa using hA.qd) (by simpa using hA.bd)
  have HM := Lib.hid hM
  have HX := Lib.hid hx
  have HA := Lib.hid hA
  have HH0 := Lib.hid h0
  have HH1 := Lib.hid hv
  clear hM hP hx hA h0 hv
  go_enter Try.func54, Try.ntmps54
  go_wp2_with fail
  go_region_held3 (fun w' => Frm [d] w w') (repeat' (first | assumption | exact Frm.refl _ _ | apply Frm.drew | apply Frm.drewN)) (first
    | (go_at_call 50; (with_reducible refine (cword_any (HC.out _ (by assumption)) (fun h => absurd h (by decide))).mono ?_); rintro e w1 ⟨m1, rfl, rfl⟩)
    | (go_at_call 77; (with_reducible refine (Load_ok (HM.out.frm (D := []) (by (repeat' (first | exact Frm.refl _ _ | apply Frm.drew | apply Frm.drewN))) (by simp) (by simp)) (wrd L F k 1) v HX.out).mono ?_); rintro e w1 ⟨rfl, hF1, hM1⟩; have hFw : Frm [d] w w1 := Frm.trans (by (repeat' (first | exact Frm.refl _ _ | apply Frm.drew | apply Frm.drewN))) hF1))
  all_goals
    have hP1 := HC.out _ hFw
    obtain ⟨c0, c1, c2, c3, c4, c5, c6⟩ := hP1.cells
    have z4 := hP1.frz 4
    have z5 := hP1.frz 5
    have H1 := Lib.hid hP1
    have HM1 := Lib.hid hM1
    have HF1 := Lib.hid hFw
    clear hP1 hM1 hFw hF1
    go_wp2_with fail
    refine (even_no v _ HH0.out HH1.out).mono ?_
    rintro e w2 ⟨rfl, rfl⟩
    go_wp2
    go_ret
    exact ⟨rfl, HF1.out.weak (by simp), HM1.out, H1.out⟩

set_option maxRecDepth 100000 in
set_option maxHeartbeats 4000000 in
theorem wl_even {v : Int} (hM : MemAt w p d c ws) (hP : PgAt w q b cq 73 [] L F buf k 1 was res) (hA : Ap p d q b) (hx : ws[wrd L F k 1]? = some v) (h0 : 0 ≤ v) (hv : v % 2 = 0) :
    Calls Try.prog 54 #[.pointer (some ⟨q, 0, none⟩), .iface 39 (.pointer (some ⟨p, 0, none⟩))] w (Ret (.int .i64 0) (Aft p d c q b cq 73 [] w ws L F buf k 2 v res)) := by
  have hm := m_load p
  have hn := n_load p
  have hmf : ∀ (fn : Fn) (first cap : Array Value) (w : World), (Instr.makeFunc fn first cap).run Try.prog w = .ok (.func fn first cap) w := fun _ _ _ _ => rfl
  have HC : Hid (∀ w', Frm [d] w w' → PgAt w' q b cq 73 [] L F buf k 1 was res) := Lib.hid fun w' hf => hP.frm hf (by simpa using hA.qd) (by simpa using hA.bd)
  have HM := Lib.hid hM
  have HX := Lib.hid hx
  have HA := Lib.hid hA
  have HH0 := Lib.hid h0
  have HH1 := Lib.hid hv
  clear hM hP hx hA h0 hv
  go_enter Try.func54, Try.ntmps54
  go_wp2_with fail
  go_region_held3 (fun w' => Frm [d] w w') (repeat' (first | assumption | exact Frm.refl _ _ | apply Frm.drew | apply Frm.drewN)) (first
    | (go_at_call 50; (with_reducible refine (cword_any (HC.out _ (by assumption)) (fun h => absurd h (by decide))).mono ?_); rintro e w1 ⟨m1, rfl, rfl⟩)
    | (go_at_call 77; (with_reducible refine (Load_ok (HM.out.frm (D := []) (by (repeat' (first | exact Frm.refl _ _ | apply Frm.drew | apply Frm.drewN))) (by simp) (by simp)) (wrd L F k 1) v HX.out).mono ?_); rintro e w1 ⟨rfl, hF1, hM1⟩; have hFw : Frm [d] w w1 := Frm.trans (by (repeat' (first | exact Frm.refl _ _ | apply Frm.drew | apply Frm.drewN))) hF1))
  all_goals
    have hP1 := HC.out _ hFw
    obtain ⟨c0, c1, c2, c3, c4, c5, c6⟩ := hP1.cells
    have z4 := hP1.frz 4
    have z5 := hP1.frz 5
    have H1 := Lib.hid hP1
    have HM1 := Lib.hid hM1
    have HF1 := Lib.hid hFw
    clear hP1 hM1 hFw hF1
    go_wp2_with fail
    refine (even_yes v _ HH0.out HH1.out).mono ?_
    rintro e w2 ⟨rfl, rfl⟩
    go_wp2
    go_ret
    exact ⟨rfl, ((HF1.out.weak (by simp)).setCell _ _ (.inl (by simp))).setCell _ _ (.inl (by simp)), (HM1.out.setFar _ _ HA.out.qp HA.out.qd).setFar _ _ HA.out.qp HA.out.qd, (H1.out.setWas v).setSt 2⟩

/-- What the next step stores. -/
def val (buf : List Int) (k : Nat) (st was : Int) : Int := if st = 2 then IntKind.u64.wrap (was + 1) else if st = 3 then buf.getD k 0 else IntKind.u64.wrap (was + 2)
theorem value_2 (hP : PgAt w q b cq 73 [] L F buf k 2 was res) : Calls Try.prog 55 #[.pointer (some ⟨q, 0, none⟩)] w (fun e w' => ∃ m, Ret (.int .u64 (val buf k 2 was)) (fun w' => w' = w.drewN m) e w') := by
  obtain ⟨c0, c1, c2, c3, c4, c5, c6⟩ := hP.cells
  rw [show val buf k 2 was = IntKind.u64.wrap (was + 1) from rfl]
  clear hP
  go_enter Try.func55, Try.ntmps55
  go_wp2
  go_ret
  exact ⟨0, rfl, rfl⟩
theorem value_3 (hP : PgAt w q b cq 73 [] L F buf k 3 was res) (hk : k < buf.length) : Calls Try.prog 55 #[.pointer (some ⟨q, 0, none⟩)] w (fun e w' => ∃ m, Ret (.int .u64 (val buf k 3 was)) (fun w' => w' = w.drewN m) e w') := by
  obtain ⟨c0, c1, c2, c3, c4, c5, c6⟩ := hP.cells
  obtain ⟨x, hx⟩ : ∃ x, buf[k]? = some x := ⟨_, List.getElem?_eq_getElem hk⟩
  have cb := hP.get hx
  have hle := hP.le
  rw [show val buf k 3 was = x from by unfold val; rw [if_neg (by decide), if_pos rfl, List.getD_eq_getElem?_getD, hx]; rfl]
  clear hP hx
  go_enter Try.func55, Try.ntmps55
  go_wp2
  go_quiet (fail)
  go_wp2
  go_ret
  exact ⟨_, rfl, rfl⟩
theorem value_4 (hP : PgAt w q b cq 73 [] L F buf k 4 was res) : Calls Try.prog 55 #[.pointer (some ⟨q, 0, none⟩)] w (fun e w' => ∃ m, Ret (.int .u64 (val buf k 4 was)) (fun w' => w' = w.drewN m) e w') := by
  obtain ⟨c0, c1, c2, c3, c4, c5, c6⟩ := hP.cells
  rw [show val buf k 4 was = IntKind.u64.wrap (was + 2) from rfl]
  clear hP
  go_enter Try.func55, Try.ntmps55
  go_wp2
  go_ret
  exact ⟨0, rfl, rfl⟩
theorem value_any (hP : PgAt w q b cq 73 [] L F buf k st was res) (hst : st = 2 ∨ st = 3 ∨ st = 4) (hk : st = 3 → k < buf.length) : Calls Try.prog 55 #[.pointer (some ⟨q, 0, none⟩)] w (fun e w' => ∃ m, Ret (.int .u64 (val buf k st was)) (fun w' => w' = w.drewN m) e w') := by
  rcases hst with rfl | rfl | rfl
  · exact value_2 hP
  · exact value_3 hP (hk rfl)
  · exact value_4 hP

theorem ws_look_out (hM : MemAt w p d c ws) (hP : PgAt w q b cq 73 [] L F buf k 1 was res) (hA : Ap p d q b) (hx : ws.length ≤ wrd L F k 1)  :
    Calls Try.prog 43 #[.pointer (some ⟨q, 0, none⟩), .iface 39 (.pointer (some ⟨p, 0, none⟩))] w (Ret (.tuple #[.bool false, .int .i64 3]) (Aft p d c q b cq 73 [] w ws L F buf k 1 was res)) := by
  obtain ⟨c0, c1, c2, c3, c4, c5, c6⟩ := hP.cells
  have H := Lib.hid (wl_out hM hP hA hx )
  clear hM hP hA hx 
  go_enter Try.func43, Try.ntmps43
  go_wp2_with fail
  refine H.out.mono ?_
  rintro e w1 ⟨rfl, hR⟩
  have HR := Lib.hid hR
  clear hR
  go_wp2
  go_ret2
  exact ⟨rfl, HR.out⟩

theorem ws_look_odd {v : Int} (hM : MemAt w p d c ws) (hP : PgAt w q b cq 73 [] L F buf k 1 was res) (hA : Ap p d q b) (hx : ws[wrd L F k 1]? = some v) (h0 : 0 ≤ v) (hv : v % 2 ≠ 0) :
    Calls Try.prog 43 #[.pointer (some ⟨q, 0, none⟩), .iface 39 (.pointer (some ⟨p, 0, none⟩))] w (Ret (.tuple #[.bool false, .int .i64 8]) (Aft p d c q b cq 73 [] w ws L F buf k 1 was res)) := by
  obtain ⟨c0, c1, c2, c3, c4, c5, c6⟩ := hP.cells
  have H := Lib.hid (wl_odd hM hP hA hx h0 hv)
  clear hM hP hA hx h0 hv
  go_enter Try.func43, Try.ntmps43
  go_wp2_with fail
  refine H.out.mono ?_
  rintro e w1 ⟨rfl, hR⟩
  have HR := Lib.hid hR
  clear hR
  go_wp2
  go_ret2
  exact ⟨rfl, HR.out⟩

theorem ws_look {v : Int} (hM : MemAt w p d c ws) (hP : PgAt w q b cq 73 [] L F buf k 1 was res) (hA : Ap p d q b) (hx : ws[wrd L F k 1]? = some v) (h0 : 0 ≤ v) (hv : v % 2 = 0) :
    Calls Try.prog 43 #[.pointer (some ⟨q, 0, none⟩), .iface 39 (.pointer (some ⟨p, 0, none⟩))] w (Ret (.tuple #[.bool false, .int .i64 0]) (Aft p d c q b cq 73 [] w ws L F buf k 2 v res)) := by
  obtain ⟨c0, c1, c2, c3, c4, c5, c6⟩ := hP.cells
  have H := Lib.hid (wl_even hM hP hA hx h0 hv)
  clear hM hP hA hx h0 hv
  go_enter Try.func43, Try.ntmps43
  go_wp2_with fail
  refine H.out.mono ?_
  rintro e w1 ⟨rfl, hR⟩
  have HR := Lib.hid hR
  clear hR
  go_wp2
  go_ret2
  exact ⟨rfl, HR.out⟩
end
#print axioms ws_look
end Go.Proofs.Ytbhnijkphkkalaa
