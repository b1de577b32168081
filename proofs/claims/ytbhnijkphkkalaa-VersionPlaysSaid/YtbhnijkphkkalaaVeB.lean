/- Package version: the steps of Read. (By gen_veb.py.) -/
import Derived.Test.YtbhnijkphkkalaaVeA
namespace Go.Proofs.Ytbhnijkphkkalaa
open Go.ChangeShapes Go.WideShapes Go.ChangeAt Go.RowKit
set_option linter.unusedVariables false

/-- A program and an arena lie apart. -/
structure Ap (p d q b : Nat) : Prop where
  qd : q ≠ d
  qp : q ≠ p
  bd : b ≠ d
  bp : b ≠ p
/-- What is true behind a step: the arena, the program. -/
def Aft (p d c q b cq : Nat) (T : TypeId) (tl : List Value) (w : World) (ws : List Int) (L : Nat) (F : Int) (buf : List Int) (k : Nat) (st was res : Int) (w' : World) : Prop :=
  Frm [d, q, b] w w' ∧ MemAt w' p d c ws ∧ PgAt w' q b cq T tl L F buf k st was res

section
variable {w : World} {p d c : Nat} {ws : List Int} {q b cq : Nat} {L : Nat} {F : Int} {buf : List Int} {k : Nat} {st was res tr : Int}

theorem before_wait (v : Int) (h0 : 0 ≤ v) (hv : v % 2 ≠ 0) : Calls Try.prog 51 #[.pointer (some ⟨q, 0, none⟩), .int .u64 v] w (Ret (.bool true) (fun w' => w = w')) := by
  have H0 := Lib.hid h0
  have HV := Lib.hid hv
  clear h0 hv
  go_enter Try.func51, Try.ntmps51
  go_wp2_with fail
  refine (even_no v _ H0.out HV.out).mono ?_
  rintro e w' ⟨rfl, rfl⟩
  go_wp2
  go_ret
  exact ⟨rfl, rfl⟩
theorem before_go (hP : PgAt w q b cq 71 [.int .i64 tr] L F buf k st was res) (v : Int) (h0 : 0 ≤ v) (hv : v % 2 = 0) :
    Calls Try.prog 51 #[.pointer (some ⟨q, 0, none⟩), .int .u64 v] w (Ret (.bool false) (fun w' => Frm [q] w w' ∧ PgAt w' q b cq 71 [.int .i64 tr] L F buf k (nxt k buf.length) v res)) := by
  obtain ⟨c0, c1, c2, c3, c4, c5, c6⟩ := hP.cells
  have z5 := hP.frz 5
  have H := Lib.hid (hP.setWas v)
  have H0 := Lib.hid h0
  have HV := Lib.hid hv
  clear h0 hv hP
  go_enter Try.func51, Try.ntmps51
  go_wp2_with fail
  refine (even_yes v _ H0.out HV.out).mono ?_
  rintro e w' ⟨rfl, rfl⟩
  go_wp2_with fail
  refine (cgoOn H.out).mono ?_
  rintro e w1 ⟨rfl, hF, hP⟩
  have HF := Lib.hid hF
  have HP := Lib.hid hP
  clear hF hP
  go_wp2
  go_ret
  exact ⟨rfl, ((Frm.refl [q] w).setCell _ _ (.inl (by simp))).trans HF.out, HP.out⟩
theorem after_same (hP : PgAt w q b cq 71 [.int .i64 tr] L F buf k st was res) :
    Calls Try.prog 53 #[.pointer (some ⟨q, 0, none⟩), .int .u64 was] w (Ret (.tuple #[]) (fun w' => Frm [q] w w' ∧ PgAt w' q b cq 71 [.int .i64 tr] L F buf k 5 was 1)) := by
  obtain ⟨c0, c1, c2, c3, c4, c5, c6⟩ := hP.cells
  have hb : (was == was) = true := by simp
  have H := Lib.hid hP
  clear hP
  go_enter Try.func53, Try.ntmps53
  go_wp2_with fail
  refine (cend H.out 1).mono ?_
  rintro e w1 ⟨rfl, hF, hP⟩
  have HF := Lib.hid hF
  have HP := Lib.hid hP
  clear hF hP
  go_wp2
  go_end0
  exact ⟨rfl, HF.out, HP.out⟩
theorem after_again (hP : PgAt w q b cq 71 [.int .i64 tr] L F buf k st was res) (v : Int) (hv : v ≠ was) (h1 : 2 ≤ tr) (h2 : tr ≤ 9223372036854775807) :
    Calls Try.prog 53 #[.pointer (some ⟨q, 0, none⟩), .int .u64 v] w (Ret (.tuple #[]) (fun w' => Frm [q] w w' ∧ PgAt w' q b cq 71 [.int .i64 (tr - 1)] L F buf 0 1 was res)) := by
  obtain ⟨c0, c1, c2, c3, c4, c5, c6⟩ := hP.cells
  have c7 := hP.cell7
  have z3 := hP.frz 3
  have z4 := hP.frz 4
  have z7 := hP.frz 7
  have hb : (v == was) = false := by simpa using hv
  have hs : IntKind.i64.wrap (tr - 1) = tr - 1 := by rw [IntWalk.i64_in _ (by omega)]
  have hb2 : (tr - 1 == 0) = false := by simp; omega
  have H := Lib.hid (((hP.setK 0 (Nat.zero_le _)).setSt 1).setTl (tr - 1))
  clear hP hv h1 h2
  go_enter Try.func53, Try.ntmps53
  go_wp2
  go_end0
  exact ⟨rfl, (((Frm.refl [q] w).setCell _ _ (.inl (by simp))).setCell _ _ (.inl (by simp))).setCell _ _ (.inl (by simp)), H.out⟩
theorem after_fail (hP : PgAt w q b cq 71 [.int .i64 1] L F buf k st was res) (v : Int) (hv : v ≠ was) :
    Calls Try.prog 53 #[.pointer (some ⟨q, 0, none⟩), .int .u64 v] w (Ret (.tuple #[]) (fun w' => Frm [q] w w' ∧ PgAt w' q b cq 71 [.int .i64 0] L F buf 0 5 was 0)) := by
  obtain ⟨c0, c1, c2, c3, c4, c5, c6⟩ := hP.cells
  have c7 := hP.cell7
  have z3 := hP.frz 3
  have z4 := hP.frz 4
  have z7 := hP.frz 7
  have hb : (v == was) = false := by simpa using hv
  have H := Lib.hid (((hP.setK 0 (Nat.zero_le _)).setSt 1).setTl 0)
  clear hP hv
  go_enter Try.func53, Try.ntmps53
  go_wp2_with fail
  refine (cend H.out 0).mono ?_
  rintro e w1 ⟨rfl, hF, hP⟩
  have HF := Lib.hid hF
  have HP := Lib.hid hP
  clear hF hP
  go_wp2
  go_end0
  exact ⟨rfl, ((((Frm.refl [q] w).setCell _ _ (.inl (by simp))).setCell _ _ (.inl (by simp))).setCell _ _ (.inl (by simp))).trans HF.out, HP.out⟩

set_option maxRecDepth 100000 in
set_option maxHeartbeats 4000000 in
theorem rs_out (hM : MemAt w p d c ws) (hP : PgAt w q b cq 71 [.int .i64 tr] L F buf k st was res) (hA : Ap p d q b) (hx : ws.length ≤ wrd L F k st) (hk : st = 3 → k < buf.length) :
    Calls Try.prog 42 #[.pointer (some ⟨q, 0, none⟩), .iface 39 (.pointer (some ⟨p, 0, none⟩))] w (Ret (.tuple #[.bool false, .int .i64 3]) (Aft p d c q b cq 71 [.int .i64 tr] w ws L F buf k st was res)) := by
  have hm := m_load p
  have hn := n_load p
  have hmf : ∀ (fn : Fn) (first cap : Array Value) (w : World), (Instr.makeFunc fn first cap).run Try.prog w = .ok (.func fn first cap) w := fun _ _ _ _ => rfl
  have HC : Hid (∀ w', Frm [d] w w' → PgAt w' q b cq 71 [.int .i64 tr] L F buf k st was res) := Lib.hid fun w' hf => hP.frm hf (by simpa using hA.qd) (by simpa using hA.bd)
  have HM := Lib.hid hM
  have HX := Lib.hid hx
  have HA := Lib.hid hA
  have HH0 := Lib.hid hk
  clear hM hP hx hA hk
  go_enter Try.func42, Try.ntmps42
  go_wp2_with fail
  go_region_held3 (fun w' => Frm [d] w w') (repeat' (first | assumption | exact Frm.refl _ _ | apply Frm.drew | apply Frm.drewN)) (first
    | (go_at_call 50; (with_reducible refine (cword_any (HC.out _ (by assumption)) HH0.out).mono ?_); rintro e w1 ⟨m1, rfl, rfl⟩)
    | (go_at_call 77; (with_reducible refine (Load_out (HM.out.frm (D := []) (by (repeat' (first | exact Frm.refl _ _ | apply Frm.drew | apply Frm.drewN))) (by simp) (by simp)) (wrd L F k st) HX.out).mono ?_); rintro e w1 ⟨rfl, hF1, hM1⟩; have hFw : Frm [d] w w1 := Frm.trans (by (repeat' (first | exact Frm.refl _ _ | apply Frm.drew | apply Frm.drewN))) hF1))
  all_goals
    have hP1 := HC.out _ hFw
    obtain ⟨c0, c1, c2, c3, c4, c5, c6⟩ := hP1.cells
    have H1 := Lib.hid hP1
    have HM1 := Lib.hid hM1
    have HF1 := Lib.hid hFw
    clear hP1 hM1 hFw hF1
    go_wp2
    go_ret2
    exact ⟨rfl, HF1.out.weak (by simp), HM1.out, H1.out⟩

set_option maxRecDepth 100000 in
set_option maxHeartbeats 4000000 in
theorem rs_wait {v : Int} (hM : MemAt w p d c ws) (hP : PgAt w q b cq 71 [.int .i64 tr] L F buf k 1 was res) (hA : Ap p d q b) (hx : ws[wrd L F k 1]? = some v) (h0 : 0 ≤ v) (hv : v % 2 ≠ 0) :
    Calls Try.prog 42 #[.pointer (some ⟨q, 0, none⟩), .iface 39 (.pointer (some ⟨p, 0, none⟩))] w (Ret (.tuple #[.bool true, .int .i64 0]) (Aft p d c q b cq 71 [.int .i64 tr] w ws L F buf k 1 was res)) := by
  have hm := m_load p
  have hn := n_load p
  have hmf : ∀ (fn : Fn) (first cap : Array Value) (w : World), (Instr.makeFunc fn first cap).run Try.prog w = .ok (.func fn first cap) w := fun _ _ _ _ => rfl
  have HC : Hid (∀ w', Frm [d] w w' → PgAt w' q b cq 71 [.int .i64 tr] L F buf k 1 was res) := Lib.hid fun w' hf => hP.frm hf (by simpa using hA.qd) (by simpa using hA.bd)
  have HM := Lib.hid hM
  have HX := Lib.hid hx
  have HA := Lib.hid hA
  have HH0 := Lib.hid h0
  have HH1 := Lib.hid hv
  clear hM hP hx hA h0 hv
  go_enter Try.func42, Try.ntmps42
  go_wp2_with fail
  go_region_held3 (fun w' => Frm [d] w w') (repeat' (first | assumption | exact Frm.refl _ _ | apply Frm.drew | apply Frm.drewN)) (first
    | (go_at_call 50; (with_reducible refine (cword_any (HC.out _ (by assumption)) (fun h => absurd h (by decide))).mono ?_); rintro e w1 ⟨m1, rfl, rfl⟩)
    | (go_at_call 77; (with_reducible refine (Load_ok (HM.out.frm (D := []) (by (repeat' (first | exact Frm.refl _ _ | apply Frm.drew | apply Frm.drewN))) (by simp) (by simp)) (wrd L F k 1) v HX.out).mono ?_); rintro e w1 ⟨rfl, hF1, hM1⟩; have hFw : Frm [d] w w1 := Frm.trans (by (repeat' (first | exact Frm.refl _ _ | apply Frm.drew | apply Frm.drewN))) hF1))
  all_goals
    have hP1 := HC.out _ hFw
    obtain ⟨c0, c1, c2, c3, c4, c5, c6⟩ := hP1.cells
    have H1 := Lib.hid hP1
    have HM1 := Lib.hid hM1
    have HF1 := Lib.hid hFw
    clear hP1 hM1 hFw hF1
    go_wp2_with fail
    refine (before_wait v HH0.out HH1.out).mono ?_
    rintro e w2 ⟨rfl, rfl⟩
    go_wp2
    go_ret2
    exact ⟨rfl, HF1.out.weak (by simp), HM1.out, H1.out⟩

set_option maxRecDepth 100000 in
set_option maxHeartbeats 4000000 in
theorem rs_look {v : Int} (hM : MemAt w p d c ws) (hP : PgAt w q b cq 71 [.int .i64 tr] L F buf k 1 was res) (hA : Ap p d q b) (hx : ws[wrd L F k 1]? = some v) (h0 : 0 ≤ v) (hv : v % 2 = 0) :
    Calls Try.prog 42 #[.pointer (some ⟨q, 0, none⟩), .iface 39 (.pointer (some ⟨p, 0, none⟩))] w (Ret (.tuple #[.bool false, .int .i64 0]) (Aft p d c q b cq 71 [.int .i64 tr] w ws L F buf k (nxt k buf.length) v res)) := by
  have hm := m_load p
  have hn := n_load p
  have hmf : ∀ (fn : Fn) (first cap : Array Value) (w : World), (Instr.makeFunc fn first cap).run Try.prog w = .ok (.func fn first cap) w := fun _ _ _ _ => rfl
  have HC : Hid (∀ w', Frm [d] w w' → PgAt w' q b cq 71 [.int .i64 tr] L F buf k 1 was res) := Lib.hid fun w' hf => hP.frm hf (by simpa using hA.qd) (by simpa using hA.bd)
  have HM := Lib.hid hM
  have HX := Lib.hid hx
  have HA := Lib.hid hA
  have HH0 := Lib.hid h0
  have HH1 := Lib.hid hv
  clear hM hP hx hA h0 hv
  go_enter Try.func42, Try.ntmps42
  go_wp2_with fail
  go_region_held3 (fun w' => Frm [d] w w') (repeat' (first | assumption | exact Frm.refl _ _ | apply Frm.drew | apply Frm.drewN)) (first
    | (go_at_call 50; (with_reducible refine (cword_any (HC.out _ (by assumption)) (fun h => absurd h (by decide))).mono ?_); rintro e w1 ⟨m1, rfl, rfl⟩)
    | (go_at_call 77; (with_reducible refine (Load_ok (HM.out.frm (D := []) (by (repeat' (first | exact Frm.refl _ _ | apply Frm.drew | apply Frm.drewN))) (by simp) (by simp)) (wrd L F k 1) v HX.out).mono ?_); rintro e w1 ⟨rfl, hF1, hM1⟩; have hFw : Frm [d] w w1 := Frm.trans (by (repeat' (first | exact Frm.refl _ _ | apply Frm.drew | apply Frm.drewN))) hF1))
  all_goals
    have hP1 := HC.out _ hFw
    obtain ⟨c0, c1, c2, c3, c4, c5, c6⟩ := hP1.cells
    have H1 := Lib.hid hP1
    have HM1 := Lib.hid hM1
    have HF1 := Lib.hid hFw
    clear hP1 hM1 hFw hF1
    go_wp2_with fail
    refine (before_go H1.out v HH0.out HH1.out).mono ?_
    rintro e w2 ⟨rfl, hF2, hP2⟩
    have HF2 := Lib.hid hF2
    have HP2 := Lib.hid hP2
    clear hF2 hP2
    go_wp2
    go_ret2
    exact ⟨rfl, (HF1.out.weak (by simp)).trans (HF2.out.weak (by simp)), HM1.out.frm HF2.out (by simpa using HA.out.qp.symm) (by simpa using HA.out.qd.symm), HP2.out⟩

set_option maxRecDepth 100000 in
set_option maxHeartbeats 4000000 in
theorem rs_same {v : Int} (hM : MemAt w p d c ws) (hP : PgAt w q b cq 71 [.int .i64 tr] L F buf k 4 v res) (hA : Ap p d q b) (hx : ws[wrd L F k 4]? = some v)  :
    Calls Try.prog 42 #[.pointer (some ⟨q, 0, none⟩), .iface 39 (.pointer (some ⟨p, 0, none⟩))] w (Ret (.tuple #[.bool false, .int .i64 0]) (Aft p d c q b cq 71 [.int .i64 tr] w ws L F buf k 5 v 1)) := by
  have hm := m_load p
  have hn := n_load p
  have hmf : ∀ (fn : Fn) (first cap : Array Value) (w : World), (Instr.makeFunc fn first cap).run Try.prog w = .ok (.func fn first cap) w := fun _ _ _ _ => rfl
  have HC : Hid (∀ w', Frm [d] w w' → PgAt w' q b cq 71 [.int .i64 tr] L F buf k 4 v res) := Lib.hid fun w' hf => hP.frm hf (by simpa using hA.qd) (by simpa using hA.bd)
  have HM := Lib.hid hM
  have HX := Lib.hid hx
  have HA := Lib.hid hA
  clear hM hP hx hA 
  go_enter Try.func42, Try.ntmps42
  go_wp2_with fail
  go_region_held3 (fun w' => Frm [d] w w') (repeat' (first | assumption | exact Frm.refl _ _ | apply Frm.drew | apply Frm.drewN)) (first
    | (go_at_call 50; (with_reducible refine (cword_any (HC.out _ (by assumption)) (fun h => absurd h (by decide))).mono ?_); rintro e w1 ⟨m1, rfl, rfl⟩)
    | (go_at_call 77; (with_reducible refine (Load_ok (HM.out.frm (D := []) (by (repeat' (first | exact Frm.refl _ _ | apply Frm.drew | apply Frm.drewN))) (by simp) (by simp)) (wrd L F k 4) v HX.out).mono ?_); rintro e w1 ⟨rfl, hF1, hM1⟩; have hFw : Frm [d] w w1 := Frm.trans (by (repeat' (first | exact Frm.refl _ _ | apply Frm.drew | apply Frm.drewN))) hF1))
  all_goals
    have hP1 := HC.out _ hFw
    obtain ⟨c0, c1, c2, c3, c4, c5, c6⟩ := hP1.cells
    have H1 := Lib.hid hP1
    have HM1 := Lib.hid hM1
    have HF1 := Lib.hid hFw
    clear hP1 hM1 hFw hF1
    go_wp2_with fail
    refine (after_same H1.out).mono ?_
    rintro e w2 ⟨rfl, hF2, hP2⟩
    have HF2 := Lib.hid hF2
    have HP2 := Lib.hid hP2
    clear hF2 hP2
    go_wp2
    go_ret2
    exact ⟨rfl, (HF1.out.weak (by simp)).trans (HF2.out.weak (by simp)), HM1.out.frm HF2.out (by simpa using HA.out.qp.symm) (by simpa using HA.out.qd.symm), HP2.out⟩

set_option maxRecDepth 100000 in
set_option maxHeartbeats 4000000 in
theorem rs_again {v : Int} (hM : MemAt w p d c ws) (hP : PgAt w q b cq 71 [.int .i64 tr] L F buf k 4 was res) (hA : Ap p d q b) (hx : ws[wrd L F k 4]? = some v) (hv : v ≠ was) (h1 : 2 ≤ tr) (h2 : tr ≤ 9223372036854775807) :
    Calls Try.prog 42 #[.pointer (some ⟨q, 0, none⟩), .iface 39 (.pointer (some ⟨p, 0, none⟩))] w (Ret (.tuple #[.bool false, .int .i64 0]) (Aft p d c q b cq 71 [.int .i64 (tr - 1)] w ws L F buf 0 1 was res)) := by
  have hm := m_load p
  have hn := n_load p
  have hmf : ∀ (fn : Fn) (first cap : Array Value) (w : World), (Instr.makeFunc fn first cap).run Try.prog w = .ok (.func fn first cap) w := fun _ _ _ _ => rfl
  have HC : Hid (∀ w', Frm [d] w w' → PgAt w' q b cq 71 [.int .i64 tr] L F buf k 4 was res) := Lib.hid fun w' hf => hP.frm hf (by simpa using hA.qd) (by simpa using hA.bd)
  have HM := Lib.hid hM
  have HX := Lib.hid hx
  have HA := Lib.hid hA
  have HH0 := Lib.hid hv
  have HH1 := Lib.hid h1
  have HH2 := Lib.hid h2
  clear hM hP hx hA hv h1 h2
  go_enter Try.func42, Try.ntmps42
  go_wp2_with fail
  go_region_held3 (fun w' => Frm [d] w w') (repeat' (first | assumption | exact Frm.refl _ _ | apply Frm.drew | apply Frm.drewN)) (first
    | (go_at_call 50; (with_reducible refine (cword_any (HC.out _ (by assumption)) (fun h => absurd h (by decide))).mono ?_); rintro e w1 ⟨m1, rfl, rfl⟩)
    | (go_at_call 77; (with_reducible refine (Load_ok (HM.out.frm (D := []) (by (repeat' (first | exact Frm.refl _ _ | apply Frm.drew | apply Frm.drewN))) (by simp) (by simp)) (wrd L F k 4) v HX.out).mono ?_); rintro e w1 ⟨rfl, hF1, hM1⟩; have hFw : Frm [d] w w1 := Frm.trans (by (repeat' (first | exact Frm.refl _ _ | apply Frm.drew | apply Frm.drewN))) hF1))
  all_goals
    have hP1 := HC.out _ hFw
    obtain ⟨c0, c1, c2, c3, c4, c5, c6⟩ := hP1.cells
    have H1 := Lib.hid hP1
    have HM1 := Lib.hid hM1
    have HF1 := Lib.hid hFw
    clear hP1 hM1 hFw hF1
    go_wp2_with fail
    refine (after_again H1.out v HH0.out HH1.out HH2.out).mono ?_
    rintro e w2 ⟨rfl, hF2, hP2⟩
    have HF2 := Lib.hid hF2
    have HP2 := Lib.hid hP2
    clear hF2 hP2
    go_wp2
    go_ret2
    exact ⟨rfl, (HF1.out.weak (by simp)).trans (HF2.out.weak (by simp)), HM1.out.frm HF2.out (by simpa using HA.out.qp.symm) (by simpa using HA.out.qd.symm), HP2.out⟩

set_option maxRecDepth 100000 in
set_option maxHeartbeats 4000000 in
theorem rs_fail {v : Int} (hM : MemAt w p d c ws) (hP : PgAt w q b cq 71 [.int .i64 1] L F buf k 4 was res) (hA : Ap p d q b) (hx : ws[wrd L F k 4]? = some v) (hv : v ≠ was) :
    Calls Try.prog 42 #[.pointer (some ⟨q, 0, none⟩), .iface 39 (.pointer (some ⟨p, 0, none⟩))] w (Ret (.tuple #[.bool false, .int .i64 0]) (Aft p d c q b cq 71 [.int .i64 0] w ws L F buf 0 5 was 0)) := by
  have hm := m_load p
  have hn := n_load p
  have hmf : ∀ (fn : Fn) (first cap : Array Value) (w : World), (Instr.makeFunc fn first cap).run Try.prog w = .ok (.func fn first cap) w := fun _ _ _ _ => rfl
  have HC : Hid (∀ w', Frm [d] w w' → PgAt w' q b cq 71 [.int .i64 1] L F buf k 4 was res) := Lib.hid fun w' hf => hP.frm hf (by simpa using hA.qd) (by simpa using hA.bd)
  have HM := Lib.hid hM
  have HX := Lib.hid hx
  have HA := Lib.hid hA
  have HH0 := Lib.hid hv
  clear hM hP hx hA hv
  go_enter Try.func42, Try.ntmps42
  go_wp2_with fail
  go_region_held3 (fun w' => Frm [d] w w') (repeat' (first | assumption | exact Frm.refl _ _ | apply Frm.drew | apply Frm.drewN)) (first
    | (go_at_call 50; (with_reducible refine (cword_any (HC.out _ (by assumption)) (fun h => absurd h (by decide))).mono ?_); rintro e w1 ⟨m1, rfl, rfl⟩)
    | (go_at_call 77; (with_reducible refine (Load_ok (HM.out.frm (D := []) (by (repeat' (first | exact Frm.refl _ _ | apply Frm.drew | apply Frm.drewN))) (by simp) (by simp)) (wrd L F k 4) v HX.out).mono ?_); rintro e w1 ⟨rfl, hF1, hM1⟩; have hFw : Frm [d] w w1 := Frm.trans (by (repeat' (first | exact Frm.refl _ _ | apply Frm.drew | apply Frm.drewN))) hF1))
  all_goals
    have hP1 := HC.out _ hFw
    obtain ⟨c0, c1, c2, c3, c4, c5, c6⟩ := hP1.cells
    have H1 := Lib.hid hP1
    have HM1 := Lib.hid hM1
    have HF1 := Lib.hid hFw
    clear hP1 hM1 hFw hF1
    go_wp2_with fail
    refine (after_fail H1.out v HH0.out).mono ?_
    rintro e w2 ⟨rfl, hF2, hP2⟩
    have HF2 := Lib.hid hF2
    have HP2 := Lib.hid hP2
    clear hF2 hP2
    go_wp2
    go_ret2
    exact ⟨rfl, (HF1.out.weak (by simp)).trans (HF2.out.weak (by simp)), HM1.out.frm HF2.out (by simpa using HA.out.qp.symm) (by simpa using HA.out.qd.symm), HP2.out⟩
end
#print axioms rs_fail
end Go.Proofs.Ytbhnijkphkkalaa
