/- Package version: the storing steps of Write. (By gen_vec.py.) -/
import Derived.Test.YtbhnijkphkkalaaVeC
namespace Go.Proofs.Ytbhnijkphkkalaa
open Go.ChangeShapes Go.WideShapes Go.ChangeAt Go.RowKit
set_option linter.unusedVariables false
theorem m_storeN (p : Nat) (w : World) : (method 230 39 (.pointer (some ⟨p, 0, none⟩)) "Store").run Try.prog w = .ok (33, .pointer (some ⟨p, 0, none⟩)) w := by kernel_rfl

section
variable {w : World} {p d c : Nat} {ws : List Int} {q b cq : Nat} {L : Nat} {F : Int} {buf : List Int} {k : Nat} {st was res tr : Int}

set_option maxRecDepth 100000 in
set_option maxHeartbeats 4000000 in
theorem ws_out (hM : MemAt w p d c ws) (hP : PgAt w q b cq 73 [] L F buf k st was res) (hA : Ap p d q b) (hx : ws.length ≤ wrd L F k st) (hst : st = 2 ∨ st = 3 ∨ st = 4) (hk : st = 3 → k < buf.length) (h1 : (st == 1) = false) :
    Calls Try.prog 43 #[.pointer (some ⟨q, 0, none⟩), .iface 39 (.pointer (some ⟨p, 0, none⟩))] w (Ret (.tuple #[.bool false, .int .i64 3]) (Aft p d c q b cq 73 [] w ws L F buf k st was res)) := by
  have hm := m_storeN p
  have hn := n_store p
  have hmf : ∀ (fn : Fn) (first cap : Array Value) (w : World), (Instr.makeFunc fn first cap).run Try.prog w = .ok (.func fn first cap) w := fun _ _ _ _ => rfl
  have HC : Hid (∀ w', Frm [d] w w' → PgAt w' q b cq 73 [] L F buf k st was res) := Lib.hid fun w' hf => hP.frm hf (by simpa using hA.qd) (by simpa using hA.bd)
  have HM := Lib.hid hM
  have HX := Lib.hid hx
  have HA := Lib.hid hA
  obtain ⟨c0, c1, c2, c3, c4, c5, c6⟩ := hP.cells
  have HH0 := Lib.hid hst
  have HH1 := Lib.hid hk
  clear hM hP hx hA hst hk
  go_enter Try.func43, Try.ntmps43
  go_wp2_with fail
  go_region_held3 (fun w' => Frm [d] w w') (repeat' (first | assumption | exact Frm.refl _ _ | apply Frm.drew | apply Frm.drewN)) (first
    | (go_at_call 50; (with_reducible refine (cword_any (HC.out _ (by assumption)) HH1.out).mono ?_); rintro e w1 ⟨m1, rfl, rfl⟩)
    | (go_at_call 55; (with_reducible refine (value_any (HC.out _ (by assumption)) HH0.out HH1.out).mono ?_); rintro e w1 ⟨m1, rfl, rfl⟩)
    | (go_at_call 33; (with_reducible refine (Store_out (HM.out.frm (D := []) (by (repeat' (first | exact Frm.refl _ _ | apply Frm.drew | apply Frm.drewN))) (by simp) (by simp)) (wrd L F k st) (val buf k st was) HX.out).mono ?_); rintro e w1 ⟨rfl, hF1, hM1⟩; have hFw : Frm [d] w w1 := Frm.trans (by (repeat' (first | exact Frm.refl _ _ | apply Frm.drew | apply Frm.drewN))) hF1))
  all_goals
    have hP1 := HC.out _ hFw
    clear c0 c1 c2 c3 c4 c5 c6
    obtain ⟨c0, c1, c2, c3, c4, c5, c6⟩ := hP1.cells
    have H1 := Lib.hid hP1
    have HM1 := Lib.hid hM1
    have HF1 := Lib.hid hFw
    clear hP1 hM1 hFw hF1
    go_wp2
    go_ret2
    exact ⟨rfl, HF1.out.weak (by simp), HM1.out, H1.out⟩

set_option maxRecDepth 100000 in
set_option maxHeartbeats 4000000 in
theorem ws_odd (hM : MemAt w p d c ws) (hP : PgAt w q b cq 73 [] L F buf k 2 was res) (hA : Ap p d q b) (hx : wrd L F k 2 < ws.length)  :
    Calls Try.prog 43 #[.pointer (some ⟨q, 0, none⟩), .iface 39 (.pointer (some ⟨p, 0, none⟩))] w (Ret (.tuple #[.bool false, .int .i64 0]) (Aft p d c q b cq 73 [] w (ws.set (wrd L F k 2) (val buf k 2 was)) L F buf k (nxt k buf.length) was res)) := by
  have hm := m_storeN p
  have hn := n_store p
  have hmf : ∀ (fn : Fn) (first cap : Array Value) (w : World), (Instr.makeFunc fn first cap).run Try.prog w = .ok (.func fn first cap) w := fun _ _ _ _ => rfl
  have HC : Hid (∀ w', Frm [d] w w' → PgAt w' q b cq 73 [] L F buf k 2 was res) := Lib.hid fun w' hf => hP.frm hf (by simpa using hA.qd) (by simpa using hA.bd)
  have HM := Lib.hid hM
  have HX := Lib.hid hx
  have HA := Lib.hid hA
  obtain ⟨c0, c1, c2, c3, c4, c5, c6⟩ := hP.cells
  clear hM hP hx hA 
  go_enter Try.func43, Try.ntmps43
  go_wp2_with fail
  go_region_held3 (fun w' => Frm [d] w w') (repeat' (first | assumption | exact Frm.refl _ _ | apply Frm.drew | apply Frm.drewN)) (first
    | (go_at_call 50; (with_reducible refine (cword_any (HC.out _ (by assumption)) (fun h => absurd h (by decide))).mono ?_); rintro e w1 ⟨m1, rfl, rfl⟩)
    | (go_at_call 55; (with_reducible refine (value_any (HC.out _ (by assumption)) (.inl rfl) (fun h => absurd h (by decide))).mono ?_); rintro e w1 ⟨m1, rfl, rfl⟩)
    | (go_at_call 33; (with_reducible refine (Store_ok (HM.out.frm (D := []) (by (repeat' (first | exact Frm.refl _ _ | apply Frm.drew | apply Frm.drewN))) (by simp) (by simp)) (wrd L F k 2) (val buf k 2 was) HX.out).mono ?_); rintro e w1 ⟨rfl, hF1, hM1⟩; have hFw : Frm [d] w w1 := Frm.trans (by (repeat' (first | exact Frm.refl _ _ | apply Frm.drew | apply Frm.drewN))) hF1))
  all_goals
    have hP1 := HC.out _ hFw
    clear c0 c1 c2 c3 c4 c5 c6
    obtain ⟨c0, c1, c2, c3, c4, c5, c6⟩ := hP1.cells
    have H1 := Lib.hid hP1
    have HM1 := Lib.hid hM1
    have HF1 := Lib.hid hFw
    clear hP1 hM1 hFw hF1
    go_wp2_with fail
    refine (cgoOn H1.out).mono ?_
    rintro e w2 ⟨rfl, hF2, hP2⟩
    have HF2 := Lib.hid hF2
    have HP2 := Lib.hid hP2
    clear hF2 hP2
    go_wp2
    go_ret2
    exact ⟨rfl, (HF1.out.weak (by simp)).trans (HF2.out.weak (by simp)), HM1.out.frm HF2.out (by simpa using HA.out.qp.symm) (by simpa using HA.out.qd.symm), HP2.out⟩

set_option maxRecDepth 100000 in
set_option maxHeartbeats 4000000 in
theorem ws_end (hM : MemAt w p d c ws) (hP : PgAt w q b cq 73 [] L F buf k 4 was res) (hA : Ap p d q b) (hx : wrd L F k 4 < ws.length)  :
    Calls Try.prog 43 #[.pointer (some ⟨q, 0, none⟩), .iface 39 (.pointer (some ⟨p, 0, none⟩))] w (Ret (.tuple #[.bool false, .int .i64 0]) (Aft p d c q b cq 73 [] w (ws.set (wrd L F k 4) (val buf k 4 was)) L F buf k 5 was 1)) := by
  have hm := m_storeN p
  have hn := n_store p
  have hmf : ∀ (fn : Fn) (first cap : Array Value) (w : World), (Instr.makeFunc fn first cap).run Try.prog w = .ok (.func fn first cap) w := fun _ _ _ _ => rfl
  have HC : Hid (∀ w', Frm [d] w w' → PgAt w' q b cq 73 [] L F buf k 4 was res) := Lib.hid fun w' hf => hP.frm hf (by simpa using hA.qd) (by simpa using hA.bd)
  have HM := Lib.hid hM
  have HX := Lib.hid hx
  have HA := Lib.hid hA
  obtain ⟨c0, c1, c2, c3, c4, c5, c6⟩ := hP.cells
  clear hM hP hx hA 
  go_enter Try.func43, Try.ntmps43
  go_wp2_with fail
  go_region_held3 (fun w' => Frm [d] w w') (repeat' (first | assumption | exact Frm.refl _ _ | apply Frm.drew | apply Frm.drewN)) (first
    | (go_at_call 50; (with_reducible refine (cword_any (HC.out _ (by assumption)) (fun h => absurd h (by decide))).mono ?_); rintro e w1 ⟨m1, rfl, rfl⟩)
    | (go_at_call 55; (with_reducible refine (value_any (HC.out _ (by assumption)) (.inr (.inr rfl)) (fun h => absurd h (by decide))).mono ?_); rintro e w1 ⟨m1, rfl, rfl⟩)
    | (go_at_call 33; (with_reducible refine (Store_ok (HM.out.frm (D := []) (by (repeat' (first | exact Frm.refl _ _ | apply Frm.drew | apply Frm.drewN))) (by simp) (by simp)) (wrd L F k 4) (val buf k 4 was) HX.out).mono ?_); rintro e w1 ⟨rfl, hF1, hM1⟩; have hFw : Frm [d] w w1 := Frm.trans (by (repeat' (first | exact Frm.refl _ _ | apply Frm.drew | apply Frm.drewN))) hF1))
  all_goals
    have hP1 := HC.out _ hFw
    clear c0 c1 c2 c3 c4 c5 c6
    obtain ⟨c0, c1, c2, c3, c4, c5, c6⟩ := hP1.cells
    have H1 := Lib.hid hP1
    have HM1 := Lib.hid hM1
    have HF1 := Lib.hid hFw
    clear hP1 hM1 hFw hF1
    go_wp2_with fail
    refine (cend H1.out 1).mono ?_
    rintro e w2 ⟨rfl, hF2, hP2⟩
    have HF2 := Lib.hid hF2
    have HP2 := Lib.hid hP2
    clear hF2 hP2
    go_wp2
    go_ret2
    exact ⟨rfl, (HF1.out.weak (by simp)).trans (HF2.out.weak (by simp)), HM1.out.frm HF2.out (by simpa using HA.out.qp.symm) (by simpa using HA.out.qd.symm), HP2.out⟩

set_option maxRecDepth 100000 in
set_option maxHeartbeats 4000000 in
theorem ws_word (hM : MemAt w p d c ws) (hP : PgAt w q b cq 73 [] L F buf k 3 was res) (hA : Ap p d q b) (hx : wrd L F k 3 < ws.length) (hk : k < buf.length) :
    Calls Try.prog 43 #[.pointer (some ⟨q, 0, none⟩), .iface 39 (.pointer (some ⟨p, 0, none⟩))] w (Ret (.tuple #[.bool false, .int .i64 0]) (Aft p d c q b cq 73 [] w (ws.set (wrd L F k 3) (val buf k 3 was)) L F buf (k + 1) (nxt (k + 1) buf.length) was res)) := by
  have hm := m_storeN p
  have hn := n_store p
  have hmf : ∀ (fn : Fn) (first cap : Array Value) (w : World), (Instr.makeFunc fn first cap).run Try.prog w = .ok (.func fn first cap) w := fun _ _ _ _ => rfl
  have HC : Hid (∀ w', Frm [d] w w' → PgAt w' q b cq 73 [] L F buf k 3 was res) := Lib.hid fun w' hf => hP.frm hf (by simpa using hA.qd) (by simpa using hA.bd)
  have HM := Lib.hid hM
  have HX := Lib.hid hx
  have HA := Lib.hid hA
  obtain ⟨c0, c1, c2, c3, c4, c5, c6⟩ := hP.cells
  have HH0 := Lib.hid hk
  clear hM hP hx hA hk
  go_enter Try.func43, Try.ntmps43
  go_wp2_with fail
  go_region_held3 (fun w' => Frm [d] w w') (repeat' (first | assumption | exact Frm.refl _ _ | apply Frm.drew | apply Frm.drewN)) (first
    | (go_at_call 50; (with_reducible refine (cword_any (HC.out _ (by assumption)) (fun _ => HH0.out)).mono ?_); rintro e w1 ⟨m1, rfl, rfl⟩)
    | (go_at_call 55; (with_reducible refine (value_any (HC.out _ (by assumption)) (.inr (.inl rfl)) (fun _ => HH0.out)).mono ?_); rintro e w1 ⟨m1, rfl, rfl⟩)
    | (go_at_call 33; (with_reducible refine (Store_ok (HM.out.frm (D := []) (by (repeat' (first | exact Frm.refl _ _ | apply Frm.drew | apply Frm.drewN))) (by simp) (by simp)) (wrd L F k 3) (val buf k 3 was) HX.out).mono ?_); rintro e w1 ⟨rfl, hF1, hM1⟩; have hFw : Frm [d] w w1 := Frm.trans (by (repeat' (first | exact Frm.refl _ _ | apply Frm.drew | apply Frm.drewN))) hF1))
  all_goals
    have hP1 := HC.out _ hFw
    clear c0 c1 c2 c3 c4 c5 c6
    obtain ⟨c0, c1, c2, c3, c4, c5, c6⟩ := hP1.cells
    have H1 := Lib.hid hP1
    have HM1 := Lib.hid hM1
    have HF1 := Lib.hid hFw
    have z3 := hP1.frz 3
    have hle := hP1.le
    have hs : IntKind.i64.wrap ((k : Int) + 1) = (k : Int) + 1 := by rw [IntWalk.i64_in _ (by have := HH0.out; omega)]
    have H2 := Lib.hid (hP1.setK (k + 1) HH0.out)
    clear hP1 hM1 hFw hF1 hle
    go_wp2_with fail
    refine (cgoOn H2.out).mono ?_
    rintro e w2 ⟨rfl, hF2, hP2⟩
    have HF2 := Lib.hid (((Frm.refl [q] w1).setCell ⟨q, 3, none⟩ (.int .i64 ((k + 1 : Nat) : Int)) (.inl (by simp))).trans hF2)
    have HP2 := Lib.hid hP2
    clear hF2 hP2
    go_wp2
    go_ret2
    exact ⟨rfl, (HF1.out.weak (by simp)).trans (HF2.out.weak (by simp)), HM1.out.frm HF2.out (by simpa using HA.out.qp.symm) (by simpa using HA.out.qd.symm), HP2.out⟩
end
#print axioms ws_word
end Go.Proofs.Ytbhnijkphkkalaa
