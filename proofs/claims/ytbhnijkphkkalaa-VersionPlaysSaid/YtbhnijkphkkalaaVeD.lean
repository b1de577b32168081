/- Package version: Read: the step at a word. (By gen_veb.py.) -/
import Derived.Test.YtbhnijkphkkalaaVeB
namespace Go.Proofs.Ytbhnijkphkkalaa
open Go.ChangeShapes Go.WideShapes Go.ChangeAt Go.RowKit
set_option linter.unusedVariables false

section
variable {w : World} {p d c : Nat} {ws : List Int} {q b cq : Nat} {L : Nat} {F : Int} {buf : List Int} {k : Nat} {st was res tr : Int}

set_option maxRecDepth 100000 in
set_option maxHeartbeats 4000000 in
theorem rs_word {v : Int} (hM : MemAt w p d c ws) (hP : PgAt w q b cq 71 [.int .i64 tr] L F buf k 3 was res) (hA : Ap p d q b) (hx : ws[wrd L F k 3]? = some v) (hk : k < buf.length) :
    Calls Try.prog 42 #[.pointer (some ⟨q, 0, none⟩), .iface 39 (.pointer (some ⟨p, 0, none⟩))] w (Ret (.tuple #[.bool false, .int .i64 0]) (Aft p d c q b cq 71 [.int .i64 tr] w ws L F (buf.set k v) (k + 1) (nxt (k + 1) buf.length) was res)) := by
  have hm := m_load p
  have hn := n_load p
  have hmf : ∀ (fn : Fn) (first cap : Array Value) (w : World), (Instr.makeFunc fn first cap).run Try.prog w = .ok (.func fn first cap) w := fun _ _ _ _ => rfl
  have HC : Hid (∀ w', Frm [d] w w' → PgAt w' q b cq 71 [.int .i64 tr] L F buf k 3 was res) := Lib.hid fun w' hf => hP.frm hf (by simpa using hA.qd) (by simpa using hA.bd)
  have HM := Lib.hid hM
  have HX := Lib.hid hx
  have HA := Lib.hid hA
  have HH0 := Lib.hid hk
  have hle := hP.le
  have hlt := hk
  have hs : IntKind.i64.wrap ((k : Int) + 1) = (k : Int) + 1 := by rw [IntWalk.i64_in _ (by omega)]
  have hgt : k < buf.length := hk
  have hlen := Lib.hid hP.le
  clear hM hP hx hA hk
  go_enter Try.func42, Try.ntmps42
  go_wp2_with fail
  go_region_held3 (fun w' => Frm [d] w w') (repeat' (first | assumption | exact Frm.refl _ _ | apply Frm.drew | apply Frm.drewN)) (first
    | (go_at_call 50; (with_reducible refine (cword_any (HC.out _ (by assumption)) (fun _ => HH0.out)).mono ?_); rintro e w1 ⟨m1, rfl, rfl⟩)
    | (go_at_call 77; (with_reducible refine (Load_ok (HM.out.frm (D := []) (by (repeat' (first | exact Frm.refl _ _ | apply Frm.drew | apply Frm.drewN))) (by simp) (by simp)) (wrd L F k 3) v HX.out).mono ?_); rintro e w1 ⟨rfl, hF1, hM1⟩; have hFw : Frm [d] w w1 := Frm.trans (by (repeat' (first | exact Frm.refl _ _ | apply Frm.drew | apply Frm.drewN))) hF1))
  all_goals
    have hP1 := HC.out _ hFw
    obtain ⟨c0, c1, c2, c3, c4, c5, c6⟩ := hP1.cells
    have H1 := Lib.hid hP1
    have HM1 := Lib.hid hM1
    have HF1 := Lib.hid hFw
    have z3 := hP1.frz 3
    have zb := hP1.frzb k
    obtain ⟨x, hxk⟩ : ∃ x, buf[k]? = some x := ⟨_, List.getElem?_eq_getElem HH0.out⟩
    have cb := hP1.get hxk
    clear hxk
    clear hP1 hM1 hFw hF1
    go_wp2_with fail
    go_region
    have hP2 : PgAt (w1.setCell ⟨b, k, none⟩ (.int .u64 v)).drew q b cq 71 [.int .i64 tr] L F (buf.set k v) k 3 was res := (H1.out.setBuf k v).frm0 ((Frm.refl [] _).drew)
    have hF2 : Frm [b] w1 (w1.setCell ⟨b, k, none⟩ (.int .u64 v)).drew := ((Frm.refl [b] w1).setCell _ _ (.inl (by simp))).drew
    generalize (w1.setCell ⟨b, k, none⟩ (.int .u64 v)).drew = w2 at hP2 hF2 ⊢
    clear c0 c1 c2 c3 c4 c5 c6 z3 zb cb
    obtain ⟨c0, c1, c2, c3, c4, c5, c6⟩ := hP2.cells
    have z3 := hP2.frz 3
    have H2 := Lib.hid (hP2.setK (k + 1) (by simp; omega))
    have HF2 := Lib.hid hF2
    clear hP2 hF2
    go_wp2_with fail
    refine (cgoOn H2.out).mono ?_
    rintro e w3 ⟨rfl, hF3, hP3⟩
    have HF3 := Lib.hid hF3
    have HP3 := Lib.hid hP3
    clear hF3 hP3
    go_wp2
    go_ret2
    have hF4 : Frm [q, b] w1 w3 := ((HF2.out.weak (by simp)).setCell _ _ (.inl (by simp))).trans (HF3.out.weak (by simp))
    exact ⟨rfl, (HF1.out.weak (by simp)).trans (hF4.weak (by simp)), HM1.out.frm hF4 (by simpa using ⟨HA.out.qp.symm, HA.out.bp.symm⟩) (by simpa using ⟨HA.out.qd.symm, HA.out.bd.symm⟩), by have := HP3.out; rw [List.length_set] at this; exact this⟩
end
#print axioms rs_word
end Go.Proofs.Ytbhnijkphkkalaa
