/- VersionPlays: the ways of a round: the loop, the walk (by gen_vpn.py). -/
import Derived.Test.YtbhnijkphkkalaaVpT
namespace Go.Proofs.Ytbhnijkphkkalaa
open Go.ChangeShapes Go.WideShapes Go.ChangeAt Go.RowKit
set_option linter.unusedVariables false
set_option linter.unusedSimpArgs false

theorem i64_64 {x : Int} (h : (Lit.int .i64 x).wf = true) : x ≤ 9223372036854775807 := i64_le h
set_option maxRecDepth 100000 in
set_option maxHeartbeats 2000000 in
theorem any_loop {g0 oo0 n0 cap0 n3 c3 : Nat} {a3 : Option Addr} {xs : List Int} {acts : List ActV} {w : World}
    (hr : Rd w (.slice (some ⟨g0, oo0, none⟩) n0 cap0) (u64s xs)) (hxl : xs.length = n0) (hpos : ∀ x ∈ xs, 0 ≤ x) (n1 : 1 ≤ n0) (n40 : n0 ≤ 40) (hA : IsActs w a3 n3 acts) :
    Calls Try.prog 4 #[.slice (some ⟨g0, oo0, none⟩) n0 cap0, .slice a3 n3 c3] w (Ret (.bool true) (fun w' => Frm [] w w')) := by
  have d1 : decide ((n0 : Int) < 1) = false := by simp; omega
  have d2 : decide ((40 : Int) < (n0 : Int)) = false := by simp; omega
  have HR := Lib.hid hr
  have HXL := Lib.hid hxl
  have HPOS := Lib.hid hpos
  have HACT := Lib.hid hA
  have hg0 : g0 < w.heap.size := hr.cells.1
  clear hr hxl hpos hA
  go_enter Try.func4, Try.ntmps4
  go_wp2_with fail
  refine (few_any HACT.out).mono ?_
  rintro e w1 ⟨β, rfl, hF1, hfew⟩
  have HF := Lib.hid hF1
  have HFEW := Lib.hid hfew
  clear hF1 hfew
  cases β
  · go_wp2_with fail
    refine (known_true _).mono ?_
    rintro e w7 ⟨rfl, g7⟩
    go_wp2
    go_ret
    exact ⟨rfl, HF.out.trans g7⟩
  obtain ⟨h80, hall⟩ := HFEW.out rfl
  have HALL := Lib.hid hall
  clear hall HFEW
  have HR1 := Lib.hid (HR.out.frm HF.out (by simp))
  go_wp2_with fail
  refine (made_any HR1.out (by rw [HXL.out]; exact n1) (by rw [HXL.out]; omega)).mono ?_
  rintro e w2 ⟨p, d, c, rfl, hF, hM, hp, hd⟩
  have HM := Lib.hid hM
  have HF2 := Lib.hid (HF.out.trans hF)
  have HR2 := Lib.hid (HR1.out.frm hF (by simp))
  have hz1 := HF.out.size
  clear hF hM
  have hR0 : Rq w p d c g0 oo0 cap0 n0 none 0 none 0 0 w2 :=
    ⟨fun y => if y = p ∨ y = d then 0 else 3, xs, fun _ => ⟨0, 0, 0, ⟨true, 0, 0, [], 0, 0, 0, 0, 0⟩, R0 false 0 0 none 0 0 0 0, []⟩,
      ⟨HF2.out, by omega, HM.out, if_pos (.inl rfl), if_pos (.inr rfl), HPOS.out, HXL.out, HR2.out, if_neg (by omega), Gr.nil _ _ _ _ _, by simp [bkG], Gr.nil _ _ _ _ _, by simp [bkG], fun i hi => by omega, fun y hy => if_neg (by omega)⟩⟩
  have HR0 := Lib.hid hR0
  clear hR0 HM HF2 HR2 HF HR1 HR HXL HPOS hp hd
  go_wp2_with fail
  go_loopw [0, 6, 7, 9, 10, 11, 12, 13, 14, 15, 16, 17, 18, 19, 20, 21, 22, 23, 44, 45, 46, 47, 48, 49, 50, 51, 52, 53, 54, 55, 56, 57, 58, 59, 60, 61, 62, 63, 64, 65, 66, 67, 68, 69, 70, 71, 72, 73, 74, 75, 76, 77, 78, 79, 80, 81, 82, 83, 84, 85, 86, 87, 88, 89, 90, 91, 92, 93, 94, 95, 96, 97, 98, 99, 100, 101, 102, 103, 104, 105, 106, 107, 108, 109, 110, 111, 112, 113, 114, 115, 116, 117, 118, 119, 120, 121, 122, 123, 124, 125, 126, 127, 128, 129, 130, 131, 132, 133, 134, 135, 136, 137, 138, 139, 140, 141, 142, 143, 144, 145, 146, 147, 148, 149, 150, 151, 152, 153, 154, 155, 156, 157, 158, 159, 160, 161, 162, 163, 164, 165, 166, 167, 168, 169, 170, 171, 172, 173, 174, 175] (fun s0 s6 s7 _ _ _ _ _ _ _ _ _ _ _ _ _ _ _ sk _ _ _ _ _ _ _ _ _ _ _ _ _ _ _ _ _ _ _ _ _ _ _ _ _ _ _ _ _ _ _ _ _ _ _ _ _ _ _ _ _ _ _ _ _ _ _ _ _ _ _ _ _ _ _ _ _ _ _ _ _ _ _ _ _ _ _ _ _ _ _ _ _ _ _ _ _ _ _ _ _ _ _ _ _ _ _ _ _ _ _ _ _ _ _ _ _ _ _ _ _ _ _ _ _ _ _ _ _ _ _ _ _ _ _ _ _ _ _ _ _ _ _ _ _ _ _ _ _ _ _ wr => ∃ (k g oo cg : Nat) (a1 : Option Addr) (c1 : Nat) (a2 : Option Addr) (c2 m : Nat), k ≤ n3 ∧ m ≤ k ∧ sk = .int .i64 k ∧ s0 = .slice (some ⟨g, oo, none⟩) n0 cg ∧ s6 = .slice a1 m c1 ∧ s7 = .slice a2 m c2 ∧ Rq w p d c g oo cg n0 a1 c1 a2 c2 m wr) (fun _ _ _ _ _ _ _ _ _ _ _ _ _ _ _ _ _ _ sk _ _ _ _ _ _ _ _ _ _ _ _ _ _ _ _ _ _ _ _ _ _ _ _ _ _ _ _ _ _ _ _ _ _ _ _ _ _ _ _ _ _ _ _ _ _ _ _ _ _ _ _ _ _ _ _ _ _ _ _ _ _ _ _ _ _ _ _ _ _ _ _ _ _ _ _ _ _ _ _ _ _ _ _ _ _ _ _ _ _ _ _ _ _ _ _ _ _ _ _ _ _ _ _ _ _ _ _ _ _ _ _ _ _ _ _ _ _ _ _ _ _ _ _ _ _ _ _ _ _ _ _ => n3 - (intOf sk).toNat)
  case atStart => exact ⟨0, _, _, _, _, _, _, _, 0, Nat.zero_le _, Nat.le_refl _, rfl, rfl, rfl, rfl, HR0.out⟩
  case round =>
    clear HR0
    obtain ⟨k, g, oo, cg, a1, c1, a2, c2, m, hk, hmk, rfl, rfl, rfl, rfl, own, ws, en, hG⟩ := hrel
    have HG := Lib.hid hG
    clear hG
    by_cases hlt : k < n3
    · obtain ⟨b3, o3, x, rfl, hb3, hx, hxo, e0, e1, e2, e3, e4, e5⟩ := HACT.out.cells6 hlt
      obtain ⟨_, _, _, _, ht, l, lb, lo, hL, hlw⟩ := hxo
      have hfx := HALL.out x (List.mem_of_getElem? hx)
      have hln : x.ln ≤ 10 := by
        unfold fewB at hfx
        simp only [Bool.not_eq_true', Bool.or_eq_false_iff, decide_eq_false_iff_not] at hfx
        omega
      have mv : ∀ {j : Nat} {u : Value}, w.cell? ⟨b3, j, none⟩ = some u → _ := fun {j u} h => (HG.out.frm.cell hb3 (by simp)).trans h
      have HE := Lib.hid (And.intro (mv e0) (And.intro (mv e1) (And.intro (mv e2) (And.intro (mv e3) (And.intro (mv e4) (mv e5))))))
      have HL := Lib.hid (And.intro hL (And.intro (fun y hy => u64_nn (hlw y hy)) (i64_le ht)))
      have hkl : (k : Int) < (n3 : Int) := by omega
      clear mv e0 e1 e2 e3 e4 e5 ht hL hlw hfx hx
      go_upto_block 1 with fail
      refine wp_block ?_
      refine any_round _ _ _ _ _ _ _ _ _ _ _ _ _ _ _ _ _ _ _ _ _ _ _ _ _ _ _ _ _ _ _ _ _ _ _ _ _ _ _ _ _ _ _ _ _ _ _ _ _ _ _ _ _ _ _ _ _ _ _ _ _ _ _ _ _ _ _ _ _ _ _ _ _ _ _ _ _ _ _ _ _ _ _ _ _ _ _ _ _ _ _ _ _ _ _ _ _ _ _ _ _ _ _ _ _ _ _ _ _ _ _ _ _ _ _ _ _ _ _ _ _ _ _ _ _ _ _ _ _ _ _ _ _ _ _ _ _ _ _ _ _ _ _ _ _ _ _ _ _ _ _ _ _ _ _ _ _ _ _ _ _ _ _ _ _ _ _ _ _ _ _ HG.out (by omega) (by omega) hmk hlt h80 HE.out.1 HE.out.2.1 HE.out.2.2.1 HE.out.2.2.2.1 HE.out.2.2.2.2.1 HE.out.2.2.2.2.2 hln HL.out.2.2 HL.out.1 HL.out.2.1 ?_
      intro _ _ _ _ _ _ _ _ _ _ _ _ _ _ _ _ _ _ _ _ _ _ _ _ _ _ _ _ _ _ _ _ _ _ _ _ _ _ _ _ _ _ _ _ _ _ _ _ _ _ _ _ _ _ _ _ _ _ _ _ _ _ _ _ _ _ _ _ _ _ _ _ _ _ _ _ _ _ _ _ _ _ _ _ _ _ _ _ _ _ _ _ _ _ _ _ _ _ _ _ _ _ _ _ _ _ _ _ _ _ _ _ _ _ _ _ _ _ _ _ _ _ _ _ _ _ _ _ _ _ _ _ _ _ _ _ _ _ _ _ _ _ _ _ g' oo' cg' a1' c1' a2' c2' m' w' hm' hR
      have HRR := Lib.hid hR
      clear hR
      refine ⟨?_, ?_⟩
      all_goals
        try simp only [Exit.inBlock, if_true]
        go_wp2
        go_roundw
        case rel => exact ⟨k + 1, g', oo', cg', a1', c1', a2', c2', m', by omega, hm', by go_num, rfl, rfl, rfl, HRR.out⟩
        case measure => simp [intOf]; omega
    · have hkl : ¬ ((k : Int) < (n3 : Int)) := by omega
      have HF := Lib.hid HG.out.frm
      clear HG
      go_wp2_with fail
      refine (known_true _).mono ?_
      rintro e w7 ⟨rfl, g7⟩
      go_wp2
      go_ret
      exact ⟨rfl, HF.out.trans g7⟩
#print axioms any_loop

theorem rd_of_li {w : World} {a : Option Addr} {n c b o : Nat} {l : List Int} (h : Li .u64 w a n c b o l) (hn : 0 < n) : a = some ⟨b, o, none⟩ ∧ Rd w (.slice (some ⟨b, o, none⟩) n c) (u64s l) := by
  have hb := h.lt hn
  refine ⟨h.ad hn, .inr ⟨b, o, c, by simp [u64s, h.len], by simp [u64s, h.len]; exact h.cap, hb, fun i u hu => ?_⟩⟩
  unfold u64s at hu
  rw [List.getElem?_map] at hu
  cases hx : l[i]? with
  | none => rw [hx] at hu; cases hu
  | some x => rw [hx] at hu; cases hu; exact h.cell i x hx
set_option maxRecDepth 100000 in
set_option maxHeartbeats 400000 in
theorem walk_VersionPlays (a : Option Addr) (n c : Nat) (zs : List Int) (a3 : Option Addr) (n3 c3 : Nat) (acts : List ActV) (w : World) (h : IsRow .u64 w a n c zs) (hA : IsActs w a3 n3 acts) :
    Calls Try.prog 4 #[.slice a n c, .slice a3 n3 c3] w (Ret (.bool true) (fun w' => Below w.heap.size w w')) := by
  obtain ⟨bl, o, hL, hwf, hb⟩ := li_of_row h
  have H := Lib.hid hL
  have HW := Lib.hid hwf
  have HA := Lib.hid hA
  clear h hL hwf hA
  by_cases h0 : n < 1
  · have d0 : decide ((n : Int) < 1) = true := by simp; omega
    go_enter Try.func4, Try.ntmps4
    go_wp2_with fail
    refine (known_true _).mono ?_
    rintro e w1 ⟨rfl, hF⟩
    go_wp2
    go_ret
    exact ⟨rfl, hF.below (Nat.le_refl _) (by simp)⟩
  · have d0 : decide ((n : Int) < 1) = false := by simp; omega
    by_cases h1 : 40 < n
    · have d1 : decide ((40 : Int) < (n : Int)) = true := by simp; omega
      go_enter Try.func4, Try.ntmps4
      go_wp2_with fail
      refine (known_true _).mono ?_
      rintro e w1 ⟨rfl, hF⟩
      go_wp2
      go_ret
      exact ⟨rfl, hF.below (Nat.le_refl _) (by simp)⟩
    · obtain ⟨rfl, hR⟩ := rd_of_li H.out (by omega)
      exact (any_loop hR H.out.len (fun x hx => u64_nn (HW.out x hx)) (by omega) (by omega) HA.out).mono fun _ _ hh => ⟨hh.1, hh.2.below (Nat.le_refl _) (by simp)⟩
#print axioms walk_VersionPlays
end Go.Proofs.Ytbhnijkphkkalaa
