/- LatchBatches: the whole (by gen_lwe.py). -/
import Derived.Test.YtjhidkjhfgbaeaaGreatDoorLwH
namespace Go.Proofs.YtjhidkjhfgbaeaaGreatDoor
open Go.ChangeShapes Go.WideShapes Go.ChangeAt Go.RowKit
set_option linter.unusedVariables false
set_option linter.unusedSimpArgs false
theorem u8_bd {l : List Int} (h : ∀ x ∈ l, (Lit.int .u8 x).wf = true) : ∀ x ∈ l, 0 ≤ x ∧ x ≤ 255 := by
  intro x hx
  have := h x hx
  simp only [Lit.wf, Bool.and_eq_true, decide_eq_true_eq] at this
  have e1 : IntKind.u8.min = 0 := by decide
  have e2 : IntKind.u8.max = 255 := by decide
  rw [e1, e2] at this
  exact this
theorem rng_zero (L : Nat) : List.replicate L (0 : Int) = rng L (fun _ => 0) := by
  apply List.ext_getElem?
  intro i
  by_cases h : i < L
  · rw [rng_get _ h, List.getElem?_replicate, if_pos h]
  · rw [List.getElem?_eq_none (by simp; omega), List.getElem?_eq_none (by rw [rng_len]; omega)]
set_option maxRecDepth 100000 in
set_option maxHeartbeats 4000000 in
theorem walk_LatchBatches (a : Option Addr) (n c : Nat) (zs : List Int) (W : World) (hW : Laid W) (hR : IsRow .u8 W a n c zs) :
    Calls Tryz.prog 7 #[.slice a n c] W (Ret (.bool true) (fun w' => Below W.heap.size W w')) := by
  obtain ⟨b, o, hL, hwf, _⟩ := li_of_row hR
  have hs := hW.size
  have HW := Lib.hid hW
  have HL := Lib.hid hL
  have HWF := Lib.hid hwf
  clear hW hL hwf hR
  by_cases hn1 : n < 1
  · obtain rfl : n = 0 := by omega
    go_enter Tryz.func7, Tryz.ntmps7
    go_wp2_with fail
    refine (known_true HW.out).mono ?_
    rintro e w1 ⟨rfl, hF⟩
    have HF := Lib.hid hF
    clear hF
    go_wp2
    go_ret
    exact ⟨rfl, HF.out.below (Nat.le_refl _) (by simp)⟩
  by_cases hn2 : 20 < n
  · have e1 : decide ((n : Int) < 1) = false := by simp; omega
    have e2 : decide ((20 : Int) < (n : Int)) = true := by simp; omega
    go_enter Tryz.func7, Tryz.ntmps7
    go_wp2_with fail
    refine (known_true HW.out).mono ?_
    rintro e w1 ⟨rfl, hF⟩
    have HF := Lib.hid hF
    clear hF
    go_wp2
    go_ret
    exact ⟨rfl, HF.out.below (Nat.le_refl _) (by simp)⟩
  have e1 : decide ((n : Int) < 1) = false := by simp; omega
  have e2 : decide ((20 : Int) < (n : Int)) = false := by simp; omega
  suffices hX : Calls Tryz.prog 7 #[.slice a n c] W (Ret (.bool true) (fun w' => Frm [] W w')) from hX.mono (fun e w' hh => ⟨hh.1, hh.2.below (Nat.le_refl _) (by simp)⟩)
  obtain ⟨T, hT⟩ : ∃ T, T = n + 1 := ⟨_, rfl⟩
  obtain ⟨L, hLL⟩ : ∃ L, L = 3 + 6 * T := ⟨_, rfl⟩
  have hTi : (n : Int) + 1 = (T : Int) := by omega
  have hLi : 3 + 6 * (T : Int) = (L : Int) := by omega
  have HN := Lib.hid (nodes_new W 3 T (by omega) (by omega) (by omega))
  have hmk := make_u64 L (by omega)
  have HRD := Lib.hid (fun w => rd_new w L)
  have HTI := Lib.hid hTi
  have HLI := Lib.hid hLi
  have HTT := Lib.hid hT
  have HLL := Lib.hid hLL
  clear hT hLL
  go_enter Tryz.func7, Tryz.ntmps7
  refine wp_seq_k ?_
  intro K0 hK0
  have HK0 := Lib.hid hK0
  clear hK0
  go_wp2_with fail
  refine HK0.out _ _ ?_
  clear HK0 K0
  refine wp_seq_k ?_
  intro K0 hK0
  have HK0 := Lib.hid hK0
  clear hK0
  go_wp2_with fail
  refine HK0.out _ _ ?_
  clear HK0 K0
  refine wp_seq_k ?_
  intro K0 hK0
  have HK0 := Lib.hid hK0
  clear hK0
  go_wp2_with fail
  refine HK0.out _ _ ?_
  clear HK0 K0
  refine wp_seq_k ?_
  intro K0 hK0
  have HK0 := Lib.hid hK0
  clear hK0
  go_wp2_with fail
  refine HN.out.mono ?_
  rintro e w1 ⟨rfl, hF1, hN1⟩
  have HF1 := Lib.hid hF1
  have HN1 := Lib.hid hN1
  clear hF1 hN1
  go_wp2_with fail
  refine HK0.out _ _ ?_
  clear HK0 K0
  refine wp_seq_k ?_
  intro K0 hK0
  have HK0 := Lib.hid hK0
  clear hK0
  go_wp2_with fail
  have hrw := HRD.out w1
  refine (made_any hrw (by simp; omega) (by simp; omega)).mono ?_
  rintro e w2 ⟨p, d, cc, rfl, hF2, hM, hp, hd⟩
  rw [rng_zero] at hM
  have hF2' : Frm [] w1 w2 := ((Frm.refl _ _).alloc _).trans hF2
  have hNl := HN1.out.lt
  have hs1 := HF1.out.size
  have hs2 := hF2'.size
  simp at hp hd
  have HS2 : Hid (Scn T w2 W.heap.size W.heap.size p d cc (rng (3 + 6 * T) (fun _ => 0))) := Lib.hid ⟨by rw [← HLL.out]; exact hM, HN1.out.frm hF2', HW.out.frm0 (HF1.out.trans hF2'), (by
    intro x hx
    simp only [rng, List.mem_map] at hx
    obtain ⟨_, _, rfl⟩ := hx
    decide), by omega, by rw [rng_len]⟩
  have HF2 := Lib.hid (HF1.out.trans hF2')
  clear hM hF2 hF2' hrw HRD
  go_wp2_with fail
  refine HK0.out _ _ ?_
  clear HK0 K0
  refine wp_seq_k ?_
  intro K0 hK0
  have HK0 := Lib.hid hK0
  clear hK0
  go_wp2_with fail
  refine HK0.out _ _ ?_
  clear HK0 K0
  refine wp_seq_k ?_
  intro K0 hK0
  have HK0 := Lib.hid hK0
  clear hK0
  go_wp2_with fail
  refine (newGet HS2.out.nd 0 (by omega) 3 (by decide)).mono ?_
  rintro e w3 ⟨q9, qe, ql, rfl, hF3, hMv, hPe, hPl, hq9, hqe, hql⟩
  have HR := Lib.hid (HS2.out.run (k := 0) (md := 3) (show 0 < T by omega) (by decide) (fun _ => by decide) hF3 hMv hPe hPl hq9 hqe hql)
  have HF3 := Lib.hid hF3
  have HG3 := Lib.hid (And.intro hq9 (And.intro hqe hql))
  clear hF3 hMv hPe hPl hq9 hqe hql
  go_wp2_with fail
  refine HK0.out _ _ ?_
  clear HK0 K0
  refine wp_seq_k ?_
  intro K0 hK0
  have HK0 := Lib.hid hK0
  clear hK0
  go_wp2_with fail
  have hmay : (⟨0, -1, -1, -1, 0, -1, -1⟩ : LS).may T = true := by
    have e1 : isT T (-1) = true := by simp [isT]; omega
    have e5 : 0 < 2 ^ T := Nat.two_pow_pos T
    have e6 : allM ([] : List Int) = true := by decide
    simp [LS.may, LS.mayB, LS.mayC, LS.mayD, LS.has, LS.held, e1, e5, e6]
  obtain ⟨c7, hc7, hget⟩ := get_run (T := T) (L := 3 + 6 * T) (t := 0) (f := fun _ => 0) (s := ⟨0, -1, -1, -1, 0, -1, -1⟩) (md := 3) HS2.out.nd.t64 rfl (by omega) hmay rfl rfl rfl (by decide) (by decide)
  obtain ⟨r, m', g', hr0, hE⟩ := hget (28 - c7)
  rw [show c7 + (2 + (28 - c7)) = 30 by omega] at hE
  have HEN := Lib.hid (ends_any HR.out 30 (by decide) (by decide) hE)
  have hrz : ((r : Int) == 0) = false := by simp; omega
  clear hget hE hmay hc7
  refine HEN.out.mono ?_
  rintro e w4 ⟨rfl, hR4⟩
  have hAft := HS2.out.after HF3.out hR4 HG3.out.1 HG3.out.2.1 HG3.out.2.2 (by rw [rng_len, rng_len])
  have HAF := Lib.hid hAft
  clear hR4 hAft HEN
  go_wp2_with fail
  refine HK0.out _ _ ?_
  clear HK0 K0
  refine wp_seq_k ?_
  intro K0 hK0
  have HK0 := Lib.hid hK0
  clear hK0
  go_wp2_with fail
  refine HK0.out _ _ ?_
  clear HK0 K0
  refine wp_seq_k ?_
  intro K0 hK0
  have HK0 := Lib.hid hK0
  clear hK0
  go_wp2_with fail
  refine HK0.out _ _ ?_
  clear HK0 K0
  have hlt := HAF.out.2.lt
  have hloo := HAF.out.2.lo
  have hFW : Frm [] W w4 := HF2.out.trans_new HAF.out.1 (fun x hx => .inr (by simp at hx; omega))
  refine btA _ _ _ _ _ _ _ _ _ _ _ _ _ _ _ _ _ _ _ _ _ _ _ _ _ _ _ _ _ _ _ _ _ _ _ _ _ _ _ _ _ _ _ _ _ _ _ _ _ _ _ _ _ _ _ _ _ _ _ _ _ _ _ _ _ _ _ _ _ _ _ _ _ _ _ _ _ _ _ _ _ _ _ _ _ _ _ _ _ _ _ _ _ _ _ _ _ _ _ _ _ _ _ _ _ _ _ _ _ _ _ _ _ _ _ _ _ _ _ _ _ _ _ _ _ _ _ _ _ _ _ _ _ _ _ _ _ _ _ _ _ _ _ _ _ _ _ _ _ _ _ _ _ _ _ _ _ _ _ _ _ _ _ _ _ _ _ _ _ _ _ _ _ _ _ _ _ _ _ _ _ _ _ _ _ _ _ _ _ _ _ _ _ _ _ _ _ _ _ _ _ _ _ _ _ _ _ _ _ _ (T := T) (n := n) (f0 := _) (en0 := fun _ => ⟨0, 0, 0, none, 0, 0, Mv.new 0 0 0, Gs.new⟩) (lo0 := fun _ => w4.heap.size) ⟨hFW, HAF.out.2, ⟨?_, ?_, ?_, ?_, ?_, ?_⟩, Row.nil _ _ _ _, Gr.nil _ _ _ _ _, ?_, ?_, ?_, ?_, ?_, Nat.le_refl _⟩ HTT.out (by omega) (by omega) HL.out rfl ?_
  · exact up1_at _ _ _
  · rw [up1_far _ _ (by decide), up1_far _ _ (by decide), up1_at]; decide
  · rw [up1_far _ _ (by decide), up1_at]; decide
  · intro i u hi; omega
  · intro i hi; omega
  · intro i hi; omega
  · intro i hi; omega
  · intro i hi; omega
  · intro i hi; omega
  · intro i j _; exact Nat.le_refl _
  · exact ⟨hlt.1, hlt.2.2, hlt.2.1, hFW.size⟩
  · intro x hx
    have := u8_bd HWF.out x hx
    omega
#print axioms walk_LatchBatches
end Go.Proofs.YtjhidkjhfgbaeaaGreatDoor
