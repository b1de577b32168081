/- Layer 1: the walk of MemWords. -/
import Derived.Test.YthmpmpjkkjjbbaaMemH
namespace Go.Proofs.Ythmpmpjkkjjbbaa
open Go.ChangeShapes Go.WideShapes Go.ChangeAt Go.RowKit

/-- A row of its own in which n words stand. -/
def LenAt (w : World) (g n : Nat) : Prop := ∃ cs : Array Value, w.heap[g]? = some (.cells cs 23 (0, 0)) ∧ ∀ i, i < n → ∃ x, cs[i]? = some (Value.int .u64 x)
theorem LenAt.set {w : World} {g n : Nat} (h : LenAt w g n) (i : Nat) (y : Int) : LenAt (w.setCell ⟨g, i, none⟩ (.int .u64 y)) g n := by
  obtain ⟨cs, hh, hc⟩ := h
  refine ⟨_, heap_setCell_at _ hh, fun j hj => ?_⟩
  obtain ⟨x, hx⟩ := hc j hj
  rw [Array.getElem?_setIfInBounds]
  split
  · rename_i e
    subst e
    rw [if_pos (Array.getElem?_eq_some_iff.1 hx).1]
    exact ⟨y, rfl⟩
  · exact ⟨x, hx⟩

theorem u64_succ_ne {x : Int} (h : (Lit.int .u64 x).wf = true) : IntKind.u64.wrap (x + 1) ≠ x := by
  have := bounds_u64 h
  simp [IntKind.wrap, IntKind.bits, IntKind.signed]
  omega

set_option maxRecDepth 100000 in
set_option maxHeartbeats 6400000 in
theorem walk_MemWords (aa : Option Addr) (la ca : Nat) (za : List Int) (ab : Option Addr) (lb cb : Nat) (zb : List Int) (fr : Int) (_wf : (Lit.int .i64 fr).wf = true) (tt : Int) (_wt : (Lit.int .i64 tt).wf = true) (w : World) (hra : IsRow .u64 w aa la ca za) (hrb : IsRow .u64 w ab lb cb zb) :
    Calls Try.prog 4 #[.slice aa la ca, .slice ab lb cb, .int .i64 fr, .int .i64 tt] w (Ret (.bool true) (fun w' => Below w.heap.size w w')) := by
  by_cases h1 : la < 1
  · have hb1 : decide ((la : Int) < 1) = true := by simp; omega
    clear hra hrb
    go_enter Try.func4, Try.ntmps4
    go_wp2_with fail
    refine (known_true _).mono ?_
    rintro e w5 ⟨rfl, hF5⟩
    go_wp2
    go_ret
    exact ⟨rfl, hF5.below (Nat.le_refl _) (by simp)⟩

  have hb1 : decide ((la : Int) < 1) = false := by simp; omega
  by_cases h2 : 40 < la
  · have hb2 : decide ((40 : Int) < la) = true := by simp; omega
    clear hra hrb
    go_enter Try.func4, Try.ntmps4
    go_wp2_with fail
    refine (known_true _).mono ?_
    rintro e w5 ⟨rfl, hF5⟩
    go_wp2
    go_ret
    exact ⟨rfl, hF5.below (Nat.le_refl _) (by simp)⟩

  have hb2 : decide ((40 : Int) < la) = false := by simp; omega
  by_cases h3 : lb < 1
  · have hb3 : decide ((lb : Int) < 1) = true := by simp; omega
    clear hra hrb
    go_enter Try.func4, Try.ntmps4
    go_wp2_with fail
    refine (known_true _).mono ?_
    rintro e w5 ⟨rfl, hF5⟩
    go_wp2
    go_ret
    exact ⟨rfl, hF5.below (Nat.le_refl _) (by simp)⟩

  have hb3 : decide ((lb : Int) < 1) = false := by simp; omega
  by_cases h4 : 40 < lb
  · have hb4 : decide ((40 : Int) < lb) = true := by simp; omega
    clear hra hrb
    go_enter Try.func4, Try.ntmps4
    go_wp2_with fail
    refine (known_true _).mono ?_
    rintro e w5 ⟨rfl, hF5⟩
    go_wp2
    go_ret
    exact ⟨rfl, hF5.below (Nat.le_refl _) (by simp)⟩

  have hb4 : decide ((40 : Int) < lb) = false := by simp; omega
  obtain ⟨hrda, hlen, hlca, hmxa, hwfa, b0, o0, rfl, hbw, hcla⟩ := hra.rd (by omega)
  obtain ⟨hrdb, hlenb, hlcb, hmxb, hwfb, b1, o1, rfl, hbw1, hclb⟩ := hrb.rd (by omega)
  clear hra hrb
  generalize za.take la = ws at hrda hlen hcla hwfa
  generalize zb.take lb = us at hrdb hlenb hclb hwfb
  subst hlen hlenb
  have hRA := Lib.hid hrda
  have hRB := Lib.hid hrdb
  have HCA := Lib.hid hcla
  obtain ⟨x0, hx0⟩ : ∃ x, ws[0]? = some x := ⟨_, List.getElem?_eq_getElem (by omega)⟩
  have hc0 : w.cell? ⟨b0, o0, none⟩ = some (.int .u64 x0) := hcla 0 x0 hx0
  have HC0 := Lib.hid hc0
  have HX0 := Lib.hid hx0
  have hwx0 := hwfa x0 (List.mem_of_getElem? hx0)
  have HWX := Lib.hid hwx0
  clear hrda hrdb hcla hclb hwfa hwfb hc0 hx0 hwx0
  by_cases hbad : fr < 0 ∨ tt < fr ∨ ws.length < tt
  · have HBAD := Lib.hid hbad
    have hor : (decide (fr < 0) = true) ∨ (decide (fr < 0) = false ∧ decide (tt < fr) = true) ∨ (decide (fr < 0) = false ∧ decide (tt < fr) = false ∧ decide ((ws.length : Int) < tt) = true) := by
      simp only [decide_eq_true_eq, decide_eq_false_iff_not]; omega
    clear hbad
    rcases hor with hk1 | ⟨hk1, hk2⟩ | ⟨hk1, hk2, hk3⟩
    all_goals
      go_enter Try.func4, Try.ntmps4
      go_wp2_with fail
      refine (made_any hRA.out (by omega) (by omega)).mono ?_
      rintro e w1 ⟨p, d, c, rfl, hF1, hM, hp, hd⟩
      go_wp2_with fail
      refine (made_any (hRB.out.frm hF1 (by simp)) (by omega) (by omega)).mono ?_
      rintro e w2 ⟨p', d', c', rfl, hF2, hN, hp', hd'⟩
      replace hM := hM.frm hF2 (by simp) (by simp)
      have hF := hF1.trans hF2
      clear hF1 hF2 hp' hd'
      go_wp2_with fail
      refine (step_true (words_e (ys := []) hM fr tt HBAD.out (.inl ⟨rfl, rfl⟩) (by simp) 3) (by simp)).mono ?_
      rintro e w6 ⟨rfl, hF6⟩
      replace hM := hM.frm hF6 (by simp) (by simp)
      replace hN := hN.frm hF6 (by simp) (by simp)
      replace hF := hF.trans hF6
      clear hF6
      go_wp2_with fail
      refine (copy_ok hM).mono ?_
      rintro e w7 ⟨q, dq, cq, rfl, hF7, hC, hq, hdq⟩
      have hpl := hM.plt
      have hdl := hM.dlt
      have hpl' := hN.plt
      have hdl' := hN.dlt
      have hqp : q ≠ p := by omega
      have hqd : q ≠ d := by omega
      have hdqp : dq ≠ p := by omega
      have hdqd : dq ≠ d := by omega
      have hqw : w.heap.size ≤ q := by have := hF.size; omega
      have hdqw : w.heap.size ≤ dq := by have := hF.size; omega
      have hM7 := hM.frm hF7 (by simp) (by simp)
      have hN7 := hN.frm hF7 (by simp) (by simp)
      have hF' := hF.trans hF7
      clear hF7 hM hN hF hq hdq hpl hdl hpl' hdl'
      go_wp2_with fail
      refine (same_eq hM7 hC rfl).mono ?_
      rintro e w8 ⟨rfl, hF8⟩
      replace hM7 := hM7.frm hF8 (by simp) (by simp)
      replace hN7 := hN7.frm hF8 (by simp) (by simp)
      replace hC := hC.frm hF8 (by simp) (by simp)
      replace hF' := hF'.trans hF8
      clear hF8
      obtain ⟨bb, hbb⟩ : ∃ bb, decide (ws = us) = bb := ⟨_, rfl⟩
      have hs1 := same_mem hM7 hN7
      rw [hbb] at hs1
      have HS1 := Lib.hid hs1
      clear hs1
      have HBB := Lib.hid hbb
      clear hbb
      go_wp2_with fail
      refine HS1.out.mono ?_
      clear HS1
      rintro e w9 ⟨mm, rfl, rfl⟩
      have hs2 := same_any ((hRA.out.frm hF' (by simp)).frm ((Frm.refl [] _).drewN mm) (by simp)) ((hRB.out.frm hF' (by simp)).frm ((Frm.refl [] _).drewN mm) (by simp)) (by omega) (by omega)
      rw [HBB.out] at hs2
      have HS2 := Lib.hid hs2
      clear hs2
      go_wp2_with fail
      refine HS2.out.mono ?_
      clear HS2
      rintro e w9 ⟨m2, rfl, rfl⟩
      have hbn : (bb != bb) = false := by simp
      have ca0 : w8.cell? ⟨b0, o0, none⟩ = some (.int .u64 x0) := (hF'.cell hbw (by simp)).trans (HC0.out)
      have hyne := u64_succ_ne HWX.out
      go_wp2_with fail
      generalize hy : IntKind.u64.wrap (x0 + 1) = y at hyne ⊢
      refine (stores_ok (hC.drewN _) 0 y (by omega) (by omega)).mono ?_
      rintro e w10 ⟨rfl, hF10, hC10⟩
      have hM10 := (hM7.drewN (mm + m2)).frm hF10 (by simp; omega) (by simp; omega)
      have hF10' : Frm [] w w10 := (hF'.drewN (mm + m2)).trans_new hF10 (by simp; omega)
      have hd0 : decide (ws = ws.set (0 : Int).toNat y) = false := by
        simp only [decide_eq_false_iff_not]
        intro e
        have h := HX0.out
        rw [e, List.getElem?_set, if_pos (by rfl), if_pos (by show (0 : Nat) < _; omega)] at h
        exact hyne (by injection h)
      have hs3 := same_mem hM10 hC10
      rw [hd0] at hs3
      have HS3 := Lib.hid hs3
      have HYN := Lib.hid hyne
      clear hs3 hd0 hyne hF10 hM7 hN7 hC hF' ca0
      have ca0 : w10.cell? ⟨b0, o0, none⟩ = some (.int .u64 x0) := (hF10'.cell hbw (by simp)).trans (HC0.out)
      go_wp2_with fail
      refine HS3.out.mono ?_
      clear HS3
      rintro e w11 ⟨m3, rfl, rfl⟩
      go_wp2_with fail
      refine (step_true (words_k (ys := ws) (hM10.drewN m3) 0 ws.length (by omega) (by omega) ((hRA.out.frm hF10' (by simp)).frm ((Frm.refl [] _).drewN m3) (by simp)) (by omega) 0) (by simp)).mono ?_
      rintro e w12 ⟨rfl, hF12⟩
      have hC12 := (hC10.drewN m3).frm hF12 (by simp) (by simp)
      have hF12' : Frm [] w w12 := (hF10'.drewN m3).trans hF12
      clear hF12 ca0
      have ca0 : w12.cell? ⟨b0, o0, none⟩ = some (.int .u64 x0) := (hF12'.cell hbw (by simp)).trans (HC0.out)
      have hl0 : (0 : Int) < ((ws.set (0 : Int).toNat y).length : Int) := by simp; omega
      have HL0 := Lib.hid hl0
      clear hl0
      go_wp2_with fail
      refine (loads_ok hC12 0 y (by omega) HL0.out (by rw [List.getD_eq_getElem?_getD, List.getElem?_set, if_pos rfl, if_pos (by show (0 : Nat) < _; omega)]; rfl)).mono ?_
      rintro e w13 ⟨rfl, hF13, hC13⟩
      go_wp2_with fail
      refine (known_true _).mono ?_
      rintro e w14 ⟨rfl, hF14⟩
      go_wp2
      go_ret
      exact ⟨rfl, ((hF12'.trans_new hF13 (by simp; omega)).trans hF14).below (Nat.le_refl _) (by simp)⟩
  · obtain ⟨f, rfl⟩ := Int.eq_ofNat_of_zero_le (show 0 ≤ fr by omega)
    obtain ⟨t, rfl⟩ := Int.eq_ofNat_of_zero_le (show 0 ≤ tt by omega)
    have hft : f ≤ t := by omega
    have htl : t ≤ ws.length := by omega
    have hk1 : decide ((f : Int) < 0) = false := by simp
    have hk2 : decide ((t : Int) < f) = false := by simp; omega
    have hk3 : decide ((ws.length : Int) < t) = false := by simp; omega
    clear hbad
    go_enter Try.func4, Try.ntmps4
    go_wp2_with fail
    refine (made_any hRA.out (by omega) (by omega)).mono ?_
    rintro e w1 ⟨p, d, c, rfl, hF1, hM, hp, hd⟩
    go_wp2_with fail
    refine (made_any (hRB.out.frm hF1 (by simp)) (by omega) (by omega)).mono ?_
    rintro e w2 ⟨p', d', c', rfl, hF2, hN, hp', hd'⟩
    replace hM := hM.frm hF2 (by simp) (by simp)
    have hF := hF1.trans hF2
    clear hF1 hF2 hp' hd'
    go_wp2_with fail

    have hb6 : p < w2.heap.size ∧ d < w2.heap.size ∧ p' < w2.heap.size ∧ d' < w2.heap.size ∧ w.heap.size ≤ w2.heap.size := ⟨hM.plt, hM.dlt, hN.plt, hN.dlt, hF.size⟩
    have HB6 := Lib.hid hb6
    clear hb6
    refine (words_ok hM f t hft htl).mono ?_
    rintro e w6 ⟨v6, rfl, hF6, hO6⟩
    replace hM := hM.frm hF6 (by simp) (by simp)
    replace hN := hN.frm hF6 (by simp) (by simp)
    replace hF := hF.trans hF6
    generalize hzs : (ws.drop f).take (t - f) = zs at hO6
    have hzl : zs.length = t - f := by rw [← hzs]; simp; omega
    have hrs : ∀ i x, zs[i]? = some x → w6.cell? ⟨b0, o0 + f + i, none⟩ = some (.int .u64 x) := by
      intro i x hi
      rw [← hzs, List.getElem?_take] at hi
      split at hi
      · rw [List.getElem?_drop] at hi
        rw [hF.cell hbw (by simp), Nat.add_assoc]; exact HCA.out _ _ hi
      · cases hi
    have HRS := Lib.hid hrs
    clear hrs
    have HZL := Lib.hid hzl
    have HZS := Lib.hid hzs
    clear hzl hzs
    have hr2 : Rd w6 (.slice (some ⟨b0, o0 + f, none⟩) (t - f) (ca - f)) (u64s zs) := .inr ⟨b0, o0 + f, ca - f, by simp [u64s, HZL.out], by simp [u64s, HZL.out]; omega, Nat.lt_of_lt_of_le hbw hF.size, fun i u hu => by
      obtain ⟨x, hx, rfl⟩ := u64s_get hu; exact HRS.out i x hx⟩
    have hr1 : ca = f → Rd w6 (.slice (some ⟨b0, o0, none⟩) (t - f) 0) (u64s zs) := fun hcf => by
      have hz0 : zs = [] := List.length_eq_zero_iff.1 (by rw [HZL.out]; omega)
      have ht : t - f = 0 := by omega
      rw [hz0, ht]
      exact .inr ⟨b0, o0, 0, by simp [u64s], by simp [u64s], Nat.lt_of_lt_of_le hbw hF.size, fun i u hu => by simp [u64s] at hu⟩
    have HR1 := Lib.hid hr1
    have HR2 := Lib.hid hr2
    have hzle : zs.length ≤ 65536 := by rw [HZL.out]; omega
    have HZE := Lib.hid hzle
    clear hr1 hr2 hzle
    go_wp2_with fail
    all_goals (try (have hcf : ca = f := (by assumption); subst hcf))
    all_goals
      refine (same_any (xs := zs) (ys := zs) hO6.rd (by first | exact HR1.out rfl | exact HR2.out) (Nat.le_trans HZE.out (by omega)) (Nat.le_trans HZE.out (by omega))).mono ?_
      rintro e w7 ⟨mm, rfl, rfl⟩
      have hdz : decide (zs = zs) = true := by simp
      rw [hdz]
      have hO7 := hO6.frm ((Frm.refl [] _).drewN mm) (by simp)
      replace hM := hM.drewN mm
      replace hN := hN.drewN mm
      replace hF := hF.drewN mm
      clear hO6
      have hgsz := hF6.size
      clear hF6
      obtain ⟨_, hO7 | ⟨g, cap6, cur, rfl, hg, hh, hcap, hmax, hsz, htk⟩⟩ := hO7
      · obtain ⟨rfl, hzl⟩ := hO7
        have hz0 : zs = [] := List.length_eq_zero_iff.1 hzl
        subst hz0
        clear hzl
        generalize w6.drewN mm = w7 at hM hN hF ⊢
        go_wp2_with fail
        refine wp_loop_rounds 1 ?_
        rw [rounds_succ]
        go_wp2_with fail
        refine (copy_ok hM).mono ?_
        rintro e w7 ⟨q, dq, cq, rfl, hF7, hC, hq, hdq⟩
        have hpl := hM.plt
        have hdl := hM.dlt
        have hpl' := hN.plt
        have hdl' := hN.dlt
        have hqp : q ≠ p := by omega
        have hqd : q ≠ d := by omega
        have hdqp : dq ≠ p := by omega
        have hdqd : dq ≠ d := by omega
        have hqw : w.heap.size ≤ q := by have := hF.size; omega
        have hdqw : w.heap.size ≤ dq := by have := hF.size; omega
        have hM7 := hM.frm hF7 (by simp) (by simp)
        have hN7 := hN.frm hF7 (by simp) (by simp)
        have hF' := hF.trans hF7
        clear hF7 hM hN hF hq hdq hpl hdl hpl' hdl'
        go_wp2_with fail
        refine (same_eq hM7 hC rfl).mono ?_
        rintro e w8 ⟨rfl, hF8⟩
        replace hM7 := hM7.frm hF8 (by simp) (by simp)
        replace hN7 := hN7.frm hF8 (by simp) (by simp)
        replace hC := hC.frm hF8 (by simp) (by simp)
        replace hF' := hF'.trans hF8
        clear hF8
        obtain ⟨bb, hbb⟩ : ∃ bb, decide (ws = us) = bb := ⟨_, rfl⟩
        have hs1 := same_mem hM7 hN7
        rw [hbb] at hs1
        have HS1 := Lib.hid hs1
        clear hs1
        have HBB := Lib.hid hbb
        clear hbb
        go_wp2_with fail
        refine HS1.out.mono ?_
        clear HS1
        rintro e w9 ⟨mm, rfl, rfl⟩
        have hs2 := same_any ((hRA.out.frm hF' (by simp)).frm ((Frm.refl [] _).drewN mm) (by simp)) ((hRB.out.frm hF' (by simp)).frm ((Frm.refl [] _).drewN mm) (by simp)) (by omega) (by omega)
        rw [HBB.out] at hs2
        have HS2 := Lib.hid hs2
        clear hs2
        go_wp2_with fail
        refine HS2.out.mono ?_
        clear HS2
        rintro e w9 ⟨m2, rfl, rfl⟩
        have hbn : (bb != bb) = false := by simp
        have ca0 : w8.cell? ⟨b0, o0, none⟩ = some (.int .u64 x0) := (hF'.cell hbw (by simp)).trans (HC0.out)
        have hyne := u64_succ_ne HWX.out
        go_wp2_with fail
        generalize hy : IntKind.u64.wrap (x0 + 1) = y at hyne ⊢
        refine (stores_ok (hC.drewN _) 0 y (by omega) (by omega)).mono ?_
        rintro e w10 ⟨rfl, hF10, hC10⟩
        have hM10 := (hM7.drewN (mm + m2)).frm hF10 (by simp; omega) (by simp; omega)
        have hF10' : Frm [] w w10 := (hF'.drewN (mm + m2)).trans_new hF10 (by simp; omega)
        have hd0 : decide (ws = ws.set (0 : Int).toNat y) = false := by
          simp only [decide_eq_false_iff_not]
          intro e
          have h := HX0.out
          rw [e, List.getElem?_set, if_pos (by rfl), if_pos (by show (0 : Nat) < _; omega)] at h
          exact hyne (by injection h)
        have hs3 := same_mem hM10 hC10
        rw [hd0] at hs3
        have HS3 := Lib.hid hs3
        have HYN := Lib.hid hyne
        clear hs3 hd0 hyne hF10 hM7 hN7 hC hF' ca0
        have ca0 : w10.cell? ⟨b0, o0, none⟩ = some (.int .u64 x0) := (hF10'.cell hbw (by simp)).trans (HC0.out)
        go_wp2_with fail
        refine HS3.out.mono ?_
        clear HS3
        rintro e w11 ⟨m3, rfl, rfl⟩
        go_wp2_with fail
        refine (step_true (words_k (ys := ws) (hM10.drewN m3) 0 ws.length (by omega) (by omega) ((hRA.out.frm hF10' (by simp)).frm ((Frm.refl [] _).drewN m3) (by simp)) (by omega) 0) (by simp)).mono ?_
        rintro e w12 ⟨rfl, hF12⟩
        have hC12 := (hC10.drewN m3).frm hF12 (by simp) (by simp)
        have hF12' : Frm [] w w12 := (hF10'.drewN m3).trans hF12
        clear hF12 ca0
        have ca0 : w12.cell? ⟨b0, o0, none⟩ = some (.int .u64 x0) := (hF12'.cell hbw (by simp)).trans (HC0.out)
        have hl0 : (0 : Int) < ((ws.set (0 : Int).toNat y).length : Int) := by simp; omega
        have HL0 := Lib.hid hl0
        clear hl0
        go_wp2_with fail
        refine (loads_ok hC12 0 y (by omega) HL0.out (by rw [List.getD_eq_getElem?_getD, List.getElem?_set, if_pos rfl, if_pos (by show (0 : Nat) < _; omega)]; rfl)).mono ?_
        rintro e w13 ⟨rfl, hF13, hC13⟩
        go_wp2_with fail
        refine (known_true _).mono ?_
        rintro e w14 ⟨rfl, hF14⟩
        go_wp2
        go_ret
        exact ⟨rfl, ((hF12'.trans_new hF13 (by simp; omega)).trans hF14).below (Nat.le_refl _) (by simp)⟩

      · have hLA : LenAt (w6.drewN mm) g zs.length := ⟨cur, hh, fun i hi => by
            have hz : (u64s zs)[i]? = some (Value.int .u64 zs[i]) := by rw [u64s, List.getElem?_map, List.getElem?_eq_getElem hi]; rfl
            rw [← htk, List.getElem?_take, if_pos (by omega), Array.getElem?_toList] at hz
            exact ⟨_, hz⟩⟩
        have hpl := hM.plt
        have hdl := hM.dlt
        have hpl' := hN.plt
        have hdl' := hN.dlt
        have hgp : g ≠ p := by have := HB6.out.1; omega
        have hgd : g ≠ d := by have := HB6.out.2.1; omega
        have hgp' : g ≠ p' := by have := HB6.out.2.2.1; omega
        have hgd' : g ≠ d' := by have := HB6.out.2.2.2.1; omega
        have hgw : w.heap.size ≤ g := by have := HB6.out.2.2.2.2; omega
        clear hh hcap hmax hsz htk hg hpl hdl hpl' hdl' hgsz
        generalize w6.drewN mm = w7 at hM hN hF hLA ⊢
        have hzle := HZE.out
        go_wp2_with fail
        go_loopw [13, 82, 83, 84, 85, 86, 87, 88, 89, 90, 91] (fun _ i _ _ _ _ _ _ _ _ _ wr => ∃ kk : Nat, kk ≤ zs.length ∧ i = .int .i64 kk ∧ Frm [g] w7 wr ∧ LenAt wr g zs.length) (fun _ i _ _ _ _ _ _ _ _ _ _ => zs.length - (intOf i).toNat)
        case atStart => exact ⟨0, Nat.zero_le _, rfl, Frm.refl _ _, hLA⟩
        case round =>
          obtain ⟨kk, hkk, rfl, hFr, hLr⟩ := hrel
          by_cases hlt : kk < zs.length
          · obtain ⟨cs, hh, hc⟩ := id hLr
            obtain ⟨x, hx⟩ := hc kk hlt
            have cg : wr.cell? ⟨g, kk, none⟩ = some (.int .u64 x) := by rw [cell_of_heap hh]; exact hx
            have fg : wr.frozen? ⟨g, kk, none⟩ = false := frozen_of_heap hh
            clear hh hc hx
            go_wp2
            go_roundw
            case rel => exact ⟨kk + 1, by omega, by go_num, hFr.setCell _ _ (.inl (by simp)), hLr.set _ _⟩
            case measure => simp [intOf]; omega
          · obtain rfl : kk = zs.length := by omega
            replace hM := hM.frm hFr (by simp; omega) (by simp; omega)
            replace hN := hN.frm hFr (by simp; omega) (by simp; omega)
            replace hF := hF.trans_new hFr (by simp; omega)
            clear hLA hLr hFr
            go_wp2_with fail
            refine (copy_ok hM).mono ?_
            rintro e w7 ⟨q, dq, cq, rfl, hF7, hC, hq, hdq⟩
            have hpl := hM.plt
            have hdl := hM.dlt
            have hpl' := hN.plt
            have hdl' := hN.dlt
            have hqp : q ≠ p := by omega
            have hqd : q ≠ d := by omega
            have hdqp : dq ≠ p := by omega
            have hdqd : dq ≠ d := by omega
            have hqw : w.heap.size ≤ q := by have := hF.size; omega
            have hdqw : w.heap.size ≤ dq := by have := hF.size; omega
            have hM7 := hM.frm hF7 (by simp) (by simp)
            have hN7 := hN.frm hF7 (by simp) (by simp)
            have hF' := hF.trans hF7
            clear hF7 hM hN hF hq hdq hpl hdl hpl' hdl'
            go_wp2_with fail
            refine (same_eq hM7 hC rfl).mono ?_
            rintro e w8 ⟨rfl, hF8⟩
            replace hM7 := hM7.frm hF8 (by simp) (by simp)
            replace hN7 := hN7.frm hF8 (by simp) (by simp)
            replace hC := hC.frm hF8 (by simp) (by simp)
            replace hF' := hF'.trans hF8
            clear hF8
            obtain ⟨bb, hbb⟩ : ∃ bb, decide (ws = us) = bb := ⟨_, rfl⟩
            have hs1 := same_mem hM7 hN7
            rw [hbb] at hs1
            have HS1 := Lib.hid hs1
            clear hs1
            have HBB := Lib.hid hbb
            clear hbb
            go_wp2_with fail
            refine HS1.out.mono ?_
            clear HS1
            rintro e w9 ⟨mm, rfl, rfl⟩
            have hs2 := same_any ((hRA.out.frm hF' (by simp)).frm ((Frm.refl [] _).drewN mm) (by simp)) ((hRB.out.frm hF' (by simp)).frm ((Frm.refl [] _).drewN mm) (by simp)) (by omega) (by omega)
            rw [HBB.out] at hs2
            have HS2 := Lib.hid hs2
            clear hs2
            go_wp2_with fail
            refine HS2.out.mono ?_
            clear HS2
            rintro e w9 ⟨m2, rfl, rfl⟩
            have hbn : (bb != bb) = false := by simp
            have ca0 : w8.cell? ⟨b0, o0, none⟩ = some (.int .u64 x0) := (hF'.cell hbw (by simp)).trans (HC0.out)
            have hyne := u64_succ_ne HWX.out
            go_wp2_with fail
            generalize hy : IntKind.u64.wrap (x0 + 1) = y at hyne ⊢
            refine (stores_ok (hC.drewN _) 0 y (by omega) (by omega)).mono ?_
            rintro e w10 ⟨rfl, hF10, hC10⟩
            have hM10 := (hM7.drewN (mm + m2)).frm hF10 (by simp; omega) (by simp; omega)
            have hF10' : Frm [] w w10 := (hF'.drewN (mm + m2)).trans_new hF10 (by simp; omega)
            have hd0 : decide (ws = ws.set (0 : Int).toNat y) = false := by
              simp only [decide_eq_false_iff_not]
              intro e
              have h := HX0.out
              rw [e, List.getElem?_set, if_pos (by rfl), if_pos (by show (0 : Nat) < _; omega)] at h
              exact hyne (by injection h)
            have hs3 := same_mem hM10 hC10
            rw [hd0] at hs3
            have HS3 := Lib.hid hs3
            have HYN := Lib.hid hyne
            clear hs3 hd0 hyne hF10 hM7 hN7 hC hF' ca0
            have ca0 : w10.cell? ⟨b0, o0, none⟩ = some (.int .u64 x0) := (hF10'.cell hbw (by simp)).trans (HC0.out)
            go_wp2_with fail
            refine HS3.out.mono ?_
            clear HS3
            rintro e w11 ⟨m3, rfl, rfl⟩
            go_wp2_with fail
            refine (step_true (words_k (ys := ws) (hM10.drewN m3) 0 ws.length (by omega) (by omega) ((hRA.out.frm hF10' (by simp)).frm ((Frm.refl [] _).drewN m3) (by simp)) (by omega) 0) (by simp)).mono ?_
            rintro e w12 ⟨rfl, hF12⟩
            have hC12 := (hC10.drewN m3).frm hF12 (by simp) (by simp)
            have hF12' : Frm [] w w12 := (hF10'.drewN m3).trans hF12
            clear hF12 ca0
            have ca0 : w12.cell? ⟨b0, o0, none⟩ = some (.int .u64 x0) := (hF12'.cell hbw (by simp)).trans (HC0.out)
            have hl0 : (0 : Int) < ((ws.set (0 : Int).toNat y).length : Int) := by simp; omega
            have HL0 := Lib.hid hl0
            clear hl0
            go_wp2_with fail
            refine (loads_ok hC12 0 y (by omega) HL0.out (by rw [List.getD_eq_getElem?_getD, List.getElem?_set, if_pos rfl, if_pos (by show (0 : Nat) < _; omega)]; rfl)).mono ?_
            rintro e w13 ⟨rfl, hF13, hC13⟩
            go_wp2_with fail
            refine (known_true _).mono ?_
            rintro e w14 ⟨rfl, hF14⟩
            go_wp2
            go_ret
            exact ⟨rfl, ((hF12'.trans_new hF13 (by simp; omega)).trans hF14).below (Nat.le_refl _) (by simp)⟩

end Go.Proofs.Ythmpmpjkkjjbbaa
