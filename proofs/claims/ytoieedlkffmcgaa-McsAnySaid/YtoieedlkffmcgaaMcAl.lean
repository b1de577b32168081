/- The walk of McsAlone. -/
import Derived.Test.YtoieedlkffmcgaaMcK
namespace Go.Proofs.Ytoieedlkffmcgaa
open Go.ChangeShapes Go.WideShapes Go.ChangeAt Go.RowKit
set_option linter.unusedVariables false
set_option linter.unusedSectionVars false

theorem get_set_ne {l : List Int} {i j : Nat} {v : Int} (h : i ≠ j) : (l.set i v)[j]? = l[j]? := by rw [List.getElem?_set, if_neg h]
theorem get_set_eq {l : List Int} {i : Nat} {v : Int} (h : i < l.length) : (l.set i v)[i]? = some v := by rw [List.getElem?_set, if_pos rfl, if_pos h]

section
variable {b t k : Nat} {ws : List Int} (hb : 1 ≤ b) (h0 : ws[0]? = some 0) (hn : nxW b k < ws.length) (hw : wtW b k < ws.length)
include hb h0 hn hw
theorem al_0 : ((ws.set (nxW b k) 0).set (wtW b k) 1)[0]? = some 0 := by
  rw [get_set_ne (by unfold wtW; omega), get_set_ne (by unfold nxW; omega)]; exact h0
theorem al_ch1 : Stn b t 0 k false 2 1 0 false ws 3 0 false ((ws.set (nxW b k) 0).set (wtW b k) 1) :=
  .cons (.a1 0 hn) (fun _ => ⟨by decide, by decide, by decide, by decide⟩) (.cons (.a2 0 (by simpa using hw)) (fun _ => ⟨by decide, by decide, by decide, by decide⟩) (.nil _ _ _ _))
theorem al_ch2 : Stn b t 0 k false 1 3 0 false ((ws.set (nxW b k) 0).set (wtW b k) 1) 4 0 true (((ws.set (nxW b k) 0).set (wtW b k) 1).set 0 (k + 1)) :=
  .cons (.a3f 0 (al_0 hb h0 hn hw)) (fun h => by cases h) (.nil _ _ _ _)
theorem al_w : (((ws.set (nxW b k) 0).set (wtW b k) 1).set 0 ((k : Int) + 1))[0]? = some ((k : Int) + 1) := get_set_eq (by simp; have := (List.getElem?_eq_some_iff.1 h0).1; omega)
theorem al_ch3 : Stn b t 0 k true 1 1 0 false (((ws.set (nxW b k) 0).set (wtW b k) 1).set 0 (k + 1)) 2 0 false (((ws.set (nxW b k) 0).set (wtW b k) 1).set 0 (k + 1)) :=
  .cons (.r1n 0 (by rw [get_set_ne (by unfold nxW; omega), get_set_ne (by unfold nxW wtW; omega)]; exact get_set_eq hn)) (fun _ => ⟨by decide, by decide, by decide, by decide⟩) (.nil _ _ _ _)
theorem al_ch4 : Stn b t 0 k true 1 2 0 false (((ws.set (nxW b k) 0).set (wtW b k) 1).set 0 (k + 1)) 3 0 true ((((ws.set (nxW b k) 0).set (wtW b k) 1).set 0 (k + 1)).set 0 0) :=
  .cons (.r2y 0 (al_w hb h0 hn hw)) (fun h => by cases h) (.nil _ _ _ _)
theorem al_z : ((((ws.set (nxW b k) 0).set (wtW b k) 1).set 0 ((k : Int) + 1)).set 0 0)[0]? = some 0 := get_set_eq (by simp; have := (List.getElem?_eq_some_iff.1 h0).1; omega)
end

theorem nodes_new1 (w : World) (t : Nat) (t1 : 1 ≤ t) (t64 : t ≤ 64) : Calls Try.prog 9 #[.int .i64 1, .int .i64 t] w
    (Ret (.tuple #[.pointer (some ⟨w.heap.size, 0, none⟩), .int .i64 0]) (fun w' => Frm [] w w' ∧ Nd w' w.heap.size 1 t)) := nodes_new w 1 t t1 t64 (by omega)
theorem nnext {w : World} {p b t : Nat} (h : Nd w p b t) (fit : b + 6 * t ≤ 65536) (k : Nat) (hk : k < 2 * t) : Calls Try.prog 15 #[.pointer (some ⟨p, 0, none⟩), .int .i64 k] w (Ret (.int .i64 (nxW b k : Nat)) (fun w' => w = w')) := by
  refine (next_yes h fit k hk).mono fun e w' hh => ?_
  have : ((b : Int) + (k : Int) * 3 + 0) = ((nxW b k : Nat) : Int) := by unfold nxW; omega
  rw [this] at hh; exact hh
theorem nwait {w : World} {p b t : Nat} (h : Nd w p b t) (fit : b + 6 * t ≤ 65536) (k : Nat) (hk : k < 2 * t) : Calls Try.prog 16 #[.pointer (some ⟨p, 0, none⟩), .int .i64 k] w (Ret (.int .i64 (wtW b k : Nat)) (fun w' => w = w')) := by
  refine (wait_yes h fit k hk).mono fun e w' hh => ?_
  have : ((b : Int) + (k : Int) * 3 + 1) = ((wtW b k : Nat) : Int) := by unfold wtW; omega
  rw [this] at hh; exact hh
theorem set_u64s (l : List Int) (i : Nat) (x : Int) : (u64s l).toArray.setIfInBounds i (.int .u64 x) = (u64s (l.set i x)).toArray := by simp [u64s, List.map_set]
theorem rd_blk {w : World} {g n : Nat} {l : List Int} (hl : l.length = n) (h : w.heap[g]? = some (.cells (u64s l).toArray 40 (0, 0))) : Rd w (.slice (some ⟨g, 0, none⟩) n n) (u64s l) :=
  .inr ⟨g, 0, n, by simp [u64s, hl], by simp [u64s, hl], lt_of_heap h, fun i u hu => by
    rw [cell_of_heap h, Nat.zero_add, List.getElem?_toArray]; exact hu⟩
theorem begin_0 {w : World} {n t k : Nat} (h : Nd w n 1 t) (t64 : t ≤ 64) (hk : k < 2 * t) (back : Bool) :
    Calls Try.prog 11 #[.pointer (some ⟨n, 0, none⟩), .int .i64 0, .int .i64 k, .bool back] w (fun e w' => ∃ q, Ret (.tuple #[.iface (Ip back) (.pointer (some ⟨q, 0, none⟩)), .int .i64 0]) (fun w' => Frm [] w w' ∧ PgR w' q back 1 t 0 k 1 0 false ∧ w.heap.size ≤ q) e w') :=
  begin_yes h (by omega) ⟨by decide, by decide, .inl (by decide)⟩ hk back
/-- The words of an arena with nodes of t threads from the word 1 on. -/
theorem mk_al (t : Nat) (h : t ≤ 255) (w : World) : (Instr.makeSlice 28 (.int .i64 (1 + 6 * (t : Int))) (.int .i64 (1 + 6 * (t : Int)))).run Try.prog w =
    .ok (.slice (some ⟨w.heap.size, 0, none⟩) (1 + 6 * t) (1 + 6 * t)) (w.alloc (.cells (u64s (List.replicate (1 + 6 * t) 0)).toArray 40)) := by
  have e : (1 + 6 * (t : Int)) = ((1 + 6 * t : Nat) : Int) := by omega
  rw [e]; exact make_u64 (1 + 6 * t) (by omega) w

set_option maxRecDepth 100000 in
set_option maxHeartbeats 8000000 in
theorem walk_McsAlone (th : Int) (wth : (Lit.int .u8 th).wf = true) (nd : Int) (wnd : (Lit.int .u8 nd).wf = true) (nx : Int) (wnx : (Lit.int .u64 nx).wf = true) (wt : Int) (wwt : (Lit.int .u64 wt).wf = true) (w : World) :
    Calls Try.prog 5 #[.int .u8 th, .int .u8 nd, .int .u64 nx, .int .u64 wt] w (Ret (.bool true) (fun w' => Below w.heap.size w w')) := by
  have bth : 0 ≤ th ∧ th ≤ 255 := by
    have h := wth; simp only [Lit.wf, Bool.and_eq_true, decide_eq_true_eq] at h; have hmin : IntKind.u8.min = 0 := rfl; have hmax : IntKind.u8.max = 255 := rfl; omega
  have bnd : 0 ≤ nd ∧ nd ≤ 255 := by
    have h := wnd; simp only [Lit.wf, Bool.and_eq_true, decide_eq_true_eq] at h; have hmin : IntKind.u8.min = 0 := rfl; have hmax : IntKind.u8.max = 255 := rfl; omega
  obtain ⟨t, rfl⟩ := Int.eq_ofNat_of_zero_le bth.1
  obtain ⟨n, rfl⟩ := Int.eq_ofNat_of_zero_le bnd.1
  clear wth wnd wnx wwt
  by_cases h1 : t < 1
  · have d1 : decide ((t : Int) < 1) = true := by simp; omega
    have d1' : decide (t < 1) = true := by simp; omega
    go_enter Try.func5, Try.ntmps5
    go_wp2_with fail
    refine known_true.mono ?_
    rintro e w1 ⟨rfl, hF⟩
    go_wp2
    go_ret
    exact ⟨rfl, hF.below (Nat.le_refl _) (by simp)⟩
  · have d1 : decide ((t : Int) < 1) = false := by simp; omega
    have d1' : decide (t < 1) = false := by simp; omega
    by_cases h2 : 64 < t
    · have d2 : decide ((64 : Int) < (t : Int)) = true := by simp; omega
      have d2' : decide (64 < t) = true := by simp; omega
      go_enter Try.func5, Try.ntmps5
      go_wp2_with fail
      refine known_true.mono ?_
      rintro e w1 ⟨rfl, hF⟩
      go_wp2
      go_ret
      exact ⟨rfl, hF.below (Nat.le_refl _) (by simp)⟩
    · have d2 : decide ((64 : Int) < (t : Int)) = false := by simp; omega
      have d2' : decide (64 < t) = false := by simp; omega
      have hz : ¬ ((t : Int) * 2 = 0) := by omega
      have hz2 : ¬ (2 * (t : Int) = 0) := by omega
      have t1 : 1 ≤ t := by omega
      have t64 : t ≤ 64 := by omega
      go_enter Try.func5, Try.ntmps5
      go_wp2_with fail
      have hk : ((n : Int) % (2 * (t : Int))) = ((n % (2 * t) : Nat) : Int) := by push_cast; rfl
      have hkt : n % (2 * t) < 2 * t := Nat.mod_lt _ (by omega)
      rw [hk]
      generalize n % (2 * t) = k at hkt
      clear hk
      refine (nodes_new1 _ t t1 t64).mono ?_
      rintro e w1 ⟨rfl, hF1, hN1⟩
      have HN := Lib.hid hN1
      have HF := Lib.hid hF1
      have hnl := hN1.lt
      clear hN1 hF1
      have hmk := mk_al t (by omega)
      have x1 : decide (((nxW 1 k : Nat) : Int) < 0) = false := decide_eq_false (by omega)
      have x2 : decide (((1 + 6 * t : Nat) : Int) ≤ ((nxW 1 k : Nat) : Int)) = false := decide_eq_false (by unfold nxW; omega)
      have x2' : decide (1 + 6 * t ≤ nxW 1 k) = false := decide_eq_false (by unfold nxW; omega)
      have x2z : decide (1 + 6 * (t : Int) ≤ ((nxW 1 k : Nat) : Int)) = false := decide_eq_false (by unfold nxW; omega)
      have x4z : decide (1 + 6 * (t : Int) ≤ ((wtW 1 k : Nat) : Int)) = false := decide_eq_false (by unfold wtW; omega)
      have x3 : decide (((wtW 1 k : Nat) : Int) < 0) = false := decide_eq_false (by omega)
      have x4 : decide (((1 + 6 * t : Nat) : Int) ≤ ((wtW 1 k : Nat) : Int)) = false := decide_eq_false (by unfold wtW; omega)
      have x4' : decide (1 + 6 * t ≤ wtW 1 k) = false := decide_eq_false (by unfold wtW; omega)
      go_wp2_with fail
      have hF2 : Frm [] w1 (w1.alloc (.cells (u64s (List.replicate (1 + 6 * t) 0)).toArray 40)) := (Frm.refl _ _).alloc _
      have hb0 : (w1.alloc (.cells (u64s (List.replicate (1 + 6 * t) 0)).toArray 40)).heap[w1.heap.size]? = some (.cells (u64s (List.replicate (1 + 6 * t) 0)).toArray 40 (0, 0)) := heap_alloc_new _ _
      have hsz : w1.heap.size < (w1.alloc (.cells (u64s (List.replicate (1 + 6 * t) 0)).toArray 40)).heap.size := by simp
      generalize hg : w1.alloc (.cells (u64s (List.replicate (1 + 6 * t) 0)).toArray 40) = w2 at hF2 hb0 hsz
      generalize hg2 : w1.heap.size = g at hb0 hsz hnl
      have hgw : w.heap.size ≤ g := by have := HF.out.size; omega
      replace HN := Lib.hid (HN.out.frm hF2)
      replace HF := Lib.hid (HF.out.trans hF2)
      have HB := Lib.hid hb0
      clear hg hg2 hF2 hb0
      refine (nnext HN.out (by omega) k hkt).mono ?_
      rintro e w' ⟨rfl, rfl⟩
      go_wp2_with fail
      refine (nnext HN.out (by omega) k hkt).mono ?_
      rintro e w' ⟨rfl, rfl⟩
      go_wp2_with fail
      refine (nwait HN.out (by omega) k hkt).mono ?_
      rintro e w' ⟨rfl, rfl⟩
      go_wp2_with fail
      refine (nwait HN.out (by omega) k hkt).mono ?_
      rintro e w' ⟨rfl, rfl⟩
      go_wp2_with fail
      refine (nnext HN.out (by omega) k hkt).mono ?_
      rintro e w' ⟨rfl, rfl⟩
      have y1 : (nxW 1 k) < 1 + 6 * t := by unfold nxW; omega
      have y2 : (wtW 1 k) < 1 + 6 * t := by unfold wtW; omega
      have y1' : ((nxW 1 k : Nat) : Int) < ((1 + 6 * t : Nat) : Int) := by omega
      have y1z : ((nxW 1 k : Nat) : Int) < 1 + 6 * (t : Int) := by omega
      have y2z : ((wtW 1 k : Nat) : Int) < 1 + 6 * (t : Int) := by omega
      have y2' : ((wtW 1 k : Nat) : Int) < ((1 + 6 * t : Nat) : Int) := by omega
      obtain ⟨i1, hi1⟩ : ∃ i : Nat, i = nxW 1 k := ⟨_, rfl⟩
      have cg : ∀ i, i < 1 + 6 * t → w2.cell? ⟨g, i, none⟩ = some (.int .u64 0) := fun i hi => by
        rw [cell_of_heap HB.out, List.getElem?_toArray, u64s, List.getElem?_map, List.getElem?_replicate, if_pos hi]; rfl
      have cg1 := cg _ y1
      have cg2 := cg _ y2
      have fz : ∀ i, w2.frozen? ⟨g, i, none⟩ = false := fun i => frozen_of_heap HB.out
      have cg3 : (w2.setCell ⟨g, nxW 1 k, none⟩ (.int .u64 nx)).cell? ⟨g, wtW 1 k, none⟩ = some (.int .u64 0) := by
        have hh := heap_setCell_at (i := nxW 1 k) (.int .u64 nx) HB.out
        rw [set_u64s] at hh
        rw [cell_of_heap hh, List.getElem?_toArray, u64s, List.getElem?_map, get_set_ne (by unfold nxW wtW; omega), List.getElem?_replicate, if_pos y2]; rfl
      have fz3 : (w2.setCell ⟨g, nxW 1 k, none⟩ (.int .u64 nx)).frozen? ⟨g, wtW 1 k, none⟩ = false := frozen_of_heap (heap_setCell_at (i := nxW 1 k) (.int .u64 nx) HB.out)
      clear cg hi1
      go_wp2_with fail
      refine (nwait HN.out (by omega) k hkt).mono ?_
      rintro e w' ⟨rfl, rfl⟩
      go_wp2_with fail
      have hb3 : ((w2.setCell ⟨g, nxW 1 k, none⟩ (.int .u64 nx)).setCell ⟨g, wtW 1 k, none⟩ (.int .u64 wt)).heap[g]? = some (.cells (u64s (((List.replicate (1 + 6 * t) 0).set (nxW 1 k) nx).set (wtW 1 k) wt)).toArray 40 (0, 0)) := by
        have := heap_setCell_at (i := wtW 1 k) (.int .u64 wt) (heap_setCell_at (i := nxW 1 k) (.int .u64 nx) HB.out)
        rw [set_u64s, set_u64s] at this; exact this
      have hF3 : Frm [g] w2 ((w2.setCell ⟨g, nxW 1 k, none⟩ (.int .u64 nx)).setCell ⟨g, wtW 1 k, none⟩ (.int .u64 wt)) := ((Frm.refl [g] w2).setCell _ _ (.inl (by simp))).setCell _ _ (.inl (by simp))
      generalize hw3 : (w2.setCell ⟨g, nxW 1 k, none⟩ (.int .u64 nx)).setCell ⟨g, wtW 1 k, none⟩ (.int .u64 wt) = w3 at hb3 hF3
      replace HN := Lib.hid (HN.out.frmD hF3 (by simp; omega))
      replace HF := Lib.hid (HF.out.trans_new hF3 (by simp; omega))
      obtain ⟨ws, hws⟩ : ∃ ws, ws = ((List.replicate (1 + 6 * t) (0 : Int)).set (nxW 1 k) nx).set (wtW 1 k) wt := ⟨_, rfl⟩
      have hl : ws.length = 1 + 6 * t := by rw [hws]; simp
      have h0 : ws[0]? = some 0 := by
        rw [hws, get_set_ne (by unfold wtW; omega), get_set_ne (by unfold nxW; omega), List.getElem?_replicate, if_pos (by omega)]
      rw [← hws] at hb3
      have hrd := rd_blk hl hb3
      have hz1 : nxW 1 k < ws.length := by omega
      have hz2 : wtW 1 k < ws.length := by omega
      have HRD := Lib.hid hrd
      have H0 := Lib.hid h0
      have HL := Lib.hid hl
      clear hw3 hF3 hb3 HB cg1 cg2 cg3 fz3 fz hrd h0 hl hws hmk
      refine (made_any HRD.out (by have := HL.out; omega) (by have := HL.out; omega)).mono ?_
      rintro e w4 ⟨p, d, c, rfl, hF, hM, hp, hd⟩
      have hsz := HF.out.size
      have hnl2 := HN.out.lt
      have hd0 : w.heap.size ≤ d := by omega
      have hnd : w.heap.size ≠ d := by omega
      replace HN := Lib.hid (HN.out.frm hF)
      replace HF := Lib.hid (HF.out.trans hF)
      have HM := Lib.hid hM
      clear hF hM hp hd
      go_wp2_with fail
      refine (begin_0 HN.out t64 hkt false).mono ?_
      rintro e w5 ⟨qa, rfl, hF, hQ, hq⟩
      have hqap : qa ≠ p := by have := HM.out.plt; omega
      have hqad : qa ≠ d := by have := HM.out.dlt; omega
      have hqa0 : w.heap.size ≤ qa := by have := HF.out.size; omega
      replace HN := Lib.hid (HN.out.frm hF)
      replace HM := Lib.hid (HM.out.frm hF (by simp) (by simp))
      replace HF := Lib.hid (HF.out.trans hF)
      have HA := Lib.hid hQ
      clear hF hQ hq
      go_wp2_with fail
      refine (begin_0 HN.out t64 hkt true).mono ?_
      rintro e w6 ⟨qb, rfl, hF, hQ, hq⟩
      have hqbp : qb ≠ p := by have := HM.out.plt; omega
      have hqbd : qb ≠ d := by have := HM.out.dlt; omega
      have hqb0 : w.heap.size ≤ qb := by have := HF.out.size; omega
      have hqba : qb ≠ qa := by have := HA.out.lt; omega
      replace HM := Lib.hid (HM.out.frm hF (by simp) (by simp))
      replace HA := Lib.hid (HA.out.frm hF (by simp))
      replace HF := Lib.hid (HF.out.trans hF)
      have HB := Lib.hid hQ
      clear hF hQ hq HN
      have hu := u64_nat k (by omega)
      have hu1 := u64_nat1 k (by omega)
      go_wp2_with fail
      refine (steps_any HM.out HA.out hqad hqap (by decide) (al_ch1 (by decide) H0.out hz1 hz2)).mono ?_
      rintro e w7 ⟨rfl, hF, hM, hQ⟩
      replace HF := Lib.hid (HF.out.trans_new hF (by simp; omega))
      replace HB := Lib.hid (HB.out.frm hF (by simp; omega))
      replace HM := Lib.hid hM
      replace HA := Lib.hid hQ
      clear hF hM hQ
      go_wp2_with fail
      refine (steps_any HM.out HA.out hqad hqap (by decide) (al_ch2 (by decide) H0.out hz1 hz2)).mono ?_
      rintro e w8 ⟨rfl, hF, hM, hQ⟩
      replace HF := Lib.hid (HF.out.trans_new hF (by simp; omega))
      replace HB := Lib.hid (HB.out.frm hF (by simp; omega))
      replace HM := Lib.hid hM
      clear hF hM hQ HA
      go_wp2_with fail
      refine (lword_yes HM.out 0 _ (al_w (by decide) H0.out hz1 hz2)).mono ?_
      rintro e w9 ⟨rfl, hF, hM⟩
      replace HF := Lib.hid (HF.out.trans_new hF (by simp; omega))
      replace HB := Lib.hid (HB.out.frm hF (by simp; omega))
      replace HM := Lib.hid hM
      clear hF hM
      go_wp2_with fail
      refine (steps_any HM.out HB.out hqbd hqbp (by decide) (al_ch3 (by decide) H0.out hz1 hz2)).mono ?_
      rintro e w10 ⟨rfl, hF, hM, hQ⟩
      replace HF := Lib.hid (HF.out.trans_new hF (by simp; omega))
      replace HM := Lib.hid hM
      replace HB := Lib.hid hQ
      clear hF hM hQ
      go_wp2_with fail
      refine (steps_any HM.out HB.out hqbd hqbp (by decide) (al_ch4 (by decide) H0.out hz1 hz2)).mono ?_
      rintro e w11 ⟨rfl, hF, hM, hQ⟩
      replace HF := Lib.hid (HF.out.trans_new hF (by simp; omega))
      replace HM := Lib.hid hM
      clear hF hM hQ HB
      go_wp2_with fail
      refine (lword_yes HM.out 0 0 (al_z (by decide) H0.out hz1 hz2)).mono ?_
      rintro e w12 ⟨rfl, hF, hM⟩
      replace HF := Lib.hid (HF.out.trans_new hF (by simp; omega))
      clear hF hM HM
      go_wp2_with fail
      refine known_true.mono ?_
      rintro e w13 ⟨rfl, hF⟩
      replace HF := Lib.hid (HF.out.trans hF)
      clear hF
      go_wp2
      go_ret
      exact ⟨rfl, HF.out.below (Nat.le_refl _) (by simp)⟩
#print axioms walk_McsAlone
end Go.Proofs.Ytoieedlkffmcgaa
