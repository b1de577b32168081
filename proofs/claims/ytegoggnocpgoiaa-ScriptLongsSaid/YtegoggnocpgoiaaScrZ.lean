/- Layer 4: the walk of ScriptLongs. -/
import Derived.Test.YtegoggnocpgoiaaScrY
namespace Go.Proofs.Ytegoggnocpgoiaa
open Go.ChangeShapes Go.WideShapes Go.ChangeAt Go.RowKit

theorem make_u8 (n : Nat) (h : n ≤ 2147483647) (w : World) : (Instr.makeSlice 22 (.int .i64 n) (.int .i64 n)).run Try.prog w =
    .ok (.slice (some ⟨w.heap.size, 0, none⟩) n n) (w.alloc (.cells (u8s (List.replicate n 0)).toArray 5)) := by
  obtain ⟨i0, hi, hz0, hz1, hz2⟩ := info_parts info_u8
  have := run_make (P := Try.prog) w 22 5 i0 (.int .u8 0) Try.underlying22 hi hz0 .i64 .i64 (n : Int) (n : Int) (by omega) (by omega) (by rw [hz2]; omega) (by omega)
  rw [this, hz1]
  have e : madeCells (Value.int .u8 0).cells (Int.toNat (n : Int) * 1) = (u8s (List.replicate n 0)).toArray := by
    apply Array.ext
    · simp [madeCells, u8s]
    · intro j h1 h2
      simp [madeCells, u8s, Value.cells, Nat.mod_one]
  rw [e]; simp
theorem make_op (n : Nat) (h : n ≤ 2147483) (w : World) : (Instr.makeSlice 31 (.int .i64 n) (.int .i64 n)).run Try.prog w =
    .ok (.slice (some ⟨w.heap.size, 0, none⟩) n n) (w.alloc (.cells (opsC (List.replicate n zOp)).toArray 30)) := by
  obtain ⟨i0, hi, hz0, hz1, hz2⟩ := info_parts info_op
  have := run_make (P := Try.prog) w 31 30 i0 (.agg #[.int .i64 zOp.k, .int .i64 zOp.t, .int .i64 zOp.n, .int .i64 zOp.v, .string zOp.key, .string zOp.val, .string zOp.old, .int .i64 zOp.tk]) Try.underlying31 hi hz0 .i64 .i64 (n : Int) (n : Int) (by omega) (by omega) (by rw [hz2]; omega) (by omega)
  rw [this, hz1]
  have e : madeCells (Value.agg #[.int .i64 zOp.k, .int .i64 zOp.t, .int .i64 zOp.n, .int .i64 zOp.v, .string zOp.key, .string zOp.val, .string zOp.old, .int .i64 zOp.tk]).cells (Int.toNat (n : Int) * 8) = (opsC (List.replicate n zOp)).toArray := by
    apply Array.ext
    · simp [madeCells, opsC_length]
    · intro j h1 h2
      have hj : j < n * 8 := by simpa [madeCells] using h1
      have hg := opsC_get (l := List.replicate n zOp) (i := j / 8) (j := j % 8) (x := zOp) (by rw [List.getElem?_replicate, if_pos (by omega)]) (Nat.mod_lt _ (by omega))
      rw [show j / 8 * 8 + j % 8 = j by omega] at hg
      have hl : j % 8 < (opC zOp).length := by rw [opC_length]; exact Nat.mod_lt _ (by omega)
      rw [List.getElem?_eq_getElem hl] at hg
      have h3 : (opsC (List.replicate n zOp)).toArray[j] = (opC zOp)[j % 8] := by
        have := List.getElem?_eq_some_iff.1 hg
        simpa using this.2
      rw [h3]
      simp [madeCells, Value.cells, opC]
      rw [List.getElem?_eq_getElem (by simpa [opC] using hl)]; rfl
  rw [e]; simp
theorem set_u8s (l : List Int) (i : Nat) (v : Int) : (u8s l).toArray.setIfInBounds i (.int .u8 v) = (u8s (l.set i v)).toArray := by
  rw [List.setIfInBounds_toArray]; unfold u8s; rw [List.map_set]
theorem fill_u8 {k m : Nat} (v : Int) (hk : k < m) : (List.replicate k v ++ List.replicate (m - k) 0).set k v = List.replicate (k + 1) v ++ List.replicate (m - (k + 1)) 0 := by
  have e : List.replicate (m - k) (0 : Int) = 0 :: List.replicate (m - (k + 1)) 0 := by rw [show m - k = (m - (k + 1)) + 1 by omega]; rfl
  rw [e, List.set_append_right _ _ (by simp)]
  simp [List.replicate_succ']
abbrev tOp : Opr := ⟨2, 0, 5, 0, noB, noB, noB, 0⟩
theorem opsC_split (A : List Opr) (y : Opr) (R : List Opr) : opsC (A ++ y :: R) = opsC A ++ (opC y ++ opsC R) := by rw [opsC_append, opsC_cons]
theorem set_op {A : List Opr} {x y : Opr} {R : List Opr} {k : Nat} (hk : A.length = k) :
    (((((((((opsC (A ++ y :: R)).toArray.setIfInBounds (k * 8) (.int .i64 x.k)).setIfInBounds (k * 8 + 1) (.int .i64 x.t)).setIfInBounds (k * 8 + 2) (.int .i64 x.n)).setIfInBounds (k * 8 + 3) (.int .i64 x.v)).setIfInBounds (k * 8 + 4) (.string x.key)).setIfInBounds (k * 8 + 5) (.string x.val)).setIfInBounds (k * 8 + 6) (.string x.old)).setIfInBounds (k * 8 + 7) (.int .i64 x.tk)) = (opsC (A ++ x :: R)).toArray := by
  have hl : (opsC A).length = k * 8 := by rw [opsC_length, hk]
  have st : ∀ (j : Nat) (v : Value) (M : List Value), (opsC A ++ M).toArray.setIfInBounds (k * 8 + j) v = (opsC A ++ M.set j v).toArray := by
    intro j v M
    rw [List.setIfInBounds_toArray, List.set_append_right _ _ (by omega), hl, Nat.add_sub_cancel_left]
  rw [opsC_split, opsC_split]
  have e0 := st 0
  simp only [Nat.add_zero] at e0
  rw [e0, st, st, st, st, st, st, st]
  rfl
theorem heap_set8 {w : World} {b o : Nat} {cs : Array Value} {t : TypeId} (h : w.heap[b]? = some (.cells cs t (0, 0))) (v0 v1 v2 v3 v4 v5 v6 v7 : Value) :
    ((((((((w.setCell ⟨b, o, none⟩ v0).setCell ⟨b, o + 1, none⟩ v1).setCell ⟨b, o + 2, none⟩ v2).setCell ⟨b, o + 3, none⟩ v3).setCell ⟨b, o + 4, none⟩ v4).setCell ⟨b, o + 5, none⟩ v5).setCell ⟨b, o + 6, none⟩ v6).setCell ⟨b, o + 7, none⟩ v7).heap[b]? =
      some (.cells ((((((((cs.setIfInBounds o v0).setIfInBounds (o + 1) v1).setIfInBounds (o + 2) v2).setIfInBounds (o + 3) v3).setIfInBounds (o + 4) v4).setIfInBounds (o + 5) v5).setIfInBounds (o + 6) v6).setIfInBounds (o + 7) v7) t (0, 0)) :=
  heap_setCell_at _ (heap_setCell_at _ (heap_setCell_at _ (heap_setCell_at _ (heap_setCell_at _ (heap_setCell_at _ (heap_setCell_at _ (heap_setCell_at _ h)))))))
theorem frm_set8o {D : List Nat} {w X : World} {b o : Nat} {v0 v1 v2 v3 v4 v5 v6 v7 : Value} (h : Frm D w X) (hb : w.heap.size ≤ b) :
    Frm D w ((((((((X.setCell ⟨b, o, none⟩ v0).setCell ⟨b, o + 1, none⟩ v1).setCell ⟨b, o + 2, none⟩ v2).setCell ⟨b, o + 3, none⟩ v3).setCell ⟨b, o + 4, none⟩ v4).setCell ⟨b, o + 5, none⟩ v5).setCell ⟨b, o + 6, none⟩ v6).setCell ⟨b, o + 7, none⟩ v7) :=
  frm_set7 (frm_set7 (frm_set7 (frm_set7 (frm_set7 (frm_set7 (frm_set7 (frm_set7 h hb) hb) hb) hb) hb) hb) hb) hb

/-- So many ticks, as bytes. -/
def tk2 : Nat → List Int
  | 0 => []
  | n + 1 => tk2 n ++ [3, 5]
theorem tk2_length : ∀ n, (tk2 n).length = 2 * n
  | 0 => rfl
  | n + 1 => by rw [tk2, List.length_append, tk2_length n]; simp; omega
theorem wr_tick : wr tOp = some [3, 5] := by
  have e1 := wr_nx (l := [3, 5]) (t := 2) (byt_of (by decide)) (by omega) (by omega)
  have f1 : nx [3, 5] 2 = tOp := by rfl
  rw [f1] at e1
  rw [e1]; rfl
theorem wrA_ticks : ∀ n, wrA (List.replicate n tOp) = some (tk2 n)
  | 0 => rfl
  | n + 1 => by rw [List.replicate_succ', wrA_snoc, wrA_ticks n, wr_tick]; rfl
theorem fill_op {k q : Nat} (hk : k < q) : List.replicate k tOp ++ List.replicate (q - k) zOp = List.replicate k tOp ++ zOp :: List.replicate (q - (k + 1)) zOp := by
  rw [show q - k = (q - (k + 1)) + 1 by omega]; rfl
theorem fill_op2 {k q : Nat} : List.replicate k tOp ++ tOp :: List.replicate (q - (k + 1)) zOp = List.replicate (k + 1) tOp ++ List.replicate (q - (k + 1)) zOp := by
  rw [List.replicate_succ', List.append_assoc]; rfl

set_option maxRecDepth 100000 in
set_option maxHeartbeats 12800000 in
theorem longs_walk (m : Nat) (x : Int) (q : Nat) (w : World) (hm0 : 4094 ≤ m) (hm1 : m ≤ 4098) (hq0 : 2046 ≤ q) (hq1 : q ≤ 2050) (x0 : 0 ≤ x) (x1 : x ≤ 255) :
    Calls Try.prog 6 #[.int .i64 (m : Int), .int .u8 x, .int .i64 (q : Int)] w (Ret (.bool true) (fun w' => Frm [] w w')) := by
  have d1 : decide ((m : Int) < 4094) = false := by simp; omega
  have d2 : decide ((4098 : Int) < (m : Int)) = false := by simp; omega
  have d3 : decide ((q : Int) < 2046) = false := by simp; omega
  have d4 : decide ((2050 : Int) < (q : Int)) = false := by simp; omega
  have hmk := make_u8 m (by omega)
  obtain ⟨X, hX⟩ : ∃ X, X = w.alloc (.cells (u8s (List.replicate m 0)).toArray 5) := ⟨_, rfl⟩
  have hg : X.heap[w.heap.size]? = some (.cells (u8s (List.replicate m 0)).toArray 5 (0, 0)) := by rw [hX]; exact heap_alloc_new _ _
  have hFX : Frm [] w X := by rw [hX]; exact (Frm.refl _ _).alloc _
  have HX := Lib.hid hX
  have HG := Lib.hid hg
  have HFX := Lib.hid hFX
  clear hX hg hFX
  go_enter Try.func6, Try.ntmps6
  go_wp2_with fail
  rw [← HX.out]
  clear hmk
  go_loopw [8, 31] (fun _ i w' => ∃ k : Nat, k ≤ m ∧ i = .int .i64 k ∧ Frm [] w w' ∧ Hid (w'.heap[w.heap.size]? = some (.cells (u8s (List.replicate k x ++ List.replicate (m - k) 0)).toArray 5 (0, 0)))) (fun _ i _ => m - (intOf i).toNat)
  case atStart => exact ⟨0, by omega, rfl, HFX.out, Lib.hid (by simpa using HG.out)⟩
  case round =>
    obtain ⟨k, hk, rfl, hF, HB⟩ := hrel
    by_cases hlt : k < m
    · have hb0 : (0 : Int) ≤ (k : Int) := by omega
      have hb1 : (k : Int) < (m : Int) := by omega
      have hc : wr.cell? ⟨w.heap.size, k, none⟩ = some (.int .u8 0) := by
        rw [cell_of_heap HB.out, List.getElem?_toArray]
        simp [u8s, show 0 < m - k by omega]
      have hfz : ∀ i, wr.frozen? ⟨w.heap.size, i, none⟩ = false := fun i => frozen_of_heap HB.out
      have hset := heap_setCell_at (i := k) (.int .u8 x) HB.out
      rw [set_u8s, fill_u8 x hlt] at hset
      have hFs := frm_set7 (i := k) (v := .int .u8 x) hF (Nat.le_refl _)
      have HS := Lib.hid hset
      have HFS := Lib.hid hFs
      clear hset hFs
      go_wp2
      go_roundw
      case rel => exact ⟨k + 1, by omega, by go_num, HFS.out, HS⟩
      case measure => simp [intOf]; omega
    · obtain rfl : k = m := by omega
      have hblk := HB.out
      rw [Nat.sub_self] at hblk
      have hli := li_u8 (n := k) (by simp) hblk
      simp only [List.replicate_zero, List.append_nil] at hli
      have hby : Byt (List.replicate k x) := fun y hy => by rw [(List.mem_replicate.1 hy).2]; exact ⟨x0, x1⟩
      have HLI := Lib.hid hli
      have HBY := Lib.hid hby
      clear hblk hli hby
      by_cases hlong : 4096 < k
      · have d5 : decide ((4096 : Int) < (k : Int)) = true := by simp; omega
        go_wp2_with fail
        refine (parses_err _ _ k k 3 5 (.inr ⟨⟨by decide, hlong⟩, rfl⟩)).mono ?_
        rintro e w2 ⟨rfl, hF1⟩
        have HFW : Frm [] w w2 := hF.trans hF1
        clear hF1
        have hmk2 := make_op q (by omega)
        obtain ⟨X2, hX2⟩ : ∃ X2, X2 = w2.alloc (.cells (opsC (List.replicate q zOp)).toArray 30) := ⟨_, rfl⟩
        have hg2 : X2.heap[w2.heap.size]? = some (.cells (opsC (List.replicate q zOp)).toArray 30 (0, 0)) := by rw [hX2]; exact heap_alloc_new _ _
        have hF2 : Frm [] w X2 := by rw [hX2]; exact HFW.alloc _
        obtain ⟨g2, hgg⟩ : ∃ g2, w2.heap.size = g2 := ⟨_, rfl⟩
        have hgle : w.heap.size ≤ g2 := by rw [← hgg]; exact HFW.size
        have HX2 := Lib.hid hX2
        have HGG := Lib.hid hgg
        rw [hgg] at hg2
        have HG2 := Lib.hid hg2
        have HF2 := Lib.hid hF2
        clear hX2 hg2 hF2 hgg
        go_wp2_with fail
        rw [← HX2.out, HGG.out]
        clear hmk2
        go_loopw [10, 11, 53] (fun v _ i w' => ∃ (k : Nat) (a' : Option Addr) (c' : Nat), k ≤ q ∧ i = .int .i64 k ∧ v = .slice a' (2 * k : Nat) c' ∧ Frm [] w w' ∧ Hid (RowU w.heap.size w' a' (2 * k) c' (tk2 k)) ∧ Hid (w'.heap[g2]? = some (.cells (opsC (List.replicate k tOp ++ List.replicate (q - k) zOp)).toArray 30 (0, 0)))) (fun _ _ i _ => q - (intOf i).toNat)
        case atStart => exact ⟨0, none, 0, by omega, rfl, rfl, HF2.out, Lib.hid (RowU.nil _ _), Lib.hid (by simpa using HG2.out)⟩
        case round =>
          obtain ⟨k, a', c', hk, rfl, rfl, hF, HR, HB⟩ := hrel
          by_cases hlt : k < q
          · have hb0 : (0 : Int) ≤ (k : Int) := by omega
            have hb1 : (k : Int) < (q : Int) := by omega
            have hblk := HB.out
            rw [fill_op hlt] at hblk
            have hat : OpAt wr g2 (k * 8) zOp := by
              have hlo := lo_block (n := q) (by simp; omega) hblk
              have := hlo.cell k zOp (by rw [List.getElem?_append_right (by simp)]; simp)
              simpa using this
            obtain ⟨z0, z1, z2, z3, z4, z5, z6, z7⟩ := hat
            have hfz : ∀ i, wr.frozen? ⟨g2, i, none⟩ = false := fun i => frozen_of_heap hblk
            have hset := heap_set8 (o := k * 8) hblk (.int .i64 tOp.k) (.int .i64 tOp.t) (.int .i64 tOp.n) (.int .i64 tOp.v) (.string tOp.key) (.string tOp.val) (.string tOp.old) (.int .i64 tOp.tk)
            rw [set_op (x := tOp) (by simp), fill_op2] at hset
            have hFs := frm_set8o (o := k * 8) (v0 := .int .i64 tOp.k) (v1 := .int .i64 tOp.t) (v2 := .int .i64 tOp.n) (v3 := .int .i64 tOp.v) (v4 := .string tOp.key) (v5 := .string tOp.val) (v6 := .string tOp.old) (v7 := .int .i64 tOp.tk) hF hgle
            have hrne := row_ne HR.out hblk (by decide)
            have hRs : RowU w.heap.size ((((((((wr.setCell ⟨g2, k * 8, none⟩ (.int .i64 tOp.k)).setCell ⟨g2, k * 8 + 1, none⟩ (.int .i64 tOp.t)).setCell ⟨g2, k * 8 + 2, none⟩ (.int .i64 tOp.n)).setCell ⟨g2, k * 8 + 3, none⟩ (.int .i64 tOp.v)).setCell ⟨g2, k * 8 + 4, none⟩ (.string tOp.key)).setCell ⟨g2, k * 8 + 5, none⟩ (.string tOp.val)).setCell ⟨g2, k * 8 + 6, none⟩ (.string tOp.old)).setCell ⟨g2, k * 8 + 7, none⟩ (.int .i64 tOp.tk)) a' (2 * k) c' (tk2 k) := by
              have st : ∀ {X : World} (i : Nat) (v : Value), Frm [g2] wr X → Frm [g2] wr (X.setCell ⟨g2, i, none⟩ v) := fun i v h => h.setCell ⟨g2, i, none⟩ v (.inl (by simp))
              exact HR.out.frm (st _ _ (st _ _ (st _ _ (st _ _ (st _ _ (st _ _ (st _ _ (st _ _ (Frm.refl _ _)))))))) ) (fun x hx => by simp; rintro rfl; exact hrne hx)
            have HSET := Lib.hid hset
            have HFS := Lib.hid hFs
            have HRS := Lib.hid hRs
            have hix := ix_op (a := some ⟨g2, 0, none⟩) (n := q) (c := q) (b := g2) (o := 0) (k := k) (fun _ => rfl) hlt
            simp only [Nat.zero_add] at hix
            have htl := tk2_length k
            have HTL := Lib.hid htl
            clear hblk hset hFs hRs htl
            go_wp2_with (at_builtin; refine wpl_appU rfl (.tmp 60) (.tmp 61) rfl (B := w.heap.size) (a := a') (n := 2 * k) (c := c') (m := 2) (l := tk2 k) (l2 := [3, 5]) (by simp [Act.eval]) (by simp [Act.eval]) (HRS.out.frm0 ((Frm.refl _ _).alloc _)) (li_u8 (n := 2) rfl (heap_alloc_new _ _)) (by rw [HTL.out]; omega) (by have := HFS.out.size; simp at *; omega) ?_; intro a3 c3 w3 hR3 hF3)
            have hF4 : Frm [] w w3 := (HFS.out.alloc (.cells #[.int .u8 3, .int .u8 5] 5)).trans_new hF3 (fun j hj => .inr (HR.out.blk j hj).1)
            have hS4 := hF3.heap (heap_alloc_old _ HSET.out) hrne
            have HR3 := Lib.hid hR3
            have HS4 := Lib.hid hS4
            clear hR3 hF3 hS4
            go_wp2
            go_roundw
            case rel => exact ⟨k + 1, a3, c3, by omega, by go_num, by rfl, hF4, HR3, HS4⟩
            case measure => simp [intOf]; omega
          · obtain rfl : k = q := by omega
            have hblk := HB.out
            rw [Nat.sub_self] at hblk
            have hlo := lo_block (n := k) (by simp) hblk
            obtain ⟨b3, hli⟩ := HR.out.li
            have htl := tk2_length k
            have HLO := Lib.hid hlo
            have HLI := Lib.hid hli
            have HTL := Lib.hid htl
            have hall : ∀ x ∈ List.replicate k tOp ++ List.replicate 0 zOp, OpOk x := by
              intro x hx
              simp at hx
              rw [hx.2]; exact ok_lit (by decide) (by decide) (by decide)
            have hwa : wrA (List.replicate k tOp ++ List.replicate 0 zOp) = some (tk2 k) := by simpa using wrA_ticks k
            have HALL := Lib.hid hall
            have HWA := Lib.hid hwa
            clear hblk hlo hli htl hall hwa
            by_cases hbig : 4096 < 2 * k
            · have d9 : decide ((4096 : Int) < 2 * (k : Int)) = true := by simp; omega
              go_wp2_with fail
              refine (writes_err HLO.out HALL.out (by omega) (.inr ⟨⟨_, HWA.out, by rw [HTL.out]; exact hbig⟩, rfl⟩)).mono ?_
              rintro e w5 ⟨rfl, hF5⟩
              go_wp2_with fail
              refine (known_true _).mono ?_
              rintro e w6 ⟨rfl, hF6⟩
              go_wp2
              go_ret
              exact ⟨rfl, (hF.trans hF5).trans hF6⟩
            · have d9 : decide ((4096 : Int) < 2 * (k : Int)) = false := by simp; omega
              go_wp2_with fail
              refine (writes_ok HLO.out HALL.out (by omega) HWA.out (by rw [HTL.out]; omega) HLI.out).mono ?_
              rintro e w5 ⟨rfl, hF5⟩
              go_wp2_with fail
              refine (known_true _).mono ?_
              rintro e w6 ⟨rfl, hF6⟩
              go_wp2
              go_ret
              exact ⟨rfl, (hF.trans hF5).trans hF6⟩
      · have d5 : decide ((4096 : Int) < (k : Int)) = false := by simp; omega
        have hrp := rparse_any HLI.out HBY.out (by omega) 3 (by omega) (by omega)
        obtain ⟨P, hP⟩ : ∃ P, prs (List.replicate k x) 3 = P := ⟨_, rfl⟩
        obtain ⟨pl, hpl⟩ : ∃ pl, P.length = pl := ⟨_, rfl⟩
        rw [hP, hpl] at hrp
        have HRP := Lib.hid hrp
        have HP := Lib.hid hP
        clear hrp hP hpl
        go_wp2_with fail
        refine HRP.out.mono ?_
        rintro e w1 ⟨a', c', rfl, hF1, hR1⟩
        obtain ⟨b1', hlo⟩ := hR1.lo
        have hps := parses_is (HLI.out.frm0 hF1) HBY.out (by omega) 3 (by decide) HP.out hlo
        have HPS := Lib.hid hps
        clear hps hR1 hlo
        go_wp2_with fail
        refine HPS.out.mono ?_
        rintro e w2 ⟨rfl, hF2⟩
        have HFW : Frm [] w w2 := (hF.trans hF1).trans hF2
        clear hF1 hF2
        have hmk2 := make_op q (by omega)
        obtain ⟨X2, hX2⟩ : ∃ X2, X2 = w2.alloc (.cells (opsC (List.replicate q zOp)).toArray 30) := ⟨_, rfl⟩
        have hg2 : X2.heap[w2.heap.size]? = some (.cells (opsC (List.replicate q zOp)).toArray 30 (0, 0)) := by rw [hX2]; exact heap_alloc_new _ _
        have hF2 : Frm [] w X2 := by rw [hX2]; exact HFW.alloc _
        obtain ⟨g2, hgg⟩ : ∃ g2, w2.heap.size = g2 := ⟨_, rfl⟩
        have hgle : w.heap.size ≤ g2 := by rw [← hgg]; exact HFW.size
        have HX2 := Lib.hid hX2
        have HGG := Lib.hid hgg
        rw [hgg] at hg2
        have HG2 := Lib.hid hg2
        have HF2 := Lib.hid hF2
        clear hX2 hg2 hF2 hgg
        go_wp2_with fail
        rw [← HX2.out, HGG.out]
        clear hmk2
        go_loopw [10, 11, 53] (fun v _ i w' => ∃ (k : Nat) (a' : Option Addr) (c' : Nat), k ≤ q ∧ i = .int .i64 k ∧ v = .slice a' (2 * k : Nat) c' ∧ Frm [] w w' ∧ Hid (RowU w.heap.size w' a' (2 * k) c' (tk2 k)) ∧ Hid (w'.heap[g2]? = some (.cells (opsC (List.replicate k tOp ++ List.replicate (q - k) zOp)).toArray 30 (0, 0)))) (fun _ _ i _ => q - (intOf i).toNat)
        case atStart => exact ⟨0, none, 0, by omega, rfl, rfl, HF2.out, Lib.hid (RowU.nil _ _), Lib.hid (by simpa using HG2.out)⟩
        case round =>
          obtain ⟨k, a', c', hk, rfl, rfl, hF, HR, HB⟩ := hrel
          by_cases hlt : k < q
          · have hb0 : (0 : Int) ≤ (k : Int) := by omega
            have hb1 : (k : Int) < (q : Int) := by omega
            have hblk := HB.out
            rw [fill_op hlt] at hblk
            have hat : OpAt wr g2 (k * 8) zOp := by
              have hlo := lo_block (n := q) (by simp; omega) hblk
              have := hlo.cell k zOp (by rw [List.getElem?_append_right (by simp)]; simp)
              simpa using this
            obtain ⟨z0, z1, z2, z3, z4, z5, z6, z7⟩ := hat
            have hfz : ∀ i, wr.frozen? ⟨g2, i, none⟩ = false := fun i => frozen_of_heap hblk
            have hset := heap_set8 (o := k * 8) hblk (.int .i64 tOp.k) (.int .i64 tOp.t) (.int .i64 tOp.n) (.int .i64 tOp.v) (.string tOp.key) (.string tOp.val) (.string tOp.old) (.int .i64 tOp.tk)
            rw [set_op (x := tOp) (by simp), fill_op2] at hset
            have hFs := frm_set8o (o := k * 8) (v0 := .int .i64 tOp.k) (v1 := .int .i64 tOp.t) (v2 := .int .i64 tOp.n) (v3 := .int .i64 tOp.v) (v4 := .string tOp.key) (v5 := .string tOp.val) (v6 := .string tOp.old) (v7 := .int .i64 tOp.tk) hF hgle
            have hrne := row_ne HR.out hblk (by decide)
            have hRs : RowU w.heap.size ((((((((wr.setCell ⟨g2, k * 8, none⟩ (.int .i64 tOp.k)).setCell ⟨g2, k * 8 + 1, none⟩ (.int .i64 tOp.t)).setCell ⟨g2, k * 8 + 2, none⟩ (.int .i64 tOp.n)).setCell ⟨g2, k * 8 + 3, none⟩ (.int .i64 tOp.v)).setCell ⟨g2, k * 8 + 4, none⟩ (.string tOp.key)).setCell ⟨g2, k * 8 + 5, none⟩ (.string tOp.val)).setCell ⟨g2, k * 8 + 6, none⟩ (.string tOp.old)).setCell ⟨g2, k * 8 + 7, none⟩ (.int .i64 tOp.tk)) a' (2 * k) c' (tk2 k) := by
              have st : ∀ {X : World} (i : Nat) (v : Value), Frm [g2] wr X → Frm [g2] wr (X.setCell ⟨g2, i, none⟩ v) := fun i v h => h.setCell ⟨g2, i, none⟩ v (.inl (by simp))
              exact HR.out.frm (st _ _ (st _ _ (st _ _ (st _ _ (st _ _ (st _ _ (st _ _ (st _ _ (Frm.refl _ _)))))))) ) (fun x hx => by simp; rintro rfl; exact hrne hx)
            have HSET := Lib.hid hset
            have HFS := Lib.hid hFs
            have HRS := Lib.hid hRs
            have hix := ix_op (a := some ⟨g2, 0, none⟩) (n := q) (c := q) (b := g2) (o := 0) (k := k) (fun _ => rfl) hlt
            simp only [Nat.zero_add] at hix
            have htl := tk2_length k
            have HTL := Lib.hid htl
            clear hblk hset hFs hRs htl
            go_wp2_with (at_builtin; refine wpl_appU rfl (.tmp 60) (.tmp 61) rfl (B := w.heap.size) (a := a') (n := 2 * k) (c := c') (m := 2) (l := tk2 k) (l2 := [3, 5]) (by simp [Act.eval]) (by simp [Act.eval]) (HRS.out.frm0 ((Frm.refl _ _).alloc _)) (li_u8 (n := 2) rfl (heap_alloc_new _ _)) (by rw [HTL.out]; omega) (by have := HFS.out.size; simp at *; omega) ?_; intro a3 c3 w3 hR3 hF3)
            have hF4 : Frm [] w w3 := (HFS.out.alloc (.cells #[.int .u8 3, .int .u8 5] 5)).trans_new hF3 (fun j hj => .inr (HR.out.blk j hj).1)
            have hS4 := hF3.heap (heap_alloc_old _ HSET.out) hrne
            have HR3 := Lib.hid hR3
            have HS4 := Lib.hid hS4
            clear hR3 hF3 hS4
            go_wp2
            go_roundw
            case rel => exact ⟨k + 1, a3, c3, by omega, by go_num, by rfl, hF4, HR3, HS4⟩
            case measure => simp [intOf]; omega
          · obtain rfl : k = q := by omega
            have hblk := HB.out
            rw [Nat.sub_self] at hblk
            have hlo := lo_block (n := k) (by simp) hblk
            obtain ⟨b3, hli⟩ := HR.out.li
            have htl := tk2_length k
            have HLO := Lib.hid hlo
            have HLI := Lib.hid hli
            have HTL := Lib.hid htl
            have hall : ∀ x ∈ List.replicate k tOp ++ List.replicate 0 zOp, OpOk x := by
              intro x hx
              simp at hx
              rw [hx.2]; exact ok_lit (by decide) (by decide) (by decide)
            have hwa : wrA (List.replicate k tOp ++ List.replicate 0 zOp) = some (tk2 k) := by simpa using wrA_ticks k
            have HALL := Lib.hid hall
            have HWA := Lib.hid hwa
            clear hblk hlo hli htl hall hwa
            by_cases hbig : 4096 < 2 * k
            · have d9 : decide ((4096 : Int) < 2 * (k : Int)) = true := by simp; omega
              go_wp2_with fail
              refine (writes_err HLO.out HALL.out (by omega) (.inr ⟨⟨_, HWA.out, by rw [HTL.out]; exact hbig⟩, rfl⟩)).mono ?_
              rintro e w5 ⟨rfl, hF5⟩
              go_wp2_with fail
              refine (known_true _).mono ?_
              rintro e w6 ⟨rfl, hF6⟩
              go_wp2
              go_ret
              exact ⟨rfl, (hF.trans hF5).trans hF6⟩
            · have d9 : decide ((4096 : Int) < 2 * (k : Int)) = false := by simp; omega
              go_wp2_with fail
              refine (writes_ok HLO.out HALL.out (by omega) HWA.out (by rw [HTL.out]; omega) HLI.out).mono ?_
              rintro e w5 ⟨rfl, hF5⟩
              go_wp2_with fail
              refine (known_true _).mono ?_
              rintro e w6 ⟨rfl, hF6⟩
              go_wp2
              go_ret
              exact ⟨rfl, (hF.trans hF5).trans hF6⟩

set_option maxHeartbeats 1000000 in
theorem walk_ScriptLongs (m : Int) (_wm : (Lit.int .i64 m).wf = true) (x : Int) (wx : (Lit.int .u8 x).wf = true) (q : Int) (_wq : (Lit.int .i64 q).wf = true) (w : World) :
    Calls Try.prog 6 #[.int .i64 m, .int .u8 x, .int .i64 q] w (Ret (.bool true) (fun w' => Below w.heap.size w w')) := by
  obtain ⟨x0, x1⟩ := u8_bd wx
  by_cases hin : 4094 ≤ m ∧ m ≤ 4098 ∧ 2046 ≤ q ∧ q ≤ 2050
  · obtain ⟨m', rfl⟩ : ∃ n : Nat, m = (n : Int) := ⟨m.toNat, by omega⟩
    obtain ⟨q', rfl⟩ : ∃ n : Nat, q = (n : Int) := ⟨q.toNat, by omega⟩
    exact (longs_walk m' x q' w (by omega) (by omega) (by omega) (by omega) x0 x1).mono fun _ _ hh => ⟨hh.1, bel hh.2⟩
  · have hw : (decide (m < 4094) = true) ∨ (decide (m < 4094) = false ∧ decide (4098 < m) = true) ∨ (decide (m < 4094) = false ∧ decide (4098 < m) = false ∧ decide (q < 2046) = true) ∨ (decide (m < 4094) = false ∧ decide (4098 < m) = false ∧ decide (q < 2046) = false ∧ decide (2050 < q) = true) := by
      simp; omega
    clear hin wx x0 x1
    rcases hw with b0 | ⟨b0, b1⟩ | ⟨b0, b1, b2⟩ | ⟨b0, b1, b2, b3⟩
    all_goals
      go_enter Try.func6, Try.ntmps6
      go_wp2_with fail
      refine (known_true _).mono ?_
      rintro e w6 ⟨rfl, hF6⟩
      go_wp2
      go_ret
      exact ⟨rfl, bel hF6⟩
end Go.Proofs.Ytegoggnocpgoiaa
