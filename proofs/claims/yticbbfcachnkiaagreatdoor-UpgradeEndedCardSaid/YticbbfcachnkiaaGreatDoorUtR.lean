/- Package latch, the state: read. -/
import Derived.Test.YticbbfcachnkiaaGreatDoorUtV
import Derived.Deep.RegionHeld3
namespace Go.Proofs.YticbbfcachnkiaaGreatDoor
open Go.ChangeShapes Go.WideShapes Go.ChangeAt Go.RowKit
set_option linter.unusedVariables false

/-- A number of a word. -/
def nmI (x : Nat) (i : Int) : Int := ((x / 2 ^ (8 * i.toNat) % 256 : Nat) : Int)
theorem nmI_bd (x : Nat) (i : Int) : 0 ≤ nmI x i ∧ nmI x i < 256 := by unfold nmI; omega
theorem u64_and255 (x n : Nat) (hx : x < 18446744073709551616) : Go.bits BinOp.and IntKind.u64 ((x : Int) / 2 ^ n) 255 = ((x / 2 ^ n % 256 : Nat) : Int) := by
  have h0 : ((x : Int) / 2 ^ n) = ((x / 2 ^ n : Nat) : Int) := by simp
  have h1 : x / 2 ^ n < 18446744073709551616 := Nat.lt_of_le_of_lt (Nat.div_le_self _ _) hx
  rw [h0, show (255 : Int) = ((255 : Nat) : Int) from rfl, u64_and_nat _ _ h1 (by decide)]
  have := Nat.and_two_pow_sub_one_eq_mod (x / 2 ^ n) 8
  rw [show (2 : Nat) ^ 8 - 1 = 255 from rfl, show (2 : Nat) ^ 8 = 256 from rfl] at this
  rw [this]
theorem num_any {w : World} {g : Nat} {x : Nat} (hg : w.cell? ⟨g, 1, none⟩ = some (.int .u64 x)) (hx : x < 18446744073709551616) (i : Int) (hi : i = 0 ∨ i = 1 ∨ i = 2 ∨ i = 3 ∨ i = 4 ∨ i = 5) :
    Calls Tryz.prog 105 #[.int .i64 i, .pointer (some ⟨g, 0, none⟩)] w (Ret (.int .i64 (nmI x i)) (fun w' => w = w')) := by
  have hb := fun i => nmI_bd x i
  rcases hi with rfl | rfl | rfl | rfl | rfl | rfl
  · have e : wrap64 (Go.bits BinOp.and IntKind.u64 (x : Int) 255) = nmI x 0 := by
      have h := u64_and255 x 0 hx
      have h2 : ((x : Int) / 2 ^ 0) = (x : Int) := by simp
      rw [h2] at h
      rw [h]
      exact IntWalk.wrap64_in _ (by omega)
    have HE := Lib.hid e
    clear e hb
    go_enter Tryz.func105, Tryz.ntmps105
    go_wp2
    go_ret
    exact ⟨by rw [HE.out]; rfl, rfl⟩
  · have e : wrap64 (Go.bits BinOp.and IntKind.u64 ((x : Int) / 256) 255) = nmI x 1 := by
      have h := u64_and255 x 8 hx
      have h2 : ((x : Int) / 2 ^ 8) = ((x : Int) / 256) := by simp
      rw [h2] at h
      rw [h]
      exact IntWalk.wrap64_in _ (by omega)
    have HE := Lib.hid e
    clear e hb
    go_enter Tryz.func105, Tryz.ntmps105
    go_wp2
    go_ret
    exact ⟨by rw [HE.out]; rfl, rfl⟩
  · have e : wrap64 (Go.bits BinOp.and IntKind.u64 ((x : Int) / 65536) 255) = nmI x 2 := by
      have h := u64_and255 x 16 hx
      have h2 : ((x : Int) / 2 ^ 16) = ((x : Int) / 65536) := by simp
      rw [h2] at h
      rw [h]
      exact IntWalk.wrap64_in _ (by omega)
    have HE := Lib.hid e
    clear e hb
    go_enter Tryz.func105, Tryz.ntmps105
    go_wp2
    go_ret
    exact ⟨by rw [HE.out]; rfl, rfl⟩
  · have e : wrap64 (Go.bits BinOp.and IntKind.u64 ((x : Int) / 16777216) 255) = nmI x 3 := by
      have h := u64_and255 x 24 hx
      have h2 : ((x : Int) / 2 ^ 24) = ((x : Int) / 16777216) := by simp
      rw [h2] at h
      rw [h]
      exact IntWalk.wrap64_in _ (by omega)
    have HE := Lib.hid e
    clear e hb
    go_enter Tryz.func105, Tryz.ntmps105
    go_wp2
    go_ret
    exact ⟨by rw [HE.out]; rfl, rfl⟩
  · have e : wrap64 (Go.bits BinOp.and IntKind.u64 ((x : Int) / 4294967296) 255) = nmI x 4 := by
      have h := u64_and255 x 32 hx
      have h2 : ((x : Int) / 2 ^ 32) = ((x : Int) / 4294967296) := by simp
      rw [h2] at h
      rw [h]
      exact IntWalk.wrap64_in _ (by omega)
    have HE := Lib.hid e
    clear e hb
    go_enter Tryz.func105, Tryz.ntmps105
    go_wp2
    go_ret
    exact ⟨by rw [HE.out]; rfl, rfl⟩
  · have e : wrap64 (Go.bits BinOp.and IntKind.u64 ((x : Int) / 1099511627776) 255) = nmI x 5 := by
      have h := u64_and255 x 40 hx
      have h2 : ((x : Int) / 2 ^ 40) = ((x : Int) / 1099511627776) := by simp
      rw [h2] at h
      rw [h]
      exact IntWalk.wrap64_in _ (by omega)
    have HE := Lib.hid e
    clear e hb
    go_enter Tryz.func105, Tryz.ntmps105
    go_wp2
    go_ret
    exact ⟨by rw [HE.out]; rfl, rfl⟩
/-- What two words say. -/
def rdLS (w0 w1 : Nat) : LS := { sh := w0, up := nmI w1 0 - 1, ex := nmI w1 1 - 1, wa := nmI w1 2 - 1, gr := nmI w1 5, fi := nmI w1 3 - 1, la := nmI w1 4 - 1 }
def rdB (T w0 w1 : Nat) : Bool := decide (w1 < 281474976710656) && (rdLS w0 w1).may T
theorem isL_le {T : Nat} {k : Int} (h : isL T k = true) : 0 ≤ k ∧ k < 2 * T := by simp [isL] at h; omega
theorem may_fi {s : LS} {T : Nat} (h : s.may T = true) : (s.fi = -1 ∧ s.la = -1) ∨ (isL T s.fi = true ∧ isL T s.la = true) := by
  simp [LS.may, LS.mayB, LS.mayC, LS.mayD] at h
  exact h.2.2.2

theorem setCells7 {w : World} {b : Nat} {x0 x1 x2 x3 x4 x5 x6 : Value} {t : TypeId} {f : Nat × Nat} (h : w.heap[b]? = some (.cells #[x0, x1, x2, x3, x4, x5, x6] t f)) (y0 y1 y2 y3 y4 y5 y6 : Value) :
    (((((((w.setCell ⟨b, 0, none⟩ y0).setCell ⟨b, 1, none⟩ y1).setCell ⟨b, 2, none⟩ y2).setCell ⟨b, 3, none⟩ y3).setCell ⟨b, 4, none⟩ y4).setCell ⟨b, 5, none⟩ y5).setCell ⟨b, 6, none⟩ y6).heap[b]? = some (.cells #[y0, y1, y2, y3, y4, y5, y6] t f) := by
  have := heap_setCell_at (i := 6) y6 (heap_setCell_at (i := 5) y5 (heap_setCell_at (i := 4) y4 (heap_setCell_at (i := 3) y3 (heap_setCell_at (i := 2) y2 (heap_setCell_at (i := 1) y1 (heap_setCell_at (i := 0) y0 h))))))
  simpa using this
theorem Frm.set7 {D : List Nat} {a b : World} (h : Frm D a b) (p : Nat) (v0 v1 v2 v3 v4 v5 v6 : Value) (hp : p ∈ D ∨ a.heap.size ≤ p) :
    Frm D a (((((((b.setCell ⟨p, 0, none⟩ v0).setCell ⟨p, 1, none⟩ v1).setCell ⟨p, 2, none⟩ v2).setCell ⟨p, 3, none⟩ v3).setCell ⟨p, 4, none⟩ v4).setCell ⟨p, 5, none⟩ v5).setCell ⟨p, 6, none⟩ v6) :=
  ((((((h.setCell _ v0 hp).setCell _ v1 hp).setCell _ v2 hp).setCell _ v3 hp).setCell _ v4 hp).setCell _ v5 hp).setCell _ v6 hp
theorem cells7 {w : World} {b : Nat} {x0 x1 x2 x3 x4 x5 x6 : Value} {t : TypeId} (h : w.heap[b]? = some (.cells #[x0, x1, x2, x3, x4, x5, x6] t (0, 0))) :
    w.cell? ⟨b, 0, none⟩ = some x0 ∧ w.cell? ⟨b, 1, none⟩ = some x1 ∧ w.cell? ⟨b, 2, none⟩ = some x2 ∧ w.cell? ⟨b, 3, none⟩ = some x3 ∧ w.cell? ⟨b, 4, none⟩ = some x4 ∧ w.cell? ⟨b, 5, none⟩ = some x5 ∧ w.cell? ⟨b, 6, none⟩ = some x6 := by
  refine ⟨?_, ?_, ?_, ?_, ?_, ?_, ?_⟩ <;> rw [cell_of_heap h] <;> rfl
theorem frozen7 {w : World} {b : Nat} {cs : Array Value} {t : TypeId} (h : w.heap[b]? = some (.cells cs t (0, 0))) :
    w.frozen? ⟨b, 0, none⟩ = false ∧ w.frozen? ⟨b, 1, none⟩ = false ∧ w.frozen? ⟨b, 2, none⟩ = false ∧ w.frozen? ⟨b, 3, none⟩ = false ∧ w.frozen? ⟨b, 4, none⟩ = false ∧ w.frozen? ⟨b, 5, none⟩ = false ∧ w.frozen? ⟨b, 6, none⟩ = false :=
  ⟨frozen_of_heap h, frozen_of_heap h, frozen_of_heap h, frozen_of_heap h, frozen_of_heap h, frozen_of_heap h, frozen_of_heap h⟩
section
variable {w : World} {p nb T w0 w1 : Nat}
set_option maxRecDepth 100000 in
set_option maxHeartbeats 4000000 in
theorem read_high (hN : Nd w p nb T) (hW : Laid w) (h0 : w0 < 18446744073709551616) (h1 : w1 < 18446744073709551616) (hx : 281474976710656 ≤ w1) : Calls Tryz.prog 90 #[.pointer (some ⟨p, 0, none⟩), .agg #[.int .u64 w0, .int .u64 w1]] w (Ret (.tuple #[.agg #[.int .u64 0, .int .i64 0, .int .i64 0, .int .i64 0, .int .i64 0, .int .i64 0, .int .i64 0], .int .i64 12]) (fun w' => Frm [] w w')) := by
  have e48 : ((w1 : Int) / 281474976710656 != 0) = true := by simp; omega
  have hf1 : Frm [] w (w.alloc (.cells #[.int .u64 w0, .int .u64 w1] 128)) := (Frm.refl _ _).alloc _
  have hc0 : ∀ w', Frm [] (w.alloc (.cells #[.int .u64 w0, .int .u64 w1] 128)) w' → w'.cell? ⟨w.heap.size, 0, none⟩ = some (.int .u64 w0) := fun w' g => by rw [cell_of_heap (g.heap (heap_alloc_new _ _) (by simp))]; rfl
  have hc1 : ∀ w', Frm [] (w.alloc (.cells #[.int .u64 w0, .int .u64 w1] 128)) w' → w'.cell? ⟨w.heap.size, 1, none⟩ = some (.int .u64 w1) := fun w' g => by rw [cell_of_heap (g.heap (heap_alloc_new _ _) (by simp))]; rfl
  have c0 := hc0 _ ((Frm.refl [] _).alloc (.cells #[.int .u64 0, .int .i64 0, .int .i64 0, .int .i64 0, .int .i64 0, .int .i64 0, .int .i64 0] 130))
  have c1 := hc1 _ ((Frm.refl [] _).alloc (.cells #[.int .u64 0, .int .i64 0, .int .i64 0, .int .i64 0, .int .i64 0, .int .i64 0, .int .i64 0] 130))
  clear hN hW hc0 hc1
  go_enter Tryz.func90, Tryz.ntmps90
  go_wp2_with fail
  exact bodyPost_ret (v := .tuple #[.agg #[.int .u64 0, .int .i64 0, .int .i64 0, .int .i64 0, .int .i64 0, .int .i64 0, .int .i64 0], .int .i64 12]) (by simp [results, Tryz.results90, go_sem]) rfl ⟨rfl, by (repeat' (first | assumption | exact Frm.refl _ _ | apply Frm.drew | apply Frm.drewN | apply Frm.alloc | (refine Frm.setCell ?_ _ _ (.inr (by simp; omega)))))⟩
/-- What read returns. -/
def rdV (T w0 w1 : Nat) : Value := if rdB T w0 w1 = true then .tuple #[.agg #[.int .u64 (rdLS w0 w1).sh, .int .i64 (rdLS w0 w1).up, .int .i64 (rdLS w0 w1).ex, .int .i64 (rdLS w0 w1).wa, .int .i64 (rdLS w0 w1).gr, .int .i64 (rdLS w0 w1).fi, .int .i64 (rdLS w0 w1).la], .int .i64 0] else .tuple #[.agg #[.int .u64 0, .int .i64 0, .int .i64 0, .int .i64 0, .int .i64 0, .int .i64 0, .int .i64 0], .int .i64 12]
theorem rdV_no {T w0 w1 : Nat} (h : rdB T w0 w1 = false) : rdV T w0 w1 = .tuple #[.agg #[.int .u64 0, .int .i64 0, .int .i64 0, .int .i64 0, .int .i64 0, .int .i64 0, .int .i64 0], .int .i64 12] := by simp [rdV, h]
theorem rdV_yes {T w0 w1 : Nat} (h : rdB T w0 w1 = true) : rdV T w0 w1 = .tuple #[.agg #[.int .u64 (rdLS w0 w1).sh, .int .i64 (rdLS w0 w1).up, .int .i64 (rdLS w0 w1).ex, .int .i64 (rdLS w0 w1).wa, .int .i64 (rdLS w0 w1).gr, .int .i64 (rdLS w0 w1).fi, .int .i64 (rdLS w0 w1).la], .int .i64 0] := by simp [rdV, h]
theorem rd_node {T w0 w1 : Nat} (h : 2 * (T : Int) < nmI w1 3 ∨ 2 * (T : Int) < nmI w1 4) : rdB T w0 w1 = false := by
  cases hr : rdB T w0 w1 with
  | false => rfl
  | true =>
    obtain ⟨_, hm⟩ : w1 < 281474976710656 ∧ (rdLS w0 w1).may T = true := by simpa [rdB] using hr
    have e3 : (rdLS w0 w1).fi = nmI w1 3 - 1 := rfl
    have e4 : (rdLS w0 w1).la = nmI w1 4 - 1 := rfl
    rcases may_fi hm with ⟨g, g'⟩ | ⟨g, g'⟩
    · omega
    · have := isL_le g; have := isL_le g'; omega
noncomputable def readT (k : Nat) : Code := dropS k (Tryz.f90.body.getD .skip)
set_option maxRecDepth 1000000 in
set_option maxHeartbeats 4000000 in
theorem readEnd {w W : World} {p nb T w0 w1 r g : Nat} {e3 e4 : Int} (hF : Frm [] w W) (hN : Nd W p nb T) (hW : Laid W) (h0 : w0 < 18446744073709551616) (hr0 : w.heap.size ≤ r)
    (hR : W.heap[r]? = some (.cells #[.int .u64 0, .int .i64 0, .int .i64 0, .int .i64 0, .int .i64 0, .int .i64 0, .int .i64 0] 130 (0, 0)))
    (hB : e3 = 12 ∧ rdB T w0 w1 = false ∨ e3 = 0 ∧ e4 = 12 ∧ rdB T w0 w1 = false ∨ e3 = 0 ∧ e4 = 0 ∧ rdB T w0 w1 = (rdLS w0 w1).may T ∧ g ≠ r ∧ W.heap[g]? = some (.cells #[.int .u64 (rdLS w0 w1).sh, .int .i64 (rdLS w0 w1).up, .int .i64 (rdLS w0 w1).ex, .int .i64 (rdLS w0 w1).wa, .int .i64 (rdLS w0 w1).gr, .int .i64 (rdLS w0 w1).fi, .int .i64 (rdLS w0 w1).la] 130 (0, 0))) (v1 v2 v3 v6 v7 v9 v12 v13 v14 v15 v16 v17 v18 v19 v20 v21 v22 v23 v24 v25 v26 v27 v28 v29 v30 v31 v32 v33 v34 v35 v36 v37 v38 v39 v40 v41 v42 v43 v44 v45 v46 v47 v48 v49 v50 v51 v52 v53 v54 v55 v56 v57 v58 v59 v60 v61 v62 : Value) :
    Code.wp Tryz.prog (readT 6) (bodyPost Tryz.prog Tryz.f90 (Ret (rdV T w0 w1) (fun w' => Frm [] w w'))) ⟨List.toArray (.pointer (some ⟨p, 0, none⟩) :: v1 :: v2 :: v3 :: .pointer (some ⟨r, 0, none⟩) :: .int .i64 0 :: v6 :: v7 :: .int .i64 e3 :: v9 :: .int .i64 e4 :: .pointer (some ⟨g, 0, none⟩) :: v12 :: v13 :: v14 :: v15 :: v16 :: v17 :: v18 :: v19 :: v20 :: v21 :: v22 :: v23 :: v24 :: v25 :: v26 :: v27 :: v28 :: v29 :: v30 :: v31 :: v32 :: v33 :: v34 :: v35 :: v36 :: v37 :: v38 :: v39 :: v40 :: v41 :: v42 :: v43 :: v44 :: v45 :: v46 :: v47 :: v48 :: v49 :: v50 :: v51 :: v52 :: v53 :: v54 :: v55 :: v56 :: v57 :: v58 :: v59 :: v60 :: v61 :: v62 :: []), []⟩ W := by
  have HF := Lib.hid hF
  have HR := Lib.hid hR
  have hrl := lt_of_heap hR
  obtain ⟨z0, z1, z2, z3, z4, z5, z6⟩ := frozen7 hR
  obtain ⟨x0, x1, x2, x3, x4, x5, x6⟩ := cells7 hR
  rcases hB with ⟨rfl, hv⟩ | ⟨rfl, rfl, hv⟩ | ⟨rfl, rfl, hmy, hgr, hS⟩
  · have HV := Lib.hid (rdV_no hv)
    clear hF hN hW hR hv
    conv => arg 2; whnf
    go_wp2_with fail
    rw [HV.out]
    have hq := setCells7 HR.out (.int .u64 0) (.int .i64 0) (.int .i64 0) (.int .i64 0) (.int .i64 0) (.int .i64 0) (.int .i64 0)
    obtain ⟨t0, t1, t2, t3, t4, t5, t6⟩ := cells7 hq
    exact bodyPost_ret (v := .tuple #[.agg #[.int .u64 0, .int .i64 0, .int .i64 0, .int .i64 0, .int .i64 0, .int .i64 0, .int .i64 0], .int .i64 12]) (by simp [results, Tryz.results90, go_sem, t0, t1, t2, t3, t4, t5, t6]) rfl ⟨rfl, HF.out.set7 r _ _ _ _ _ _ _ (.inr hr0)⟩
  · have HV := Lib.hid (rdV_no hv)
    clear hF hN hW hR hv
    conv => arg 2; whnf
    go_wp2_with fail
    rw [HV.out]
    have hq := setCells7 HR.out (.int .u64 0) (.int .i64 0) (.int .i64 0) (.int .i64 0) (.int .i64 0) (.int .i64 0) (.int .i64 0)
    obtain ⟨t0, t1, t2, t3, t4, t5, t6⟩ := cells7 hq
    exact bodyPost_ret (v := .tuple #[.agg #[.int .u64 0, .int .i64 0, .int .i64 0, .int .i64 0, .int .i64 0, .int .i64 0, .int .i64 0], .int .i64 12]) (by simp [results, Tryz.results90, go_sem, t0, t1, t2, t3, t4, t5, t6]) rfl ⟨rfl, HF.out.set7 r _ _ _ _ _ _ _ (.inr hr0)⟩
  · have HMY := Lib.hid (may_any (b := g) (o := 0) (s := rdLS w0 w1) (cells7 hS) hN hW h0)
    have HS := Lib.hid hS
    have hgl := lt_of_heap hS
    cases hm : (rdLS w0 w1).may T with
    | true =>
      rw [hm] at HMY hmy
      have HV := Lib.hid (rdV_yes hmy)
      clear hF hN hW hR hS hmy hm
      conv => arg 2; whnf
      go_wp2_with fail
      refine HMY.out.mono ?_
      rintro e w2 ⟨rfl, g1⟩
      have HF2 := Lib.hid (HF.out.trans g1)
      have hR2 := g1.heap HR.out (by simp)
      have hS2 := g1.heap HS.out (by simp)
      clear z0 z1 z2 z3 z4 z5 z6 x0 x1 x2 x3 x4 x5 x6
      obtain ⟨z0, z1, z2, z3, z4, z5, z6⟩ := frozen7 hR2
      obtain ⟨x0, x1, x2, x3, x4, x5, x6⟩ := cells7 hR2
      obtain ⟨y0, y1, y2, y3, y4, y5, y6⟩ := cells7 hS2
      have hrl2 := lt_of_heap hR2
      have hsl2 := lt_of_heap hS2
      go_wp2
      rw [HV.out]
      have hq := setCells7 hR2 (.int .u64 (rdLS w0 w1).sh) (.int .i64 (rdLS w0 w1).up) (.int .i64 (rdLS w0 w1).ex) (.int .i64 (rdLS w0 w1).wa) (.int .i64 (rdLS w0 w1).gr) (.int .i64 (rdLS w0 w1).fi) (.int .i64 (rdLS w0 w1).la)
      obtain ⟨t0, t1, t2, t3, t4, t5, t6⟩ := cells7 hq
      exact bodyPost_ret (v := .tuple #[.agg #[.int .u64 (rdLS w0 w1).sh, .int .i64 (rdLS w0 w1).up, .int .i64 (rdLS w0 w1).ex, .int .i64 (rdLS w0 w1).wa, .int .i64 (rdLS w0 w1).gr, .int .i64 (rdLS w0 w1).fi, .int .i64 (rdLS w0 w1).la], .int .i64 0]) (by simp [results, Tryz.results90, go_sem, t0, t1, t2, t3, t4, t5, t6]) rfl ⟨rfl, HF2.out.set7 r _ _ _ _ _ _ _ (.inr hr0)⟩
    | false =>
      rw [hm] at HMY hmy
      have HV := Lib.hid (rdV_no hmy)
      clear hF hN hW hR hS hmy hm
      conv => arg 2; whnf
      go_wp2_with fail
      refine HMY.out.mono ?_
      rintro e w2 ⟨rfl, g1⟩
      have HF2 := Lib.hid (HF.out.trans g1)
      have hR2 := g1.heap HR.out (by simp)
      clear z0 z1 z2 z3 z4 z5 z6 x0 x1 x2 x3 x4 x5 x6
      obtain ⟨z0, z1, z2, z3, z4, z5, z6⟩ := frozen7 hR2
      obtain ⟨x0, x1, x2, x3, x4, x5, x6⟩ := cells7 hR2
      have hrl2 := lt_of_heap hR2
      go_wp2
      rw [HV.out]
      have hq := setCells7 hR2 (.int .u64 0) (.int .i64 0) (.int .i64 0) (.int .i64 0) (.int .i64 0) (.int .i64 0) (.int .i64 0)
      obtain ⟨t0, t1, t2, t3, t4, t5, t6⟩ := cells7 hq
      exact bodyPost_ret (v := .tuple #[.agg #[.int .u64 0, .int .i64 0, .int .i64 0, .int .i64 0, .int .i64 0, .int .i64 0, .int .i64 0], .int .i64 12]) (by simp [results, Tryz.results90, go_sem, t0, t1, t2, t3, t4, t5, t6]) rfl ⟨rfl, HF2.out.set7 r _ _ _ _ _ _ _ (.inr hr0)⟩
set_option maxRecDepth 100000 in
set_option maxHeartbeats 8000000 in
theorem read_low (hN : Nd w p nb T) (hW : Laid w) (h0 : w0 < 18446744073709551616) (h1 : w1 < 18446744073709551616) (hx : w1 < 281474976710656) : Calls Tryz.prog 90 #[.pointer (some ⟨p, 0, none⟩), .agg #[.int .u64 w0, .int .u64 w1]] w (Ret (rdV T w0 w1) (fun w' => Frm [] w w')) := by
  have T64 := hN.t64
  have e48 : ((w1 : Int) / 281474976710656 != 0) = false := by simp; omega
  have hrd := @rd_node T w0 w1
  have hmy : rdB T w0 w1 = (rdLS w0 w1).may T := by simp [rdB, hx]
  obtain ⟨n3, h3⟩ : ∃ n : Nat, nmI w1 3 = n := ⟨_, rfl⟩
  obtain ⟨n4, h4⟩ : ∃ n : Nat, nmI w1 4 = n := ⟨_, rfl⟩
  rw [h3, h4] at hrd
  have d0 := nmI_bd w1 0
  have d1 := nmI_bd w1 1
  have d2 := nmI_bd w1 2
  have d3 := nmI_bd w1 3
  have d4 := nmI_bd w1 4
  rw [h3] at d3
  rw [h4] at d4
  have d5 := nmI_bd w1 5
  have r0 : IntKind.i64.wrap (nmI w1 0 - 1) = nmI w1 0 - 1 := IntWalk.i64_in _ (by omega)
  have r1 : IntKind.i64.wrap (nmI w1 1 - 1) = nmI w1 1 - 1 := IntWalk.i64_in _ (by omega)
  have r2 : IntKind.i64.wrap (nmI w1 2 - 1) = nmI w1 2 - 1 := IntWalk.i64_in _ (by omega)
  have HN : Hid (∀ w', Frm [] w w' → Nd w' p nb T) := Lib.hid fun w' g => hN.frm g
  have HW : Hid (∀ w', Frm [] w w' → Laid w') := Lib.hid fun w' g => hW.frm0 g
  have hf1 : Frm [] w (w.alloc (.cells #[.int .u64 w0, .int .u64 w1] 128)) := (Frm.refl _ _).alloc _
  have hc0 : ∀ w', Frm [] (w.alloc (.cells #[.int .u64 w0, .int .u64 w1] 128)) w' → w'.cell? ⟨w.heap.size, 0, none⟩ = some (.int .u64 w0) := fun w' g => by rw [cell_of_heap (g.heap (heap_alloc_new _ _) (by simp))]; rfl
  have hc1 : ∀ w', Frm [] (w.alloc (.cells #[.int .u64 w0, .int .u64 w1] 128)) w' → w'.cell? ⟨w.heap.size, 1, none⟩ = some (.int .u64 w1) := fun w' g => by rw [cell_of_heap (g.heap (heap_alloc_new _ _) (by simp))]; rfl
  have K0 : Hid (∀ w', Frm [] (w.alloc (.cells #[.int .u64 w0, .int .u64 w1] 128)) w' → Calls Tryz.prog 105 #[.int .i64 0, .pointer (some ⟨w.heap.size, 0, none⟩)] w' (Ret (.int .i64 (nmI w1 0)) (fun x => w' = x))) := Lib.hid fun w' g => by exact num_any (hc1 w' g) h1 0 (by decide)
  have K1 : Hid (∀ w', Frm [] (w.alloc (.cells #[.int .u64 w0, .int .u64 w1] 128)) w' → Calls Tryz.prog 105 #[.int .i64 1, .pointer (some ⟨w.heap.size, 0, none⟩)] w' (Ret (.int .i64 (nmI w1 1)) (fun x => w' = x))) := Lib.hid fun w' g => by exact num_any (hc1 w' g) h1 1 (by decide)
  have K2 : Hid (∀ w', Frm [] (w.alloc (.cells #[.int .u64 w0, .int .u64 w1] 128)) w' → Calls Tryz.prog 105 #[.int .i64 2, .pointer (some ⟨w.heap.size, 0, none⟩)] w' (Ret (.int .i64 (nmI w1 2)) (fun x => w' = x))) := Lib.hid fun w' g => by exact num_any (hc1 w' g) h1 2 (by decide)
  have K3 : Hid (∀ w', Frm [] (w.alloc (.cells #[.int .u64 w0, .int .u64 w1] 128)) w' → Calls Tryz.prog 105 #[.int .i64 3, .pointer (some ⟨w.heap.size, 0, none⟩)] w' (Ret (.int .i64 ((n3 : Int))) (fun x => w' = x))) := Lib.hid fun w' g => by rw [← h3]; exact num_any (hc1 w' g) h1 3 (by decide)
  have K4 : Hid (∀ w', Frm [] (w.alloc (.cells #[.int .u64 w0, .int .u64 w1] 128)) w' → Calls Tryz.prog 105 #[.int .i64 4, .pointer (some ⟨w.heap.size, 0, none⟩)] w' (Ret (.int .i64 ((n4 : Int))) (fun x => w' = x))) := Lib.hid fun w' g => by rw [← h4]; exact num_any (hc1 w' g) h1 4 (by decide)
  have K5 : Hid (∀ w', Frm [] (w.alloc (.cells #[.int .u64 w0, .int .u64 w1] 128)) w' → Calls Tryz.prog 105 #[.int .i64 5, .pointer (some ⟨w.heap.size, 0, none⟩)] w' (Ret (.int .i64 (nmI w1 5)) (fun x => w' = x))) := Lib.hid fun w' g => by exact num_any (hc1 w' g) h1 5 (by decide)
  obtain ⟨a3, e3, N3, E3⟩ : ∃ (a e : Int), (∀ w', Frm [] w w' → Calls Tryz.prog 106 #[.pointer (some ⟨p, 0, none⟩), .int .u64 (n3 : Int)] w' (Ret (.tuple #[.int .i64 a, .int .i64 e]) (fun x => w' = x))) ∧ ((e = 0 ∧ a = n3 - 1) ∨ (e = 12 ∧ 2 * (T : Int) < n3)) := by
    by_cases h : n3 ≤ 2 * T
    · exact ⟨_, _, fun w' g => node_yes (hN.frm g) n3 h, .inl ⟨rfl, rfl⟩⟩
    · exact ⟨_, _, fun w' g => node_no (hN.frm g) n3 (by omega), .inr ⟨rfl, by omega⟩⟩
  obtain ⟨a4, e4, N4, E4⟩ : ∃ (a e : Int), (∀ w', Frm [] w w' → Calls Tryz.prog 106 #[.pointer (some ⟨p, 0, none⟩), .int .u64 (n4 : Int)] w' (Ret (.tuple #[.int .i64 a, .int .i64 e]) (fun x => w' = x))) ∧ ((e = 0 ∧ a = n4 - 1) ∨ (e = 12 ∧ 2 * (T : Int) < n4)) := by
    by_cases h : n4 ≤ 2 * T
    · exact ⟨_, _, fun w' g => node_yes (hN.frm g) n4 h, .inl ⟨rfl, rfl⟩⟩
    · exact ⟨_, _, fun w' g => node_no (hN.frm g) n4 (by omega), .inr ⟨rfl, by omega⟩⟩
  have HN3 := Lib.hid N3
  have HN4 := Lib.hid N4
  have HRD := Lib.hid hrd
  have HMY := Lib.hid hmy
  have HE3 := Lib.hid E3
  have HE4 := Lib.hid E4
  have H3 := Lib.hid h3
  have H4 := Lib.hid h4
  clear hN hW hc1 N3 N4 hrd hmy E3 E4 h3 h4
  go_enter Tryz.func90, Tryz.ntmps90
  go_wp2_with fail
  refine (K3.out _ ((Frm.refl [] _).alloc _)).mono ?_
  rintro e w2 ⟨rfl, rfl⟩
  go_wp2_with fail
  refine (HN3.out _ (hf1.alloc _)).mono ?_
  rintro e w2 ⟨rfl, rfl⟩
  go_wp2_with fail
  refine (K4.out _ ((Frm.refl [] _).alloc _)).mono ?_
  rintro e w2 ⟨rfl, rfl⟩
  go_wp2_with fail
  refine (HN4.out _ (hf1.alloc _)).mono ?_
  rintro e w2 ⟨rfl, rfl⟩
  go_wp2_with fail
  rename_i K hK
  have HK := Lib.hid hK
  clear hK
  go_region_held3 (fun w' => Frm [] (w.alloc (.cells #[.int .u64 w0, .int .u64 w1] 128)) w') (repeat' (first | assumption | exact Frm.refl _ _ | apply Frm.drew | apply Frm.drewN | apply Frm.alloc)) (first
    | (go_at_call 105; (with_reducible refine (K0.out _ (by assumption)).mono ?_); rintro e w2 ⟨rfl, rfl⟩)
    | (go_at_call 105; (with_reducible refine (K1.out _ (by assumption)).mono ?_); rintro e w2 ⟨rfl, rfl⟩)
    | (go_at_call 105; (with_reducible refine (K2.out _ (by assumption)).mono ?_); rintro e w2 ⟨rfl, rfl⟩)
    | (go_at_call 105; (with_reducible refine (K5.out _ (by assumption)).mono ?_); rintro e w2 ⟨rfl, rfl⟩))
  all_goals
    have gZ : ((((w.alloc (.cells #[.int .u64 w0, .int .u64 w1] 128)).alloc (.cells #[.int .u64 0, .int .i64 0, .int .i64 0, .int .i64 0, .int .i64 0, .int .i64 0, .int .i64 0] 130)).alloc (.cells #[.int .u64 w0, .int .i64 (nmI w1 0 - 1), .int .i64 (nmI w1 1 - 1), .int .i64 (nmI w1 2 - 1), .int .i64 (nmI w1 5), .int .i64 a3, .int .i64 a4] 130)).drew).heap[w.heap.size + 1]? = some (.cells #[.int .u64 0, .int .i64 0, .int .i64 0, .int .i64 0, .int .i64 0, .int .i64 0, .int .i64 0] 130 (0, 0)) := heap_alloc_old _ (heap_alloc_at _ (by simp))
    have gS : ((((w.alloc (.cells #[.int .u64 w0, .int .u64 w1] 128)).alloc (.cells #[.int .u64 0, .int .i64 0, .int .i64 0, .int .i64 0, .int .i64 0, .int .i64 0, .int .i64 0] 130)).alloc (.cells #[.int .u64 w0, .int .i64 (nmI w1 0 - 1), .int .i64 (nmI w1 1 - 1), .int .i64 (nmI w1 2 - 1), .int .i64 (nmI w1 5), .int .i64 a3, .int .i64 a4] 130)).drew).heap[w.heap.size + 1 + 1]? = some (.cells #[.int .u64 w0, .int .i64 (nmI w1 0 - 1), .int .i64 (nmI w1 1 - 1), .int .i64 (nmI w1 2 - 1), .int .i64 (nmI w1 5), .int .i64 a3, .int .i64 a4] 130 (0, 0)) := heap_alloc_at _ (by simp)
    have gF : Frm [] w ((((w.alloc (.cells #[.int .u64 w0, .int .u64 w1] 128)).alloc (.cells #[.int .u64 0, .int .i64 0, .int .i64 0, .int .i64 0, .int .i64 0, .int .i64 0, .int .i64 0] 130)).alloc (.cells #[.int .u64 w0, .int .i64 (nmI w1 0 - 1), .int .i64 (nmI w1 1 - 1), .int .i64 (nmI w1 2 - 1), .int .i64 (nmI w1 5), .int .i64 a3, .int .i64 a4] 130)).drew) := ((hf1.alloc _).alloc _).drew
    generalize ((((w.alloc (.cells #[.int .u64 w0, .int .u64 w1] 128)).alloc (.cells #[.int .u64 0, .int .i64 0, .int .i64 0, .int .i64 0, .int .i64 0, .int .i64 0, .int .i64 0] 130)).alloc (.cells #[.int .u64 w0, .int .i64 (nmI w1 0 - 1), .int .i64 (nmI w1 1 - 1), .int .i64 (nmI w1 2 - 1), .int .i64 (nmI w1 5), .int .i64 a3, .int .i64 a4] 130)).drew) = Y at gZ gS gF ⊢
    refine HK.out _ _ ?_
    exact readEnd (r := w.heap.size + 1) (g := w.heap.size + 1 + 1) gF (HN.out _ gF) (HW.out _ gF) h0 (by simp) gZ (by
      rcases HE3.out with ⟨e, rfl⟩ | ⟨e, h⟩
      · rcases HE4.out with ⟨e', rfl⟩ | ⟨e', h⟩
        · refine .inr (.inr ⟨e, e', HMY.out, by simp, ?_⟩)
          rw [gS]
          have q3 : (rdLS w0 w1).fi = n3 - 1 := by show nmI w1 3 - 1 = _; rw [H3.out]
          have q4 : (rdLS w0 w1).la = n4 - 1 := by show nmI w1 4 - 1 = _; rw [H4.out]
          rw [q3, q4]; rfl
        · exact .inr (.inl ⟨e, e', HRD.out (.inr h)⟩)
      · exact .inl ⟨e, HRD.out (.inl h)⟩) _ _ _ _ _ _ _ _ _ _ _ _ _ _ _ _ _ _ _ _ _ _ _ _ _ _ _ _ _ _ _ _ _ _ _ _ _ _ _ _ _ _ _ _ _ _ _ _ _ _ _ _ _ _ _ _ _
theorem read_any (hN : Nd w p nb T) (hW : Laid w) (h0 : w0 < 18446744073709551616) (h1 : w1 < 18446744073709551616) :
    Calls Tryz.prog 90 #[.pointer (some ⟨p, 0, none⟩), .agg #[.int .u64 w0, .int .u64 w1]] w (Ret (rdV T w0 w1) (fun w' => Frm [] w w')) := by
  by_cases hx : w1 < 281474976710656
  · exact read_low hN hW h0 h1 hx
  · rw [rdV_no (by simp [rdB]; omega)]
    exact read_high hN hW h0 h1 (by omega)
end
#print axioms read_any
end Go.Proofs.YticbbfcachnkiaaGreatDoor
