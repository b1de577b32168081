/- Package latch: storing, stored (by gen_luc.py). -/
import Derived.Test.YticbbfcachnkiaaGreatDoorUuB
namespace Go.Proofs.YticbbfcachnkiaaGreatDoor
open Go.ChangeShapes Go.WideShapes Go.ChangeAt Go.RowKit
set_option linter.unusedVariables false
set_option linter.unusedSimpArgs false

/-- A call that leaves the world. -/
def Qs (f : FuncId) (args : Array Value) (v : Value) (w : World) : Prop := ∀ n, Calls Tryz.prog f args (w.drewN n) fun e w'' => e = .returned v ∧ w'' = w.drewN n
theorem Qs.of {f : FuncId} {args : Array Value} {v : Value} {w : World} (h : ∀ w', Frm [] w w' → Calls Tryz.prog f args w' (Ret v (fun x => w' = x))) : Qs f args v w :=
  fun n => (h (w.drewN n) ((Frm.refl _ _).drewN n)).mono fun _ _ hh => ⟨hh.1, hh.2.symm⟩
theorem Qs.add {f : FuncId} {args : Array Value} {v : Value} {w : World} (h : Qs f args v w) (a n : Nat) : Calls Tryz.prog f args (w.drewN (a + n)) fun e w'' => e = .returned v ∧ ∃ m, w'' = w.drewN (a + m) :=
  (h (a + n)).mono fun _ _ ⟨he, hm⟩ => ⟨he, n, hm⟩
/-- Which word the next step stores, and what. -/
inductive StW (m : Mv) : Nat → Int → Prop
  | md (h : m.nx = 4) : StW m (mdW m.nb (2 * m.t + 1)) m.md
  | cl (h : m.nx = 5) : StW m (nxW m.nb (2 * m.t + 1)) 0
  | wt (h : m.nx = 6) : StW m (wtW m.nb (2 * m.t + 1)) 1
  | ln (l : Nat) (h : m.nx = 7) (hl : m.s.la = l) : StW m (nxW m.nb l) (m.nd + 1)
  | bi (h : m.nx = 10) : StW m (m.wd + 1) m.s.sh
  | st (h : m.nx = 11) : StW m (m.wd + 2) m.s.w1
  | wk (k : Nat) (r : List Int) (h : m.nx = 12) (hk : m.wk = (k : Int) :: r) : StW m (wtW m.nb k) 0
namespace Mv
/-- What is next when the word is stored. -/
def stored (m : Mv) : Mv := if m.nx = 4 then { m with nx := 5 } else if m.nx = 5 then { m with nx := 6 } else if m.nx = 6 then m.park else if m.nx = 7 then m.standLast
  else if m.nx = 10 then { m with s0 := m.s.sh }.finish else if m.nx = 11 then { m with s1 := m.s.w1 }.finish else { m with wk := m.wk.tail }.finish
theorem nd_nat (m : Mv) : m.nd = ((2 * m.t + 1 : Nat) : Int) := by unfold nd; omega
end Mv
section
variable {w : World} {q T qe ql : Nat} {a : Option Addr} {n c : Nat} {m : Mv}
theorem node_q2 (h : MvAt w q T qe ql a n c m) : Qt 164 #[.pointer (some ⟨q, 0, none⟩)] (.int .i64 m.nd) w := fun k =>
  (node_any (h.drewN k)).mono fun e w' ⟨j, he, hw⟩ => ⟨he, k + j, by rw [hw]; exact World.drewN_drewN _ _ _⟩
theorem cut_int {a : Option Addr} {n c b o : Nat} {l : List Int} (hL : Li .i64 w a n c b o l) (hn : 1 ≤ n) :
    ∃ a', (∀ W : World, (Instr.sliceAt 48 (.slice a n c) (some (.int .i64 1)) none none).run Tryz.prog W = .ok (.slice a' (n - 1 : Nat) (c - 1 : Nat)) W) ∧ Li .i64 w a' (n - 1) (c - 1) b (o + 1) l.tail ∧ ∀ x ∈ blk (.slice a' (n - 1) (c - 1)), x ∈ blk (.slice a n c) := by
  have hc := hL.cap
  have ha := hL.ad (by omega)
  subst ha
  refine ⟨if c = 1 then some ⟨b, o, none⟩ else some ⟨b, o + 1, none⟩, fun W => ?_, ?_, ?_⟩
  · have h1 : (1 : Int) ≤ (n : Int) := by omega
    simp [go_sem, h1, Addr.add]
  · have hD := hL.drop hn
    rw [List.drop_one] at hD
    refine ⟨hD.len, fun hp => ?_, hD.cell, hD.cap⟩
    rw [if_neg (by omega)]
  · intro x hx
    split at hx <;> simpa [blk] using hx
/-- The slice of who is woken. -/
structure WkA (B : Nat) (w : World) (a : Option Addr) (n c : Nat) (m : Mv) : Prop where
  li : ∃ gb go, Li .i64 w a n c gb go m.wk ∧ ∀ x ∈ blk (.slice a n c), x = gb
  own : ∀ x ∈ blk (.slice a n c), B ≤ x ∧ ∃ cs, w.heap[x]? = some (.cells cs 3 (0, 0))
  row : m.nx ≤ 3 ∧ m.nx ≠ 0 ∨ m.nx = 8 ∨ m.nx = 9 → Row .i64 3 B w a n c m.wk
theorem WkA.frm {B : Nat} {D : List Nat} {w' : World} (h : WkA B w a n c m) (hf : Frm D w w') (hd : ∀ x ∈ blk (.slice a n c), x ∉ D) : WkA B w' a n c m := by
  obtain ⟨⟨gb, go, hL, hx⟩, ho, hr⟩ := h
  refine ⟨⟨gb, go, hL.frm hf fun hn => ?_, hx⟩, fun x hx => ?_, fun e => (hr e).frm hf hd⟩
  · have := hL.ad hn
    subst this
    exact hd gb (by simp [blk])
  · obtain ⟨h1, cs, h2⟩ := ho x hx
    exact ⟨h1, cs, hf.heap h2 (hd x hx)⟩
theorem WkA.len {B : Nat} (h : WkA B w a n c m) : n = m.wk.length := by
  obtain ⟨⟨gb, go, hL, _⟩, _, _⟩ := h; exact hL.len.symm
theorem WkA.ne {B : Nat} (h : WkA B w a n c m) (hM : MvAt w q T qe ql a n c m) : q ∉ blk (.slice a n c) := by
  intro hx
  obtain ⟨_, cs, hc⟩ := h.own q hx
  have := hM.obj.symm.trans hc
  simp at this
theorem WkA.of_row {B : Nat} (h : Row .i64 3 B w a n c m.wk) : WkA B w a n c m := by
  obtain ⟨gb, hL⟩ := h.li
  by_cases hn : 0 < n
  · obtain ⟨g, cs, rfl, hB, hc, _⟩ := h.block hn
    have e := hL.ad hn
    cases e
    exact ⟨⟨_, 0, hL, fun x hx => by simpa [blk] using hx⟩, fun x hx => by simp [blk] at hx; subst hx; exact ⟨hB, cs, hc⟩, fun _ => h⟩
  · have hb := h.blk
    rcases h.1.2 with ⟨hv, _⟩ | ⟨g, cap, cur, hv, hg, hc, _⟩
    · cases hv
      exact ⟨⟨gb, 0, hL, fun x hx => by simp [blk] at hx⟩, fun x hx => by simp [blk] at hx, fun _ => h⟩
    · cases hv
      refine ⟨⟨g, 0, ⟨hL.len, fun _ => rfl, fun i x hx => ?_, hL.cap⟩, fun x hx => by simpa [blk] using hx⟩, fun x hx => by simp [blk] at hx; subst hx; exact ⟨hg, cur, hc⟩, fun _ => h⟩
      have := (List.getElem?_eq_some_iff.1 hx).1
      have := hL.len
      omega
theorem WkA.nx {B : Nat} (h : WkA B w a n c m) {m' : Mv} (hw : m'.wk = m.wk) (hn : (m'.nx ≤ 3 ∧ m'.nx ≠ 0 ∨ m'.nx = 8 ∨ m'.nx = 9) → (m.nx ≤ 3 ∧ m.nx ≠ 0 ∨ m.nx = 8 ∨ m.nx = 9)) : WkA B w a n c m' :=
  ⟨by rw [hw]; exact h.li, h.own, fun e => by rw [hw]; exact h.row (hn e)⟩
theorem wr_wd {n x : Nat} (k : Int) (hx : (x : Int) = (n : Int) + k) (h : x < 65537) : IntKind.i64.wrap ((n : Int) + k) = (x : Int) ∧ (n : Int) + k = (x : Int) ∧ IntKind.i64.wrap (x : Int) = (x : Int) := by
  rw [IntWalk.i64_in ((n : Int) + k) (by omega), IntWalk.i64_in (x : Int) (by omega)]; exact ⟨hx.symm, hx.symm, rfl⟩
noncomputable def stoT (k : Nat) : Code := dropS k (Tryz.f171.body.getD .skip)
noncomputable def strT (k : Nat) : Code := dropS k (Tryz.f172.body.getD .skip)
set_option maxRecDepth 1000000 in
set_option maxHeartbeats 4000000 in
theorem stoEnd {W : World} {g x : Nat} {v : Int} (hF : Frm [] w W) (h : MvAt W q T qe ql a n c m) (fit : m.nb + 6 * T ≤ 65536) (hs : StW m x v) (hmd : 1 ≤ m.md ∧ m.md ≤ 3 ∨ m.k = 1) (hk1 : m.nx = 4 → m.k ≠ 1) (hla : m.s.la < 2 * T) (hwk : ∀ y ∈ m.wk, 0 ≤ y ∧ y < 2 * T) (gb go : Nat) (hL : Li .i64 W a n c gb go m.wk)
    (hg : W.heap[g]? = some (.cells #[.int .u64 (m.s.sh : Int), .int .u64 m.s.w1] 128 (0, 0))) (v1 v5 v6 v7 v8 v9 v10 v11 v12 v13 v14 v15 v16 v17 v18 v19 v20 v21 v22 v23 v24 v25 v26 v27 v28 v29 v30 v31 v32 v33 v34 v35 v36 v37 v38 v39 v40 v41 v42 v43 v44 v45 v46 v47 v48 v49 v50 v51 v52 v53 v54 v55 v56 v57 v58 v59 v60 v61 v62 v63 v64 v65 v66 v67 v68 v69 v70 v71 v72 v73 v74 v75 v76 v77 v78 v79 v80 v81 v82 v83 v84 v85 v86 v87 v88 v89 v90 v91 v92 v93 v94 v95 : Value) :
    Code.wp Tryz.prog (stoT 2) (bodyPost Tryz.prog Tryz.f171 (Ret (.tuple #[.int .i64 (x : Int), .int .u64 v]) (fun w' => Frm [] w w'))) ⟨List.toArray (.pointer (some ⟨q, 0, none⟩) :: v1 :: .int .i64 0 :: .int .u64 0 :: .pointer (some ⟨g, 0, none⟩) :: v5 :: v6 :: v7 :: v8 :: v9 :: v10 :: v11 :: v12 :: v13 :: v14 :: v15 :: v16 :: v17 :: v18 :: v19 :: v20 :: v21 :: v22 :: v23 :: v24 :: v25 :: v26 :: v27 :: v28 :: v29 :: v30 :: v31 :: v32 :: v33 :: v34 :: v35 :: v36 :: v37 :: v38 :: v39 :: v40 :: v41 :: v42 :: v43 :: v44 :: v45 :: v46 :: v47 :: v48 :: v49 :: v50 :: v51 :: v52 :: v53 :: v54 :: v55 :: v56 :: v57 :: v58 :: v59 :: v60 :: v61 :: v62 :: v63 :: v64 :: v65 :: v66 :: v67 :: v68 :: v69 :: v70 :: v71 :: v72 :: v73 :: v74 :: v75 :: v76 :: v77 :: v78 :: v79 :: v80 :: v81 :: v82 :: v83 :: v84 :: v85 :: v86 :: v87 :: v88 :: v89 :: v90 :: v91 :: v92 :: v93 :: v94 :: v95 :: []), []⟩ W := by
  have HF := Lib.hid hF
  have HM := Lib.hid h
  have HND := Lib.hid (node_q2 h)
  have hnd := m.nd_nat
  have htT := h.tT
  have T64 := h.t64
  obtain ⟨c0, c1, c2, c3, c4, c5, c6, c7, c8, c9, c10, c11, c12, c13, c14, c15, c16, c17, c18, c19, c20, c21⟩ := h.cells
  obtain ⟨y0, y1⟩ := cells2 hg
  have hbl := h.lt
  have hgl := lt_of_heap hg
  clear hF
  cases hs
  case md hn =>
    have H1 : Hid (Qt 124 #[.pointer (some ⟨q, 0, none⟩), .int .i64 m.nd] (.int .i64 ((mdW m.nb (2 * m.t + 1) : Nat) : Int)) W) := Lib.hid (Qt.of fun w' hf => by rw [hnd]; exact mode_w (h.nd.frm hf) fit _ (by omega))
    have hb : 1 ≤ m.md ∧ m.md ≤ 3 := by have := hk1 hn; rcases hmd with hm | hm; exact hm; exact absurd hm this
    obtain ⟨hb1, hb2⟩ := hb
    rw [hn] at c6
    clear h hg hnd hL hmd hk1 hn
    conv => arg 2; whnf
    go_wp2_with fail
    go_quiet (first | (go_at_call 164; with_reducible exact HND.out.at_ _) | (go_at_call 124; with_reducible exact H1.out.at_ _))
    go_wp2
    go_ret2
    exact ⟨rfl, HF.out.drewN _⟩
  case cl hn =>
    have H1 : Hid (Qt 120 #[.pointer (some ⟨q, 0, none⟩), .int .i64 m.nd] (.int .i64 ((nxW m.nb (2 * m.t + 1) : Nat) : Int)) W) := Lib.hid (Qt.of fun w' hf => by rw [hnd]; exact next_w (h.nd.frm hf) fit _ (by omega))
    rw [hn] at c6
    clear h hg hnd hL hmd hk1 hn
    conv => arg 2; whnf
    go_wp2_with fail
    go_quiet (first | (go_at_call 164; with_reducible exact HND.out.at_ _) | (go_at_call 120; with_reducible exact H1.out.at_ _))
    go_wp2
    go_ret2
    exact ⟨rfl, HF.out.drewN _⟩
  case wt hn =>
    have H1 : Hid (Qt 163 #[.pointer (some ⟨q, 0, none⟩), .int .i64 m.nd] (.int .i64 ((wtW m.nb (2 * m.t + 1) : Nat) : Int)) W) := Lib.hid (Qt.of fun w' hf => by rw [hnd]; exact wait_w (h.nd.frm hf) fit _ (by omega))
    rw [hn] at c6
    clear h hg hnd hL hmd hk1 hn
    conv => arg 2; whnf
    go_wp2_with fail
    go_quiet (first | (go_at_call 164; with_reducible exact HND.out.at_ _) | (go_at_call 163; with_reducible exact H1.out.at_ _))
    go_wp2
    go_ret2
    exact ⟨rfl, HF.out.drewN _⟩
  case ln l hn hl =>
    have H1 : Hid (Qt 180 #[.pointer (some ⟨q, 0, none⟩), .int .i64 m.nd] (.tuple #[.int .u64 (m.nd + 1), .int .i64 0]) W) := Lib.hid (Qt.of fun w' hf => by rw [hnd]; exact ref_yes (h.nd.frm hf) _ (by omega))
    have HH2 : Hid (Qs 120 #[.pointer (some ⟨q, 0, none⟩), .int .i64 m.s.la] (.int .i64 ((nxW m.nb l : Nat) : Int)) W) := Lib.hid (Qs.of fun w' hf => by rw [hl]; exact next_w (h.nd.frm hf) fit _ (by omega))
    rw [hn] at c6
    clear h hg hnd hL hmd hk1 hn hl
    conv => arg 2; whnf
    go_wp2_with fail
    go_quiet (first | (go_at_call 164; with_reducible exact HND.out.at_ _) | (go_at_call 180; with_reducible exact H1.out.at_ _))
    go_wp2_with fail
    go_quiet ((go_at_call 120; with_reducible exact HH2.out.add _ _))
    go_wp2
    go_ret2
    exact ⟨rfl, (HF.out.drewN _).drewN _⟩
  case bi hn =>
    obtain ⟨xw, hxw⟩ : ∃ xw, xw = m.wd + 1 := ⟨_, rfl⟩
    rw [← hxw]
    obtain ⟨hwa, hwb, hwc⟩ := wr_wd (n := m.wd) (x := xw) 1 (by omega) (by have := h.wdf; omega)
    clear hxw
    rw [hn] at c6
    clear h hg hnd hL hmd hk1 hn
    conv => arg 2; whnf
    go_wp2_with fail
    go_quiet (fail)
    go_wp2
    go_ret2
    exact ⟨rfl, HF.out.drewN _⟩
  case st hn =>
    obtain ⟨xw, hxw⟩ : ∃ xw, xw = m.wd + 2 := ⟨_, rfl⟩
    rw [← hxw]
    obtain ⟨hwa, hwb, hwc⟩ := wr_wd (n := m.wd) (x := xw) 2 (by omega) (by have := h.wdf; omega)
    clear hxw
    rw [hn] at c6
    clear h hg hnd hL hmd hk1 hn
    conv => arg 2; whnf
    go_wp2_with fail
    go_quiet (fail)
    go_wp2
    go_ret2
    exact ⟨rfl, HF.out.drewN _⟩
  case wk k r hn hk =>
    have hn0 : 0 < n := by have := hL.len; rw [hk] at this; simp at this; omega
    have hcl := hL.cell 0 (k : Int) (by rw [hk]; rfl)
    have hkT : k < 2 * T := by have := hwk (k : Int) (by rw [hk]; simp); omega
    have ha := hL.ad hn0
    subst ha
    have H1 : Hid (Qt 163 #[.pointer (some ⟨q, 0, none⟩), .int .i64 (k : Int)] (.int .i64 ((wtW m.nb k : Nat) : Int)) W) := Lib.hid (Qt.of fun w' hf => wait_w (h.nd.frm hf) fit _ hkT)
    simp only [Nat.add_zero] at hcl
    have hgb := World.block_lt_of_cell? W _ hcl
    rw [hn] at c6
    clear h hg hnd hL hmd hk1 hn hk hwk
    conv => arg 2; whnf
    go_wp2_with fail
    go_quiet (first | (go_at_call 163; with_reducible exact H1.out.at_ _))
    go_wp2
    go_ret2
    exact ⟨rfl, HF.out.drewN _⟩
set_option maxRecDepth 1000000 in
set_option maxHeartbeats 4000000 in
theorem storing_any {x : Nat} {v : Int} (h : MvAt w q T qe ql a n c m) (hg : Gd T m.s) (fit : m.nb + 6 * T ≤ 65536) (hs : StW m x v) (hmd : 1 ≤ m.md ∧ m.md ≤ 3 ∨ m.k = 1) (hk1 : m.nx = 4 → m.k ≠ 1) (hwk : ∀ y ∈ m.wk, 0 ≤ y ∧ y < 2 * T) (gb go : Nat) (hL : Li .i64 w a n c gb go m.wk) :
    Calls Tryz.prog 171 #[.pointer (some ⟨q, 0, none⟩)] w (Ret (.tuple #[.int .i64 (x : Int), .int .u64 v]) (fun w' => Frm [] w w')) := by
  have HM : Hid (∀ w', Frm [] w w' → MvAt w' q T qe ql a n c m) := Lib.hid fun w' hf => h.frm hf (by simp)
  have HW : Hid (∀ w', Frm [] w w' → Calls Tryz.prog 179 #[.pointer (some ⟨q, 11, none⟩), .pointer (some ⟨q, 0, none⟩)] w' (Ret (.agg #[.int .u64 m.s.sh, .int .u64 m.s.w1]) (fun x => Frm [] w' x))) := Lib.hid fun w' hf => words_any (h.st.frm hf (by simp)) (h.nd.frm hf) (hg.fit h.t64) hg.fi.2 hg.la.2
  have hz : ∀ w', Frm [] (w.alloc (.cells #[.int .u64 0, .int .u64 0] 128)) w' → (w'.cell? ⟨w.heap.size, 0, none⟩ = some (.int .u64 0) ∧ w'.cell? ⟨w.heap.size, 1, none⟩ = some (.int .u64 0)) ∧ w'.frozen? ⟨w.heap.size, 0, none⟩ = false ∧ w'.frozen? ⟨w.heap.size, 1, none⟩ = false ∧ w.heap.size < w'.heap.size := fun w' hf => by
    have := hf.heap (heap_alloc_new _ _) (by simp)
    exact ⟨cells2 this, frozen_of_heap this, frozen_of_heap this, lt_of_heap this⟩
  have HZ := Lib.hid hz
  have hbl := h.lt
  clear h hz
  go_enter Tryz.func171, Tryz.ntmps171
  refine wp_seq_k ?_
  intro K hK
  have HK := Lib.hid hK
  clear hK
  go_wp2_with fail
  refine HK.out _ _ ?_
  clear HK K
  refine wp_seq_k ?_
  intro K hK
  have HK := Lib.hid hK
  clear hK
  go_region_held3 (fun w' => Frm [] w w') (repeat' (first | assumption | exact Frm.refl _ _ | apply Frm.drew | apply Frm.drewN | apply Frm.alloc | (refine Frm.setCell ?_ _ _ (.inr (Nat.le_refl _))) | (refine Frm.trans ?_ g1))) ((go_at_call 179; (with_reducible refine (HW.out _ (by assumption)).mono ?_); rintro e w1 ⟨rfl, g1⟩; first | (have g2 : Frm [] (w.alloc (.cells #[.int .u64 0, .int .u64 0] 128)) w1 := (Frm.refl [] (w.alloc (.cells #[.int .u64 0, .int .u64 0] 128))).drew.trans g1; obtain ⟨⟨t0, t1⟩, u0, u1, tl⟩ := HZ.out _ g2) | (have g2 : Frm [] (w.alloc (.cells #[.int .u64 0, .int .u64 0] 128)) w1 := g1; obtain ⟨⟨t0, t1⟩, u0, u1, tl⟩ := HZ.out _ g2) | skip))
  · have hF : Frm [] w (w1.alloc (.cells #[.int .u64 (m.s.sh : Int), .int .u64 m.s.w1] 128)) := by assumption
    refine HK.out _ _ ?_
    exact stoEnd (g := w1.heap.size) hF (HM.out _ hF) fit hs hmd hk1 hg.la.2 hwk gb go (hL.frm0 hF) (heap_alloc_new _ _) _ _ _ _ _ _ _ _ _ _ _ _ _ _ _ _ _ _ _ _ _ _ _ _ _ _ _ _ _ _ _ _ _ _ _ _ _ _ _ _ _ _ _ _ _ _ _ _ _ _ _ _ _ _ _ _ _ _ _ _ _ _ _ _ _ _ _ _ _ _ _ _ _ _ _ _ _ _ _ _ _ _ _ _ _ _ _ _ _ _ _ _
  · have hF : Frm [] w ((w1.setCell ⟨w.heap.size, 0, none⟩ (.int .u64 (m.s.sh : Int))).setCell ⟨w.heap.size, 1, none⟩ (.int .u64 m.s.w1)) := (((((Frm.refl [] w).alloc _).trans g2).setCell _ _ (.inr (Nat.le_refl _))).setCell _ _ (.inr (Nat.le_refl _)))
    have hB := g2.heap (heap_alloc_new _ _) (by simp)
    refine HK.out _ _ ?_
    exact stoEnd (g := w.heap.size) hF (HM.out _ hF) fit hs hmd hk1 hg.la.2 hwk gb go (hL.frm0 hF) (heap_setCell_at (i := 1) _ (heap_setCell_at (i := 0) _ hB)) _ _ _ _ _ _ _ _ _ _ _ _ _ _ _ _ _ _ _ _ _ _ _ _ _ _ _ _ _ _ _ _ _ _ _ _ _ _ _ _ _ _ _ _ _ _ _ _ _ _ _ _ _ _ _ _ _ _ _ _ _ _ _ _ _ _ _ _ _ _ _ _ _ _ _ _ _ _ _ _ _ _ _ _ _ _ _ _ _ _ _ _
theorem Mv.fin_cases (m : Mv) : m.fin = 10 ∨ m.fin = 11 ∨ m.fin = 12 ∨ m.fin = 13 := by unfold Mv.fin; split; simp; split; simp; split <;> simp
theorem Mv.fin_nx (m : Mv) : ¬ (m.finish.nx ≤ 3 ∧ m.finish.nx ≠ 0 ∨ m.finish.nx = 8 ∨ m.finish.nx = 9) := by
  have : m.finish.nx = m.fin := rfl
  have := m.fin_cases; omega
theorem Mv.park_nx (m : Mv) : ¬ (m.park.nx ≤ 3 ∧ m.park.nx ≠ 0 ∨ m.park.nx = 8 ∨ m.park.nx = 9) := by
  unfold Mv.park; split
  · exact m.fin_nx
  · split
    · exact Mv.fin_nx _
    · exact fun hx => hx.elim (fun h => absurd (show (7 : Int) ≤ 3 from h.1) (by decide)) (fun h => h.elim (fun h => absurd (show (7 : Int) = 8 from h) (by decide)) (fun h => absurd (show (7 : Int) = 9 from h) (by decide)))
theorem Mv.park_wk (m : Mv) : m.park.wk = m.wk := by unfold Mv.park; split; rfl; split <;> rfl
set_option maxRecDepth 1000000 in
set_option maxHeartbeats 4000000 in
theorem strEnd {B : Nat} {W : World} {g : Nat} (hF : Frm [] w W) (h : MvAt W q T qe ql a n c m) (hnx : m.nx = 4 ∨ m.nx = 5 ∨ m.nx = 6 ∨ m.nx = 7 ∨ m.nx = 10 ∨ m.nx = 11 ∨ m.nx = 12 ∧ m.wk ≠ []) (hgd : Gd T m.s) (hwa : WkA B W a n c m)
    (hg : W.heap[g]? = some (.cells #[.int .u64 (m.s.sh : Int), .int .u64 m.s.w1] 128 (0, 0))) (v1 v3 v4 v5 v6 v7 v8 v9 v10 v11 v12 v13 v14 v15 v16 v17 v18 v19 v20 v21 v22 v23 v24 v25 v26 v27 v28 v29 v30 v31 v32 v33 v34 v35 v36 v37 v38 v39 v40 v41 v42 v43 v44 v45 v46 v47 v48 v49 v50 v51 v52 v53 v54 v55 v56 v57 v58 v59 v60 v61 v62 v63 : Value) :
    Code.wp Tryz.prog (strT 1) (bodyPost Tryz.prog Tryz.f172 (fun e w' => ∃ a' n' c', Ret (.tuple #[]) (fun w' => Frm [q] w w' ∧ MvAt w' q T qe ql a' n' c' m.stored ∧ WkA B w' a' n' c' m.stored ∧ ∀ x ∈ blk (.slice a' n' c'), x ∈ blk (.slice a n c)) e w')) ⟨List.toArray (.pointer (some ⟨q, 0, none⟩) :: v1 :: .pointer (some ⟨g, 0, none⟩) :: v3 :: v4 :: v5 :: v6 :: v7 :: v8 :: v9 :: v10 :: v11 :: v12 :: v13 :: v14 :: v15 :: v16 :: v17 :: v18 :: v19 :: v20 :: v21 :: v22 :: v23 :: v24 :: v25 :: v26 :: v27 :: v28 :: v29 :: v30 :: v31 :: v32 :: v33 :: v34 :: v35 :: v36 :: v37 :: v38 :: v39 :: v40 :: v41 :: v42 :: v43 :: v44 :: v45 :: v46 :: v47 :: v48 :: v49 :: v50 :: v51 :: v52 :: v53 :: v54 :: v55 :: v56 :: v57 :: v58 :: v59 :: v60 :: v61 :: v62 :: v63 :: []), []⟩ W := by
  have HF := Lib.hid hF
  have HM := Lib.hid h
  have HA := Lib.hid hwa
  have HQ : Hid (∀ x ∈ blk (.slice a n c), x ∉ [q]) := Lib.hid (by intro x hx; have := hwa.ne h; simp; rintro rfl; exact this hx)
  have hlen := hwa.len
  have HLN := Lib.hid hlen
  obtain ⟨c0, c1, c2, c3, c4, c5, c6, c7, c8, c9, c10, c11, c12, c13, c14, c15, c16, c17, c18, c19, c20, c21⟩ := h.cells
  obtain ⟨y0, y1⟩ := cells2 hg
  have hbl := h.lt
  have hgl := lt_of_heap hg
  have z6 := h.frz 6
  have z9 := h.frz 9
  have z10 := h.frz 10
  have z19 := h.frz 19
  clear hF hlen
  rcases hnx with hn | hn | hn | hn | hn | hn | ⟨hn, hne⟩
  all_goals have hnx := hn
  · have hE : m.stored = { m with nx := 5 } := by unfold Mv.stored; rw [if_pos hn]
    rw [hE]
    rw [hn] at c6
    clear h hg hE hgd hn hwa hnx
    conv => arg 2; whnf
    go_wp2
    go_end0
    exact ⟨a, n, c, rfl, HF.out.nil.setCell ⟨q, 6, none⟩ (.int .i64 5) (.inl (by simp)), HM.out.set_nx 5, ((HA.out.frm ((Frm.refl [q] W).setCell ⟨q, 6, none⟩ (.int .i64 5) (.inl (by simp))) HQ.out).nx rfl (fun hx => hx.elim (fun h => absurd (show (5 : Int) ≤ 3 from h.1) (by decide)) (fun h => h.elim (fun h => absurd (show (5 : Int) = 8 from h) (by decide)) (fun h => absurd (show (5 : Int) = 9 from h) (by decide))))), fun x hx => hx⟩
  · have hE : m.stored = { m with nx := 6 } := by unfold Mv.stored; rw [if_neg (by omega), if_pos hn]
    rw [hE]
    rw [hn] at c6
    clear h hg hE hgd hn hwa hnx
    conv => arg 2; whnf
    go_wp2
    go_end0
    exact ⟨a, n, c, rfl, HF.out.nil.setCell ⟨q, 6, none⟩ (.int .i64 6) (.inl (by simp)), HM.out.set_nx 6, ((HA.out.frm ((Frm.refl [q] W).setCell ⟨q, 6, none⟩ (.int .i64 6) (.inl (by simp))) HQ.out).nx rfl (fun hx => hx.elim (fun h => absurd (show (6 : Int) ≤ 3 from h.1) (by decide)) (fun h => h.elim (fun h => absurd (show (6 : Int) = 8 from h) (by decide)) (fun h => absurd (show (6 : Int) = 9 from h) (by decide))))), fun x hx => hx⟩
  · have hE : m.stored = m.park := by unfold Mv.stored; rw [if_neg (by omega), if_neg (by omega), if_pos hn]
    rw [hE]
    have H := Lib.hid (park_any h HLN.out hgd)
    have HF0 : Hid (Frm [q] W _) := Lib.hid (Frm.refl [q] W)
    have hnf := m.park_nx
    have HNF := Lib.hid hnf
    rw [hn] at c6
    clear h hg hE hgd hn hwa hnx hnf
    conv => arg 2; whnf
    go_wp2_with fail
    refine H.out.mono ?_
    rintro e w1 ⟨rfl, hF1, hM1⟩
    have HF1 := Lib.hid (HF0.out.trans hF1)
    have HM1 := Lib.hid hM1
    clear hF1 hM1
    go_wp2
    go_end0
    exact ⟨a, n, c, rfl, HF.out.nil.trans HF1.out, HM1.out, ((HA.out.frm HF1.out HQ.out).nx m.park_wk (fun hh => absurd hh HNF.out)), fun x hx => hx⟩
  · have hE : m.stored = m.standLast := by unfold Mv.stored; rw [if_neg (by omega), if_neg (by omega), if_neg (by omega), if_pos hn]
    rw [hE]
    have H := Lib.hid (stand_any h HLN.out hgd)
    have HF0 : Hid (Frm [q] W _) := Lib.hid (Frm.refl [q] W)
    have hnf := Mv.fin_nx { m with s := { m.s with fi := if m.s.fi = -1 then m.nd else m.s.fi, la := m.nd } }
    have HNF := Lib.hid hnf
    rw [hn] at c6
    clear h hg hE hgd hn hwa hnx hnf
    conv => arg 2; whnf
    go_wp2_with fail
    refine H.out.mono ?_
    rintro e w1 ⟨rfl, hF1, hM1⟩
    have HF1 := Lib.hid (HF0.out.trans hF1)
    have HM1 := Lib.hid hM1
    clear hF1 hM1
    go_wp2
    go_end0
    exact ⟨a, n, c, rfl, HF.out.nil.trans HF1.out, HM1.out, ((HA.out.frm HF1.out HQ.out).nx rfl (fun hh => absurd hh HNF.out)), fun x hx => hx⟩
  · have hE : m.stored = { m with s0 := m.s.sh }.finish := by unfold Mv.stored; rw [if_neg (by omega), if_neg (by omega), if_neg (by omega), if_neg (by omega), if_pos hn]
    rw [hE]
    have H := Lib.hid (finish_any ((h.set_s0 m.s.sh).drewN 1) HLN.out hgd)
    have HF0 : Hid (Frm [q] W _) := Lib.hid (((Frm.refl [q] W).setCell ⟨q, 9, none⟩ (.int .u64 (m.s.sh : Int)) (.inl (by simp))).drewN 1)
    have hnf := Mv.fin_nx { m with s0 := m.s.sh }
    have HNF := Lib.hid hnf
    rw [hn] at c6
    clear h hg hE hgd hn hwa hnx hnf
    conv => arg 2; whnf
    go_wp2_with fail
    go_region
    go_wp2_with fail
    refine H.out.mono ?_
    rintro e w1 ⟨rfl, hF1, hM1⟩
    have HF1 := Lib.hid (HF0.out.trans hF1)
    have HM1 := Lib.hid hM1
    clear hF1 hM1
    go_wp2
    go_end0
    exact ⟨a, n, c, rfl, HF.out.nil.trans HF1.out, HM1.out, ((HA.out.frm HF1.out HQ.out).nx rfl (fun hh => absurd hh HNF.out)), fun x hx => hx⟩
  · have hE : m.stored = { m with s1 := m.s.w1 }.finish := by unfold Mv.stored; rw [if_neg (by omega), if_neg (by omega), if_neg (by omega), if_neg (by omega), if_neg (by omega), if_pos hn]
    rw [hE]
    have H := Lib.hid (finish_any ((h.set_s1 m.s.w1).drewN 1) HLN.out hgd)
    have HF0 : Hid (Frm [q] W _) := Lib.hid (((Frm.refl [q] W).setCell ⟨q, 10, none⟩ (.int .u64 m.s.w1) (.inl (by simp))).drewN 1)
    have hnf := Mv.fin_nx { m with s1 := m.s.w1 }
    have HNF := Lib.hid hnf
    rw [hn] at c6
    clear h hg hE hgd hn hwa hnx hnf
    conv => arg 2; whnf
    go_wp2_with fail
    go_region
    go_wp2_with fail
    refine H.out.mono ?_
    rintro e w1 ⟨rfl, hF1, hM1⟩
    have HF1 := Lib.hid (HF0.out.trans hF1)
    have HM1 := Lib.hid hM1
    clear hF1 hM1
    go_wp2
    go_end0
    exact ⟨a, n, c, rfl, HF.out.nil.trans HF1.out, HM1.out, ((HA.out.frm HF1.out HQ.out).nx rfl (fun hh => absurd hh HNF.out)), fun x hx => hx⟩
  · have hE : m.stored = { m with wk := m.wk.tail }.finish := by unfold Mv.stored; rw [if_neg (by omega), if_neg (by omega), if_neg (by omega), if_neg (by omega), if_neg (by omega), if_neg (by omega)]
    rw [hE]
    obtain ⟨gb, go, hL, hgb⟩ := hwa.li
    obtain ⟨a', hcut, hL', hb'⟩ := cut_int hL (by have := List.length_pos_iff.2 hne; have := HLN.out; omega)
    have hlt : n - 1 = m.wk.tail.length := by rw [List.length_tail, ← HLN.out]
    have H := Lib.hid (finish_any (h.set_wk a' (n - 1) (c - 1) m.wk.tail) hlt hgd)
    have HF0 : Hid (Frm [q] W (W.setCell ⟨q, 19, none⟩ (.slice a' (n - 1 : Nat) (c - 1 : Nat)))) := Lib.hid ((Frm.refl [q] W).setCell _ _ (.inl (by simp)))
    have HC := Lib.hid hcut
    have HL' := Lib.hid hL'
    have HB' := Lib.hid hb'
    have HGB := Lib.hid hgb
    have HNF := Lib.hid (Mv.fin_nx { m with wk := m.wk.tail })
    rw [hn] at c6
    clear h hg hE hgd hn hwa hnx hL hL' hb' hgb hlt hne
    conv => arg 2; whnf
    go_wp2_with fail
    refine H.out.mono ?_
    rintro e w1 ⟨rfl, hF1, hM1⟩
    have HF1 := Lib.hid (HF0.out.trans hF1)
    have HM1 := Lib.hid hM1
    clear hF1 hM1
    go_wp2
    go_end0
    refine ⟨a', n - 1, c - 1, rfl, HF.out.nil.trans HF1.out, HM1.out, ⟨⟨gb, go + 1, HL'.out.frm HF1.out (fun hp => ?_), fun x hx => HGB.out x (HB'.out x hx)⟩, fun x hx => ?_, fun hh => absurd hh HNF.out⟩, HB'.out⟩
    · have e := HL'.out.ad hp
      exact HQ.out gb (HB'.out gb (by rw [e]; simp [blk]))
    · obtain ⟨h1, cs, h2⟩ := HA.out.own x (HB'.out x hx)
      exact ⟨h1, cs, HF1.out.heap h2 (HQ.out x (HB'.out x hx))⟩
set_option maxRecDepth 1000000 in
set_option maxHeartbeats 4000000 in
theorem stored_any {B : Nat} (h : MvAt w q T qe ql a n c m) (hnx : m.nx = 4 ∨ m.nx = 5 ∨ m.nx = 6 ∨ m.nx = 7 ∨ m.nx = 10 ∨ m.nx = 11 ∨ m.nx = 12 ∧ m.wk ≠ []) (hg : Gd T m.s) (hwa : WkA B w a n c m) :
    Calls Tryz.prog 172 #[.pointer (some ⟨q, 0, none⟩)] w (fun e w' => ∃ a' n' c', Ret (.tuple #[]) (fun w' => Frm [q] w w' ∧ MvAt w' q T qe ql a' n' c' m.stored ∧ WkA B w' a' n' c' m.stored ∧ ∀ x ∈ blk (.slice a' n' c'), x ∈ blk (.slice a n c)) e w') := by
  have HM : Hid (∀ w', Frm [] w w' → MvAt w' q T qe ql a n c m) := Lib.hid fun w' hf => h.frm hf (by simp)
  have HW : Hid (∀ w', Frm [] w w' → Calls Tryz.prog 179 #[.pointer (some ⟨q, 11, none⟩), .pointer (some ⟨q, 0, none⟩)] w' (Ret (.agg #[.int .u64 m.s.sh, .int .u64 m.s.w1]) (fun x => Frm [] w' x))) := Lib.hid fun w' hf => words_any (h.st.frm hf (by simp)) (h.nd.frm hf) (hg.fit h.t64) hg.fi.2 hg.la.2
  have hz : ∀ w', Frm [] (w.alloc (.cells #[.int .u64 0, .int .u64 0] 128)) w' → (w'.cell? ⟨w.heap.size, 0, none⟩ = some (.int .u64 0) ∧ w'.cell? ⟨w.heap.size, 1, none⟩ = some (.int .u64 0)) ∧ w'.frozen? ⟨w.heap.size, 0, none⟩ = false ∧ w'.frozen? ⟨w.heap.size, 1, none⟩ = false ∧ w.heap.size < w'.heap.size := fun w' hf => by
    have := hf.heap (heap_alloc_new _ _) (by simp)
    exact ⟨cells2 this, frozen_of_heap this, frozen_of_heap this, lt_of_heap this⟩
  have HZ := Lib.hid hz
  have hbl := h.lt
  clear h hz
  go_enter Tryz.func172, Tryz.ntmps172
  refine wp_seq_k ?_
  intro K hK
  have HK := Lib.hid hK
  clear hK
  go_region_held3 (fun w' => Frm [] w w') (repeat' (first | assumption | exact Frm.refl _ _ | apply Frm.drew | apply Frm.drewN | apply Frm.alloc | (refine Frm.setCell ?_ _ _ (.inr (Nat.le_refl _))) | (refine Frm.trans ?_ g1))) ((go_at_call 179; (with_reducible refine (HW.out _ (by assumption)).mono ?_); rintro e w1 ⟨rfl, g1⟩; first | (have g2 : Frm [] (w.alloc (.cells #[.int .u64 0, .int .u64 0] 128)) w1 := (Frm.refl [] (w.alloc (.cells #[.int .u64 0, .int .u64 0] 128))).drew.trans g1; obtain ⟨⟨t0, t1⟩, u0, u1, tl⟩ := HZ.out _ g2) | (have g2 : Frm [] (w.alloc (.cells #[.int .u64 0, .int .u64 0] 128)) w1 := g1; obtain ⟨⟨t0, t1⟩, u0, u1, tl⟩ := HZ.out _ g2) | skip))
  · have hF : Frm [] w (w1.alloc (.cells #[.int .u64 (m.s.sh : Int), .int .u64 m.s.w1] 128)) := by assumption
    refine HK.out _ _ ?_
    exact strEnd (g := w1.heap.size) hF (HM.out _ hF) hnx hg (hwa.frm hF (by simp)) (heap_alloc_new _ _) _ _ _ _ _ _ _ _ _ _ _ _ _ _ _ _ _ _ _ _ _ _ _ _ _ _ _ _ _ _ _ _ _ _ _ _ _ _ _ _ _ _ _ _ _ _ _ _ _ _ _ _ _ _ _ _ _ _ _ _ _ _
  · have hF : Frm [] w ((w1.setCell ⟨w.heap.size, 0, none⟩ (.int .u64 (m.s.sh : Int))).setCell ⟨w.heap.size, 1, none⟩ (.int .u64 m.s.w1)) := (((((Frm.refl [] w).alloc _).trans g2).setCell _ _ (.inr (Nat.le_refl _))).setCell _ _ (.inr (Nat.le_refl _)))
    have hB := g2.heap (heap_alloc_new _ _) (by simp)
    refine HK.out _ _ ?_
    exact strEnd (g := w.heap.size) hF (HM.out _ hF) hnx hg (hwa.frm hF (by simp)) (heap_setCell_at (i := 1) _ (heap_setCell_at (i := 0) _ hB)) _ _ _ _ _ _ _ _ _ _ _ _ _ _ _ _ _ _ _ _ _ _ _ _ _ _ _ _ _ _ _ _ _ _ _ _ _ _ _ _ _ _ _ _ _ _ _ _ _ _ _ _ _ _ _ _ _ _ _ _ _ _
end
end Go.Proofs.YticbbfcachnkiaaGreatDoor
