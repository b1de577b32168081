/- UpgradeEnded (by gen_udo.py). -/
import Derived.Test.YticbbfcachnkiaaGreatDoorUdM
import Derived.Maps.OwnSet
import Derived.Deep.RegionHeld3
namespace Go.Proofs.YticbbfcachnkiaaGreatDoor
open Go.ChangeShapes Go.WideShapes Go.ChangeAt Go.RowKit Go.Maps Go.ChangeMaps
set_option linter.unusedVariables false
set_option linter.unusedSimpArgs false
noncomputable def ueT (k : Nat) : Code := dropS k (Tryz.f4.body.getD .skip)
/-- What is known between the statements. -/
structure Ke (w W : World) (B np p d g : Nat) (ws : List Int) : Prop where
  sc : Sc 1 W B np p d 13 ws
  at_ : W.heap[g]? = some (.cells #[.pointer (some ⟨p, 0, none⟩), .pointer (some ⟨np, 0, none⟩), .int .i64 10] 27 (0, 0))
  gB : B ≤ g
  frm : Frm [] w W
  new : w.heap.size ≤ d
theorem Ke.lt {w W : World} {B np p d g : Nat} {ws : List Int} (h : Ke w W B np p d g ws) : g < W.heap.size := lt_of_heap h.at_
theorem Ke.next {w W W' : World} {B np p d g : Nat} {ws ws' : List Int} (h : Ke w W B np p d g ws) (hf : Frm [d] W W') (hs : Sc 1 W' B np p d 13 ws') : Ke w W' B np p d g ws' :=
  ⟨hs, hf.heap h.at_ (by have := h.sc.hi; have := h.gB; simp; omega), h.gB, h.frm.trans_new hf (fun x hx => .inr (by simp at hx; rw [hx]; exact h.new)), h.new⟩
theorem Ke.frm0 {w W W' : World} {B np p d g : Nat} {ws : List Int} (h : Ke w W B np p d g ws) (hf : Frm [] W W') : Ke w W' B np p d g ws := h.next hf.nil (h.sc.frm0 hf)
def z13 : List Int := List.replicate 13 0
def wE : List Int := [0, 0, 0, 0, 0, 1, 0, 0, 0, 0, 0, 1, 1099511627776]
def eA : List Int × Mv × Gs := (endsM 1 60 z13 (Mv.new 4 10 0 0 1) Gs.new).getD ([], Mv.new 4 10 0 0 1, Gs.new)
def eB : List Int × Mv × Gs := (endsM 1 60 wE (Mv.new 4 10 0 0 1) Gs.new).getD ([], Mv.new 4 10 0 0 1, Gs.new)
theorem runEA : endsM 1 60 z13 (Mv.new 4 10 0 0 1) Gs.new = some (wE, eA.2.1, eA.2.2) := by kernel_rfl
theorem runEB : endsM 1 60 wE (Mv.new 4 10 0 0 1) Gs.new = some (wE, eB.2.1, eB.2.2) := by kernel_rfl
theorem resA : eA.2.1.res = 1 := by kernel_rfl
theorem resB : eB.2.1.res = 0 := by kernel_rfl
theorem wkA : eA.2.1.wk = [] := by kernel_rfl
theorem wkB : eB.2.1.wk = [] := by kernel_rfl
def dE (l c : Bool) : Ds := Ds.new 0 (if l then (eA.2.1, eA.2.2) else (eB.2.1, eB.2.2)) (if c then (eA.2.1, eA.2.2) else (eB.2.1, eB.2.2))
theorem runE (l c : Bool) : ((endsD 1 60 0 wE (dE l c)).map fun t => (t.1, t.2.1, t.2.2.res)) = some (if l then 24 else 16, wE, if l && c then 1 else 0) := by
  cases l <;> cases c <;> kernel_rfl
/-- A map of both bools, in the order in which they were put. -/
def Mb (w : World) (q : Nat) (vt vf : Value) : Prop := ∃ c0 c1 c, w.heap[q]? = some (.map #[⟨.bool true, vt, c0⟩, ⟨.bool false, vf, c1⟩] c)
theorem keyedB : Keyed Tryz.prog 4 := bool_keyed Tryz.underlying4
theorem keyB (x : Bool) : keyOf Tryz.prog 4 (.bool x) = some (.bool x) := keyOf_bool_mk Tryz.underlying4 x
theorem Mb.frm {D : List Nat} {w w' : World} {q : Nat} {vt vf : Value} (h : Mb w q vt vf) (hf : Frm D w w') (hd : q ∉ D) : Mb w' q vt vf := by
  obtain ⟨a, b, c, h⟩ := h; exact ⟨a, b, c, hf.heap h hd⟩
theorem Mb.look {w : World} {q : Nat} {vt vf : Value} (h : Mb w q vt vf) (k : Bool) : (Instr.lookup 73 (.map (some q)) (.bool k) false).run Tryz.prog w = .ok (if k then vt else vf) w := by
  obtain ⟨c0, c1, c, hb⟩ := h
  have hf : (Instr.findKey 4 (.bool k) [⟨.bool true, vt, c0⟩, ⟨.bool false, vf, c1⟩]).run Tryz.prog w = .ok (some ((if k then 0 else 1), if k then vt else vf)) w := by
    rcases keyedB.find w (keyB k) [⟨.bool true, vt, c0⟩, ⟨.bool false, vf, c1⟩] (fun x hx => by
      simp at hx
      rcases hx with rfl | rfl
      · exact ⟨_, keyB _⟩
      · exact ⟨_, keyB _⟩) with ⟨h1, h2⟩ | ⟨j, e, h1, h2, h3⟩
    · cases k
      · exact absurd rfl (h2 ⟨.bool false, vf, c1⟩ (by simp))
      · exact absurd rfl (h2 ⟨.bool true, vt, c0⟩ (by simp))
    · rcases j with _ | _ | j
      · simp at h2; subst h2
        cases k
        · cases h3
        · exact h1
      · simp at h2; subst h2
        cases k
        · exact h1
        · cases h3
      · simp at h2
  simp [Instr.lookup, run_underlying Tryz.underlying73, MapKept.run_getObj_map hb, keyedB.check w _ (keyB k), hf, Result.andThen]
theorem map_puts (w : World) (vt vf : Value) : ∃ w1 w2, (Instr.mapUpdate 73 (.map (some w.heap.size)) (.bool true) vt).run Tryz.prog (w.alloc (.map #[] 0)) = .ok () w1 ∧
    (Instr.mapUpdate 73 (.map (some w.heap.size)) (.bool false) vf).run Tryz.prog w1 = .ok () w2 ∧ Frm [] w w2 ∧ Mb w2 w.heap.size vt vf := by
  have hb0 : (w.alloc (.map #[] 0)).heap[w.heap.size]? = some (.map #[] 0) := heap_alloc_new _ _
  have hf0 : (Instr.findKey 4 (.bool true) []).run Tryz.prog (w.alloc (.map #[] 0)) = .ok none (w.alloc (.map #[] 0)) := by
    rcases keyedB.find (w.alloc (.map #[] 0)) (keyB true) [] (fun x hx => by cases hx) with ⟨h1, _⟩ | ⟨j, e, _, h2, _⟩
    · exact h1
    · simp at h2
  have hb1 : (setBlock (w.alloc (.map #[] 0)) w.heap.size (.map #[⟨.bool true, vt, 0⟩] 1)).heap[w.heap.size]? = some (.map #[⟨.bool true, vt, 0⟩] 1) := heap_setBlock_same hb0 _
  have hf1 : (Instr.findKey 4 (.bool false) [⟨.bool true, vt, 0⟩]).run Tryz.prog (setBlock (w.alloc (.map #[] 0)) w.heap.size (.map #[⟨.bool true, vt, 0⟩] 1)) = .ok none (setBlock (w.alloc (.map #[] 0)) w.heap.size (.map #[⟨.bool true, vt, 0⟩] 1)) := by
    rcases keyedB.find (setBlock (w.alloc (.map #[] 0)) w.heap.size (.map #[⟨.bool true, vt, 0⟩] 1)) (keyB false) [⟨.bool true, vt, 0⟩] (fun x hx => by simp at hx; subst hx; exact ⟨_, keyB _⟩) with ⟨h1, _⟩ | ⟨j, e, _, h2, h3⟩
    · exact h1
    · rcases j with _ | j
      · simp at h2; subst h2; cases h3
      · simp at h2
  have f1 : Frm [w.heap.size] (w.alloc (.map #[] 0)) (setBlock (w.alloc (.map #[] 0)) w.heap.size (.map #[⟨.bool true, vt, 0⟩] 1)) := ⟨rfl, rfl, rfl, by simp [setBlock], fun k _ hd => heap_setBlock_other hb0 _ (by simpa using hd)⟩
  have p1 : (Instr.mapUpdate 73 (.map (some w.heap.size)) (.bool true) vt).run Tryz.prog (w.alloc (.map #[] 0)) = .ok () (setBlock (w.alloc (.map #[] 0)) w.heap.size (.map #[⟨.bool true, vt, 0⟩] 1)) := by
    simp [Instr.mapUpdate, run_underlying Tryz.underlying73, MapKept.run_getObj_map hb0, keyedB.check (w.alloc (.map #[] 0)) _ (keyB true), hf0, MapKept.run_setObj_map _ hb0, Result.andThen, setBlock]
  generalize setBlock (w.alloc (.map #[] 0)) w.heap.size (.map #[⟨.bool true, vt, 0⟩] 1) = w1 at hb1 hf1 f1 p1
  refine ⟨w1, setBlock w1 w.heap.size (.map #[⟨.bool true, vt, 0⟩, ⟨.bool false, vf, 1⟩] 2), p1, ?_, ?_, ⟨0, 1, 2, heap_setBlock_same hb1 _⟩⟩
  · simp [Instr.mapUpdate, run_underlying Tryz.underlying73, MapKept.run_getObj_map hb1, keyedB.check w1 _ (keyB false), hf1, MapKept.run_setObj_map _ hb1, Result.andThen, setBlock]
  · have f2 : Frm [w.heap.size] w1 (setBlock w1 w.heap.size (.map #[⟨.bool true, vt, 0⟩, ⟨.bool false, vf, 1⟩] 2)) := ⟨rfl, rfl, rfl, by simp [setBlock], fun k _ hd => heap_setBlock_other hb1 _ (by simpa using hd)⟩
    exact ((Frm.refl [] w).alloc _).trans_new (f1.trans f2) (fun x hx => .inr (by simp at hx; omega))
theorem lkE : lkR 1 4 wE 0 0 = some (⟨0, -1, -1, -1, 0, -1, -1⟩, []) := by kernel_rfl
section
variable {w Z : World} {B np p d g D n0 : Nat} {P : Nat → Part} {s s' : Ds} {r c8 : Int}
set_option maxRecDepth 1000000 in
set_option maxHeartbeats 4000000 in
theorem ueB (v0 v1 v2 v3 v4 v6 v7 v8 v9 v13 v14 v15 v16 v17 v18 v19 v20 v21 v22 v23 v24 v25 v26 v27 v28 v29 v30 v31 v32 v33 v34 v35 v36 v37 v38 v39 v40 v41 v42 v43 v44 v45 v46 v47 v48 v49 v50 v51 v52 v53 v54 v55 v56 v57 v58 v59 v60 v61 v62 v63 v64 v65 v66 v67 v68 v69 v70 v71 v72 v73 v74 v75 v76 v77 v78 v79 v80 v81 v82 v83 v84 v85 v86 v87 v88 v89 v90 v91 v92 v93 v94 v95 v96 v97 v98 v99 v100 v101 v102 v103 v104 : Value) (hK : Ke w Z B np p d g wE) (hP : DAt Z B 1 120 D P s) (hE : endsD 1 60 0 wE s = some (n0, wE, s')) (hr : s'.res = r) (hc : c8 = 0 ∨ c8 = 8) (hn : (n0 : Int) = 16 + c8) (hgD : g < D) (hgP : ∀ i, i < 5 → ∀ x ∈ (P i).bl, g < x) :
    Code.wp Tryz.prog (ueT 9) (bodyPost Tryz.prog Tryz.f4 (Ret (.bool true) (fun w' => Frm [] w w'))) ⟨List.toArray (v0 :: v1 :: v2 :: v3 :: v4 :: .pointer (some ⟨g, 0, none⟩) :: v6 :: v7 :: v8 :: v9 :: .pointer (some ⟨D, 0, none⟩) :: .int .u64 r :: .int .i64 c8 :: v13 :: v14 :: v15 :: v16 :: v17 :: v18 :: v19 :: v20 :: v21 :: v22 :: v23 :: v24 :: v25 :: v26 :: v27 :: v28 :: v29 :: v30 :: v31 :: v32 :: v33 :: v34 :: v35 :: v36 :: v37 :: v38 :: v39 :: v40 :: v41 :: v42 :: v43 :: v44 :: v45 :: v46 :: v47 :: v48 :: v49 :: v50 :: v51 :: v52 :: v53 :: v54 :: v55 :: v56 :: v57 :: v58 :: v59 :: v60 :: v61 :: v62 :: v63 :: v64 :: v65 :: v66 :: v67 :: v68 :: v69 :: v70 :: v71 :: v72 :: v73 :: v74 :: v75 :: v76 :: v77 :: v78 :: v79 :: v80 :: v81 :: v82 :: v83 :: v84 :: v85 :: v86 :: v87 :: v88 :: v89 :: v90 :: v91 :: v92 :: v93 :: v94 :: v95 :: v96 :: v97 :: v98 :: v99 :: v100 :: v101 :: v102 :: v103 :: v104 :: []), []⟩ Z := by
  have HK := Lib.hid hK
  have HP := Lib.hid hP
  have HE := Lib.hid hE
  have HRR := Lib.hid hr
  have HC := Lib.hid hc
  have HN := Lib.hid hn
  have hgB := hK.gB
  have hdB := hK.sc.hi
  have hwd := hK.new
  have hblg : ∀ x ∈ d :: D :: bls P, x ≠ g ∧ w.heap.size ≤ x := by
    intro x hx
    rcases List.mem_cons.1 hx with rfl | hx
    · omega
    rcases List.mem_cons.1 hx with rfl | hx
    · omega
    · obtain ⟨i, hi, hx⟩ := mem_bls.1 hx
      have := hgP i hi x hx; omega
  have HBL := Lib.hid hblg
  have hnin : g ∉ d :: D :: bls P := fun hx => (hblg g hx).1 rfl
  clear hK hP hE hr hc hn hgB hdB hwd hblg hgD hgP
  conv => arg 2; whnf
  go_wp2_with fail
  go_loopw [13] (fun i wr => ∃ j : Nat, j ≤ 60 ∧ i = .int .i64 (j : Int) ∧ ∃ ws1 s1 P1, Frm (d :: D :: bls P) Z wr ∧ Hid (Sc 1 wr B np p d 13 ws1 ∧ DAt wr B 1 (120 + 2 * j) D P1 s1 ∧ (∀ i, i < 5 → ∀ x ∈ (P1 i).bl, x ∈ (P i).bl ∨ Z.heap.size ≤ x)) ∧ endsD 1 (60 - j) j ws1 s1 = some (n0, wE, s')) (fun i _ => 60 - (intOf i).toNat)
  case atStart => exact ⟨0, Nat.zero_le _, rfl, wE, s, P, Frm.refl _ _, Lib.hid ⟨HK.out.sc, HP.out, fun i hi x hx => .inl hx⟩, HE.out⟩
  case round =>
    obtain ⟨j, hj, rfl, ws1, s1, P1, hF, HI, hE⟩ := hrel
    have HF := Lib.hid hF
    have HE1 := Lib.hid hE
    have hgb := hF.heap HK.out.at_ hnin
    obtain ⟨c0, c1, c2⟩ := cells3 hgb
    have hgl := lt_of_heap hgb
    clear hF hE hgb
    by_cases hz : s1.now = 5
    · have hE2 : (j, ws1, s1) = (n0, wE, s') := by
        have := HE1.out
        unfold endsD at this
        split at this
        · rw [if_pos hz] at this; exact Option.some.inj this
        · rw [if_pos hz] at this; exact Option.some.inj this
      simp only [Prod.mk.injEq] at hE2
      obtain ⟨e0, rfl, rfl⟩ := hE2
      have HD := Lib.hid (Done_d HI.out.2.1.obj)
      have HR := Lib.hid (Result_d HI.out.2.1.obj)
      rw [if_pos hz, HRR.out] at HR
      rw [show (s1.now == 5) = true by simp [hz]] at HD
      have hrr : (r == r) = true := by simp
      have HH := Lib.hid (holds_0 (np := np) (p := p) HI.out.1 10 (by decide) (by decide) (wd := 0) (by decide) (by decide) (w0 := 0) (w1 := 0) (by rfl) (by rfl) lkE (by kernel_rfl) ⟨rfl, rfl, rfl, rfl⟩)
      have hjn : (j : Int) = 16 + c8 := by rw [e0]; exact HN.out
      clear e0 hz
      have hle : decide ((j : Int) < 60) = true := by rcases HC.out with h | h <;> (simp; omega)
      rcases HC.out with h8 | h8 <;> (
        rw [h8] at hjn ⊢
        simp only [Int.add_zero, Int.reduceAdd] at hjn
        rw [hjn] at hle ⊢
        clear hjn h8
        go_wp2_with fail
        refine HD.out.mono ?_
        rintro e w2 ⟨rfl, rfl⟩
        go_wp2_with fail
        refine HD.out.mono ?_
        rintro e w2 ⟨rfl, rfl⟩
        go_wp2_with fail
        refine HR.out.mono ?_
        rintro e w2 ⟨rfl, rfl⟩
        go_wp2_with fail
        refine HH.out.mono ?_
        rintro e w2 ⟨rfl, hF2, hS2⟩
        have HF2 := Lib.hid hF2
        have HS2 := Lib.hid hS2
        clear hF2 hS2 c0 c1 c2 hgl
        go_wp2_with fail
        refine (known_true HS2.out.laid).mono ?_
        rintro e w3 ⟨rfl, hF3⟩
        have HF3 := Lib.hid hF3
        clear hF3
        go_wp2
        go_ret
        refine ⟨rfl, ?_⟩
        exact ((HK.out.frm.trans_new (HF.out.trans (HF2.out.weak (by simp))) (fun x hx => .inr (HBL.out x hx).2)).trans HF3.out))
    · obtain ⟨f, ws2, s2, hf, hmo, hE3⟩ : ∃ f ws2 s2, 60 - j = f + 1 ∧ s1.step 1 ws1 = some (s2, ws2, false) ∧ endsD 1 f (j + 1) ws2 s2 = some (n0, wE, s') := by
        have := HE1.out
        cases hk : 60 - j with
        | zero => rw [hk] at this; unfold endsD at this; rw [if_neg hz] at this; cases this
        | succ f =>
          rw [hk] at this
          unfold endsD at this
          rw [if_neg hz] at this
          split at this
          · rename_i s2 ws2 wait hmo
            split at this
            · rename_i hwn
              subst hwn
              exact ⟨f, ws2, s2, rfl, hmo, this⟩
            · cases this
          · cases this
      have hle : decide ((j : Int) < 60) = true := by simp; omega
      have HD := Lib.hid (Done_d HI.out.2.1.obj)
      rw [show (s1.now == 5) = false by simp [hz]] at HD
      have hB := HI.out.1.hi
      have hlo := HI.out.1.lo
      have hn5 : s1.now < 5 := step_now HI.out.2.1.len hmo
      have HST := Lib.hid (Step_dec (N := 120 + 2 * j) HI.out.1.mem HI.out.2.1 HI.out.1.laid HI.out.1.bnd (by omega) (by omega) hlo.1 hB.2.2.2 hn5 hmo)
      have HE3 := Lib.hid hE3
      have HFf := Lib.hid hf
      have hj60 : j < 60 := by omega
      clear hmo hE3 hf hz
      go_wp2_with fail
      refine HD.out.mono ?_
      rintro e w2 ⟨rfl, rfl⟩
      go_wp2_with fail
      refine HST.out.mono ?_
      rintro e w3 ⟨rfl, P2, hS⟩
      have HSt := Lib.hid hS
      clear hS
      go_wp2
      go_roundw
      case rel =>
        have hS := HSt.out
        have hsf := HF.out.size
        have hbl2 : ∀ i, i < 5 → ∀ x ∈ (P2 i).bl, x ∈ (P i).bl ∨ Z.heap.size ≤ x := fun i hi x hx => by
          rcases hS.bl i hi x hx with h1 | h1
          · exact HI.out.2.2 i hi x h1
          · exact .inr (by omega)
        refine ⟨j + 1, by omega, by go_num, ws2, s2, P2, HF.out.trans_new hS.frm (fun x hx => ?_), Lib.hid ⟨HI.out.1.step hS.frm (fun x hx => ?_) hS.mem hS.laid hS.bnd hS.len, by rw [show 120 + 2 * (j + 1) = 120 + 2 * j + 2 by omega]; exact hS.at_, hbl2⟩, ?_⟩
        · rcases List.mem_cons.1 hx with rfl | hx
          · exact .inl (by simp)
          rcases List.mem_cons.1 hx with rfl | hx
          · exact .inl (by simp)
          · obtain ⟨i, hi, hx⟩ := mem_bls.1 hx
            rcases HI.out.2.2 i hi x hx with h1 | h1
            · exact .inl (.tail _ (.tail _ (mem_bls.2 ⟨i, hi, h1⟩)))
            · exact .inr h1
        · rcases List.mem_cons.1 hx with rfl | hx
          · exact HI.out.2.1.lo
          · obtain ⟨i, hi, hx⟩ := mem_bls.1 hx
            exact (HI.out.2.1.at_ i hi).lo x hx
        · rw [show 60 - (j + 1) = f by have := HFf.out; omega]; exact HE3.out
      case measure => simp [intOf]; omega
set_option maxRecDepth 1000000 in
set_option maxHeartbeats 4000000 in
theorem ueC {lk ch : Bool} (v2 v3 v4 v6 v7 v8 v9 v11 v12 v13 v14 v15 v16 v17 v18 v19 v20 v21 v22 v23 v24 v25 v26 v27 v28 v29 v30 v31 v32 v33 v34 v35 v36 v37 v38 v39 v40 v41 v42 v43 v44 v45 v46 v47 v48 v49 v50 v51 v52 v53 v54 v55 v56 v57 v58 v59 v60 v61 v62 v63 v64 v65 v66 v67 v68 v69 v70 v71 v72 v73 v74 v75 v76 v77 v78 v79 v80 v81 v82 v83 v84 v85 v86 v87 v88 v89 v90 v91 v92 v93 v94 v95 v96 v97 v98 v99 v100 v101 v102 v103 v104 : Value) (hK : Ke w Z B np p d g wE) (hP : DAt Z B 1 120 D P (dE lk ch)) (hgD : g < D) (hgP : ∀ i, i < 5 → ∀ x ∈ (P i).bl, g < x) :
    Code.wp Tryz.prog (ueT 7) (bodyPost Tryz.prog Tryz.f4 (Ret (.bool true) (fun w' => Frm [] w w'))) ⟨List.toArray (.bool lk :: .bool ch :: v2 :: v3 :: v4 :: .pointer (some ⟨g, 0, none⟩) :: v6 :: v7 :: v8 :: v9 :: .pointer (some ⟨D, 0, none⟩) :: v11 :: v12 :: v13 :: v14 :: v15 :: v16 :: v17 :: v18 :: v19 :: v20 :: v21 :: v22 :: v23 :: v24 :: v25 :: v26 :: v27 :: v28 :: v29 :: v30 :: v31 :: v32 :: v33 :: v34 :: v35 :: v36 :: v37 :: v38 :: v39 :: v40 :: v41 :: v42 :: v43 :: v44 :: v45 :: v46 :: v47 :: v48 :: v49 :: v50 :: v51 :: v52 :: v53 :: v54 :: v55 :: v56 :: v57 :: v58 :: v59 :: v60 :: v61 :: v62 :: v63 :: v64 :: v65 :: v66 :: v67 :: v68 :: v69 :: v70 :: v71 :: v72 :: v73 :: v74 :: v75 :: v76 :: v77 :: v78 :: v79 :: v80 :: v81 :: v82 :: v83 :: v84 :: v85 :: v86 :: v87 :: v88 :: v89 :: v90 :: v91 :: v92 :: v93 :: v94 :: v95 :: v96 :: v97 :: v98 :: v99 :: v100 :: v101 :: v102 :: v103 :: v104 :: []), []⟩ Z := by
  have hr := runE lk ch
  obtain ⟨⟨n0, ws', s'⟩, hE, heq⟩ := Option.map_eq_some_iff.1 hr
  simp only [Prod.mk.injEq] at heq
  obtain ⟨e0, e1, e2⟩ := heq
  subst e1
  have HK := Lib.hid hK
  have HP := Lib.hid hP
  have HE := Lib.hid hE
  have HE0 := Lib.hid e0
  have HE2 := Lib.hid e2
  clear hK hP hr hE e0 e2
  conv => arg 2; whnf
  cases lk <;> cases ch <;> (
    refine wp_seq_k ?_
    intro K4 hK4
    have HK4 := Lib.hid hK4
    clear hK4
    go_wp2_with fail
    refine HK4.out _ _ ?_
    clear HK4 K4
    refine wp_seq_k ?_
    intro K4 hK4
    have HK4 := Lib.hid hK4
    clear hK4
    go_wp2_with fail
    refine HK4.out _ _ ?_
    clear HK4 K4
    exact ueB _ _ _ _ _ _ _ _ _ _ _ _ _ _ _ _ _ _ _ _ _ _ _ _ _ _ _ _ _ _ _ _ _ _ _ _ _ _ _ _ _ _ _ _ _ _ _ _ _ _ _ _ _ _ _ _ _ _ _ _ _ _ _ _ _ _ _ _ _ _ _ _ _ _ _ _ _ _ _ _ _ _ _ _ _ _ _ _ _ _ _ _ _ _ _ _ _ _ _ _ _ HK.out HP.out HE.out HE2.out (by first | exact .inl rfl | exact .inr rfl) (by rw [HE0.out]; rfl) hgD hgP)
end
end Go.Proofs.YticbbfcachnkiaaGreatDoor
