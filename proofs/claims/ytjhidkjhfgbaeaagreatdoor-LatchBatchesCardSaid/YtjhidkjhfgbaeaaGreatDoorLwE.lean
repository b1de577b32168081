/- LatchBatches: what lies; the third loop (by gen_lwe.py). -/
import Derived.Test.YtjhidkjhfgbaeaaGreatDoorLwD
import Derived.Test.YtjhidkjhfgbaeaaGreatDoorLvG
import Derived.Test.YtjhidkjhfgbaeaaGreatDoorBn13
import Derived.BigQuiet
namespace Go.Proofs.YtjhidkjhfgbaeaaGreatDoor
open Go.ChangeShapes Go.WideShapes Go.ChangeAt Go.RowKit
set_option linter.unusedVariables false
set_option linter.unusedSimpArgs false
noncomputable def btT (k : Nat) : Code := dropS k (Tryz.f7.body.getD .skip)
/-- A parked move: where it lies, and what it is. -/
structure Pm where
  q : Nat
  qe : Nat
  ql : Nat
  a : Option Addr
  n : Nat
  c : Nat
  m : Mv
  g : Gs
def Pm.bl (x : Pm) : List Nat := x.q :: x.qe :: x.ql :: blk (.slice x.a x.n x.c)
def pmV (x : Pm) : List Value := [.pointer (some ⟨x.q, 0, none⟩)]
def PkE (T B B0 : Nat) (w : World) (x : Pm) : Prop := Pk T B B0 w x.q x.qe x.ql x.a x.n x.c x.m x.g
theorem pk_ne_ty {T B B0 : Nat} {w : World} {x : Pm} (h : PkE T B B0 w x) {g : Nat} {cs : Array Value} {t : TypeId} (hb : w.heap[g]? = some (.cells cs t (0, 0))) (h1 : t ≠ 91) (h2 : t ≠ 218) (h3 : t ≠ 219) (h4 : t ≠ 3) : g ∉ x.bl := by
  intro hx
  simp only [Pm.bl, List.mem_cons] at hx
  rcases hx with e | e | e | e
  · rw [e] at hb
    have := hb.symm.trans h.mv.obj
    simp at this
    exact h1 this.2
  · rw [e] at hb
    obtain ⟨m1, hP, _⟩ := h.en
    have := hb.symm.trans hP.obj
    simp [Tp] at this
    exact h2 this.2
  · rw [e] at hb
    obtain ⟨m1, hP, _⟩ := h.le
    have := hb.symm.trans hP.obj
    simp [Tp] at this
    exact h3 this.2
  · obtain ⟨_, cs2, hc⟩ := h.wk.own g e
    have := hb.symm.trans hc
    simp at this
    exact h4 this.2
theorem row_bty {k : IntKind} {t : TypeId} {B n c : Nat} {w : World} {a : Option Addr} {l : List Int} (h : Row k t B w a n c l) : ∀ x ∈ blk (.slice a n c), ∃ cs, w.heap[x]? = some (.cells cs t (0, 0)) := by
  intro x hx
  obtain ⟨⟨_, h⟩, hn⟩ := h
  rcases h with ⟨hv, hl⟩ | ⟨g, cap, cur, hv, hg, hh, hc, hm, hz, ht⟩
  · simp at hv; rw [hv.1] at hx; cases hx
  · simp at hv; rw [hv.1] at hx
    obtain rfl : x = g := by simpa [blk] using hx
    exact ⟨_, hh⟩
theorem gr_bty {T : TypeId} {s B n c : Nat} {w : World} {a : Option Addr} {f : Nat → List Value} (h : Gr T s B w a n c f) : ∀ x ∈ bkG a, ∃ cs, w.heap[x]? = some (.cells cs T (0, 0)) := by
  obtain ⟨h1, h2, ⟨rfl, _⟩ | ⟨g, ds, rfl, hB, hh, hs, hq⟩⟩ := h
  · intro x hx; cases hx
  · intro x hx
    obtain rfl : x = g := by simpa [bkG] using hx
    exact ⟨_, hh⟩
set_option maxRecDepth 100000 in
set_option maxHeartbeats 4000000 in
theorem btC {w W : World} {n c1 b1 G b21 m2 f2 p2 : Nat} {a1 e2 : Option Addr} {q : List Int} (v0 v1 v2 v3 v4 v5 v6 v7 v9 v10 v11 v12 v13 v14 v15 v17 v18 v19 v20 v22 v23 v24 v25 v26 v27 v28 v29 v30 v31 v32 v33 v34 v35 v36 v37 v38 v39 v40 v41 v42 v43 v44 v45 v46 v47 v48 v49 v50 v51 v52 v53 v54 v55 v56 v57 v58 v59 v60 v61 v62 v63 v64 v65 v66 v67 v68 v69 v70 v71 v72 v73 v74 v75 v76 v77 v78 v79 v80 v81 v82 v83 v84 v85 v86 v87 v88 v89 v90 v91 v92 v93 v94 v95 v96 v97 v98 v99 v100 v101 v102 v103 v104 v105 v106 v107 v108 v109 v110 v111 v112 v113 v114 v115 v116 v117 v118 v119 v120 v121 v122 v123 v124 v125 v126 v127 v128 v129 v130 v131 v132 v133 v134 v135 v136 v137 v138 v139 v140 v141 v142 v143 v144 v145 v146 v147 v148 v149 v150 v151 v152 v153 v154 v155 v156 v157 v158 v159 v160 v161 v162 v163 v164 v165 v166 v167 v168 v169 v170 v171 v172 v173 v174 v175 v176 v177 v178 v179 v180 v181 v182 v183 v184 v185 v186 v187 v188 v189 v190 v191 v192 v193 v194 v195 v196 v197 v198 v199 v200 v201 v202 v203 v204 v205 v206 v207 v208 v209 v210 v211 v212 v213 v214 : Value) (hF : Frm [] w W) (hL : Laid W) (hQ : Li .i64 W a1 n c1 b1 0 q) (hn : n ≤ 20) (hG : G ≤ n)
    (h21 : ∃ x0 x1 x2 x3 x4, W.heap[b21]? = some (.cells #[x0, x1, x2, x3, x4, .slice e2 m2 f2] 25 (0, 0))) (h2 : Li2 W e2 m2 f2 p2 0 (prq G (q.drop G))) :
    Code.wp Tryz.prog (btT 17) (bodyPost Tryz.prog Tryz.f7 (Ret (.bool true) (fun w' => Frm [] w w'))) ⟨List.toArray (v0 :: v1 :: v2 :: v3 :: v4 :: v5 :: v6 :: v7 :: .slice a1 n c1 :: v9 :: v10 :: v11 :: v12 :: v13 :: v14 :: v15 :: .int .i64 (G : Int) :: v17 :: v18 :: v19 :: v20 :: .pointer (some ⟨b21, 0, none⟩) :: v22 :: v23 :: v24 :: v25 :: v26 :: v27 :: v28 :: v29 :: v30 :: v31 :: v32 :: v33 :: v34 :: v35 :: v36 :: v37 :: v38 :: v39 :: v40 :: v41 :: v42 :: v43 :: v44 :: v45 :: v46 :: v47 :: v48 :: v49 :: v50 :: v51 :: v52 :: v53 :: v54 :: v55 :: v56 :: v57 :: v58 :: v59 :: v60 :: v61 :: v62 :: v63 :: v64 :: v65 :: v66 :: v67 :: v68 :: v69 :: v70 :: v71 :: v72 :: v73 :: v74 :: v75 :: v76 :: v77 :: v78 :: v79 :: v80 :: v81 :: v82 :: v83 :: v84 :: v85 :: v86 :: v87 :: v88 :: v89 :: v90 :: v91 :: v92 :: v93 :: v94 :: v95 :: v96 :: v97 :: v98 :: v99 :: v100 :: v101 :: v102 :: v103 :: v104 :: v105 :: v106 :: v107 :: v108 :: v109 :: v110 :: v111 :: v112 :: v113 :: v114 :: v115 :: v116 :: v117 :: v118 :: v119 :: v120 :: v121 :: v122 :: v123 :: v124 :: v125 :: v126 :: v127 :: v128 :: v129 :: v130 :: v131 :: v132 :: v133 :: v134 :: v135 :: v136 :: v137 :: v138 :: v139 :: v140 :: v141 :: v142 :: v143 :: v144 :: v145 :: v146 :: v147 :: v148 :: v149 :: v150 :: v151 :: v152 :: v153 :: v154 :: v155 :: v156 :: v157 :: v158 :: v159 :: v160 :: v161 :: v162 :: v163 :: v164 :: v165 :: v166 :: v167 :: v168 :: v169 :: v170 :: v171 :: v172 :: v173 :: v174 :: v175 :: v176 :: v177 :: v178 :: v179 :: v180 :: v181 :: v182 :: v183 :: v184 :: v185 :: v186 :: v187 :: v188 :: v189 :: v190 :: v191 :: v192 :: v193 :: v194 :: v195 :: v196 :: v197 :: v198 :: v199 :: v200 :: v201 :: v202 :: v203 :: v204 :: v205 :: v206 :: v207 :: v208 :: v209 :: v210 :: v211 :: v212 :: v213 :: v214 :: []), []⟩ W := by
  obtain ⟨x0, x1, x2, x3, x4, h21⟩ := h21
  obtain ⟨c0, c1', c2, c3, c4, c5⟩ := cells6L h21
  have hbl := lt_of_heap h21
  have hm2 : m2 = n - G := by rw [← h2.len, prq_len, List.length_drop, hQ.len]
  have HF := Lib.hid hF
  have HL := Lib.hid hL
  have HQ := Lib.hid hQ
  have H2 := Lib.hid h2
  clear hF hL hQ h2 h21
  have HM2 := Lib.hid hm2
  clear hm2
  conv => arg 2; whnf
  go_wp2_with fail
  go_loopw [190] (fun i wr => ∃ j : Nat, j ≤ m2 ∧ i = .int .i64 (j : Int) ∧ Frm [] W wr) (fun i _ => m2 - (intOf i).toNat)
  case atStart => exact ⟨0, Nat.zero_le _, rfl, Frm.refl _ _⟩
  case round =>
    obtain ⟨j, hj, rfl, hFr⟩ := hrel
    have HFr := Lib.hid hFr
    clear hFr
    by_cases hlt : j < m2
    · obtain ⟨x, hx, cx, cy⟩ := (H2.out.frm0 HFr.out).get hlt
      have hjG : G + j < n := by have := HM2.out; omega
      obtain ⟨u, hu, _, cu⟩ := (HQ.out.frm0 HFr.out).get hjG
      have hd : (q.drop G)[j]? = some u := by rw [List.getElem?_drop]; exact hu
      have hp := prq_get (q.drop G) G j u hd
      obtain rfl : x = (((G + j + 1 : Nat) : Int), u) := Option.some.inj (hx.symm.trans hp)
      have i1 := fun W => ix_wt (c := f2) H2.out.ad hlt W
      have i2 : ∀ W, (Instr.indexAt 95 (.slice a1 n c1) (.int .i64 ((G : Int) + (j : Int)))).run Tryz.prog W = .ok (.pointer (some ⟨b1, 0 + (G + j), none⟩)) W := fun W => by
        rw [show (G : Int) + (j : Int) = ((G + j : Nat) : Int) by omega]
        exact ix_md HQ.out.ad hjG W
      have e1 : (((G + j + 1 : Nat) : Int)) = (G : Int) + (j : Int) + 1 := by omega
      simp only [e1, Nat.zero_add] at cx cy cu i1 i2
      have bl1 := World.block_lt_of_cell? wr _ cx
      have bl2 := World.block_lt_of_cell? wr _ cu
      clear hx hu hd hp e1
      go_wp2_with fail
      go_quiet (fail)
      go_wp2_with fail
      go_roundw
      case rel => exact ⟨j + 1, by omega, by go_num, (HFr.out.alloc _).drewN _⟩
      case measure => simp [intOf]; omega
    · obtain rfl : j = m2 := by omega
      go_wp2_with fail
      refine (known_true (HL.out.frm0 HFr.out)).mono ?_
      rintro e wz ⟨rfl, hFz⟩
      have HFz := Lib.hid (HF.out.trans (HFr.out.trans hFz))
      clear hFz
      go_wp2
      go_ret
      exact ⟨rfl, HFz.out⟩
end Go.Proofs.YtjhidkjhfgbaeaaGreatDoor
