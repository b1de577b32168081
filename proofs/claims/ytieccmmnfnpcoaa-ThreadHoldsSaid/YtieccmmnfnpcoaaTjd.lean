/- Stage 12: ThreadHolds, its last loop. (By gen_tjd.py.) -/
import Derived.Test.YtieccmmnfnpcoaaTjc
import Derived.Test.YtieccmmnfnpcoaaTjb
import Derived.Test.YtieccmmnfnpcoaaTim
import Derived.Deep.DeepCutAuto
namespace Go.Proofs.Ytieccmmnfnpcoaa
open Go.ChangeShapes Go.WideShapes Go.ChangeAt Go.RowKit
set_option linter.unusedVariables false
set_option linter.unusedSimpArgs false
/-- What is behind the first statements of a body. -/
def dropS : Nat → Code → Code
  | 0, c => c
  | n + 1, .seq _ b => dropS n b
  | _ + 1, c => c
noncomputable def bT (k : Nat) : Code := dropS k (Try.f7.body.getD .skip)
def fstS : Code → Code
  | .seq a _ => a
  | c => c
theorem ix_i64 {a : Option Addr} {n c b o k : Nat} (ha : 0 < n → a = some ⟨b, o, none⟩) (hk : k < n) (w : World) : (Instr.indexAt 82 (.slice a n c) (.int .i64 (k : Int))).run Try.prog w = .ok (.pointer (some ⟨b, o + k, none⟩)) w := by
  obtain rfl := ha (by omega)
  have h1 : (k : Int) < (n : Int) := by omega
  simp [go_sem, h1]
/-- The picks. -/
def PicksOk (N : Nat) (ps : List Int) : Prop := ∀ x ∈ ps, ∃ p : Nat, x = p ∧ p < N
set_option maxRecDepth 1000000 in
set_option maxHeartbeats 25600000 in
theorem holds16 (w0 W : World) (hW : Frm [] w0 W) {F0 : List Nat} {q : Nat} {M0 : Md} (h : MAt W F0 q M0) (hF0 : ∀ x ∈ F0, w0.heap.size ≤ x) {f0 : Nat} (hfew : M0.few f0) (hf0 : f0 ≤ 1000) {a2 : Option Addr} {m c2 b2 o2 : Nat} {ps : List Int} (hL : Li .i64 W a2 m c2 b2 o2 ps) (hLF : 0 < m → b2 ∉ F0 ∧ b2 < W.heap.size) (hm : m ≤ 60) (hps : PicksOk M0.ts.length ps) {n : Nat} (hn : M0.ws.length = n) (hn20 : n ≤ 20) (a0 : Option Addr) (c0 : Nat) (t1 t2 t3 t4 t5 t6 t7 t8 t10 t11 t12 t13 t14 t15 t16 t17 t19 t20 t21 t22 t23 t24 t25 t26 t27 t28 t29 t30 t31 t32 t33 t34 t35 t36 t37 t38 t39 t40 t41 t42 t43 t44 t45 t46 t47 t48 t49 t50 t51 t52 t53 t54 t55 t56 t57 t58 t59 t60 t61 t62 t63 t64 t65 t66 t67 t68 t69 t70 t71 t72 t73 t74 t75 t76 t77 t78 t79 t80 t81 t82 t83 t84 t85 t86 t87 t88 t89 t90 t91 t92 t93 t94 t95 t96 t97 t98 t99 t100 t101 t102 t103 t104 t105 t106 t107 t108 t109 t110 t111 t112 t113 t114 t115 t116 t117 t118 t119 t120 t121 t122 t123 t124 t125 t126 t127 t128 t129 t130 t131 t132 t133 t134 t135 t136 t137 t138 t139 t140 t141 t142 t143 t144 t145 t146 t147 t148 t149 t150 t151 t152 t153 t154 t155 t156 t157 t158 t159 t160 t161 t162 t163 t164 t165 t166 t167 t168 t169 t170 t171 t172 t173 t174 t175 t176 t177 t178 t179 t180 t181 t182 t183 t184 t185 t186 t187 t188 t189 t190 t191 t192 t193 t194 t195 t196 t197 t198 t199 t200 t201 t202 t203 t204 t205 t206 t207 t208 t209 t210 t211 t212 t213 t214 t215 t216 t217 t218 t219 t220 t221 t222 t223 t224 t225 t226 t227 t228 t229 t230 t231 t232 t233 t234 t235 t236 t237 t238 t239 t240 t241 t242 t243 t244 t245 t246 t247 t248 t249 t250 t251 t252 t253 t254 t255 t256 t257 t258 t259 t260 t261 t262 t263 t264 t265 t266 t267 t268 t269 t270 t271 t272 t273 t274 t275 t276 t277 t278 t279 t280 t281 t282 t283 t284 t285 t286 t287 : Value) :
    Code.wp Try.prog (bT 16) (bodyPost Try.prog Try.f7 (Ret (.bool true) (fun w' => Frm [] w0 w'))) ⟨List.toArray (.slice a0 n c0 :: t1 :: t2 :: t3 :: t4 :: t5 :: t6 :: t7 :: t8 :: .pointer (some ⟨q, 0, none⟩) :: t10 :: t11 :: t12 :: t13 :: t14 :: t15 :: t16 :: t17 :: .slice a2 m c2 :: t19 :: t20 :: t21 :: t22 :: t23 :: t24 :: t25 :: t26 :: t27 :: t28 :: t29 :: t30 :: t31 :: t32 :: t33 :: t34 :: t35 :: t36 :: t37 :: t38 :: t39 :: t40 :: t41 :: t42 :: t43 :: t44 :: t45 :: t46 :: t47 :: t48 :: t49 :: t50 :: t51 :: t52 :: t53 :: t54 :: t55 :: t56 :: t57 :: t58 :: t59 :: t60 :: t61 :: t62 :: t63 :: t64 :: t65 :: t66 :: t67 :: t68 :: t69 :: t70 :: t71 :: t72 :: t73 :: t74 :: t75 :: t76 :: t77 :: t78 :: t79 :: t80 :: t81 :: t82 :: t83 :: t84 :: t85 :: t86 :: t87 :: t88 :: t89 :: t90 :: t91 :: t92 :: t93 :: t94 :: t95 :: t96 :: t97 :: t98 :: t99 :: t100 :: t101 :: t102 :: t103 :: t104 :: t105 :: t106 :: t107 :: t108 :: t109 :: t110 :: t111 :: t112 :: t113 :: t114 :: t115 :: t116 :: t117 :: t118 :: t119 :: t120 :: t121 :: t122 :: t123 :: t124 :: t125 :: t126 :: t127 :: t128 :: t129 :: t130 :: t131 :: t132 :: t133 :: t134 :: t135 :: t136 :: t137 :: t138 :: t139 :: t140 :: t141 :: t142 :: t143 :: t144 :: t145 :: t146 :: t147 :: t148 :: t149 :: t150 :: t151 :: t152 :: t153 :: t154 :: t155 :: t156 :: t157 :: t158 :: t159 :: t160 :: t161 :: t162 :: t163 :: t164 :: t165 :: t166 :: t167 :: t168 :: t169 :: t170 :: t171 :: t172 :: t173 :: t174 :: t175 :: t176 :: t177 :: t178 :: t179 :: t180 :: t181 :: t182 :: t183 :: t184 :: t185 :: t186 :: t187 :: t188 :: t189 :: t190 :: t191 :: t192 :: t193 :: t194 :: t195 :: t196 :: t197 :: t198 :: t199 :: t200 :: t201 :: t202 :: t203 :: t204 :: t205 :: t206 :: t207 :: t208 :: t209 :: t210 :: t211 :: t212 :: t213 :: t214 :: t215 :: t216 :: t217 :: t218 :: t219 :: t220 :: t221 :: t222 :: t223 :: t224 :: t225 :: t226 :: t227 :: t228 :: t229 :: t230 :: t231 :: t232 :: t233 :: t234 :: t235 :: t236 :: t237 :: t238 :: t239 :: t240 :: t241 :: t242 :: t243 :: t244 :: t245 :: t246 :: t247 :: t248 :: t249 :: t250 :: t251 :: t252 :: t253 :: t254 :: t255 :: t256 :: t257 :: t258 :: t259 :: t260 :: t261 :: t262 :: t263 :: t264 :: t265 :: t266 :: t267 :: t268 :: t269 :: t270 :: t271 :: t272 :: t273 :: t274 :: t275 :: t276 :: t277 :: t278 :: t279 :: t280 :: t281 :: t282 :: t283 :: t284 :: t285 :: t286 :: t287 :: []), []⟩ W := by
  have HL := Lib.hid hL
  have HLF := Lib.hid hLF
  have HPS := Lib.hid hps
  have HM := Lib.hid hm
  have hm2 : (m : Int) ≤ 60 := by omega
  have HN := Lib.hid hn20
  have hn2 : (n : Int) ≤ 20 := by omega
  have H0 : Hid (∃ F, MAt W F q M0 ∧ (∀ x ∈ F, w0.heap.size ≤ x) ∧ (0 < m → b2 ∉ F)) := Lib.hid ⟨F0, h, hF0, fun hp => (hLF hp).1⟩
  have HW := Lib.hid hW
  have HFEW := Lib.hid hfew
  have HF0 := Lib.hid hf0
  have HNW := Lib.hid hn
  clear hL hLF hps hm hn20 h hF0 hW hfew hf0 hn
  conv => arg 2; whnf
  go_wp2_with fail
  go_loopw [192] (fun j wr => ∃ (k : Nat) (M : Md), k ≤ m ∧ j = .int .i64 k ∧ Frm [] w0 wr ∧ Li .i64 wr a2 m c2 b2 o2 ps ∧ (∃ F, MAt wr F q M ∧ (∀ x ∈ F, w0.heap.size ≤ x) ∧ (0 < m → b2 ∉ F)) ∧ M.few (f0 + k) ∧ M.ws.length = n ∧ M.ts.length = M0.ts.length) (fun j _ => m - (intOf j).toNat)
  case atStart => exact ⟨0, M0, Nat.zero_le _, rfl, HW.out, HL.out, H0.out, HFEW.out, HNW.out, rfl⟩
  case round =>
    obtain ⟨k, M, hk, rfl, hF, hLi, ⟨F, hM, hFn, hFb⟩, hfw, hwl, htl⟩ := hrel
    have HTL := Lib.hid htl
    have HWL := Lib.hid hwl
    have HFW := Lib.hid hfw
    have HFN := Lib.hid hFn
    have HFB := Lib.hid hFb
    have HF := Lib.hid hF
    have HLI := Lib.hid hLi
    have HMM := Lib.hid hM
    clear htl hwl hfw hFn hFb hF hLi hM
    by_cases hlt : k < m
    · obtain ⟨x, hx1, _, hx3⟩ := HLI.out.get hlt
      obtain ⟨p, rfl, hp⟩ := HPS.out x (List.mem_of_getElem? hx1)
      have hix := ix_i64 (c := c2) HLI.out.ad hlt
      have HP := Lib.hid hp
      clear hx1 hp
      go_wp2_with fail
      refine (mat_Mem HMM.out).mono ?_
      rintro e w1 ⟨p1, d1, c1, rfl, hF1, hA1, hp1, hd1⟩
      have HA1 := Lib.hid hA1
      have HF1 := Lib.hid hF1
      have HM1 := Lib.hid (HMM.out.quiet hF1)
      clear hF1 hA1
      go_wp2_with fail
      refine (mat_Waits HM1.out p).mono ?_
      rintro e w2 ⟨rfl, hg2, hm2⟩
      have HA2 := Lib.hid (HA1.out.frm hg2.frm (fun hx => by have := HMM.out.lt _ hx; omega) (fun hx => by have := HMM.out.lt _ hx; omega))
      have HG2 := Lib.hid ((Go.of HF1.out).trans hg2)
      have HM2 := Lib.hid hm2
      clear hg2 hm2 HA1 HM1 HF1
      go_wp2_with fail
      refine (mat_Step HM2.out HFW.out (by have := HF0.out; have := HM.out; omega) p).mono ?_
      rintro e w3 ⟨rfl, hg3, hm3⟩
      have hw := Step_way M HM2.out.ok p (by have := HTL.out; have := HP.out; omega)
      have hfw3 := Step_few HFW.out p
      have HFW3 := Lib.hid hfw3
      have HA3 := Lib.hid (HA2.out.frm hg3.frm (fun hx => by have := HMM.out.lt _ hx; omega) (fun hx => by have := HMM.out.lt _ hx; omega))
      have HG3 := Lib.hid (HG2.out.trans hg3)
      have HM3 := Lib.hid hm3
      have HPD := Lib.hid (And.intro hp1 hd1)
      have HMW := Lib.hid HM2.out
      clear hg3 hm3 HA2 HG2 HM2 hfw3 hp1 hd1
      generalize M.Step (p : Int) = S at *
      generalize M.waits (p : Int) = wv at *
      obtain ⟨M3, ⟨di, ⟨ak, aw, ab, aa⟩, wt, en⟩, er⟩ := S
      dsimp only [Dd.val, didV] at *
      have HWY := Lib.hid hw
      clear hw
      have hfr : ∀ (w : World) (k : Nat), (w.alloc (.cells #[.int .i64 di, .int .i64 ak, .int .i64 aw, .int .u64 ab, .int .u64 aa, .bool wt, .bool en] 64)).frozen? ⟨w.heap.size, k, none⟩ = false := fun w k => frozen_of_heap (heap_alloc_new _ _)
      go_wp2_with fail
      have hal : Frm [] w3 (w3.alloc (.cells #[.int .i64 di, .int .i64 ak, .int .i64 aw, .int .u64 ab, .int .u64 aa, .bool wt, .bool en] 64)) := (Frm.refl _ _).alloc _
      have hgb := heap_alloc_new w3 (.cells #[.int .i64 di, .int .i64 ak, .int .i64 aw, .int .u64 ab, .int .u64 aa, .bool wt, .bool en] 64)
      have hgs : w3.heap.size < (w3.alloc (.cells #[.int .i64 di, .int .i64 ak, .int .i64 aw, .int .u64 ab, .int .u64 aa, .bool wt, .bool en] 64)).heap.size := lt_of_heap hgb
      refine (mat_Mem (HM3.out.quiet hal)).mono ?_
      rintro e w5 ⟨p2, d2, c2', rfl, hF5, hA5, hp2, hd2⟩
      have HB5 := Lib.hid (hF5.heap hgb (by simp))
      have HA5 := Lib.hid hA5
      have HA1 := Lib.hid (HA3.out.frm (hal.trans hF5) (by simp) (by simp))
      have HG5 := Lib.hid (HG3.out.trans (Go.of (hal.trans hF5)))
      have HM5 := Lib.hid (HM3.out.quiet (hal.trans hF5))
      have HPD2 := Lib.hid (show w3.heap.size < p2 ∧ w3.heap.size < d2 from ⟨by omega, by omega⟩)
      have hs3 := HG3.out.frm.size
      have HS3 := Lib.hid hs3
      have HPL := Lib.hid (show p1 < w3.heap.size ∧ d1 < w3.heap.size from ⟨HA3.out.plt, HA3.out.dlt⟩)
      have c0' : w5.cell? ⟨w3.heap.size, 0, none⟩ = some (.int .i64 di) := by rw [cell_of_heap HB5.out]; rfl
      have c2'' : w5.cell? ⟨w3.heap.size, 5, none⟩ = some (.bool wt) := by rw [cell_of_heap HB5.out]; rfl
      clear hal hgb hgs hF5 hA5 hp2 hd2 hs3 HA3 HG3 HM3 hfr
      generalize w3.heap.size = g at *
      rcases HWY.out with ⟨he, rfl, rfl⟩ | ⟨he, hdi, hwt, hl3, hw3, hcase⟩
      · have he' : (er != 0) = true := by simpa using he
        have HSM := Lib.hid (same_mem HA1.out HA5.out)
        go_wp2_with fail
        refine HSM.out.mono ?_
        rintro e w6 ⟨nd, rfl, rfl⟩
        have hdt : decide (M3.ws = M3.ws) = true := by simp
        go_wp2_with fail
        go_roundw
        case rel =>
          have hd : Frm [] w5 (w5.drewN nd) := (Frm.refl _ _).drewN _
          have hg := HG5.out.trans (Go.of hd)
          exact ⟨k + 1, M3, by omega, by go_num, HF.out.trans_new hg.frm (fun x hx => .inr (HFN.out x hx)), HLI.out.frm hg.frm (fun hp => HFB.out hp), ⟨F, HM5.out.quiet hd, HFN.out, HFB.out⟩, HFW3.out, HWL.out, HTL.out⟩
        case measure => simp [intOf]; omega
      · subst he hdi hwt
        have HC := Lib.hid hcase
        have HL3 := Lib.hid hl3
        have HW3 := Lib.hid hw3
        have e0 : ((0 : Int) != 0) = false := by decide
        have hww : (wt != wt) = false := by simp
        have hpp : ((p : Int) != (p : Int)) = false := by simp
        clear hcase hl3 hw3 HWY
        have hnew : ∀ x ∈ [d1, d2], wr.heap.size ≤ x ∧ w0.heap.size ≤ x := fun x hx => by
          have := HPD.out; have := HPD2.out; have := HS3.out; have := HF.out.size
          simp at hx
          rcases hx with rfl | rfl <;> omega
        have HDIS := Lib.hid (show ∀ x ∈ F, x ∉ [d1, d2] from fun x hx hx2 => by have := hnew x hx2; have := HMM.out.lt x hx; omega)
        have HNEW := Lib.hid hnew
        clear hnew
        go_wp2_with fail
        go_loopw [236] (fun i wr2 => ∃ k2 : Nat, k2 ≤ n ∧ i = .int .i64 k2 ∧ Frm [d1, d2] w5 wr2 ∧ MemAt wr2 p1 d1 c1 M.ws ∧ MemAt wr2 p2 d2 c2' M3.ws) (fun i _ => n - (intOf i).toNat)
        case atStart => exact ⟨0, Nat.zero_le _, rfl, Frm.refl _ _, HA1.out, HA5.out⟩
        case round =>
          obtain ⟨k2, hk2, rfl, hFr, hx1, hx2⟩ := hrel
          have HFR := Lib.hid hFr
          have HX1 := Lib.hid hx1
          have HX2 := Lib.hid hx2
          clear hFr hx1 hx2
          by_cases hlt2 : k2 < n
          · have e1 : M.ws[k2]? = some (M.ws.getD k2 0) := by rw [List.getD_eq_getElem?_getD, List.getElem?_eq_getElem (by have := HWL.out; omega)]; rfl
            have e2 : M3.ws[k2]? = some (M3.ws.getD k2 0) := by rw [List.getD_eq_getElem?_getD, List.getElem?_eq_getElem (by have := HWL.out; have := HW3.out; omega)]; rfl
            have HC2 : Hid (M.ws.getD k2 0 = M3.ws.getD k2 0 ∨ (wt = false ∧ ak ≠ 0 ∧ aw = k2 ∧ ab = M.ws.getD k2 0 ∧ aa = M3.ws.getD k2 0)) := Lib.hid (by
              rcases HC.out with h1 | ⟨h1, h2, nn, h3, h4, h5, h6⟩
              · exact .inl (by rw [h1])
              · by_cases hnk : nn = k2
                · subst hnk
                  refine .inr ⟨h1, h2, h3, h5, ?_⟩
                  rw [h6, List.getD_eq_getElem?_getD, List.getElem?_set_self h4]; rfl
                · refine .inl ?_
                  rw [h6, List.getD_eq_getElem?_getD, List.getD_eq_getElem?_getD, List.getElem?_set_ne hnk])
            have HLD1 := Lib.hid (Load_ok HX1.out k2 _ e1)
            have E2 := Lib.hid e2
            clear e1 e2
            generalize M.ws.getD k2 0 = x1 at *
            generalize M3.ws.getD k2 0 = x2 at *
            go_wp2_with fail
            refine HLD1.out.mono ?_
            rintro e w6 ⟨rfl, hF6, hm6⟩
            have HM6 := Lib.hid hm6
            have HN6 := Lib.hid (HX2.out.frm hF6 (fun hx => by simp at hx; have := HPL.out; have := HPD2.out; omega) (fun hx => by simp at hx; have := HPL.out; have := HPD2.out; omega))
            have HF6 := Lib.hid (HFR.out.trans (hF6.weak (by simp)))
            clear hF6 hm6 HLD1
            go_wp2_with fail
            refine (Load_ok HN6.out k2 _ E2.out).mono ?_
            rintro e w7 ⟨rfl, hF7, hm7⟩
            have HM7 := Lib.hid (HM6.out.frm hF7 (fun hx => by simp at hx; have := HPL.out; have := HPD2.out; omega) (fun hx => by simp at hx; have := HPL.out; have := HPD2.out; omega))
            have HN7 := Lib.hid hm7
            have HF7 := Lib.hid (HF6.out.trans (hF7.weak (by simp)))
            have HB7 := Lib.hid (HF7.out.heap HB5.out (by simp; have := HPL.out; have := HPD2.out; omega))
            clear hF7 hm7 c0' c2''
            have q0 : w7.cell? ⟨g, 1, none⟩ = some (.int .i64 ak) := by rw [cell_of_heap HB7.out]; rfl
            have q1 : w7.cell? ⟨g, 2, none⟩ = some (.int .i64 aw) := by rw [cell_of_heap HB7.out]; rfl
            have q2 : w7.cell? ⟨g, 3, none⟩ = some (.int .u64 ab) := by rw [cell_of_heap HB7.out]; rfl
            have q3 : w7.cell? ⟨g, 4, none⟩ = some (.int .u64 aa) := by rw [cell_of_heap HB7.out]; rfl
            have q4 : w7.cell? ⟨g, 5, none⟩ = some (.bool wt) := by rw [cell_of_heap HB7.out]; rfl
            by_cases hv : x1 = x2
            · subst hv
              have b0 : (x1 != x1) = false := by simp
              go_wp2_with fail
              go_roundw
              case rel => exact ⟨k2 + 1, by omega, by go_num, HF7.out, HM7.out, HN7.out⟩
              case measure => simp [intOf]; omega
            · obtain ⟨rfl, hak, rfl, rfl, rfl⟩ := HC2.out.resolve_left hv
              have b0 : (ab != aa) = true := by simpa using hv
              have b1 : (ak == 0) = false := by simpa using hak
              have b2' : ((k2 : Int) != (k2 : Int)) = false := by simp
              have b3 : (ab != ab) = false := by simp
              have b4 : (aa != aa) = false := by simp
              clear hv hak
              go_wp2_with fail
              go_roundw
              case rel => exact ⟨k2 + 1, by omega, by go_num, HF7.out, HM7.out, HN7.out⟩
              case measure => simp [intOf]; omega
          · have hkn : k2 = n := by omega
            subst hkn
            go_wp2_with fail
            go_roundw
            case rel =>
              obtain ⟨ds1, hds1, _⟩ := HA1.out.arr
              obtain ⟨ds2, hds2, _⟩ := HA5.out.arr
              have hgo := (show Go [d1, d2] w5 _ from ⟨_, HFR.out, fun x hx => ⟨hx, by
                simp at hx
                rcases hx with rfl | rfl
                · exact ni_of hds1 (by decide)
                · exact ni_of hds2 (by decide)⟩⟩)
              exact ⟨k + 1, M3, by omega, by go_num, (HF.out.trans_new HG5.out.frm (fun x hx => .inr (HFN.out x hx))).trans_new HFR.out (fun x hx => .inr (HNEW.out x hx).2), (HLI.out.frm HG5.out.frm (fun hp => HFB.out hp)).frm HFR.out (fun hp hx => by have := (HNEW.out _ hx).1; have := HLI.out.lt hp; omega), ⟨F, HM5.out.other hgo HDIS.out, HFN.out, HFB.out⟩, HFW3.out, by rw [HW3.out, HWL.out], by rw [HL3.out, HTL.out]⟩
            case measure => simp [intOf]; omega
    · have hkn : k = m := by omega
      subst hkn
      go_wp2_with fail
      refine (known_true _).mono ?_
      rintro e w' ⟨rfl, hq⟩
      have HQ := Lib.hid (HF.out.trans hq)
      clear hq
      go_wp2_with fail
      go_ret
      exact ⟨rfl, HQ.out⟩

open Go.ChangeShapes Go.WideShapes Go.ChangeAt Go.RowKit
set_option linter.unusedVariables false
theorem cut_from_i {w : World} {a : Option Addr} {n c b o : Nat} {l : List Int} (hL : Li .i64 w a n c b o l) (k : Nat) (hk : k ≤ n) :
    ∃ a', (∀ W : World, (Instr.sliceAt 82 (.slice a n c) (some (.int .i64 (k : Int))) none none).run Try.prog W = .ok (.slice a' (n - k) (c - k)) W) ∧ Li .i64 w a' (n - k) (c - k) b (o + k) (l.drop k) := by
  have hc := hL.cap
  refine ⟨if c = k then a else a.map (·.add k), fun W => ?_, ?_⟩
  · have h1 : (k : Int) ≤ (n : Int) := by omega
    simp [go_sem, h1]
  · have hD := hL.drop hk
    refine ⟨hD.len, fun hp => ?_, hD.cell, hD.cap⟩
    rw [if_neg (by omega)]; exact hD.ad hp
theorem cut_to_i {a : Option Addr} {n c k : Nat} (hk : k ≤ c) (W : World) : (Instr.sliceAt 82 (.slice a n c) none (some (.int .i64 (k : Int))) none).run Try.prog W = .ok (.slice a k c) W := by
  have h1 : (k : Int) ≤ (c : Int) := by omega
  cases a <;> simp [go_sem, h1, Addr.add]
theorem Li.take {k : IntKind} {w : World} {a : Option Addr} {n c b o : Nat} {l : List Int} (h : Li k w a n c b o l) {i : Nat} (hi : i ≤ n) : Li k w a i c b o (l.take i) := by
  have hc := h.cap
  refine ⟨by rw [List.length_take, h.len]; omega, fun hp => h.ad (by omega), fun j x hx => ?_, by omega⟩
  rw [List.getElem?_take] at hx
  split at hx
  · exact h.cell _ _ hx
  · cases hx
theorem run_min2 {w : World} (ts : Array TypeId) (t : TypeId) (x y : Nat) : (Builtin.min_ ts t #[.int .i64 (x : Int), .int .i64 (y : Int)]).run Try.prog w = .ok (.int .i64 ((min x y : Nat) : Int)) w := by
  by_cases h : y < x
  · have : (y : Int) < (x : Int) := by omega
    simp [Builtin.min_, Builtin.min2, this, Nat.min_def, show ¬ x ≤ y by omega]
  · have : ¬ (y : Int) < (x : Int) := by omega
    simp [Builtin.min_, Builtin.min2, this, Nat.min_def, show x ≤ y by omega]
theorem runA_dlen : ∀ (l : List Int) (M : Md) (acc : List Dd), (runA M acc l).2.1.length ≤ acc.length + l.length
  | [], M, acc => by simp [runA]
  | p :: r, M, acc => by
    cases ht : M.th p with
    | none => rw [rA_no ht]; simp
    | some t =>
      by_cases hen : t.P.en = true
      · rw [rA_end ht hen]; have := runA_dlen r M acc; simp only [List.length_cons]; omega
      · by_cases he : (M.go p.toNat t).2.2 ≠ 0
        · rw [rA_err ht hen he]; simp
        · rw [rA_go ht hen he]; have := runA_dlen r (M.go p.toNat t).1 (acc ++ [(M.go p.toNat t).2.1]); simp only [List.length_cons, List.length_append, List.length_nil] at this ⊢; omega
theorem Run_dlen (M : Md) (l : List Int) : (M.Run l).2.1.length ≤ l.length := by
  have := runA_dlen l M []
  unfold Md.Run
  split
  · simp
  · split
    · simp
    · split
      · simp
      · simpa using this
/-- The same under a guard that is met. -/
theorem wpl_appDg {w : World} {ops : Array Oper} {rest : List Oper} {o : Oper} {x : Act} {Q : Exit → Act → World → Prop} (hgd : Region.wanted o (yielded ops x.tmps) = true) (p q : Operand)
    (ho : o.op = .call { callee := .builtin .append, args := #[p, q], argTypes := #[79, 79] }) {B : Nat} {a a2 : Option Addr} {n c m c2 b2 o2 : Nat} {l l2 : List Dd}
    (hd : x.eval p = .slice a n c) (hq : x.eval q = .slice a2 m c2) (hR : RowD B w a n c l) (hL : DL w a2 m c2 b2 o2 l2) (hn : l.length + m ≤ 1000000) (hB : B ≤ w.heap.size)
    (hK : ∀ a' c' w', RowD B w' a' (n + m) c' (l ++ l2) → Frm (blk (.slice a n c)) w w' → wpList Try.prog ops Q rest (x.put o.dst (.slice a' (n + m : Nat) c')) w') : wpList Try.prog ops Q (o :: rest) x w := by
  refine wpList_step fun K hK' => ?_
  rw [if_pos hgd]
  obtain ⟨a', c', w', hr, h1, h2⟩ := run_appD hR hL hn hB o.type
  unfold Oper.wp
  simp [execOp, ho, resolve, invoke, builtin, hd, hq, hr, Result.andThen]
  exact hK' _ _ (hK _ _ _ h1 h2)
/-- What Run returns, whether it ends well or not. -/
def RunU (w : World) (F : List Nat) (q : Nat) (R : Md × List Dd × Int) (e : Ending) (w' : World) : Prop :=
  ∃ a c, Ret (.tuple #[.slice a R.2.1.length c, .int .i64 R.2.2]) (fun w' => ∃ F', Go F w w' ∧ MAt w' F' q R.1 ∧ (∀ x ∈ F', x ∈ F ∨ w.heap.size ≤ x) ∧ ∃ b, DL w' a R.2.1.length c b 0 R.2.1 ∧ ∀ x ∈ blk (.slice a R.2.1.length c), x ∉ F' ∧ w.heap.size ≤ x ∧ x < w'.heap.size) e w'
theorem run_err {M : Md} {l : List Int} (h : (M.Run l).2.2 ≠ 0) : (M.Run l).1 = M ∧ (M.Run l).2.1 = [] := by
  unfold Md.Run at h ⊢
  split
  · exact ⟨rfl, rfl⟩
  · split
    · exact ⟨rfl, rfl⟩
    · split
      · exact ⟨rfl, rfl⟩
      · rename_i h1 h2 h3; rw [if_neg h1, if_neg h2, if_neg h3] at h; exact absurd rfl h
theorem mat_RunU {w : World} {F : List Nat} {q : Nat} {M : Md} {a : Option Addr} {n c b o : Nat} {l : List Int} (h : MAt w F q M) {m : Nat} (hfew : M.few m) (hL : Li .i64 w a n c b o l) (hn : n ≤ 2147483647) (hm : m < 900000000) (hbl : 0 < n → b < w.heap.size) :
    Calls Try.prog 27 #[.pointer (some ⟨q, 0, none⟩), .slice a n c] w (RunU w F q (M.Run l)) := by
  refine (mat_Run h hfew hL hn hm hbl).mono ?_
  intro e w' hr
  unfold RunR at hr
  split at hr
  · rename_i he
    obtain ⟨a', c', F', rfl, hg, hm', hF', hG, hb⟩ := hr
    obtain ⟨b', hD⟩ := hG.dl rfl
    refine ⟨a', c', by rw [he], F', hg, hm', hF', b', hD, fun x hx => ?_⟩
    have hx2 : x ∈ bkG a' := by
      cases a' with
      | none => simp [blk] at hx
      | some y => simp [blk] at hx; simp [bkG, hx]
    exact ⟨hb x hx2, (hG.from_ x hx2).1, (hG.from_ x hx2).2⟩
  · rename_i he
    obtain ⟨e1, e2⟩ := run_err he
    obtain ⟨rfl, hf⟩ := hr
    refine ⟨none, 0, by rw [e2]; rfl, F, Go.of hf, by rw [e1]; exact h.quiet hf, fun x hx => .inl hx, 0, by rw [e2]; exact DL.nil w', fun x hx => by simp [blk] at hx⟩
end Go.Proofs.Ytieccmmnfnpcoaa
