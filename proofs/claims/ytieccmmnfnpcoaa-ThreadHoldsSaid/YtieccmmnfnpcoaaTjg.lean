/- Stage 12: ThreadHolds, the picks. (By gen_tjd.py.) -/
import Derived.Test.YtieccmmnfnpcoaaTjf
namespace Go.Proofs.Ytieccmmnfnpcoaa
open Go.ChangeShapes Go.WideShapes Go.ChangeAt Go.RowKit
set_option linter.unusedVariables false
set_option linter.unusedSimpArgs false
theorem info_int : (Try.prog.info? 3).map (fun i => (i.zero, i.size, i.bytes)) = some (some (.int .i64 0), 1, 8) := by kernel_rfl
set_option maxRecDepth 1000000 in
set_option maxHeartbeats 25600000 in
theorem holds7 (w0 W : World) (hW : Frm [] w0 W) {F0 : List Nat} {q : Nat} {M0 : Md} (h : MAt W F0 q M0) (hF0 : ∀ x ∈ F0, w0.heap.size ≤ x) {f0 : Nat} (hfew : M0.few f0) (hf0 : f0 ≤ 1000) {a1 : Option Addr} {m1 c1 b1 o1 : Nat} {ks : List Int} (hL : Li .u8 W a1 m1 c1 b1 o1 ks) (hks : ∀ x ∈ ks, (Lit.int .u8 x).wf = true) (hm : m1 ≤ 60) {N : Nat} (hN : M0.ts.length = N) (hN0 : 0 < N) (hN1 : N ≤ 64) {n : Nat} (hn : M0.ws.length = n) (hn20 : n ≤ 20) (a0 : Option Addr) (c0 : Nat) (kk : Nat) (hkk : kk ≤ 255) (t1 t4 t5 t6 t7 t8 t10 t11 t12 t13 t14 t15 t16 t18 t19 t20 t21 t22 t23 t24 t25 t26 t27 t28 t29 t30 t31 t32 t33 t34 t35 t36 t37 t38 t39 t40 t41 t42 t43 t44 t45 t46 t47 t48 t49 t50 t51 t52 t53 t54 t55 t56 t57 t58 t59 t60 t61 t62 t63 t64 t65 t66 t67 t68 t69 t70 t71 t72 t73 t74 t75 t76 t77 t78 t79 t80 t81 t82 t83 t84 t85 t86 t87 t88 t89 t90 t91 t92 t93 t94 t95 t96 t97 t98 t99 t100 t101 t102 t103 t104 t105 t106 t107 t108 t109 t110 t111 t112 t113 t114 t115 t116 t117 t118 t119 t120 t121 t122 t123 t124 t125 t126 t127 t128 t129 t130 t131 t132 t133 t134 t135 t136 t137 t138 t139 t140 t141 t142 t143 t144 t145 t146 t147 t148 t149 t150 t151 t152 t153 t154 t155 t156 t157 t158 t159 t160 t161 t162 t163 t164 t165 t166 t167 t168 t169 t170 t171 t172 t173 t174 t175 t176 t177 t178 t179 t180 t181 t182 t183 t184 t185 t186 t187 t188 t189 t190 t191 t192 t193 t194 t195 t196 t197 t198 t199 t200 t201 t202 t203 t204 t205 t206 t207 t208 t209 t210 t211 t212 t213 t214 t215 t216 t217 t218 t219 t220 t221 t222 t223 t224 t225 t226 t227 t228 t229 t230 t231 t232 t233 t234 t235 t236 t237 t238 t239 t240 t241 t242 t243 t244 t245 t246 t247 t248 t249 t250 t251 t252 t253 t254 t255 t256 t257 t258 t259 t260 t261 t262 t263 t264 t265 t266 t267 t268 t269 t270 t271 t272 t273 t274 t275 t276 t277 t278 t279 t280 t281 t282 t283 t284 t285 t286 t287 : Value) :
    Code.wp Try.prog (bT 7) (bodyPost Try.prog Try.f7 (Ret (.bool true) (fun w' => Frm [] w0 w'))) ⟨List.toArray (.slice a0 n c0 :: t1 :: .slice a1 m1 c1 :: .int .u8 kk :: t4 :: t5 :: t6 :: t7 :: t8 :: .pointer (some ⟨q, 0, none⟩) :: t10 :: t11 :: t12 :: t13 :: t14 :: t15 :: t16 :: .int .i64 (N : Int) :: t18 :: t19 :: t20 :: t21 :: t22 :: t23 :: t24 :: t25 :: t26 :: t27 :: t28 :: t29 :: t30 :: t31 :: t32 :: t33 :: t34 :: t35 :: t36 :: t37 :: t38 :: t39 :: t40 :: t41 :: t42 :: t43 :: t44 :: t45 :: t46 :: t47 :: t48 :: t49 :: t50 :: t51 :: t52 :: t53 :: t54 :: t55 :: t56 :: t57 :: t58 :: t59 :: t60 :: t61 :: t62 :: t63 :: t64 :: t65 :: t66 :: t67 :: t68 :: t69 :: t70 :: t71 :: t72 :: t73 :: t74 :: t75 :: t76 :: t77 :: t78 :: t79 :: t80 :: t81 :: t82 :: t83 :: t84 :: t85 :: t86 :: t87 :: t88 :: t89 :: t90 :: t91 :: t92 :: t93 :: t94 :: t95 :: t96 :: t97 :: t98 :: t99 :: t100 :: t101 :: t102 :: t103 :: t104 :: t105 :: t106 :: t107 :: t108 :: t109 :: t110 :: t111 :: t112 :: t113 :: t114 :: t115 :: t116 :: t117 :: t118 :: t119 :: t120 :: t121 :: t122 :: t123 :: t124 :: t125 :: t126 :: t127 :: t128 :: t129 :: t130 :: t131 :: t132 :: t133 :: t134 :: t135 :: t136 :: t137 :: t138 :: t139 :: t140 :: t141 :: t142 :: t143 :: t144 :: t145 :: t146 :: t147 :: t148 :: t149 :: t150 :: t151 :: t152 :: t153 :: t154 :: t155 :: t156 :: t157 :: t158 :: t159 :: t160 :: t161 :: t162 :: t163 :: t164 :: t165 :: t166 :: t167 :: t168 :: t169 :: t170 :: t171 :: t172 :: t173 :: t174 :: t175 :: t176 :: t177 :: t178 :: t179 :: t180 :: t181 :: t182 :: t183 :: t184 :: t185 :: t186 :: t187 :: t188 :: t189 :: t190 :: t191 :: t192 :: t193 :: t194 :: t195 :: t196 :: t197 :: t198 :: t199 :: t200 :: t201 :: t202 :: t203 :: t204 :: t205 :: t206 :: t207 :: t208 :: t209 :: t210 :: t211 :: t212 :: t213 :: t214 :: t215 :: t216 :: t217 :: t218 :: t219 :: t220 :: t221 :: t222 :: t223 :: t224 :: t225 :: t226 :: t227 :: t228 :: t229 :: t230 :: t231 :: t232 :: t233 :: t234 :: t235 :: t236 :: t237 :: t238 :: t239 :: t240 :: t241 :: t242 :: t243 :: t244 :: t245 :: t246 :: t247 :: t248 :: t249 :: t250 :: t251 :: t252 :: t253 :: t254 :: t255 :: t256 :: t257 :: t258 :: t259 :: t260 :: t261 :: t262 :: t263 :: t264 :: t265 :: t266 :: t267 :: t268 :: t269 :: t270 :: t271 :: t272 :: t273 :: t274 :: t275 :: t276 :: t277 :: t278 :: t279 :: t280 :: t281 :: t282 :: t283 :: t284 :: t285 :: t286 :: t287 :: []), []⟩ W := by
  have HL := Lib.hid hL
  have HM := Lib.hid hm
  have hm2 : (m1 : Int) ≤ 60 := by omega
  have HN20 := Lib.hid hn20
  have HH := Lib.hid h
  have HF0 := Lib.hid hF0
  have HW := Lib.hid hW
  have HFEW := Lib.hid hfew
  have HF1000 := Lib.hid hf0
  have HNW := Lib.hid hn
  have HKK := Lib.hid hkk
  have HKS := Lib.hid hks
  have HN := Lib.hid hN
  have hN2 : (N : Int) ≤ 64 := by omega
  have hN3 : decide ((N : Int) = 0) = false := by simp; omega
  have hN4 : ¬ N = 0 := by omega
  have HN0 := Lib.hid hN0
  clear hL hm hn20 h hF0 hW hfew hf0 hn hkk hks hN hN0 hN1
  rw [show bT 7 = Code.seq (fstS (bT 7)) (bT 8) from by kernel_rfl]
  refine wp_seq_k ?_
  intro K hK
  have HK7 := Lib.hid hK
  clear hK
  conv => arg 2; whnf
  go_wp2_with fail
  refine HK7.out _ _ ?_
  rw [show bT 8 = Code.seq (fstS (bT 8)) (bT 9) from by kernel_rfl]
  refine wp_seq_k ?_
  intro K hK
  have HK8 := Lib.hid hK
  clear hK
  conv => arg 2; whnf
  go_wp2_with fail
  go_loopw [18, 102] (fun sl i wr => ∃ (k : Nat) (a : Option Addr) (c : Nat) (ps : List Int), k ≤ m1 ∧ i = .int .i64 k ∧ sl = .slice a k c ∧ Frm [] W wr ∧ Row .i64 3 W.heap.size wr a k c ps ∧ PicksOk N ps) (fun _ i _ => m1 - (intOf i).toNat)
  case atStart => exact ⟨0, none, 0, [], Nat.zero_le _, rfl, rfl, Frm.refl _ _, Row.nil _ _ _ _, fun x hx => by simp at hx⟩
  case round =>
    obtain ⟨k, a, c, ps, hk, rfl, rfl, hF, hR, hP⟩ := hrel
    have HF := Lib.hid hF
    have HR := Lib.hid hR
    have HP := Lib.hid hP
    clear hF hR hP
    by_cases hlt : k < m1
    · obtain ⟨x, hx1, _, hx3⟩ := (HL.out.frm0 HF.out).get hlt
      have hwf := HKS.out x (List.mem_of_getElem? hx1)
      have hx0 : 0 ≤ x ∧ x ≤ 255 := by
        have e0 : IntKind.u8.min = 0 := rfl
        have e1 : IntKind.u8.max = 255 := rfl
        simp [Lit.wf] at hwf; omega
      obtain ⟨y, rfl⟩ := Int.eq_ofNat_of_zero_le hx0.1
      have hix := ix_u8 (c := c1) HL.out.ad hlt
      have hy : (y : Int) ≤ 255 := hx0.2
      have hmod : (y : Int).tmod (N : Int) = ((y % N : Nat) : Int) := rfl
      have hlt2 : y % N < N := Nat.mod_lt _ HN0.out
      have hlt3 : ((y % N : Nat) : Int) ≤ 64 := by omega
      have HLT := Lib.hid hlt2
      clear hwf hx1 hlt2 hx0
      have HLN := Lib.hid (show ps.length + 1 ≤ 10000000 by have := HR.out.2; omega)
      have HSZ := Lib.hid (show ∀ o, W.heap.size ≤ (wr.alloc o).heap.size from fun o => Nat.le_trans HF.out.size ((Frm.refl [] wr).alloc o).size)
      have HFA := Lib.hid (show ∀ o, Frm [] W (wr.alloc o) from fun o => HF.out.trans ((Frm.refl [] wr).alloc o))
      go_wp2_with (at_builtin; refine wpl_app Try.underlying82 info_int (by decide) (by decide) rfl (.tmp 106) (.tmp 111) rfl (B := W.heap.size) (a := a) (n := k) (c := c) (m := 1) (l := ps) (l2 := [(y : Int) % (N : Int)]) (by simp [Act.eval]) (by simp [Act.eval]) (HR.out.frm0 ((Frm.refl _ _).alloc _)) (li_new rfl (heap_alloc_new _ _)) HLN.out (HSZ.out _) ?_; intro a6 c6 w6 hR6 f6; have HR6 := Lib.hid hR6; have HF6 := Lib.hid ((HFA.out _).trans_new f6 (fun x hx => .inr (HR.out.blk x hx).1)); clear hR6 f6)
      go_roundw
      case rel => exact ⟨k + 1, a6, c6, ps ++ [(y : Int) % (N : Int)], by omega, by go_num, rfl, HF6.out, HR6.out, fun z hz => by
        rcases List.mem_append.1 hz with hz | hz
        · exact HP.out z hz
        · simp at hz; subst hz; exact ⟨y % N, by omega, HLT.out⟩⟩
      case measure => simp [intOf]; omega
    · have hkn : k = m1 := by omega
      subst hkn
      obtain ⟨b2, hLi⟩ := HR.out.li
      have HLI := Lib.hid hLi
      clear hLi
      go_wp2_with fail
      refine HK8.out _ _ (holds9 w0 _ (HW.out.trans HF.out) (HH.out.quiet HF.out) HF0.out HFEW.out HF1000.out HLI.out (fun hp => ?_) HM.out (by rw [HN.out]; exact HP.out) HNW.out HN20.out a0 c0 kk HKK.out _ _ _ _ _ _ _ _ _ _ _ _ _ _ _ _ _ _ _ _ _ _ _ _ _ _ _ _ _ _ _ _ _ _ _ _ _ _ _ _ _ _ _ _ _ _ _ _ _ _ _ _ _ _ _ _ _ _ _ _ _ _ _ _ _ _ _ _ _ _ _ _ _ _ _ _ _ _ _ _ _ _ _ _ _ _ _ _ _ _ _ _ _ _ _ _ _ _ _ _ _ _ _ _ _ _ _ _ _ _ _ _ _ _ _ _ _ _ _ _ _ _ _ _ _ _ _ _ _ _ _ _ _ _ _ _ _ _ _ _ _ _ _ _ _ _ _ _ _ _ _ _ _ _ _ _ _ _ _ _ _ _ _ _ _ _ _ _ _ _ _ _ _ _ _ _ _ _ _ _ _ _ _ _ _ _ _ _ _ _ _ _ _ _ _ _ _ _ _ _ _ _ _ _ _ _ _ _ _ _ _ _ _ _ _ _ _ _ _ _ _ _ _ _ _ _ _ _ _ _ _ _ _ _ _ _ _ _ _ _ _ _ _ _ _ _ _ _ _ _ _ _ _ _ _ _ _ _ _ _ _ _ _ _ _ _ _ _ _ _ _ _ _ _ _ _ _ _ _ _ _ _ _ _)
      obtain ⟨g, cs, hg, hB, hgb, _⟩ := HR.out.block hp
      have hag := HLI.out.ad hp
      rw [hg] at hag
      cases hag
      exact ⟨fun hx => by have := HH.out.lt _ hx; omega, lt_of_heap hgb⟩

open Go.ChangeShapes Go.WideShapes Go.ChangeAt Go.RowKit
set_option linter.unusedVariables false
set_option linter.unusedSimpArgs false
set_option maxRecDepth 1000000 in
set_option maxHeartbeats 25600000 in
theorem holds4 (w0 W : World) (hW : Frm [] w0 W) {F0 : List Nat} {q : Nat} {M0 : Md} (h : MAt W F0 q M0) (hF0 : ∀ x ∈ F0, w0.heap.size ≤ x) (hts : M0.ts = []) {aL : Option Addr} {nL cL bL oL : Nat} {Ls : List (List Ins)} (hLs : LsL w0 aL nL cL bL oL Ls) (hnL : nL ≤ 6) (hl20 : ∀ l ∈ Ls, l.length ≤ 20) {a1 : Option Addr} {m1 c1 b1 o1 : Nat} {ks : List Int} (hL : Li .u8 w0 a1 m1 c1 b1 o1 ks) (hks : ∀ x ∈ ks, (Lit.int .u8 x).wf = true) (hm : m1 ≤ 60) {n : Nat} (hn : M0.ws.length = n) (hn20 : n ≤ 20) (a0 : Option Addr) (c0 : Nat) (kk : Nat) (hkk : kk ≤ 255) (t4 t5 t6 t7 t8 t10 t11 t12 t13 t14 t15 t16 t17 t18 t19 t20 t21 t22 t23 t24 t25 t26 t27 t28 t29 t30 t31 t32 t33 t34 t35 t36 t37 t38 t39 t40 t41 t42 t43 t44 t45 t46 t47 t48 t49 t50 t51 t52 t53 t54 t55 t56 t57 t58 t59 t60 t61 t62 t63 t64 t65 t66 t67 t68 t69 t70 t71 t72 t73 t74 t75 t76 t77 t78 t79 t80 t81 t82 t83 t84 t85 t86 t87 t88 t89 t90 t91 t92 t93 t94 t95 t96 t97 t98 t99 t100 t101 t102 t103 t104 t105 t106 t107 t108 t109 t110 t111 t112 t113 t114 t115 t116 t117 t118 t119 t120 t121 t122 t123 t124 t125 t126 t127 t128 t129 t130 t131 t132 t133 t134 t135 t136 t137 t138 t139 t140 t141 t142 t143 t144 t145 t146 t147 t148 t149 t150 t151 t152 t153 t154 t155 t156 t157 t158 t159 t160 t161 t162 t163 t164 t165 t166 t167 t168 t169 t170 t171 t172 t173 t174 t175 t176 t177 t178 t179 t180 t181 t182 t183 t184 t185 t186 t187 t188 t189 t190 t191 t192 t193 t194 t195 t196 t197 t198 t199 t200 t201 t202 t203 t204 t205 t206 t207 t208 t209 t210 t211 t212 t213 t214 t215 t216 t217 t218 t219 t220 t221 t222 t223 t224 t225 t226 t227 t228 t229 t230 t231 t232 t233 t234 t235 t236 t237 t238 t239 t240 t241 t242 t243 t244 t245 t246 t247 t248 t249 t250 t251 t252 t253 t254 t255 t256 t257 t258 t259 t260 t261 t262 t263 t264 t265 t266 t267 t268 t269 t270 t271 t272 t273 t274 t275 t276 t277 t278 t279 t280 t281 t282 t283 t284 t285 t286 t287 : Value) :
    Code.wp Try.prog (bT 4) (bodyPost Try.prog Try.f7 (Ret (.bool true) (fun w' => Frm [] w0 w'))) ⟨List.toArray (.slice a0 n c0 :: .slice aL nL cL :: .slice a1 m1 c1 :: .int .u8 kk :: t4 :: t5 :: t6 :: t7 :: t8 :: .pointer (some ⟨q, 0, none⟩) :: t10 :: t11 :: t12 :: t13 :: t14 :: t15 :: t16 :: t17 :: t18 :: t19 :: t20 :: t21 :: t22 :: t23 :: t24 :: t25 :: t26 :: t27 :: t28 :: t29 :: t30 :: t31 :: t32 :: t33 :: t34 :: t35 :: t36 :: t37 :: t38 :: t39 :: t40 :: t41 :: t42 :: t43 :: t44 :: t45 :: t46 :: t47 :: t48 :: t49 :: t50 :: t51 :: t52 :: t53 :: t54 :: t55 :: t56 :: t57 :: t58 :: t59 :: t60 :: t61 :: t62 :: t63 :: t64 :: t65 :: t66 :: t67 :: t68 :: t69 :: t70 :: t71 :: t72 :: t73 :: t74 :: t75 :: t76 :: t77 :: t78 :: t79 :: t80 :: t81 :: t82 :: t83 :: t84 :: t85 :: t86 :: t87 :: t88 :: t89 :: t90 :: t91 :: t92 :: t93 :: t94 :: t95 :: t96 :: t97 :: t98 :: t99 :: t100 :: t101 :: t102 :: t103 :: t104 :: t105 :: t106 :: t107 :: t108 :: t109 :: t110 :: t111 :: t112 :: t113 :: t114 :: t115 :: t116 :: t117 :: t118 :: t119 :: t120 :: t121 :: t122 :: t123 :: t124 :: t125 :: t126 :: t127 :: t128 :: t129 :: t130 :: t131 :: t132 :: t133 :: t134 :: t135 :: t136 :: t137 :: t138 :: t139 :: t140 :: t141 :: t142 :: t143 :: t144 :: t145 :: t146 :: t147 :: t148 :: t149 :: t150 :: t151 :: t152 :: t153 :: t154 :: t155 :: t156 :: t157 :: t158 :: t159 :: t160 :: t161 :: t162 :: t163 :: t164 :: t165 :: t166 :: t167 :: t168 :: t169 :: t170 :: t171 :: t172 :: t173 :: t174 :: t175 :: t176 :: t177 :: t178 :: t179 :: t180 :: t181 :: t182 :: t183 :: t184 :: t185 :: t186 :: t187 :: t188 :: t189 :: t190 :: t191 :: t192 :: t193 :: t194 :: t195 :: t196 :: t197 :: t198 :: t199 :: t200 :: t201 :: t202 :: t203 :: t204 :: t205 :: t206 :: t207 :: t208 :: t209 :: t210 :: t211 :: t212 :: t213 :: t214 :: t215 :: t216 :: t217 :: t218 :: t219 :: t220 :: t221 :: t222 :: t223 :: t224 :: t225 :: t226 :: t227 :: t228 :: t229 :: t230 :: t231 :: t232 :: t233 :: t234 :: t235 :: t236 :: t237 :: t238 :: t239 :: t240 :: t241 :: t242 :: t243 :: t244 :: t245 :: t246 :: t247 :: t248 :: t249 :: t250 :: t251 :: t252 :: t253 :: t254 :: t255 :: t256 :: t257 :: t258 :: t259 :: t260 :: t261 :: t262 :: t263 :: t264 :: t265 :: t266 :: t267 :: t268 :: t269 :: t270 :: t271 :: t272 :: t273 :: t274 :: t275 :: t276 :: t277 :: t278 :: t279 :: t280 :: t281 :: t282 :: t283 :: t284 :: t285 :: t286 :: t287 :: []), []⟩ W := by
  have HL := Lib.hid hL
  have HM := Lib.hid hm
  have HN20 := Lib.hid hn20
  have HH := Lib.hid h
  have HF0 := Lib.hid hF0
  have HW := Lib.hid hW
  have HNW := Lib.hid hn
  have HKK := Lib.hid hkk
  have HKS := Lib.hid hks
  have HTS := Lib.hid hts
  have HLS := Lib.hid hLs
  have HL20 := Lib.hid hl20
  have HNL := Lib.hid hnL
  have hnl2 : (nL : Int) ≤ 6 := by omega
  clear hL hm hn20 h hF0 hW hn hkk hks hts hLs hl20 hnL
  rw [show bT 4 = Code.seq (fstS (bT 4)) (bT 5) from by kernel_rfl]
  refine wp_seq_k ?_
  intro K hK
  have HK4 := Lib.hid hK
  clear hK
  conv => arg 2; whnf
  go_wp2_with fail
  go_loopw [74] (fun i wr => ∃ (k : Nat) (F : List Nat) (M : Md), k ≤ nL ∧ i = .int .i64 k ∧ Frm [] w0 wr ∧ MAt wr F q M ∧ (∀ x ∈ F, w0.heap.size ≤ x) ∧ M.few 0 ∧ M.ws.length = n ∧ M.ts.length ≤ k) (fun i _ => nL - (intOf i).toNat)
  case atStart => exact ⟨0, F0, M0, Nat.zero_le _, rfl, HW.out, HH.out, HF0.out, fun i t ht => by rw [HTS.out] at ht; simp at ht, HNW.out, by rw [HTS.out]; simp⟩
  case round =>
    obtain ⟨k, F, M, hk, rfl, hF, hM, hFn, hfw, hwl, htl⟩ := hrel
    have HF := Lib.hid hF
    have HMM := Lib.hid hM
    have HFN := Lib.hid hFn
    have HFW := Lib.hid hfw
    have HWL := Lib.hid hwl
    have HTL := Lib.hid htl
    clear hF hM hFn hfw hwl htl
    by_cases hlt : k < nL
    · have hLL := HLS.out.frm0 HF.out
      obtain ⟨l, hl⟩ : ∃ l, Ls[k]? = some l := ⟨_, List.getElem?_eq_getElem (by rw [hLL.len]; exact hlt)⟩
      obtain ⟨a', n', c', b', o', hcl, hin⟩ := hLL.cell k l hl
      have hix := ix_lsl (c := cL) hLL.ad hlt
      have hl20 := HL20.out l (List.mem_of_getElem? hl)
      have hlen := hin.len
      by_cases hok : Lok l
      · have HNC := Lib.hid (newcode_ok hin hok)
        clear hLL hl hin hl20 hlen hok
        go_wp2_with fail
        refine HNC.out.mono ?_
        rintro e w1 ⟨qc, bc, cc, rfl, hF1, hA1, hq1, hb1⟩
        have hsz := HF.out.size
        have HAD := Lib.hid (mat_Add (ch := false) (HMM.out.quiet hF1) (by have := HTL.out; have := HNL.out; omega) hA1.prog)
        have HF1 := Lib.hid (HF.out.trans hF1)
        clear hF1 hA1 hq1 hb1 hsz
        go_wp2_with fail
        refine HAD.out.mono ?_
        rintro e w2 ⟨F', rfl, hg, hm, hn⟩
        have HG := Lib.hid (HF1.out.trans_new hg.frm (fun x hx => .inr (HFN.out x hx)))
        have HM2 := Lib.hid hm
        have HN2 := Lib.hid (show ∀ x ∈ F', w0.heap.size ≤ x from fun x hx => by
          rcases hn x hx with h | h
          · exact HFN.out x h
          · have := HF1.out.size; omega)
        clear hg hm hn
        go_wp2_with fail
        go_roundw
        case rel => exact ⟨k + 1, F', _, by omega, by go_num, HG.out, HM2.out, HN2.out, fun i t ht => by
          dsimp only at ht
          rcases Nat.lt_or_ge i M.ts.length with hi | hi
          · rw [List.getElem?_append_left hi] at ht; exact HFW.out i t ht
          · rw [List.getElem?_append_right hi] at ht
            have : i - M.ts.length = 0 := by have := (List.getElem?_eq_some_iff.1 ht).1; simp at this; omega
            rw [this] at ht; simp at ht; subst ht; exact ⟨Nat.le_refl _, Nat.le_refl _⟩, HWL.out, by have := HTL.out; simp; omega⟩
        case measure => simp [intOf]; omega
      · have HNC := Lib.hid (newcode_bad hin hok (by omega))
        clear hLL hl hin hl20 hlen hok
        go_wp2_with fail
        refine HNC.out.mono ?_
        rintro e w1 ⟨rfl, hF1⟩
        have HF1 := Lib.hid hF1
        clear hF1
        go_wp2_with fail
        go_roundw
        case rel => exact ⟨k + 1, F, M, by omega, by go_num, HF.out.trans HF1.out, HMM.out.quiet HF1.out, HFN.out, HFW.out, HWL.out, by have := HTL.out; omega⟩
        case measure => simp [intOf]; omega
    · have hkn : k = nL := by omega
      subst hkn
      go_wp2_with fail
      refine HK4.out _ _ ?_
      rw [show bT 5 = Code.seq (fstS (bT 5)) (bT 6) from by kernel_rfl]
      refine wp_seq_k ?_
      intro K hK
      have HK5 := Lib.hid hK
      clear hK
      conv => arg 2; whnf
      go_wp2_with fail
      refine (mat_Threads HMM.out).mono ?_
      rintro e w1 ⟨rfl, rfl⟩
      have HF1 := Lib.hid (Frm.refl [] wr)
      go_wp2_with fail
      refine HK5.out _ _ ?_
      rw [show bT 6 = Code.seq (fstS (bT 6)) (bT 7) from by kernel_rfl]
      refine wp_seq_k ?_
      intro K hK
      have HK6 := Lib.hid hK
      clear hK
      conv => arg 2; whnf
      by_cases h0 : M.ts.length = 0
      · have hb : ((M.ts.length : Int) == 0) = true := by simp [h0]
        go_wp2_with fail
        refine (known_true _).mono ?_
        rintro e w' ⟨rfl, hq⟩
        have HQ := Lib.hid ((HF.out.trans HF1.out).trans hq)
        clear hq
        go_wp2_with fail
        go_ret
        exact ⟨rfl, HQ.out⟩
      · have hb : ((M.ts.length : Int) == 0) = false := beq_eq_false_iff_ne.2 (by omega)
        go_wp2_with fail
        refine HK6.out _ _ (holds7 w0 _ (HF.out.trans HF1.out) (HMM.out.quiet HF1.out) HFN.out HFW.out (by omega) (HL.out.frm0 (HF.out.trans HF1.out)) HKS.out HM.out rfl (by omega) (by have := HTL.out; have := HNL.out; omega) HWL.out HN20.out a0 c0 kk HKK.out _ _ _ _ _ _ _ _ _ _ _ _ _ _ _ _ _ _ _ _ _ _ _ _ _ _ _ _ _ _ _ _ _ _ _ _ _ _ _ _ _ _ _ _ _ _ _ _ _ _ _ _ _ _ _ _ _ _ _ _ _ _ _ _ _ _ _ _ _ _ _ _ _ _ _ _ _ _ _ _ _ _ _ _ _ _ _ _ _ _ _ _ _ _ _ _ _ _ _ _ _ _ _ _ _ _ _ _ _ _ _ _ _ _ _ _ _ _ _ _ _ _ _ _ _ _ _ _ _ _ _ _ _ _ _ _ _ _ _ _ _ _ _ _ _ _ _ _ _ _ _ _ _ _ _ _ _ _ _ _ _ _ _ _ _ _ _ _ _ _ _ _ _ _ _ _ _ _ _ _ _ _ _ _ _ _ _ _ _ _ _ _ _ _ _ _ _ _ _ _ _ _ _ _ _ _ _ _ _ _ _ _ _ _ _ _ _ _ _ _ _ _ _ _ _ _ _ _ _ _ _ _ _ _ _ _ _ _ _ _ _ _ _ _ _ _ _ _ _ _ _ _ _ _ _ _ _ _ _ _ _ _ _ _ _ _ _ _ _ _ _ _ _ _ _ _ _ _ _ _ _ _ _)
end Go.Proofs.Ytieccmmnfnpcoaa
