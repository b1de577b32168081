/- Stage 12: ThreadHolds, from the copies on. (By gen_tjd.py.) -/
import Derived.Test.YtieccmmnfnpcoaaTjd
namespace Go.Proofs.Ytieccmmnfnpcoaa
open Go.ChangeShapes Go.WideShapes Go.ChangeAt Go.RowKit
set_option linter.unusedVariables false
set_option linter.unusedSimpArgs false
set_option maxRecDepth 1000000 in
set_option maxHeartbeats 25600000 in
theorem holds9 (w0 W : World) (hW : Frm [] w0 W) {F0 : List Nat} {q : Nat} {M0 : Md} (h : MAt W F0 q M0) (hF0 : ∀ x ∈ F0, w0.heap.size ≤ x) {f0 : Nat} (hfew : M0.few f0) (hf0 : f0 ≤ 1000) {a2 : Option Addr} {m c2 b2 o2 : Nat} {ps : List Int} (hL : Li .i64 W a2 m c2 b2 o2 ps) (hLF : 0 < m → b2 ∉ F0 ∧ b2 < W.heap.size) (hm : m ≤ 60) (hps : PicksOk M0.ts.length ps) {n : Nat} (hn : M0.ws.length = n) (hn20 : n ≤ 20) (a0 : Option Addr) (c0 : Nat) (kk : Nat) (hkk : kk ≤ 255) (t1 t2 t4 t5 t6 t7 t8 t10 t11 t12 t13 t14 t15 t16 t17 t19 t20 t21 t22 t23 t24 t25 t26 t27 t28 t29 t30 t31 t32 t33 t34 t35 t36 t37 t38 t39 t40 t41 t42 t43 t44 t45 t46 t47 t48 t49 t50 t51 t52 t53 t54 t55 t56 t57 t58 t59 t60 t61 t62 t63 t64 t65 t66 t67 t68 t69 t70 t71 t72 t73 t74 t75 t76 t77 t78 t79 t80 t81 t82 t83 t84 t85 t86 t87 t88 t89 t90 t91 t92 t93 t94 t95 t96 t97 t98 t99 t100 t101 t102 t103 t104 t105 t106 t107 t108 t109 t110 t111 t112 t113 t114 t115 t116 t117 t118 t119 t120 t121 t122 t123 t124 t125 t126 t127 t128 t129 t130 t131 t132 t133 t134 t135 t136 t137 t138 t139 t140 t141 t142 t143 t144 t145 t146 t147 t148 t149 t150 t151 t152 t153 t154 t155 t156 t157 t158 t159 t160 t161 t162 t163 t164 t165 t166 t167 t168 t169 t170 t171 t172 t173 t174 t175 t176 t177 t178 t179 t180 t181 t182 t183 t184 t185 t186 t187 t188 t189 t190 t191 t192 t193 t194 t195 t196 t197 t198 t199 t200 t201 t202 t203 t204 t205 t206 t207 t208 t209 t210 t211 t212 t213 t214 t215 t216 t217 t218 t219 t220 t221 t222 t223 t224 t225 t226 t227 t228 t229 t230 t231 t232 t233 t234 t235 t236 t237 t238 t239 t240 t241 t242 t243 t244 t245 t246 t247 t248 t249 t250 t251 t252 t253 t254 t255 t256 t257 t258 t259 t260 t261 t262 t263 t264 t265 t266 t267 t268 t269 t270 t271 t272 t273 t274 t275 t276 t277 t278 t279 t280 t281 t282 t283 t284 t285 t286 t287 : Value) :
    Code.wp Try.prog (bT 9) (bodyPost Try.prog Try.f7 (Ret (.bool true) (fun w' => Frm [] w0 w'))) ⟨List.toArray (.slice a0 n c0 :: t1 :: t2 :: .int .u8 kk :: t4 :: t5 :: t6 :: t7 :: t8 :: .pointer (some ⟨q, 0, none⟩) :: t10 :: t11 :: t12 :: t13 :: t14 :: t15 :: t16 :: t17 :: .slice a2 m c2 :: t19 :: t20 :: t21 :: t22 :: t23 :: t24 :: t25 :: t26 :: t27 :: t28 :: t29 :: t30 :: t31 :: t32 :: t33 :: t34 :: t35 :: t36 :: t37 :: t38 :: t39 :: t40 :: t41 :: t42 :: t43 :: t44 :: t45 :: t46 :: t47 :: t48 :: t49 :: t50 :: t51 :: t52 :: t53 :: t54 :: t55 :: t56 :: t57 :: t58 :: t59 :: t60 :: t61 :: t62 :: t63 :: t64 :: t65 :: t66 :: t67 :: t68 :: t69 :: t70 :: t71 :: t72 :: t73 :: t74 :: t75 :: t76 :: t77 :: t78 :: t79 :: t80 :: t81 :: t82 :: t83 :: t84 :: t85 :: t86 :: t87 :: t88 :: t89 :: t90 :: t91 :: t92 :: t93 :: t94 :: t95 :: t96 :: t97 :: t98 :: t99 :: t100 :: t101 :: t102 :: t103 :: t104 :: t105 :: t106 :: t107 :: t108 :: t109 :: t110 :: t111 :: t112 :: t113 :: t114 :: t115 :: t116 :: t117 :: t118 :: t119 :: t120 :: t121 :: t122 :: t123 :: t124 :: t125 :: t126 :: t127 :: t128 :: t129 :: t130 :: t131 :: t132 :: t133 :: t134 :: t135 :: t136 :: t137 :: t138 :: t139 :: t140 :: t141 :: t142 :: t143 :: t144 :: t145 :: t146 :: t147 :: t148 :: t149 :: t150 :: t151 :: t152 :: t153 :: t154 :: t155 :: t156 :: t157 :: t158 :: t159 :: t160 :: t161 :: t162 :: t163 :: t164 :: t165 :: t166 :: t167 :: t168 :: t169 :: t170 :: t171 :: t172 :: t173 :: t174 :: t175 :: t176 :: t177 :: t178 :: t179 :: t180 :: t181 :: t182 :: t183 :: t184 :: t185 :: t186 :: t187 :: t188 :: t189 :: t190 :: t191 :: t192 :: t193 :: t194 :: t195 :: t196 :: t197 :: t198 :: t199 :: t200 :: t201 :: t202 :: t203 :: t204 :: t205 :: t206 :: t207 :: t208 :: t209 :: t210 :: t211 :: t212 :: t213 :: t214 :: t215 :: t216 :: t217 :: t218 :: t219 :: t220 :: t221 :: t222 :: t223 :: t224 :: t225 :: t226 :: t227 :: t228 :: t229 :: t230 :: t231 :: t232 :: t233 :: t234 :: t235 :: t236 :: t237 :: t238 :: t239 :: t240 :: t241 :: t242 :: t243 :: t244 :: t245 :: t246 :: t247 :: t248 :: t249 :: t250 :: t251 :: t252 :: t253 :: t254 :: t255 :: t256 :: t257 :: t258 :: t259 :: t260 :: t261 :: t262 :: t263 :: t264 :: t265 :: t266 :: t267 :: t268 :: t269 :: t270 :: t271 :: t272 :: t273 :: t274 :: t275 :: t276 :: t277 :: t278 :: t279 :: t280 :: t281 :: t282 :: t283 :: t284 :: t285 :: t286 :: t287 :: []), []⟩ W := by
  have HL := Lib.hid hL
  have HLF := Lib.hid hLF
  have HPS := Lib.hid hps
  have HM := Lib.hid hm
  have hm2 : (m : Int) ≤ 60 := by omega
  have HN := Lib.hid hn20
  have HH := Lib.hid h
  have HF0 := Lib.hid hF0
  have HW := Lib.hid hW
  have HFEW := Lib.hid hfew
  have HF1000 := Lib.hid hf0
  have HNW := Lib.hid hn
  have hkk2 : (kk : Int) ≤ 255 := by omega
  have HRT := Lib.hid (Run_two M0 (ps.take (min kk m)) (ps.drop (min kk m)) (by rw [List.take_append_drop, hL.len]; omega) (by
    rw [List.take_append_drop]
    intro x hx
    obtain ⟨p, rfl, hp⟩ := hps x hx
    unfold noTh; simp; omega))
  rw [List.take_append_drop] at HRT
  have hmin := fun (W : World) (ts : Array TypeId) (ty : TypeId) => run_min2 (w := W) ts ty kk m
  have hkm : min kk m ≤ m := Nat.min_le_right _ _
  have hct := fun W => cut_to_i (a := a2) (n := m) (c := c2) (k := min kk m) (by have := hL.cap; omega) W
  have HFW2 := Lib.hid (Run_few2 hfew (ps.take (min kk m)))
  have hcf := fun (W : World) (hl : Li .i64 W a2 m c2 b2 o2 ps) => cut_from_i hl (min kk m) hkm
  have HKM := Lib.hid hkm
  generalize min kk m = k at *
  have HCF := Lib.hid hcf
  clear hL hLF hps hm hn20 h hF0 hW hfew hf0 hn hkk hkm hcf
  rw [show bT 9 = Code.seq (fstS (bT 9)) (bT 10) from by kernel_rfl]
  refine wp_seq_k ?_
  intro K hK
  have HK9 := Lib.hid hK
  clear hK
  conv => arg 2; whnf
  go_wp2_with fail
  refine (mat_Copy HH.out).mono ?_
  rintro e w1 ⟨q1, F1, rfl, hF1, hm1, hn1⟩
  have HF1 := Lib.hid hF1
  have HN1 := Lib.hid hn1
  have HM1 := Lib.hid hm1
  have H1 := Lib.hid (HH.out.quiet hF1)
  clear hF1 hn1 hm1
  go_wp2_with fail
  refine (mat_Copy H1.out).mono ?_
  rintro e w2 ⟨q2, F2, rfl, hF2, hm2', hn2⟩
  have HN2 := Lib.hid hn2
  have HM2 := Lib.hid hm2'
  have HM12 := Lib.hid (HM1.out.quiet hF2)
  have HM02 := Lib.hid (H1.out.quiet hF2)
  have HF2 := Lib.hid (HF1.out.trans hF2)
  have HL2 := Lib.hid (HL.out.frm0 HF2.out)
  have HD12 := Lib.hid (show (∀ x ∈ F2, x ∉ F1) ∧ (∀ x ∈ F0, x ∉ F1) ∧ (∀ x ∈ F0, x ∉ F2) from ⟨fun x hx hx2 => by have := hn2 x hx; have := HM1.out.lt x hx2; omega, fun x hx hx2 => by have := HN1.out x hx2; have := HH.out.lt x hx; omega, fun x hx hx2 => by have := hn2 x hx2; have := H1.out.lt x hx; omega⟩)
  clear hF2 hn2 hm2'
  go_wp2_with fail
  refine HK9.out _ _ ?_
  rw [show bT 10 = Code.seq (fstS (bT 10)) (bT 11) from by kernel_rfl]
  refine wp_seq_k ?_
  intro K hK
  have HK10 := Lib.hid hK
  clear hK
  conv => arg 2; whnf
  go_wp2_with fail
  refine HK10.out _ _ ?_
  rw [show bT 11 = Code.seq (fstS (bT 11)) (bT 12) from by kernel_rfl]
  refine wp_seq_k ?_
  intro K hK
  have HK11 := Lib.hid hK
  clear hK
  conv => arg 2; whnf
  have hsz2 := HF2.out.size
  have hlb : 0 < m → b2 < w2.heap.size ∧ b2 ∉ F1 ∧ b2 ∉ F2 := fun hp => by
    have := HLF.out hp
    exact ⟨by omega, fun hx => by have := HN1.out _ hx; omega, fun hx => by have := HN2.out _ hx; have := HF1.out.size; omega⟩
  have HLB := Lib.hid hlb
  have HRU := Lib.hid (mat_RunU HM12.out HFEW.out HL2.out (by have := HM.out; omega) (by have := HF1000.out; omega) (fun hp => (hlb hp).1))
  have HF1n := Lib.hid (show ∀ x ∈ F1, W.heap.size ≤ x from HN1.out)
  have HF2n := Lib.hid (show ∀ x ∈ F2, W.heap.size ≤ x from fun x hx => by have := HN2.out x hx; have := HF1.out.size; omega)
  have HLT2 := Lib.hid (show (∀ x ∈ F2, x < w2.heap.size) ∧ ∀ x ∈ F0, x < W.heap.size from ⟨HM2.out.lt, HH.out.lt⟩)
  clear hlb hsz2 HM12 HM1
  go_wp2_with fail
  refine HRU.out.mono ?_
  rintro e w3 ⟨a3, c3, rfl, F1', hg3, hm3, hF1', b3, hD3, hb3⟩
  have HM1 := Lib.hid hm3
  have HM23 := Lib.hid (HM2.out.other hg3 HD12.out.1)
  have HM03 := Lib.hid (HM02.out.other hg3 HD12.out.2.1)
  have HL3 := Lib.hid (HL2.out.frm hg3.frm (fun hp => (HLB.out hp).2.1))
  have HD3 := Lib.hid hD3
  have HB3 := Lib.hid hb3
  have HG3 := Lib.hid hg3
  have HS3 := Lib.hid hg3.frm.size
  have HS2 := Lib.hid HF2.out.size
  have HF1' := Lib.hid hF1'
  clear hg3 hm3 hF1' hD3 hb3 HRU HM2 HM02 HL2
  go_wp2_with fail
  refine HK11.out _ _ ?_
  rw [show bT 12 = Code.seq (fstS (bT 12)) (bT 13) from by kernel_rfl]
  refine wp_seq_k ?_
  intro K hK
  have HK12 := Lib.hid hK
  clear hK
  conv => arg 2; whnf
  go_wp2_with fail
  refine HK12.out _ _ ?_
  rw [show bT 13 = Code.seq (fstS (bT 13)) (bT 14) from by kernel_rfl]
  refine wp_seq_k ?_
  intro K hK
  have HK13 := Lib.hid hK
  clear hK
  conv => arg 2; whnf
  have hLt := HL3.out.take HKM.out
  have HRU := Lib.hid (mat_RunU HM23.out HFEW.out hLt (by have := HM.out; have := HKM.out; omega) (by have := HF1000.out; omega) (fun hp => by have := (HLB.out (by have := HKM.out; omega)).1; have := HS3.out; omega))
  clear hLt
  go_wp2_with fail
  refine HRU.out.mono ?_
  rintro e w4 ⟨a4, c4, rfl, F2', hg4, hm4, hF2', b4, hD4, hb4⟩
  have h12 : ∀ x ∈ F1', x ∉ F2 := fun x hx hx2 => by
    have := HLT2.out.1 x hx2
    rcases HF1'.out x hx with h | h
    · exact HD12.out.1 x hx2 h
    · omega
  have h12' : ∀ x ∈ F1', x ∉ F2' := fun x hx hx2 => by
    rcases hF2' x hx2 with h | h
    · exact h12 x hx h
    · have := HM1.out.lt x hx; omega
  have HM24 := Lib.hid hm4
  have HM14 := Lib.hid (HM1.out.other hg4 h12)
  have HM04 := Lib.hid (HM03.out.other hg4 HD12.out.2.2)
  have HL4 := Lib.hid (HL3.out.frm hg4.frm (fun hp => (HLB.out hp).2.2))
  have HD34 := Lib.hid (HD3.out.frm hg4.frm (fun x hx hx2 => by have := (HB3.out x hx).2.1; have := HLT2.out.1 x hx2; omega))
  have HB34 := Lib.hid (show ∀ x ∈ blk (.slice a3 (M0.Run ps).2.1.length c3), x ∉ F2' from fun x hx hx2 => by
    have := HB3.out x hx
    rcases hF2' x hx2 with h | h
    · have := HLT2.out.1 x h; omega
    · omega)
  have HD4 := Lib.hid hD4
  have HB4 := Lib.hid hb4
  have HG4 := Lib.hid hg4
  have HS4 := Lib.hid hg4.frm.size
  have HD12' := Lib.hid (And.intro h12' (show ∀ x ∈ F0, x ∉ F2' from fun x hx hx2 => by
    have := HLT2.out.2 x hx
    rcases hF2' x hx2 with h | h
    · exact HD12.out.2.2 x hx h
    · have := HS2.out; have := HS3.out; omega))
  have HF2' := Lib.hid (show ∀ x ∈ F2', W.heap.size ≤ x from fun x hx => by
    rcases hF2' x hx with h | h
    · exact HF2n.out x h
    · have := HS2.out; have := HS3.out; omega)
  clear h12 h12' hm4 hg4 hD4 hb4 hF2' HRU HM23 HM1 HM03 HL3 HD3 hct
  go_wp2_with fail
  refine HK13.out _ _ ?_
  rw [show bT 14 = Code.seq (fstS (bT 14)) (bT 15) from by kernel_rfl]
  refine wp_seq_k ?_
  intro K hK
  have HK14 := Lib.hid hK
  clear hK
  conv => arg 2; whnf
  obtain ⟨a5', hcut, hL5⟩ := HCF.out w4 HL4.out
  have HRU := Lib.hid (mat_RunU HM24.out HFW2.out hL5 (by have := HM.out; omega) (by have := HF1000.out; have := List.length_take_le k ps; have := HKM.out; have := HM.out; omega) (fun hp => by have := (HLB.out (by omega)).1; have := HS3.out; have := HS4.out; omega))
  clear hL5
  go_wp2_with fail
  refine HRU.out.mono ?_
  rintro e w5 ⟨a5, c5, rfl, F2'', hg5, hm5, hF2'', b5, hD5, hb5⟩
  have HM25 := Lib.hid hm5
  have HM15 := Lib.hid (HM14.out.other hg5 HD12'.out.1)
  have HM05 := Lib.hid (HM04.out.other hg5 HD12'.out.2)
  have HL5 := Lib.hid (HL4.out.frm hg5.frm (fun hp hx => by have := HF2'.out _ hx; have := HLF.out hp; omega))
  have HD35 := Lib.hid (HD34.out.frm hg5.frm HB34.out)
  have HD45 := Lib.hid (HD4.out.frm hg5.frm (fun x hx => (HB4.out x hx).1))
  have HD5 := Lib.hid hD5
  have HB5 := Lib.hid hb5
  have HW5 := Lib.hid (show Frm [] W w5 from ((HF2.out.trans_new HG3.out.frm (fun x hx => .inr (HF1n.out x hx))).trans_new HG4.out.frm (fun x hx => .inr (HF2n.out x hx))).trans_new hg5.frm (fun x hx => .inr (HF2'.out x hx)))
  have HLEN := Lib.hid (show (M0.Run ps).2.1.length ≤ 60 ∧ (M0.Run (ps.take k)).2.1.length ≤ 60 ∧ ((M0.Run (ps.take k)).1.Run (ps.drop k)).2.1.length ≤ 60 from ⟨by have := Run_dlen M0 ps; have := HL5.out.len; have := HM.out; omega, by have := Run_dlen M0 (ps.take k); have := List.length_take_le k ps; have := HKM.out; have := HM.out; omega, by have := Run_dlen (M0.Run (ps.take k)).1 (ps.drop k); have := HL5.out.len; have := HM.out; have := List.length_drop (l := ps) (i := k); omega⟩)
  clear hm5 hg5 hF2'' hD5 hb5 HRU HM24 HM14 HM04 HL4 HD34 HD4 hcut HG3 HG4
  go_wp2_with fail
  refine HK14.out _ _ ?_
  rw [show bT 15 = Code.seq (fstS (bT 15)) (bT 16) from by kernel_rfl]
  refine wp_seq_k ?_
  intro K hK
  have HK15 := Lib.hid hK
  clear hK
  conv => arg 2; whnf
  generalize M0.Run ps = A at *
  generalize M0.Run (ps.take k) = B at *
  generalize B.1.Run (ps.drop k) = C at *
  by_cases hA : A.2.2 = 0
  · obtain ⟨hB, hC, hMC, hDD⟩ := HRT.out.1 hA
    have fA : (A.2.2 == 0) = true := by simpa using hA
    have fA2 : (A.2.2 != 0) = false := by simpa using hA
    have fB : (B.2.2 != 0) = false := by simpa using hB
    have fC : (C.2.2 != 0) = false := by simpa using hC
    have HMC := Lib.hid hMC
    have HDD := Lib.hid hDD
    clear hA hB hC hMC hDD HRT
    have HLR := Lib.hid (Nat.le_refl w5.heap.size)
    have HR0 := Lib.hid (RowD.nil w5.heap.size w5)
    have HZ4 := Lib.hid (show ([] : List Dd).length + B.2.1.length ≤ 1000000 by have := HLEN.out; simp; omega)
    have HZ5 := Lib.hid (show B.2.1.length + C.2.1.length ≤ 1000000 by have := HLEN.out; omega)
    go_wp2_with (at_builtin; first
      | (refine wpl_appDg rfl (.const (.slice none 0 0)) (.tmp 162) rfl (by simp [Act.eval]) (by simp [Act.eval]) HR0.out HD45.out HZ4.out HLR.out ?_; intro a6 c6 w6 hR6 hF6; have HR6 := Lib.hid (show RowD w5.heap.size w6 a6 B.2.1.length c6 B.2.1 by simpa using hR6); have HF6 := Lib.hid (show Frm [] w5 w6 by simpa [blk] using hF6); have HD56 := Lib.hid (HD5.out.frm0 HF6.out); have HL6 := Lib.hid HF6.out.size; clear hR6 hF6)
      | (refine wpl_appDg rfl (.tmp 163) (.tmp 164) rfl (by simp [Act.eval]) (by simp [Act.eval]) HR6.out HD56.out HZ5.out HL6.out ?_; intro a7 c7 w7 hR7 hF7; have HR7 := Lib.hid hR7; have HF7 := Lib.hid (HF6.out.trans_new hF7 (fun x hx => .inr (HR6.out.blk x hx).1)); clear hR7 hF7))
    obtain ⟨b7, hD7⟩ := HR7.out.dl
    have hAL : A.2.1.length = B.2.1.length + C.2.1.length := by rw [HDD.out]; simp
    have hD37 : DL w7 a3 (B.2.1.length + C.2.1.length) c3 b3 0 (B.2.1 ++ C.2.1) := by rw [← HDD.out, ← hAL]; exact HD35.out.frm0 HF7.out
    have HSM := Lib.hid (same_did (by have := HLEN.out; omega) hD37 hD7)
    clear hD7 hD37
    rw [hAL]
    clear hAL
    refine HSM.out.mono ?_
    rintro e w8 ⟨rfl, hF8⟩
    have HF8 := Lib.hid (HF7.out.trans hF8)
    clear hF8 HSM
    go_wp2_with fail
    refine (mat_Mem (HM25.out.quiet HF8.out)).mono ?_
    rintro e w9 ⟨p9, d9, c9, rfl, hF9, hA9, _, _⟩
    have HA9 := Lib.hid hA9
    have HF9 := Lib.hid (HF8.out.trans hF9)
    clear hF9 hA9
    go_wp2_with fail
    refine (mat_Mem (HM15.out.quiet HF9.out)).mono ?_
    rintro e w10 ⟨p10, d10, c10, rfl, hF10, hA10, _, _⟩
    have HSM := Lib.hid (same_mem (HA9.out.frm hF10 (by simp) (by simp)) hA10)
    have hdt : decide (C.1.ws = A.1.ws) = true := by rw [HMC.out]; simp
    have HF10 := Lib.hid (HF9.out.trans hF10)
    clear hF10 hA10
    go_wp2_with fail
    refine HSM.out.mono ?_
    rintro e w11 ⟨nd, rfl, rfl⟩
    have HFE := Lib.hid (HF10.out.trans ((Frm.refl [] w10).drewN nd))
    go_wp2_with fail
    refine HK15.out _ _ (holds16 w0 _ ((HW.out.trans HW5.out).trans HFE.out) (HM05.out.quiet HFE.out) HF0.out HFEW.out HF1000.out (HL5.out.frm0 HFE.out) (fun hp => ⟨(HLF.out hp).1, by have := (HLF.out hp).2; have := HW5.out.size; have := HFE.out.size; omega⟩) HM.out HPS.out HNW.out HN.out _ _ _ _ _ _ _ _ _ _ _ _ _ _ _ _ _ _ _ _ _ _ _ _ _ _ _ _ _ _ _ _ _ _ _ _ _ _ _ _ _ _ _ _ _ _ _ _ _ _ _ _ _ _ _ _ _ _ _ _ _ _ _ _ _ _ _ _ _ _ _ _ _ _ _ _ _ _ _ _ _ _ _ _ _ _ _ _ _ _ _ _ _ _ _ _ _ _ _ _ _ _ _ _ _ _ _ _ _ _ _ _ _ _ _ _ _ _ _ _ _ _ _ _ _ _ _ _ _ _ _ _ _ _ _ _ _ _ _ _ _ _ _ _ _ _ _ _ _ _ _ _ _ _ _ _ _ _ _ _ _ _ _ _ _ _ _ _ _ _ _ _ _ _ _ _ _ _ _ _ _ _ _ _ _ _ _ _ _ _ _ _ _ _ _ _ _ _ _ _ _ _ _ _ _ _ _ _ _ _ _ _ _ _ _ _ _ _ _ _ _ _ _ _ _ _ _ _ _ _ _ _ _ _ _ _ _ _ _ _ _ _ _ _ _ _ _ _ _ _ _ _ _ _ _ _ _ _ _ _ _ _ _ _ _ _ _ _ _ _ _ _ _ _ _ _ _ _ _ _ _ _ _ _ _ _ _)
  · have fA : (A.2.2 == 0) = false := by simpa using hA
    have fA2 : (A.2.2 != 0) = true := by simpa using hA
    have hBC := HRT.out.2 hA
    clear HRT hA
    by_cases hB : B.2.2 = 0
    · have fC : (C.2.2 == 0) = false := by simpa using hBC.resolve_left (fun h => h hB)
      have fB : (B.2.2 == 0) = true := by simpa using hB
      clear hBC hB
      go_wp2_with fail
      refine HK15.out _ _ (holds16 w0 w5 (HW.out.trans HW5.out) HM05.out HF0.out HFEW.out HF1000.out HL5.out (fun hp => ⟨(HLF.out hp).1, by have := (HLF.out hp).2; have := HW5.out.size; omega⟩) HM.out HPS.out HNW.out HN.out _ _ _ _ _ _ _ _ _ _ _ _ _ _ _ _ _ _ _ _ _ _ _ _ _ _ _ _ _ _ _ _ _ _ _ _ _ _ _ _ _ _ _ _ _ _ _ _ _ _ _ _ _ _ _ _ _ _ _ _ _ _ _ _ _ _ _ _ _ _ _ _ _ _ _ _ _ _ _ _ _ _ _ _ _ _ _ _ _ _ _ _ _ _ _ _ _ _ _ _ _ _ _ _ _ _ _ _ _ _ _ _ _ _ _ _ _ _ _ _ _ _ _ _ _ _ _ _ _ _ _ _ _ _ _ _ _ _ _ _ _ _ _ _ _ _ _ _ _ _ _ _ _ _ _ _ _ _ _ _ _ _ _ _ _ _ _ _ _ _ _ _ _ _ _ _ _ _ _ _ _ _ _ _ _ _ _ _ _ _ _ _ _ _ _ _ _ _ _ _ _ _ _ _ _ _ _ _ _ _ _ _ _ _ _ _ _ _ _ _ _ _ _ _ _ _ _ _ _ _ _ _ _ _ _ _ _ _ _ _ _ _ _ _ _ _ _ _ _ _ _ _ _ _ _ _ _ _ _ _ _ _ _ _ _ _ _ _ _ _ _ _ _ _ _ _ _ _ _ _ _ _ _ _ _ _ _)
    · have fB : (B.2.2 == 0) = false := by simpa using hB
      clear hBC hB
      go_wp2_with fail
      refine HK15.out _ _ (holds16 w0 w5 (HW.out.trans HW5.out) HM05.out HF0.out HFEW.out HF1000.out HL5.out (fun hp => ⟨(HLF.out hp).1, by have := (HLF.out hp).2; have := HW5.out.size; omega⟩) HM.out HPS.out HNW.out HN.out _ _ _ _ _ _ _ _ _ _ _ _ _ _ _ _ _ _ _ _ _ _ _ _ _ _ _ _ _ _ _ _ _ _ _ _ _ _ _ _ _ _ _ _ _ _ _ _ _ _ _ _ _ _ _ _ _ _ _ _ _ _ _ _ _ _ _ _ _ _ _ _ _ _ _ _ _ _ _ _ _ _ _ _ _ _ _ _ _ _ _ _ _ _ _ _ _ _ _ _ _ _ _ _ _ _ _ _ _ _ _ _ _ _ _ _ _ _ _ _ _ _ _ _ _ _ _ _ _ _ _ _ _ _ _ _ _ _ _ _ _ _ _ _ _ _ _ _ _ _ _ _ _ _ _ _ _ _ _ _ _ _ _ _ _ _ _ _ _ _ _ _ _ _ _ _ _ _ _ _ _ _ _ _ _ _ _ _ _ _ _ _ _ _ _ _ _ _ _ _ _ _ _ _ _ _ _ _ _ _ _ _ _ _ _ _ _ _ _ _ _ _ _ _ _ _ _ _ _ _ _ _ _ _ _ _ _ _ _ _ _ _ _ _ _ _ _ _ _ _ _ _ _ _ _ _ _ _ _ _ _ _ _ _ _ _ _ _ _ _ _ _ _ _ _ _ _ _ _ _ _ _ _ _ _ _ _)
end Go.Proofs.Ytieccmmnfnpcoaa
