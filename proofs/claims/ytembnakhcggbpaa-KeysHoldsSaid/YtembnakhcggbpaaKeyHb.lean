/- Layer 5: the walk of KeysHolds, the order of words (by gen_keyho.py). -/
import Derived.Test.YtembnakhcggbpaaKeyHc
namespace Go.Proofs.Ytembnakhcggbpaa
open Go.ChangeShapes Go.WideShapes Go.ChangeAt Go.RowKit
set_option linter.unusedVariables false

set_option maxRecDepth 1000000 in
set_option maxHeartbeats 25600000 in
theorem holdsB (a b c : ByteArray) (ha : a.size ≤ 100) (hb : b.size ≤ 100) (hc : c.size ≤ 100) (w W : World) (hW : Frm [] w W) {B1 B2 : Nat} {A : Option Addr} {n cc : Nat} {E : Int} {A2 : Option Addr} {n2 c2 : Nat} {E2 : Int} (t3 t4 t5 t6 t12 t13 t14 t15 t16 t17 t18 t19 t20 t21 t22 t23 t24 t25 t26 t27 t28 t29 t30 t31 t32 t33 t34 t35 t36 t37 t38 t39 t40 t41 t42 t43 t44 t45 t46 t47 t48 t49 t50 t51 t52 t53 t54 t55 t56 t57 t58 t59 t60 t61 t62 t63 t64 t65 t66 t67 t68 t69 t70 t71 t72 t73 t74 t75 t76 t77 t78 t79 t80 t81 t82 t83 t84 t85 t86 t87 t88 t89 t90 t91 t92 t93 t94 t95 t96 t97 t98 t99 t100 t101 t102 t103 t104 t105 t106 t107 t108 t109 t110 t111 t112 t113 t114 t115 t116 t117 t118 t119 t120 t121 t122 t123 t124 t125 t126 t127 t128 t129 t130 t131 t132 t133 t134 t135 t136 t137 t138 t139 t140 t141 t142 t143 t144 t145 t146 t147 t148 t149 t150 t151 t152 t153 t154 t155 t156 t157 t158 t159 t160 t161 t162 t163 t164 t165 t166 t167 t168 t169 t170 t171 t172 t173 t174 t175 t176 t177 t178 t179 t180 t181 t182 t183 t184 t185 t186 t187 t188 t189 t190 t191 t192 t193 t194 t195 t196 t197 t198 t199 t200 t201 t202 t203 t204 t205 t206 t207 t208 t209 t210 t211 t212 t213 t214 t215 t216 t217 t218 t219 t220 t221 t222 t223 t224 t225 t226 t227 t228 t229 t230 t231 t232 t233 t234 t235 t236 t237 t238 t239 t240 t241 t242 t243 t244 t245 t246 t247 t248 t249 t250 t251 t252 t253 t254 t255 t256 : Value) (HP : Hid (PkR a B1 W A n cc E)) (HQ : Hid (PkR b B2 W A2 n2 c2 E2)) :
    Code.wp Try.prog (bT 7) (bodyPost Try.prog Try.f7 (Ret (.bool true) (fun w' => Frm [] w w'))) ⟨#[.string a, .string b, .string c, t3, t4, t5, t6, .int .i64 (cmp a b), .slice A n cc, .int .i64 E, .slice A2 n2 c2, .int .i64 E2, t12, t13, t14, t15, t16, t17, t18, t19, t20, t21, t22, t23, t24, t25, t26, t27, t28, t29, t30, t31, t32, t33, t34, t35, t36, t37, t38, t39, t40, t41, t42, t43, t44, t45, t46, t47, t48, t49, t50, t51, t52, t53, t54, t55, t56, t57, t58, t59, t60, t61, t62, t63, t64, t65, t66, t67, t68, t69, t70, t71, t72, t73, t74, t75, t76, t77, t78, t79, t80, t81, t82, t83, t84, t85, t86, t87, t88, t89, t90, t91, t92, t93, t94, t95, t96, t97, t98, t99, t100, t101, t102, t103, t104, t105, t106, t107, t108, t109, t110, t111, t112, t113, t114, t115, t116, t117, t118, t119, t120, t121, t122, t123, t124, t125, t126, t127, t128, t129, t130, t131, t132, t133, t134, t135, t136, t137, t138, t139, t140, t141, t142, t143, t144, t145, t146, t147, t148, t149, t150, t151, t152, t153, t154, t155, t156, t157, t158, t159, t160, t161, t162, t163, t164, t165, t166, t167, t168, t169, t170, t171, t172, t173, t174, t175, t176, t177, t178, t179, t180, t181, t182, t183, t184, t185, t186, t187, t188, t189, t190, t191, t192, t193, t194, t195, t196, t197, t198, t199, t200, t201, t202, t203, t204, t205, t206, t207, t208, t209, t210, t211, t212, t213, t214, t215, t216, t217, t218, t219, t220, t221, t222, t223, t224, t225, t226, t227, t228, t229, t230, t231, t232, t233, t234, t235, t236, t237, t238, t239, t240, t241, t242, t243, t244, t245, t246, t247, t248, t249, t250, t251, t252, t253, t254, t255, t256], []⟩ W := by
  rw [show bT 7 = Code.seq (fstS (bT 7)) (bT 8) from by kernel_rfl]
  refine wp_seq_k ?_
  intro K7 hK7
  have HK7 := Lib.hid hK7
  clear hK7
  conv => arg 2; whnf
  by_cases g1 : E = 0
  · have t1 : (E == 0) = true := by simpa using g1
    by_cases g2 : E2 = 0
    · have t2 : (E2 == 0) = true := by simpa using g2
      by_cases g3 : a.size = b.size
      · have t3 : ((a.size : Int) == (b.size : Int)) = true := by rw [g3]; simp
        have hP1 := HP.out
        have hQ1 := HQ.out
        rcases hP1 with ⟨h40, _, hn, b1, hL1, _⟩ | ⟨_, h5⟩
        · rcases hQ1 with ⟨_, _, hn2, b2, hL2, _⟩ | ⟨_, h5⟩
          · rw [← g3] at hn2
            obtain rfl : n = n2 := by omega
            have hn7 : n ≤ 10 := by rw [hn]; unfold wdsN; omega
            have e0 : ((n : Int) != (n : Int)) = false := by simp
            have hpa : ∀ k, k < n → (pk a)[k]? = some (wd (sb a) k) := fun k hk => pks_get (by rw [← hn]; exact hk)
            have hpb : ∀ k, k < n → (pk b)[k]? = some (wd (sb b) k) := fun k hk => pks_get (by rw [← g3, ← hn]; exact hk)
            have HL1 := Lib.hid hL1
            have HL2 := Lib.hid hL2
            have HPA := Lib.hid hpa
            have HPB := Lib.hid hpb
            have HS := Lib.hid g3
            clear hL1 hL2 hpa hpb hn hn2 g3 g1 g2 h40
            go_wp2_with fail
            go_loopw [126] (fun i w' => ∃ k : Nat, k ≤ n ∧ i = .int .i64 k ∧ Frm [] W w' ∧ Hid (∀ j, j < k → wd (sb a) j = wd (sb b) j)) (fun i _ => n - (intOf i).toNat)
            case atStart => exact ⟨0, by omega, rfl, Frm.refl _ _, Lib.hid (fun j hj => by omega)⟩
            case round =>
              obtain ⟨k, hk, rfl, hFk, HJ⟩ := hrel
              by_cases hlt : k < n
              · have hb0 : (0 : Int) ≤ (k : Int) := by omega
                have hb1 : (k : Int) < (n : Int) := by omega
                have hc1 := (HL1.out.frm0 hFk).cell k _ (HPA.out k hlt)
                have hc2 := (HL2.out.frm0 hFk).cell k _ (HPB.out k hlt)
                have hix1 := ix_u64 (c := cc) HL1.out.ad hlt
                have hix2 := ix_u64 (c := c2) HL2.out.ad hlt
                simp only [Nat.zero_add] at hc1 hc2 hix1 hix2
                by_cases he : wd (sb a) k = wd (sb b) k
                · have HJ2 : Hid (∀ j, j < k + 1 → wd (sb a) j = wd (sb b) j) := Lib.hid (fun j hj => by
                    by_cases e : j = k
                    · subst e; exact he
                    · exact HJ.out j (by omega))
                  generalize wd (sb a) k = u at *
                  generalize wd (sb b) k = v at *
                  have tn : (u != v) = false := by simpa using he
                  clear he
                  go_wp2_with fail
                  go_quiet (fail)
                  go_wp2
                  go_roundw
                  case rel => exact ⟨k + 1, by omega, by go_num, hFk.drewN _, HJ2⟩
                  case measure => simp [intOf]; omega
                · have ho := ord_words HS.out HJ.out he
                  generalize wd (sb a) k = u at *
                  generalize wd (sb b) k = v at *
                  have tn : (u != v) = true := by simpa using he
                  obtain ⟨δ, hδ⟩ : ∃ δ, decide (u < v) = δ := ⟨_, rfl⟩
                  rw [hδ] at ho
                  have hδ2 := ho.symm
                  have hdd : (δ != δ) = false := by simp
                  clear he ho
                  go_wp2_with fail
                  go_quiet (fail)
                  go_wp2_with fail
                  go_quiet (fail)
                  go_wp2_with fail
                  exact HK7.out _ _ (holdsC a b c ha hb hc w _ (hW.trans ((hFk.drewN _).drewN _)) _ _ _ _ _ _ _ _ _ _ _ _ _ _ _ _ _ _ _ _ _ _ _ _ _ _ _ _ _ _ _ _ _ _ _ _ _ _ _ _ _ _ _ _ _ _ _ _ _ _ _ _ _ _ _ _ _ _ _ _ _ _ _ _ _ _ _ _ _ _ _ _ _ _ _ _ _ _ _ _ _ _ _ _ _ _ _ _ _ _ _ _ _ _ _ _ _ _ _ _ _ _ _ _ _ _ _ _ _ _ _ _ _ _ _ _ _ _ _ _ _ _ _ _ _ _ _ _ _ _ _ _ _ _ _ _ _ _ _ _ _ _ _ _ _ _ _ _ _ _ _ _ _ _ _ _ _ _ _ _ _ _ _ _ _ _ _ _ _ _ _ _ _ _ _ _ _ _ _ _ _ _ _ _ _ _ _ _ _ _ _ _ _ _ _ _ _ _ _ _ _ _ _ _ _ _ _ _ _ _ _ _ _ _ _ _ _ _ _ _ _ _ _ _ _ _ _ _ _ _ _ _ _ _ _ _ _ _ _ _ _ _ _ _ _ _ _ _ _ _ _ _ _)
              · obtain rfl : k = n := by omega
                go_wp2_with fail
                exact HK7.out _ _ (holdsC a b c ha hb hc w _ (hW.trans (hFk)) _ _ _ _ _ _ _ _ _ _ _ _ _ _ _ _ _ _ _ _ _ _ _ _ _ _ _ _ _ _ _ _ _ _ _ _ _ _ _ _ _ _ _ _ _ _ _ _ _ _ _ _ _ _ _ _ _ _ _ _ _ _ _ _ _ _ _ _ _ _ _ _ _ _ _ _ _ _ _ _ _ _ _ _ _ _ _ _ _ _ _ _ _ _ _ _ _ _ _ _ _ _ _ _ _ _ _ _ _ _ _ _ _ _ _ _ _ _ _ _ _ _ _ _ _ _ _ _ _ _ _ _ _ _ _ _ _ _ _ _ _ _ _ _ _ _ _ _ _ _ _ _ _ _ _ _ _ _ _ _ _ _ _ _ _ _ _ _ _ _ _ _ _ _ _ _ _ _ _ _ _ _ _ _ _ _ _ _ _ _ _ _ _ _ _ _ _ _ _ _ _ _ _ _ _ _ _ _ _ _ _ _ _ _ _ _ _ _ _ _ _ _ _ _ _ _ _ _ _ _ _ _ _ _ _ _ _ _ _ _ _ _ _ _ _ _ _ _ _ _ _ _ _)
          · omega
        · omega

      · have t3 : ((a.size : Int) == (b.size : Int)) = false := by rw [beq_eq_false_iff_ne]; omega
        clear g1 g2 g3
        go_wp2_with fail
        exact HK7.out _ _ (holdsC a b c ha hb hc w _ (hW) _ _ _ _ _ _ _ _ _ _ _ _ _ _ _ _ _ _ _ _ _ _ _ _ _ _ _ _ _ _ _ _ _ _ _ _ _ _ _ _ _ _ _ _ _ _ _ _ _ _ _ _ _ _ _ _ _ _ _ _ _ _ _ _ _ _ _ _ _ _ _ _ _ _ _ _ _ _ _ _ _ _ _ _ _ _ _ _ _ _ _ _ _ _ _ _ _ _ _ _ _ _ _ _ _ _ _ _ _ _ _ _ _ _ _ _ _ _ _ _ _ _ _ _ _ _ _ _ _ _ _ _ _ _ _ _ _ _ _ _ _ _ _ _ _ _ _ _ _ _ _ _ _ _ _ _ _ _ _ _ _ _ _ _ _ _ _ _ _ _ _ _ _ _ _ _ _ _ _ _ _ _ _ _ _ _ _ _ _ _ _ _ _ _ _ _ _ _ _ _ _ _ _ _ _ _ _ _ _ _ _ _ _ _ _ _ _ _ _ _ _ _ _ _ _ _ _ _ _ _ _ _ _ _ _ _ _ _ _ _ _ _ _ _ _ _ _ _ _ _ _ _ _)
    · have t2 : (E2 == 0) = false := by simpa using g2
      clear g1 g2
      go_wp2_with fail
      exact HK7.out _ _ (holdsC a b c ha hb hc w _ (hW) _ _ _ _ _ _ _ _ _ _ _ _ _ _ _ _ _ _ _ _ _ _ _ _ _ _ _ _ _ _ _ _ _ _ _ _ _ _ _ _ _ _ _ _ _ _ _ _ _ _ _ _ _ _ _ _ _ _ _ _ _ _ _ _ _ _ _ _ _ _ _ _ _ _ _ _ _ _ _ _ _ _ _ _ _ _ _ _ _ _ _ _ _ _ _ _ _ _ _ _ _ _ _ _ _ _ _ _ _ _ _ _ _ _ _ _ _ _ _ _ _ _ _ _ _ _ _ _ _ _ _ _ _ _ _ _ _ _ _ _ _ _ _ _ _ _ _ _ _ _ _ _ _ _ _ _ _ _ _ _ _ _ _ _ _ _ _ _ _ _ _ _ _ _ _ _ _ _ _ _ _ _ _ _ _ _ _ _ _ _ _ _ _ _ _ _ _ _ _ _ _ _ _ _ _ _ _ _ _ _ _ _ _ _ _ _ _ _ _ _ _ _ _ _ _ _ _ _ _ _ _ _ _ _ _ _ _ _ _ _ _ _ _ _ _ _ _ _ _ _ _ _ _)
  · have t1 : (E == 0) = false := by simpa using g1
    clear g1
    go_wp2_with fail
    exact HK7.out _ _ (holdsC a b c ha hb hc w _ (hW) _ _ _ _ _ _ _ _ _ _ _ _ _ _ _ _ _ _ _ _ _ _ _ _ _ _ _ _ _ _ _ _ _ _ _ _ _ _ _ _ _ _ _ _ _ _ _ _ _ _ _ _ _ _ _ _ _ _ _ _ _ _ _ _ _ _ _ _ _ _ _ _ _ _ _ _ _ _ _ _ _ _ _ _ _ _ _ _ _ _ _ _ _ _ _ _ _ _ _ _ _ _ _ _ _ _ _ _ _ _ _ _ _ _ _ _ _ _ _ _ _ _ _ _ _ _ _ _ _ _ _ _ _ _ _ _ _ _ _ _ _ _ _ _ _ _ _ _ _ _ _ _ _ _ _ _ _ _ _ _ _ _ _ _ _ _ _ _ _ _ _ _ _ _ _ _ _ _ _ _ _ _ _ _ _ _ _ _ _ _ _ _ _ _ _ _ _ _ _ _ _ _ _ _ _ _ _ _ _ _ _ _ _ _ _ _ _ _ _ _ _ _ _ _ _ _ _ _ _ _ _ _ _ _ _ _ _ _ _ _ _ _ _ _ _ _ _ _ _ _ _ _ _)
end Go.Proofs.Ytembnakhcggbpaa
