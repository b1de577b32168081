/- Layer 5: the walk of KeysHolds, from Between on (by gen_keyho.py). -/
import Derived.Test.YtembnakhcggbpaaKeyHm
namespace Go.Proofs.Ytembnakhcggbpaa
open Go.ChangeShapes Go.WideShapes Go.ChangeAt Go.RowKit
set_option linter.unusedVariables false

/-- What is behind the first statements of a body. -/
def dropS : Nat → Code → Code
  | 0, c => c
  | n + 1, .seq _ b => dropS n b
  | _ + 1, c => c
noncomputable def bT (k : Nat) : Code := dropS k (Try.f7.body.getD .skip)
def fstS : Code → Code
  | .seq a _ => a
  | c => c

set_option maxRecDepth 1000000 in
set_option maxHeartbeats 25600000 in
theorem holdsD (a b c : ByteArray) (ha : a.size ≤ 100) (hb : b.size ≤ 100) (hc : c.size ≤ 100) (w W : World) (hW : Frm [] w W) (t3 t4 t5 t6 t8 t9 t10 t11 t12 t13 t14 t15 t16 t17 t18 t19 t20 t21 t22 t23 t24 t25 t26 t27 t28 t29 t30 t31 t32 t33 t34 t35 t36 t37 t38 t39 t40 t41 t42 t43 t44 t45 t46 t47 t48 t49 t50 t51 t52 t53 t54 t55 t56 t57 t58 t59 t60 t61 t62 t63 t64 t65 t66 t67 t68 t69 t70 t71 t72 t73 t74 t75 t76 t77 t78 t79 t80 t81 t82 t83 t84 t85 t86 t87 t88 t89 t90 t91 t92 t93 t94 t95 t96 t97 t98 t99 t100 t101 t102 t103 t104 t105 t106 t107 t108 t109 t110 t111 t112 t113 t114 t115 t116 t117 t118 t119 t120 t121 t122 t123 t124 t125 t126 t127 t128 t129 t130 t131 t132 t133 t134 t135 t136 t137 t138 t139 t140 t141 t142 t143 t144 t145 t146 t147 t148 t149 t150 t151 t152 t153 t154 t155 t156 t157 t158 t159 t160 t161 t162 t163 t164 t165 t166 t167 t168 t169 t170 t171 t172 t173 t174 t175 t176 t177 t178 t179 t180 t181 t182 t183 t184 t185 t186 t187 t188 t189 t190 t191 t192 t193 t194 t195 t196 t197 t198 t199 t200 t201 t202 t203 t204 t205 t206 t207 t208 t209 t210 t211 t212 t213 t214 t215 t216 t217 t218 t219 t220 t221 t222 t223 t224 t225 t226 t227 t228 t229 t230 t231 t232 t233 t234 t235 t236 t237 t238 t239 t240 t241 t242 t243 t244 t245 t246 t247 t248 t249 t250 t251 t252 t253 t254 t255 t256 : Value) :
    Code.wp Try.prog (bT 9) (bodyPost Try.prog Try.f7 (Ret (.bool true) (fun w' => Frm [] w w'))) ⟨#[.string a, .string b, .string c, t3, t4, t5, t6, .int .i64 (cmp a b), t8, t9, t10, t11, t12, t13, t14, t15, t16, t17, t18, t19, t20, t21, t22, t23, t24, t25, t26, t27, t28, t29, t30, t31, t32, t33, t34, t35, t36, t37, t38, t39, t40, t41, t42, t43, t44, t45, t46, t47, t48, t49, t50, t51, t52, t53, t54, t55, t56, t57, t58, t59, t60, t61, t62, t63, t64, t65, t66, t67, t68, t69, t70, t71, t72, t73, t74, t75, t76, t77, t78, t79, t80, t81, t82, t83, t84, t85, t86, t87, t88, t89, t90, t91, t92, t93, t94, t95, t96, t97, t98, t99, t100, t101, t102, t103, t104, t105, t106, t107, t108, t109, t110, t111, t112, t113, t114, t115, t116, t117, t118, t119, t120, t121, t122, t123, t124, t125, t126, t127, t128, t129, t130, t131, t132, t133, t134, t135, t136, t137, t138, t139, t140, t141, t142, t143, t144, t145, t146, t147, t148, t149, t150, t151, t152, t153, t154, t155, t156, t157, t158, t159, t160, t161, t162, t163, t164, t165, t166, t167, t168, t169, t170, t171, t172, t173, t174, t175, t176, t177, t178, t179, t180, t181, t182, t183, t184, t185, t186, t187, t188, t189, t190, t191, t192, t193, t194, t195, t196, t197, t198, t199, t200, t201, t202, t203, t204, t205, t206, t207, t208, t209, t210, t211, t212, t213, t214, t215, t216, t217, t218, t219, t220, t221, t222, t223, t224, t225, t226, t227, t228, t229, t230, t231, t232, t233, t234, t235, t236, t237, t238, t239, t240, t241, t242, t243, t244, t245, t246, t247, t248, t249, t250, t251, t252, t253, t254, t255, t256], []⟩ W := by
  have KC : Hid (∀ (x y : ByteArray) W, Calls Try.prog 14 #[.string x, .string y] W (fun e w' => e = .returned (.int .i64 (cmp x y)) ∧ W = w')) := Lib.hid (fun x y W => cmp_walk x y W)
  have KK : Hid (∀ (x : ByteArray) W, Calls Try.prog 10 #[.string x] W (fun e w' => e = .returned (.bool (vk x)) ∧ W = w')) := Lib.hid (fun x W => key_walk x W)
  conv => arg 2; whnf
  have hH := hW
  go_wp2_with fail
  refine (between_all a b _).mono ?_
  rintro e w5 ⟨T, E4, rfl, hF5, hB⟩
  have k1 := fun W => KK.out a W
  have k2 := fun W => KK.out b W
  rcases hB with ⟨rfl, hva, hvb, hab, hT⟩ | ⟨hE, rfl, hcj⟩
  · have hsz := bet_size hab
    have hgt := bet_gt hab
    have k3 := fun W => KC.out a T W
    have k4 := fun W => KC.out T b W
    have k5 := fun W => pf_walk a b W (by omega)
    have k6 := fun W => hp_walk b T W
    have k7 := fun W => KC.out (T.extract 0 (pf a b)) a W
    have hle := @bet_le a b (pf a b) (Nat.le_refl _)
    have hxt : T.extract 0 (pf a b) = b.extract 0 (pf a b) := by
      rw [hT]
      apply ByteArray.ext
      apply Array.toList_inj.1
      rw [data_take, data_take]
      unfold betS
      rw [data_take, List.take_take, Nat.min_eq_left (by omega)]
    have htp : Lib.hasPrefix b.data.toList T.data.toList = true := by
      rw [hT]
      unfold betS Lib.hasPrefix
      rw [data_take]
      exact List.isPrefixOf_iff_prefix.2 (List.take_prefix _ _)
    have hTb : cmp T b ≤ 0 := by
      rw [hT]
      show Lib.compareBytes _ _ ≤ 0
      unfold betS
      rw [data_take]
      have := cmp_prefix (b.data.toList.take (pf a b + 1)) (b.data.toList.drop (pf a b + 1))
      rw [List.take_append_drop] at this
      exact this
    rw [← hT] at hsz hgt
    rw [← hxt] at hle
    have hna : cmp a T = -1 := by rw [cmpN T a, hgt]
    rw [hna] at k3
    rw [htp] at k6
    rw [hva] at k1
    rw [hvb] at k2
    have hpl : pf a b ≤ 100 := by
      have := (pfx_le a.data.toList b.data.toList).1
      rw [szl] at this
      exact Nat.le_trans this ha
    rw [hab]
    clear hT hxt htp hgt hna hva hvb hab
    generalize pf a b = p at *
    generalize cmp T b = v at *
    generalize cmp (T.extract 0 p) a = u at *
    have t1 : decide (0 < v) = false := by simp; omega
    have t2 : decide (u ≤ 0) = true := by simpa using hle
    have HTB := Lib.hid hTb
    have HLE := Lib.hid hle
    have K1 := Lib.hid k1
    have K2 := Lib.hid k2
    have K3 := Lib.hid k3
    have K4 := Lib.hid k4
    have K5 := Lib.hid k5
    have K6 := Lib.hid k6
    have K7 := Lib.hid k7
    clear k1 k2 k3 k4 k5 k6 k7 hTb hle
    by_cases hp0 : p = 0
    · subst hp0
      have hw1 : IntKind.i64.wrap (((0 : Nat) : Int) + 1) = 1 := by rw [IntWalk.i64_in _ (by omega)]; rfl
      go_wp2_with fail
      refine (K1.out _).mono ?_
      rintro e w' ⟨rfl, rfl⟩
      go_wp2_with fail
      refine (K2.out _).mono ?_
      rintro e w' ⟨rfl, rfl⟩
      go_wp2_with fail
      refine (K3.out _).mono ?_
      rintro e w' ⟨rfl, rfl⟩
      go_wp2_with fail
      refine (K4.out _).mono ?_
      rintro e w' ⟨rfl, rfl⟩
      go_wp2_with fail
      refine (K5.out _).mono ?_
      rintro e w6 ⟨rfl, hF6⟩
      go_wp2_with fail
      refine (K6.out _).mono ?_
      rintro e w' ⟨rfl, rfl⟩
      go_wp2_with fail
      refine (known_true _).mono ?_
      rintro e w7 ⟨rfl, hF7⟩
      go_wp2
      go_ret
      exact ⟨rfl, ((hH.trans hF5).trans hF6).trans hF7⟩
    · have hp1 : 1 ≤ p := by omega
      have hw1 : IntKind.i64.wrap ((p : Int) + 1) = (p : Int) + 1 := by rw [IntWalk.i64_in _ (by omega)]
      have t3 : ((p : Int) + 1 == 1) = false := by rw [beq_eq_false_iff_ne]; omega
      clear hp0
      go_wp2_with fail
      refine (K1.out _).mono ?_
      rintro e w' ⟨rfl, rfl⟩
      go_wp2_with fail
      refine (K2.out _).mono ?_
      rintro e w' ⟨rfl, rfl⟩
      go_wp2_with fail
      refine (K3.out _).mono ?_
      rintro e w' ⟨rfl, rfl⟩
      go_wp2_with fail
      refine (K4.out _).mono ?_
      rintro e w' ⟨rfl, rfl⟩
      go_wp2_with fail
      refine (K5.out _).mono ?_
      rintro e w6 ⟨rfl, hF6⟩
      go_wp2_with fail
      refine (K6.out _).mono ?_
      rintro e w' ⟨rfl, rfl⟩
      go_wp2_with fail
      refine (K7.out _).mono ?_
      rintro e w' ⟨rfl, rfl⟩
      go_wp2_with fail
      refine (known_true _).mono ?_
      rintro e w7 ⟨rfl, hF7⟩
      go_wp2
      go_ret
      exact ⟨rfl, ((hH.trans hF5).trans hF6).trans hF7⟩
  · have hE2 : (E4 != 0) = true := by
      have := hE
      simp only [beq_eq_false_iff_ne] at this
      simpa using this
    cases hva : vk a with
    | false =>
      rw [hva] at k1
      have K1 := Lib.hid k1
      clear k1 k2 hva hcj
      go_wp2_with fail
      refine (K1.out _).mono ?_
      rintro e w' ⟨rfl, rfl⟩
      go_wp2_with fail
      refine (known_true _).mono ?_
      rintro e w7 ⟨rfl, hF7⟩
      go_wp2
      go_ret
      exact ⟨rfl, (hH.trans hF5).trans hF7⟩
    | true =>
      rw [hva] at k1 hcj
      cases hvb : vk b with
      | false =>
        rw [hvb] at k2
        have K1 := Lib.hid k1
        have K2 := Lib.hid k2
        clear k1 k2 hva hvb hcj
        go_wp2_with fail
        refine (K1.out _).mono ?_
        rintro e w' ⟨rfl, rfl⟩
        go_wp2_with fail
        refine (K2.out _).mono ?_
        rintro e w' ⟨rfl, rfl⟩
        go_wp2_with fail
        refine (known_true _).mono ?_
        rintro e w7 ⟨rfl, hF7⟩
        go_wp2
        go_ret
        exact ⟨rfl, (hH.trans hF5).trans hF7⟩
      | true =>
        rw [hvb] at k2 hcj
        have hx : decide (cmp a b < 0) = false := by simpa using hcj
        generalize cmp a b = x at *
        have K1 := Lib.hid k1
        have K2 := Lib.hid k2
        clear k1 k2 hva hvb hcj
        go_wp2_with fail
        refine (K1.out _).mono ?_
        rintro e w' ⟨rfl, rfl⟩
        go_wp2_with fail
        refine (K2.out _).mono ?_
        rintro e w' ⟨rfl, rfl⟩
        go_wp2_with fail
        refine (known_true _).mono ?_
        rintro e w7 ⟨rfl, hF7⟩
        go_wp2
        go_ret
        exact ⟨rfl, (hH.trans hF5).trans hF7⟩
end Go.Proofs.Ytembnakhcggbpaa
