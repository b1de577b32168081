/- The reference's Pack, Same; packs. -/
import Derived.Test.YtembnakhcggbpaaKeyP
import Derived.Deep.DeepCutAuto
namespace Go.Proofs.Ytembnakhcggbpaa
open Go.ChangeShapes Go.WideShapes Go.ChangeAt Go.RowKit

theorem pow_split {r t : Nat} (h1 : r ≤ t) : (256 : Int) ^ (t + 1 - r) = 256 ^ (t - r) * 256 := by
  rw [show t + 1 - r = (t - r) + 1 by omega, Int.pow_succ]
theorem pow_bd {r t : Nat} (h2 : t < 7) : 1 ≤ (256 : Int) ^ (t - r) ∧ (256 : Int) ^ (t - r) ≤ 281474976710656 := by
  have : t - r ≤ 6 := by omega
  generalize t - r = d at *
  obtain rfl | rfl | rfl | rfl | rfl | rfl | rfl : d = 0 ∨ d = 1 ∨ d = 2 ∨ d = 3 ∨ d = 4 ∨ d = 5 ∨ d = 6 := by omega
  all_goals decide

set_option maxRecDepth 100000 in
set_option maxHeartbeats 4000000 in
theorem rpack_any (s : ByteArray) (w : World) (hs : s.size ≤ 100) :
    Calls Try.prog 20 #[.string s] w (fun e w' => ∃ a c, Ret (.slice a (wdsN s.size) c) (fun w' => Frm [] w w' ∧ Row .u64 43 w.heap.size w' a (wdsN s.size) c (pk s)) e w') := by
  have hpk : pk s = pks (cut (sb s) s.size) (wdsN s.size) := by rw [sb_cut]; rfl
  have HPK := Lib.hid hpk
  clear hpk
  go_enter Try.func20, Try.ntmps20
  go_wp2_with fail
  go_loopw [3, 4] (fun v i w' => ∃ (k : Nat) (a : Option Addr) (c : Nat), k ≤ s.size ∧ i = .int .i64 k ∧ v = .slice a (wdsN k) c ∧ Frm [] w w' ∧ Hid (Row .u64 43 w.heap.size w' a (wdsN k) c (pks (cut (sb s) k) (wdsN k)))) (fun _ i _ => s.size - (intOf i).toNat)
  case atStart => exact ⟨0, none, 0, by omega, rfl, rfl, Frm.refl _ _, Lib.hid (Row.nil _ _ _ _)⟩
  case round =>
    obtain ⟨k, a, c, hk, rfl, rfl, hF, HR⟩ := hrel
    by_cases hlt : k < s.size
    · have hb0 : (0 : Int) ≤ (k : Int) := by omega
      have hb1 : (k : Int) < (s.size : Int) := by omega
      have hqt : (k : Int).tdiv 8 = ((k / 8 : Nat) : Int) := by rw [Int.tdiv_eq_ediv_of_nonneg hb0]; omega
      have hqe : (k : Int) / 8 = ((k / 8 : Nat) : Int) := by omega
      have hrt : (k : Int) % 8 = ((k % 8 : Nat) : Int) := by omega
      have hwn : wdsN (k + 1) = k / 8 + 1 := by unfold wdsN; omega
      have hr8 : k % 8 < 8 := by omega
      have hws := wd_step (sb s) k
      have hps := pks_set (sb s) k (k / 8 + 1)
      have hsw : IntKind.u64.wrap (s[k].toNat : Int) = (s[k].toNat : Int) := by
        have := s[k].toNat_lt
        rw [IntKind.wrap_u64]; omega
      have hsk : sb s k = (s[k].toNat : Int) := sb_get hlt
      have hsb := sb_bf s k
      have hwb := wd_bd ((sb_bf s).cut (k + 1)) (k / 8)
      have hnew : k % 8 = 0 → pks (cut (sb s) k) (k / 8) ++ [0] = pks (cut (sb s) k) (k / 8 + 1) := pks_grow
      have hold : (k % 8 = 0 → wdsN k = k / 8) ∧ (k % 8 ≠ 0 → wdsN k = k / 8 + 1) := by unfold wdsN; omega
      have HSH : Hid (sh k = 256 ^ (7 - k % 8)) := Lib.hid rfl
      have HWS := Lib.hid hws
      have HPS := Lib.hid hps
      have HSK := Lib.hid hsk
      have HSB := Lib.hid hsb
      have HWB := Lib.hid hwb
      have HNEW := Lib.hid hnew
      have HOLD := Lib.hid hold
      have HWN := Lib.hid hwn
      clear hws hps hsk hsb hwb hnew hold hwn hqt
      generalize hqq : k / 8 = q at *
      generalize hrr : k % 8 = r at *
      have HQ := Lib.hid hqq
      have HRR := Lib.hid hrr
      clear hqq hrr
      go_upto_if 15 with fail
      go_cut [3] (fun s3 wx => ∃ (a' : Option Addr) (c' : Nat), s3 = .slice a' (q + 1 : Nat) c' ∧ Frm [] w wx ∧ Hid (Row .u64 43 w.heap.size wx a' (q + 1) c' (pks (cut (sb s) k) (q + 1))))
      case first =>
        by_cases h0 : r = 0
        · have hR := HR.out
          rw [HOLD.out.1 h0] at hR ⊢
          have d0 : ((r : Int) == 0) = true := by simpa using h0
          have hnw := HNEW.out h0
          have HNW := Lib.hid hnw
          have HR2 := Lib.hid hR
          have hqb : q ≤ 100 := by have := HQ.out; omega
          clear hR hnw
          go_wp2_with (at_builtin; refine wpl_app Try.underlying29 info_u64 (by decide) (by decide) rfl (.tmp 16) (.tmp 17) rfl (B := w.heap.size) (a := a) (n := q) (c := c) (m := 1) (l := pks (cut (sb s) k) q) (l2 := [0]) (by simp [Act.eval]) (by simp [Act.eval]) (HR2.out.frm0 ((Frm.refl _ _).alloc _)) (li_new rfl (heap_alloc_new _ _)) (by rw [pks_length]; omega) (by have := hF.size; simp; omega) ?_; intro a3 c3 w3 hR3 hF3)
          go_meet
          rw [HNW.out] at hR3
          exact ⟨a3, c3, rfl, (hF.alloc _).trans_new hF3 (fun x hx => .inr (HR2.out.blk x hx).1), Lib.hid hR3⟩
        · have hR := HR.out
          rw [HOLD.out.2 h0] at hR ⊢
          have d0 : ((r : Int) == 0) = false := by simpa using h0
          have HR2 := Lib.hid hR
          clear hR
          go_wp2
          go_meet
          exact ⟨a, c, rfl, hF, HR2⟩
      case rest =>
        obtain ⟨a3, c3, rfl, hF3, HR3⟩ := hcut
        go_wp2_with fail
        rw [hrt]
        have HQE := Lib.hid hqe
        clear hqe hrt
        go_loop [5, 6] (fun v j => ∃ (t : Nat) (x : Int), r ≤ t ∧ t ≤ 7 ∧ j = .int .i64 t ∧ v = .int .u64 x ∧ Hid (x = sb s k * 256 ^ (t - r))) (fun _ j => 7 - (intOf j).toNat)
        case atStart => exact ⟨r, _, by omega, by omega, rfl, rfl, Lib.hid (by rw [HSK.out]; simp)⟩
        case round =>
          obtain ⟨t, x, ht0, ht1, rfl, rfl, HX⟩ := hrel
          by_cases h7 : t < 7
          · have hx0 : 0 ≤ x ∧ x ≤ 255 * 281474976710656 := by
              have h1 := HSB.out
              have h2 := pow_bd (r := r) h7
              have h3 := HX.out
              have h4 : 0 ≤ sb s k * 256 ^ (t - r) := Int.mul_nonneg h1.1 (by omega)
              have h5 : sb s k * 256 ^ (t - r) ≤ 255 * 281474976710656 := Int.mul_le_mul h1.2 h2.2 (by omega) (by omega)
              omega
            have hw : IntKind.u64.wrap (x * 256) = x * 256 := by rw [IntKind.wrap_u64]; omega
            have hx2 : x * 256 = sb s k * 256 ^ (t + 1 - r) := by rw [pow_split ht0, HX.out, Int.mul_assoc]
            have HX2 := Lib.hid hx2
            obtain ⟨hx0, hx1⟩ := hx0
            clear hx2
            go_wp2
            go_round
            case rel => exact ⟨t + 1, x * 256, by omega, by omega, by go_num, rfl, HX2⟩
            case measure => simp [intOf]; omega
          · obtain rfl : t = 7 := by omega
            obtain ⟨b, hL⟩ := HR3.out.li
            obtain rfl := hL.ad (by omega)
            have hx := hL.cell q _ (pks_get (by omega))
            rw [Nat.zero_add] at hx
            have hfz := row_frozen HR3.out (by omega) q
            have hset := row_set (i := q) HR3.out (wd (cut (sb s) (k + 1)) q)
            rw [HPS.out] at hset
            have hbB := (HR3.out.blk b (by simp [blk])).1
            have hFs := hF3.setCell ⟨b, q, none⟩ (.int .u64 (wd (cut (sb s) (k + 1)) q)) (.inr hbB)
            have hix := fun W => ix_u64 (a := some ⟨b, 0, none⟩) (n := q + 1) (c := c3) (k := q) (fun _ => rfl) (by omega) W
            rw [Nat.zero_add] at hix
            have hix2 := hix
            rw [← HQE.out] at hix2
            have hsum : IntKind.u64.wrap (wd (cut (sb s) k) q + x) = wd (cut (sb s) (k + 1)) q := by
              rw [HX.out, ← HSH.out, ← HWS.out, IntKind.wrap_u64]
              have := HWB.out
              omega
            have hmm := hsum
            generalize wd (cut (sb s) (k + 1)) q = v2 at *
            generalize wd (cut (sb s) k) q = v1 at *
            have HSET := Lib.hid hset
            have HFS := Lib.hid hFs
            clear hset hFs hL
            go_wp2_with fail
            go_roundw
            case rel =>
              refine ⟨k + 1, some ⟨b, 0, none⟩, c3, by omega, by go_num, ?_, HFS.out, ?_⟩
              · rw [HWN.out]
              · rw [HWN.out]; exact HSET
            case measure => simp [intOf]; omega
    · obtain rfl : k = s.size := by omega
      have hR := HR.out
      rw [← HPK.out] at hR
      have HR2 := Lib.hid hR
      clear hR
      go_wp2
      go_ret
      exact ⟨a, c, rfl, hF, HR2.out⟩

set_option maxRecDepth 100000 in
set_option maxHeartbeats 2000000 in
theorem same_yes {w : World} {a : Option Addr} {n c b o : Nat} {l : List Int} (hL : Li .u64 w a n c b o l) {a2 : Option Addr} {c2 b2 o2 : Nat} (hL2 : Li .u64 w a2 n c2 b2 o2 l) (hn : n ≤ 100000) :
    Calls Try.prog 23 #[.slice a n c, .slice a2 n c2] w (Ret (.bool true) (fun w' => Frm [] w w')) := by
  have HL := Lib.hid hL
  have HL2 := Lib.hid hL2
  clear hL hL2
  have hnb : ((n : Int) != (n : Int)) = false := by simp
  go_enter Try.func23, Try.ntmps23
  go_wp2_with fail
  go_loopw [5] (fun i w' => ∃ k : Nat, k ≤ n ∧ i = .int .i64 k ∧ ∃ m, w' = w.drewN m) (fun i _ => n - (intOf i).toNat)
  case atStart => exact ⟨0, by omega, rfl, 0, rfl⟩
  case round =>
    obtain ⟨k, hk, rfl, m, rfl⟩ := hrel
    by_cases hlt : k < n
    · have hb0 : (0 : Int) ≤ (k : Int) := by omega
      have hb2 : (k : Int) < (n : Int) := by omega
      obtain ⟨x, hx, _, hc1⟩ := HL.out.get hlt
      have hc2 := HL2.out.cell k x hx
      have hix := ix_u64 (c := c) HL.out.ad hlt
      have hix2 := ix_u64 (c := c2) HL2.out.ad hlt
      have hne : (x != x) = false := by simp
      clear hx
      go_wp2_with fail
      go_quiet (fail)
      go_wp2
      go_roundw
      case rel => exact ⟨k + 1, by omega, by go_num, _, rfl⟩
      case measure => simp [intOf]; omega
    · obtain rfl : k = n := by omega
      go_wp2
      go_ret
      exact ⟨rfl, (Frm.refl _ _).drewN _⟩
end Go.Proofs.Ytembnakhcggbpaa
