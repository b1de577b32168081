/- Unpack's errors; the reference's Unpack. -/
import Derived.Test.YtembnakhcggbpaaKeyU
namespace Go.Proofs.Ytembnakhcggbpaa
open Go.ChangeShapes Go.WideShapes Go.ChangeAt Go.RowKit

theorem unpack_neg (w : World) (v : Value) (n : Int) (h : n < 0) :
    Calls Try.prog 34 #[v, .int .i64 n] w (Ret (.tuple #[.string noB, .int .i64 2]) (fun w' => Frm [] w w')) := by
  have d1 : decide (n < 0) = true := by simpa using h
  go_enter Try.func34, Try.ntmps34
  go_wp2_with fail
  go_ret2
  exact ⟨rfl, Frm.refl _ _⟩
theorem unpack_long (w : World) (v : Value) (n : Int) (h : 40 < n) :
    Calls Try.prog 34 #[v, .int .i64 n] w (Ret (.tuple #[.string noB, .int .i64 5]) (fun w' => Frm [] w w')) := by
  have d1 : decide (n < 0) = false := by simp; omega
  have d2 : decide (40 < n) = true := by simpa using h
  go_enter Try.func34, Try.ntmps34
  go_wp2_with fail
  go_ret2
  exact ⟨rfl, Frm.refl _ _⟩
theorem unpack_many (w : World) (a : Option Addr) (m c : Nat) (n : Nat) (h : n ≤ 40) (hm : m ≠ wdsN n) :
    Calls Try.prog 34 #[.slice a m c, .int .i64 n] w (Ret (.tuple #[.string noB, .int .i64 12]) (fun w' => Frm [] w w')) := by
  have d1 : decide ((n : Int) < 0) = false := by simp
  have d2 : decide (40 < (n : Int)) = false := by simp; omega
  have hwd := fun W => words_walk (n : Int) (by simp [Lit.wf, IntKind.min, IntKind.max, IntKind.signed, IntKind.bits]; omega) W
  rw [wds_nat] at hwd
  have d3 : ((m : Int) != (wdsN n : Int)) = true := by simpa using by omega
  generalize wdsN n = q at *
  have HWD := Lib.hid hwd
  clear hwd hm
  go_enter Try.func34, Try.ntmps34
  go_wp2_with fail
  refine (HWD.out _).mono ?_
  rintro e w' ⟨rfl, rfl⟩
  go_wp2
  go_ret2
  exact ⟨rfl, Frm.refl _ _⟩

theorem runpack_neg (w : World) (v : Value) (n : Int) (h : n < 0) :
    Calls Try.prog 22 #[v, .int .i64 n] w (Ret (.tuple #[.string noB, .int .i64 2]) (fun w' => Frm [] w w')) := by
  have d1 : decide (n < 0) = true := by simpa using h
  go_enter Try.func22, Try.ntmps22
  go_wp2_with fail
  go_ret2
  exact ⟨rfl, Frm.refl _ _⟩
theorem runpack_long (w : World) (v : Value) (n : Int) (h : 40 < n) :
    Calls Try.prog 22 #[v, .int .i64 n] w (Ret (.tuple #[.string noB, .int .i64 5]) (fun w' => Frm [] w w')) := by
  have d1 : decide (n < 0) = false := by simp; omega
  have d2 : decide (40 < n) = true := by simpa using h
  go_enter Try.func22, Try.ntmps22
  go_wp2_with fail
  go_ret2
  exact ⟨rfl, Frm.refl _ _⟩
theorem runpack_many (w : World) (a : Option Addr) (m c : Nat) (n : Nat) (h : n ≤ 40) (hm : m ≠ wdsN n) :
    Calls Try.prog 22 #[.slice a m c, .int .i64 n] w (Ret (.tuple #[.string noB, .int .i64 12]) (fun w' => Frm [] w w')) := by
  have d1 : decide ((n : Int) < 0) = false := by simp
  have d2 : decide (40 < (n : Int)) = false := by simp; omega
  have hwd := fun W => rwords_walk (n : Int) (by simp [Lit.wf, IntKind.min, IntKind.max, IntKind.signed, IntKind.bits]; omega) W
  rw [wds_nat] at hwd
  have d3 : ((m : Int) != (wdsN n : Int)) = true := by simpa using by omega
  generalize wdsN n = q at *
  have HWD := Lib.hid hwd
  clear hwd hm
  go_enter Try.func22, Try.ntmps22
  go_wp2_with fail
  refine (HWD.out _).mono ?_
  rintro e w' ⟨rfl, rfl⟩
  go_wp2
  go_ret2
  exact ⟨rfl, Frm.refl _ _⟩

theorem div_pow {W : Int} {r t : Nat} (h1 : r ≤ t) : W / 256 ^ (t + 1 - r) = W / 256 ^ (t - r) / 256 := by
  rw [show t + 1 - r = (t - r) + 1 by omega, Int.pow_succ, Int.ediv_ediv_of_nonneg (by exact Int.pow_nonneg (by omega))]

set_option maxRecDepth 100000 in
set_option maxHeartbeats 4000000 in
theorem runpack_main {w : World} {a : Option Addr} {m c b o : Nat} {l : List Int} (hL : Li .u64 w a m c b o l) (hWf : Wf l) (n : Nat) (hn : n ≤ 40) (hm : m = wdsN n) :
    Calls Try.prog 22 #[.slice a m c, .int .i64 n] w (UP l n w) := by
  have hwd := fun W => rwords_walk (n : Int) (by simp [Lit.wf, IntKind.min, IntKind.max, IntKind.signed, IntKind.bits]; omega) W
  rw [wds_nat, ← hm] at hwd
  have hm5 : m ≤ 5 := by rw [hm]; unfold wdsN; omega
  have hlen := hL.len
  have d1 : decide ((n : Int) < 0) = false := by simp
  have d2 : decide ((40 : Int) < (n : Int)) = false := by simp; omega
  have d3 : ((m : Int) != (m : Int)) = false := by simp
  have hm8 : ∀ k, k < n → k / 8 < m := fun k hk => by rw [hm]; unfold wdsN; omega
  have hpu := pk_ubs l n (by rw [hlen]; exact hm.symm)
  have htz := tz_iff hWf n
  rw [← hpu] at htz
  have hpl : (pk (strOfNums (ubs l n))).length = m := by rw [pk_length, strOfNums_size, ubs_length]; exact hm.symm
  have hss : (strOfNums (ubs l n)).size = n := by rw [strOfNums_size, ubs_length]
  have HWD := Lib.hid hwd
  have HL := Lib.hid hL
  have HLEN := Lib.hid hlen
  have HM8 := Lib.hid hm8
  have HTZ := Lib.hid htz
  have HPL := Lib.hid hpl
  have HSS := Lib.hid hss
  have HMW := Lib.hid hm
  have HWF := Lib.hid hWf
  clear hwd hL hlen hm8 hpu htz hpl hss hm hWf
  go_enter Try.func22, Try.ntmps22
  go_wp2_with fail
  refine (HWD.out _).mono ?_
  rintro e w' ⟨rfl, rfl⟩
  go_wp2_with fail
  go_loopw [6, 7] (fun v i w' => ∃ (k : Nat) (a' : Option Addr) (c' : Nat), k ≤ n ∧ i = .int .i64 k ∧ v = .slice a' k c' ∧ Frm [] w w' ∧ Hid (Row .u8 5 w.heap.size w' a' k c' (ubs l k))) (fun _ i _ => n - (intOf i).toNat)
  case atStart => exact ⟨0, none, 0, by omega, rfl, rfl, Frm.refl _ _, Lib.hid (Row.nil _ _ _ _)⟩
  case round =>
    obtain ⟨k, a', c', hk, rfl, rfl, hF, HR⟩ := hrel
    by_cases hlt : k < n
    · have hb0 : (0 : Int) ≤ (k : Int) := by omega
      have hb1 : (k : Int) < (n : Int) := by omega
      have hq := HM8.out k hlt
      obtain ⟨W, hW, hWD, hcell⟩ := (HL.out.frm0 hF).get hq
      have hwb := HWF.out W (List.mem_of_getElem? hW)
      have hr8 : k % 8 < 8 := by omega
      have hub : W / 256 ^ (7 - k % 8) % 256 = ub l k := by unfold ub sh; rw [hWD]
      have hix := fun W => ix_u64 (a := a) (c := c) HL.out.ad hq W
      have hqe : (k : Int) / 8 = ((k / 8 : Nat) : Int) := by omega
      have hix2 := hix
      rw [← hqe] at hix2
      have hre : (k : Int) % 8 = ((k % 8 : Nat) : Int) := by omega
      have hsucc := ubs_succ l k
      have hbb := ub_bf l k
      have HUB := Lib.hid hub
      have HRE := Lib.hid hre
      have HSU := Lib.hid hsucc
      have HWB := Lib.hid hwb
      have HBB := Lib.hid hbb
      clear hub hre hsucc hqe hwb hW hWD hbb
      generalize k / 8 = q at *
      generalize k % 8 = r at *
      go_wp2_with fail
      rw [HRE.out]
      clear hix hix2 hcell
      go_loop [8, 9] (fun v j => ∃ (t : Nat) (x : Int), r ≤ t ∧ t ≤ 7 ∧ j = .int .i64 t ∧ v = .int .u64 x ∧ Hid (x = W / 256 ^ (t - r))) (fun _ j => 7 - (intOf j).toNat)
      case atStart => exact ⟨r, _, by omega, by omega, rfl, rfl, Lib.hid (by simp)⟩
      case round =>
        obtain ⟨t, x, ht0, ht1, rfl, rfl, HX⟩ := hrel
        have hx0 : 0 ≤ x := by rw [HX.out]; exact Int.ediv_nonneg HWB.out.1 (Int.pow_nonneg (by omega))
        have hx1 : x ≤ 18446744073709551615 := by
          rw [HX.out]
          exact Int.le_trans (Int.ediv_le_self _ HWB.out.1) HWB.out.2
        by_cases h7 : t < 7
        · have hx2 : x / 256 = W / 256 ^ (t + 1 - r) := by rw [div_pow ht0, HX.out]
          have HX2 := Lib.hid hx2
          clear hx2
          go_wp2
          go_round
          case rel => exact ⟨t + 1, x / 256, by omega, by omega, by go_num, rfl, HX2⟩
          case measure => simp [intOf]; omega
        · obtain rfl : t = 7 := by omega
          have hv : x % 256 = ub l k := by rw [HX.out]; exact HUB.out
          have hvw : IntKind.u8.wrap (x % 256) = ub l k := by rw [hv, IntKind.wrap_u8']; have := HBB.out; omega
          have hvw2 : IntKind.u8.wrap x = ub l k := by rw [IntKind.wrap_u8']; exact hv
          have hSU := HSU.out
          generalize ub l k = V at *
          have HSU2 := Lib.hid hSU
          clear hv hSU
          go_wp2_with (at_builtin; refine wpl_app Try.underlying50 info_u8 (by decide) (by decide) rfl (.tmp 39) (.tmp 43) rfl (B := w.heap.size) (a := a') (n := k) (c := c') (m := 1) (l := ubs l k) (l2 := [V]) (by simp [Act.eval]) (by simp [Act.eval]) (HR.out.frm0 ((Frm.refl _ _).alloc _)) (li_new rfl (heap_alloc_new _ _)) (by rw [ubs_length]; omega) (by have := hF.size; simp; omega) ?_; intro a3 c3 w3 hR3 hF3)
          rw [← HSU2.out] at hR3
          have HR3 := Lib.hid hR3
          have hFF : Frm [] w w3 := (hF.alloc _).trans_new hF3 (fun x hx => .inr (HR.out.blk x hx).1)
          clear hR3 hF3 hvw hvw2
          go_wp2
          go_roundw
          case rel => exact ⟨k + 1, a3, c3, by omega, by go_num, rfl, hFF, HR3⟩
          case measure => simp [intOf]; omega
    · obtain rfl : k = n := by omega
      obtain ⟨b', hL'⟩ := HR.out.li
      have hcv := fun (W : World) (hW : Frm [] wr W) => conv_li (hL'.frm0 hW)
      have hcv0 := hcv wr (Frm.refl _ _)
      have hcall := rpack_any (strOfNums (ubs l k)) wr (by rw [HSS.out]; omega)
      rw [HSS.out, ← HMW.out] at hcall
      have hPL := HPL.out
      have hTZ := HTZ.out
      generalize hS : strOfNums (ubs l k) = S at *
      generalize pk S = P at *
      have HC := Lib.hid hcall
      have HP2 := Lib.hid hPL
      have HT2 := Lib.hid hTZ
      have HCV := Lib.hid hcv
      have HSS2 := Lib.hid hS
      clear hcall hPL hTZ hcv hL' HPL HTZ hS
      go_wp2_with fail
      refine HC.out.mono ?_
      rintro e w2 ⟨a2, c2, rfl, hF2, hR2⟩
      obtain ⟨b2, hL2⟩ := hR2.li
      have HL2 := Lib.hid hL2
      clear hR2 hL2 hcv0
      go_wp2_with fail
      go_loopw [11] (fun i w' => ∃ j : Nat, j ≤ m ∧ i = .int .i64 j ∧ Frm [] w2 w' ∧ Hid (∀ i, i < j → P.getD i 0 = l.getD i 0)) (fun i _ => m - (intOf i).toNat)
      case atStart => exact ⟨0, by omega, rfl, Frm.refl _ _, Lib.hid (fun i hi => by omega)⟩
      case round =>
        obtain ⟨j, hj, rfl, hF3, HZ⟩ := hrel
        by_cases hj2 : j < m
        · have hb0 : (0 : Int) ≤ (j : Int) := by omega
          have hb1 : (j : Int) < (m : Int) := by omega
          obtain ⟨x, hx, hxd, hc1⟩ := (HL2.out.frm0 hF3).get hj2
          obtain ⟨y, hy, hyd, hc2⟩ := (HL.out.frm0 ((hF.trans hF2).trans hF3)).get hj2
          have hix1 := ix_u64 (c := c2) HL2.out.ad hj2
          have hix2 := ix_u64 (c := c) HL.out.ad hj2
          simp only [Nat.zero_add] at hc1 hix1
          have hnz : x ≠ y → ¬ Tz l k := fun h1 h2 => by
            have := HT2.out.2 h2
            rw [this, hyd] at hxd
            exact h1 hxd.symm
          have hzz : x = y → ∀ i, i < j + 1 → P.getD i 0 = l.getD i 0 := fun h1 i hi => by
            by_cases e : i = j
            · subst e; rw [hxd, hyd, h1]
            · exact HZ.out i (by omega)
          have HNZ := Lib.hid hnz
          have HZZ := Lib.hid hzz
          clear hx hy hxd hyd hnz hzz
          by_cases hv : x = y
          · have hz2 := HZZ.out hv
            have HZ2 := Lib.hid hz2
            have dv : (x != y) = false := by simpa using hv
            clear hz2 hv
            go_wp2_with fail
            go_quiet (fail)
            go_wp2
            go_roundw
            case rel => exact ⟨j + 1, by omega, by go_num, hF3.drewN _, HZ2⟩
            case measure => simp [intOf]; omega
          · have hz2 := HNZ.out hv
            have HZ2 := Lib.hid hz2
            have dv : (x != y) = true := by simpa using hv
            clear hz2 hv
            go_wp2_with fail
            go_quiet (fail)
            go_wp2
            go_ret2
            exact ⟨((hF.trans hF2).trans hF3).drewN _, .inr ⟨HZ2.out, rfl⟩⟩
        · obtain rfl : j = m := by omega
          have htz : Tz l k := by
            refine HT2.out.1 (List.ext_getElem (by rw [HP2.out, HLEN.out]) fun i h1 h2 => ?_)
            have := HZ.out i (by have := HP2.out; omega)
            rw [List.getD_eq_getElem?_getD, List.getD_eq_getElem?_getD, List.getElem?_eq_getElem h1, List.getElem?_eq_getElem h2] at this
            exact this
          have hcv := HCV.out _ (hF2.trans hF3)
          have HTZ := Lib.hid htz
          clear htz
          go_wp2_with fail
          go_ret2
          exact ⟨(hF.trans hF2).trans hF3, .inl ⟨HTZ.out, by rw [HSS2.out]; rfl⟩⟩
end Go.Proofs.Ytembnakhcggbpaa
