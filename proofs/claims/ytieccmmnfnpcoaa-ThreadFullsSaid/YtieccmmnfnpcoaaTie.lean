/- Stage 12: ContainsFunc over picks; Stuck; the private step. -/
import Derived.Test.YtieccmmnfnpcoaaTid
namespace Go.Proofs.Ytieccmmnfnpcoaa
open Go.ChangeShapes Go.WideShapes Go.ChangeAt Go.RowKit
set_option linter.unusedVariables false
theorem ix_pick {a : Option Addr} {n c b o k : Nat} (ha : 0 < n → a = some ⟨b, o, none⟩) (hk : k < n) (w : World) : (Instr.indexAt 82 (.slice a n c) (.int .i64 (k : Int))).run Try.prog w = .ok (.pointer (some ⟨b, o + k, none⟩)) w := by
  obtain rfl := ha (by omega)
  have h1 : (k : Int) < (n : Int) := by omega
  simp [go_sem, h1]
section
variable {w : World} {F : List Nat} {q : Nat} {M : Md} {a : Option Addr} {n c b o : Nat} {l : List Int}
theorem mat_no (h : MAt w F q M) (i : Int) : Calls Try.prog 59 #[.pointer (some ⟨q, 0, none⟩), .int .i64 i] w (Ret (.bool (noTh M.ts.length i)) (fun w' => w = w')) := by
  obtain ⟨X, ts, rfl, h2, h3⟩ := h
  rw [← MAt.len h2 h3]; exact mno_at h2.b i
theorem mat_none (h : MAt w F q M) : Calls Try.prog 58 #[.pointer (some ⟨q, 0, none⟩)] w (Ret (.bool false) (fun w' => w = w')) := by
  obtain ⟨X, ts, rfl, h2, h3⟩ := h
  exact mnone_at h2.b
theorem mat_step (h : MAt w F q M) {i : Nat} {t : Td} (ht : M.ts[i]? = some t) (hen : t.P.en = false) (hst : t.st < 1000000000) (hlk : t.lk < 1000000000) :
    Calls Try.prog 60 #[.pointer (some ⟨q, 0, none⟩), .int .i64 (i : Int)] w (Ret (.tuple #[(M.go i t).2.1.val, .int .i64 (M.go i t).2.2]) (Now w F q (M.go i t).1)) := by
  obtain ⟨X, ts, x, rfl, h2, h3, hx, rfl⟩ := h.ti ht
  rw [← h3]; exact mach_step h2 hx hen hst hlk
/-- Which one is wrong. -/
def IdxQ (l : List Int) (m : Nat) (w : World) (e : Ending) (w' : World) : Prop := ∃ v : Int, Ret (.int .i64 v) (fun w' => w = w') e w' ∧ decide (0 ≤ v) = l.any (noTh m)
set_option maxHeartbeats 1000000 in
theorem idx_any (h : MAt w F q M) (hL : Li .i64 w a n c b o l) (hn : n ≤ 2147483647) : Calls Try.prog 84 #[.slice a n c, .func (Fn.func 59) #[.pointer (some ⟨q, 0, none⟩)] #[]] w (IdxQ l M.ts.length w) := by
  have H := Lib.hid fun i => mat_no h i
  have HL := Lib.hid hL
  clear h hL
  go_enter Try.func84, Try.ntmps84
  go_wp2_with fail
  go_loop [8] (fun i => ∃ k : Nat, k ≤ n ∧ i = .int .i64 k ∧ ∀ j x, j < k → l[j]? = some x → noTh M.ts.length x = false) (fun i => n - (intOf i).toNat)
  case atStart => exact ⟨0, Nat.zero_le _, rfl, fun j x hj => by omega⟩
  case round =>
    obtain ⟨k, hk, rfl, hpre⟩ := hrel
    by_cases hlt : k < n
    · obtain ⟨x, hx, _, hcx⟩ := HL.out.get hlt
      have hix := ix_pick (c := c) HL.out.ad hlt
      have HP := Lib.hid hpre
      have HX := Lib.hid hx
      have HN := H.out x
      have HNX := Lib.hid HN
      clear hpre hx HN
      cases hb : noTh M.ts.length x with
      | true =>
        rw [hb] at HNX
        have HB := Lib.hid hb
        clear hb
        go_wp2_with fail
        refine HNX.out.mono ?_
        rintro e w' ⟨rfl, rfl⟩
        go_wp2
        go_ret
        refine ⟨k, ⟨rfl, rfl⟩, ?_⟩
        have : l.any (noTh M.ts.length) = true := List.any_eq_true.2 ⟨x, List.mem_of_getElem? HX.out, HB.out⟩
        rw [this]; simp
      | false =>
        rw [hb] at HNX
        have HB := Lib.hid hb
        clear hb
        go_wp2_with fail
        refine HNX.out.mono ?_
        rintro e w' ⟨rfl, rfl⟩
        go_wp2
        go_round
        case rel => exact ⟨k + 1, by omega, by go_num, fun j y hj hy => by
          by_cases e : j = k
          · subst e; have := HX.out.symm.trans hy; cases this; exact HB.out
          · exact HP.out j y (by omega) hy⟩
        case measure => simp [intOf]; omega
    · have hkn : k = n := by omega
      have HP := Lib.hid hpre
      have HK := Lib.hid hkn
      clear hpre hkn
      go_wp2
      go_ret
      refine ⟨-1, ⟨rfl, rfl⟩, ?_⟩
      have : l.any (noTh M.ts.length) = false := by
        rw [Bool.eq_false_iff]; intro ha
        obtain ⟨x, hx, hx2⟩ := List.any_eq_true.1 ha
        obtain ⟨j, hj⟩ := List.getElem?_of_mem hx
        have hjl := (List.getElem?_eq_some_iff.1 hj).1
        rw [HP.out j x (by rw [HK.out, ← HL.out.len]; exact hjl) hj] at hx2; cases hx2
      rw [this]; rfl
theorem contains_any (h : MAt w F q M) (hL : Li .i64 w a n c b o l) (hn : n ≤ 2147483647) : Calls Try.prog 65 #[.slice a n c, .func (Fn.func 59) #[.pointer (some ⟨q, 0, none⟩)] #[]] w (Ret (.bool (l.any (noTh M.ts.length))) (fun w' => w = w')) := by
  have H := Lib.hid (idx_any h hL hn)
  clear h hL
  go_enter Try.func65, Try.ntmps65
  go_wp2_with fail
  refine H.out.mono ?_
  rintro e w' ⟨v, ⟨rfl, rfl⟩, hv⟩
  have HV := Lib.hid hv
  clear hv
  go_wp2
  go_ret
  exact ⟨by rw [← HV.out]; rfl, rfl⟩
/-! Stuck. -/
def stF (ws : List Int) (ts : List Td) : Bool := ts.any (fun t => !t.P.en)
def waF (ws : List Int) (ts : List Td) : Bool := ts.all (fun t => t.P.en || t.waits ws)
def Md.stuck (M : Md) : Bool := stF M.ws M.ts && waF M.ws M.ts
set_option maxHeartbeats 1000000 in
theorem mat_Stuck (h : MAt w F q M) : Calls Try.prog 37 #[.pointer (some ⟨q, 0, none⟩)] w (Ret (.bool M.stuck) (Now w F q M)) := by
  have H0 := Lib.hid (mat_Threads h)
  have HH := Lib.hid h
  obtain ⟨n, hn⟩ : ∃ n, M.ts.length = n := ⟨_, rfl⟩
  have hle : n ≤ 64 := by obtain ⟨X, ts, _, h2, h3⟩ := h; rw [← hn, ← MAt.len h2 h3]; exact h2.b.le
  rw [hn] at H0
  have HN := Lib.hid hn
  clear h hn
  go_enter Try.func37, Try.ntmps37
  go_wp2_with fail
  refine H0.out.mono ?_
  rintro e w' ⟨rfl, rfl⟩
  go_wp2_with fail
  go_loopw [3, 7] (fun s i wr => ∃ k : Nat, k ≤ n ∧ i = .int .i64 k ∧ s = .bool (stF M.ws (M.ts.take k)) ∧ waF M.ws (M.ts.take k) = true ∧ Now w F q M wr) (fun _ i _ => n - (intOf i).toNat)
  case atStart => exact ⟨0, Nat.zero_le _, rfl, by simp [stF], by simp [waF], Go.of (Frm.refl _ _), HH.out⟩
  case round =>
    obtain ⟨k, hk, rfl, rfl, hwa, hnow⟩ := hrel
    by_cases hlt : k < n
    · obtain ⟨t, ht⟩ : ∃ t, M.ts[k]? = some t := ⟨_, List.getElem?_eq_getElem (by have := HN.out; omega)⟩
      have hth : M.th k = some t := by unfold Md.th; rw [if_neg (by omega), Int.toNat_natCast]; exact ht
      have htk : M.ts.take (k + 1) = M.ts.take k ++ [t] := by rw [List.take_add_one, ht]; rfl
      have hD := mat_Done hnow.2 k
      have hd : M.done k = t.P.en := by unfold Md.done; rw [hth]
      rw [hd] at hD
      have HD := Lib.hid hD
      have HNOW := Lib.hid hnow
      have HTK := Lib.hid htk
      have HWA := Lib.hid hwa
      have HTH := Lib.hid hth
      have HT := Lib.hid ht
      clear hD hd hnow htk hwa hth ht
      obtain ⟨sb, hsb⟩ : ∃ sb, stF M.ws (M.ts.take k) = sb := ⟨_, rfl⟩
      rw [hsb]
      have HSB := Lib.hid hsb
      clear hsb
      cases hen : t.P.en with
      | true =>
        rw [hen] at HD
        have HEN := Lib.hid hen
        clear hen
        go_wp2_with fail
        refine HD.out.mono ?_
        rintro e w1 ⟨rfl, hF⟩
        have HF := Lib.hid hF
        clear hF
        go_wp2
        go_roundw
        case rel => exact ⟨k + 1, by omega, by go_num, by rw [HTK.out, stF, List.any_append]; simp [HEN.out]; rw [← HSB.out]; rfl, by rw [HTK.out, waF, List.all_append]; simp [HEN.out]; have := HWA.out; unfold waF at this; simpa using this, HNOW.out.1.trans (Go.of HF.out), HNOW.out.2.quiet HF.out⟩
        case measure => simp [intOf]; omega
      | false =>
        rw [hen] at HD
        have HEN := Lib.hid hen
        clear hen
        go_wp2_with fail
        refine HD.out.mono ?_
        rintro e w1 ⟨rfl, hF⟩
        have hW := mat_Waits (HNOW.out.2.quiet hF) k
        have hw : M.waits k = t.waits M.ws := by unfold Md.waits; rw [HTH.out]
        rw [hw] at hW
        have HW := Lib.hid hW
        have HF := Lib.hid (HNOW.out.1.trans (Go.of hF))
        clear hF hW hw
        cases hwt : t.waits M.ws with
        | true =>
          rw [hwt] at HW
          have HWT := Lib.hid hwt
          clear hwt
          go_wp2_with fail
          refine HW.out.mono ?_
          rintro e w2 ⟨rfl, hg, hm⟩
          have HG := Lib.hid (HF.out.trans hg)
          have HM := Lib.hid hm
          clear hg hm
          go_wp2
          go_roundw
          case rel => exact ⟨k + 1, by omega, by go_num, by rw [HTK.out, stF, List.any_append]; simp [HEN.out], by rw [HTK.out, waF, List.all_append]; simp [HWT.out]; have := HWA.out; unfold waF at this; simpa using this, HG.out, HM.out⟩
          case measure => simp [intOf]; omega
        | false =>
          rw [hwt] at HW
          have HWT := Lib.hid hwt
          clear hwt
          go_wp2_with fail
          refine HW.out.mono ?_
          rintro e w2 ⟨rfl, hg, hm⟩
          have HG := Lib.hid (HF.out.trans hg)
          have HM := Lib.hid hm
          clear hg hm
          go_wp2
          go_ret
          have hst : M.stuck = false := by
            unfold Md.stuck waF
            have : M.ts.all (fun t => t.P.en || t.waits M.ws) = false := by
              rw [Bool.eq_false_iff]; intro ha
              have := List.all_eq_true.1 ha t (List.mem_of_getElem? HT.out)
              rw [HEN.out, HWT.out] at this; cases this
            rw [this, Bool.and_false]
          rw [hst]
          exact ⟨rfl, HG.out, HM.out⟩
    · have hkn : k = n := by omega
      have hst : M.stuck = stF M.ws (M.ts.take k) := by
        have e : M.ts.take k = M.ts := by rw [hkn, ← HN.out, List.take_length]
        rw [e] at hwa ⊢
        unfold Md.stuck; rw [hwa, Bool.and_true]
      have HST := Lib.hid hst
      have HNOW := Lib.hid hnow
      clear hkn hst hwa hnow
      go_wp2
      go_ret
      rw [HST.out]
      exact ⟨rfl, HNOW.out⟩
end
end Go.Proofs.Ytieccmmnfnpcoaa
