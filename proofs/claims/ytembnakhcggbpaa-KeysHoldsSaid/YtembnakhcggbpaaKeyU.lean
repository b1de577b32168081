/- Unpack. -/
import Derived.Test.YtembnakhcggbpaaKeyQ
namespace Go.Proofs.Ytembnakhcggbpaa
open Go.ChangeShapes Go.WideShapes Go.ChangeAt Go.RowKit

/-- What is behind the first k of some bytes; the first k. -/
theorem cut_from {w : World} {a : Option Addr} {n c b o : Nat} {l : List Int} (hL : Li .u8 w a n c b o l) (k : Nat) (hk : k ≤ n) :
    ∃ a', (∀ W : World, (Instr.sliceAt 50 (.slice a n c) (some (.int .i64 (k : Int))) none none).run Try.prog W = .ok (.slice a' (n - k) (c - k)) W) ∧ Li .u8 w a' (n - k) (c - k) b (o + k) (l.drop k) := by
  have hc := hL.cap
  refine ⟨if c = k then a else a.map (·.add k), fun W => ?_, ?_⟩
  · have h1 : (k : Int) ≤ (n : Int) := by omega
    simp [go_sem, h1]
  · have hD := hL.drop hk
    refine ⟨hD.len, fun hp => ?_, hD.cell, hD.cap⟩
    rw [if_neg (by omega)]; exact hD.ad hp
theorem cut_to_u8 {a : Option Addr} {n c k : Nat} (hk : k ≤ c) (W : World) : (Instr.sliceAt 50 (.slice a n c) none (some (.int .i64 (k : Int))) none).run Try.prog W = .ok (.slice a k c) W := by
  have h1 : (k : Int) ≤ (c : Int) := by omega
  cases a <;> simp [go_sem, h1, Addr.add]
theorem Li.take {k : IntKind} {w : World} {a : Option Addr} {n c b o : Nat} {l : List Int} (h : Li k w a n c b o l) {i : Nat} (hi : i ≤ n) : Li k w a i c b o (l.take i) := by
  have hc := h.cap
  refine ⟨by rw [List.length_take, h.len]; omega, fun hp => h.ad (by omega), fun j x hx => ?_, by omega⟩
  rw [List.getElem?_take] at hx
  split at hx
  · exact h.cell _ _ hx
  · cases hx
theorem conv_li {w : World} {a : Option Addr} {n c b o : Nat} {l : List Int} (hL : Li .u8 w a n c b o l) : (convert 50 9 (.slice a n c)).run Try.prog w = .ok (.string (strOfNums l)) w := by
  by_cases hn : 0 < n
  · obtain rfl := hL.ad hn
    exact run_convert_bytes_arg w 50 5 Try.underlying50 Try.underlying5 b o n c l hL.len (fun i hi => by
      obtain ⟨x, _, h2, h3⟩ := hL.get hi
      rw [h2]; exact h3) 9 Try.underlying9
  · obtain rfl : n = 0 := by omega
    obtain rfl : l = [] := List.eq_nil_of_length_eq_zero hL.len
    cases a with
    | none => exact run_convert_bytes_nil w 50 5 Try.underlying50 Try.underlying5 0 c 9 Try.underlying9
    | some a =>
      rw [run_convert_bytes_string w 50 9 5 (some a) 0 c Try.underlying50 Try.underlying5 Try.underlying9]
      rw [run_bytesToString w a 0 c [] (by simp [loadCells, loadCellsFrom])]
      rfl
theorem fill_ub {l : List Int} {k m : Nat} (hk : k < m) : (ubs l k ++ List.replicate (m - k) 0).set k (ub l k) = ubs l (k + 1) ++ List.replicate (m - (k + 1)) 0 := by
  have e : List.replicate (m - k) (0 : Int) = 0 :: List.replicate (m - (k + 1)) 0 := by rw [show m - k = (m - (k + 1)) + 1 by omega]; rfl
  rw [e, List.set_append_right _ _ (by rw [ubs_length]; exact Nat.le_refl _), ubs_length, ubs_succ]
  simp
theorem ubs_get {l : List Int} {m i : Nat} (h : i < m) : (ubs l m)[i]? = some (ub l i) := by simp [ubs, h]
theorem ubs_take {l : List Int} {m n : Nat} (h : n ≤ m) : (ubs l m).take n = ubs l n := by
  unfold ubs
  rw [← List.map_take, List.take_range, Nat.min_eq_left h]

/-- What Unpack returns. -/
def UP (l : List Int) (n : Nat) (w : World) (e : Ending) (w' : World) : Prop :=
  Frm [] w w' ∧ ((Tz l n ∧ e = .returned (.tuple #[.string (strOfNums (ubs l n)), .int .i64 0])) ∨ (¬ Tz l n ∧ e = .returned (.tuple #[.string noB, .int .i64 12])))

set_option maxRecDepth 100000 in
set_option maxHeartbeats 4000000 in
theorem unpack_main {w : World} {a : Option Addr} {m c b o : Nat} {l : List Int} (hL : Li .u64 w a m c b o l) (n : Nat) (hn : n ≤ 40) (hm : m = wdsN n) :
    Calls Try.prog 34 #[.slice a m c, .int .i64 n] w (UP l n w) := by
  have hwd := fun W => words_walk (n : Int) (by simp [Lit.wf, IntKind.min, IntKind.max, IntKind.signed, IntKind.bits]; omega) W
  rw [wds_nat, ← hm] at hwd
  have hm8 : n ≤ 8 * m := by rw [hm]; unfold wdsN; omega
  have hm5 : m ≤ 5 := by rw [hm]; unfold wdsN; omega
  have hlen := hL.len
  have d1 : decide ((n : Int) < 0) = false := by simp
  have d2 : decide ((40 : Int) < (n : Int)) = false := by simp; omega
  have d3 : ((m : Int) != (m : Int)) = false := by simp
  have hmk := run_mk Try.underlying50 info_u8 (by decide) (8 * m) (by omega) w
  obtain ⟨X, hX⟩ : ∃ X, X = w.alloc (.cells (ns .u8 (List.replicate (8 * m) 0)).toArray 5) := ⟨_, rfl⟩
  have hg : X.heap[w.heap.size]? = some (.cells (ns .u8 (List.replicate (8 * m) 0)).toArray 5 (0, 0)) := by rw [hX]; exact heap_alloc_new _ _
  have hFX : Frm [] w X := by rw [hX]; exact (Frm.refl _ _).alloc _
  rw [← hX, show ((8 * m : Nat) : Int) = (m : Int) * 8 by omega] at hmk
  have hm8i : (m : Int) * 8 = ((8 * m : Nat) : Int) := by omega
  obtain ⟨M, hM⟩ : ∃ M, 8 * m = M := ⟨_, rfl⟩
  rw [hM] at hmk hg hm8 hm8i
  have HWD := Lib.hid hwd
  have HG := Lib.hid hg
  have HFX := Lib.hid hFX
  have HL := Lib.hid hL
  have HMW := Lib.hid hm
  have HM8 := Lib.hid hm8i
  have HMM := Lib.hid hM
  have HLEN := Lib.hid hlen
  clear hwd hg hFX hX hL hm hm8i hM hlen
  obtain ⟨g, hgg⟩ : ∃ g, w.heap.size = g := ⟨_, rfl⟩
  have HGG := Lib.hid hgg
  rw [hgg] at hmk HG
  clear hgg
  go_enter Try.func34, Try.ntmps34
  go_wp2_with fail
  refine (HWD.out _).mono ?_
  rintro e w' ⟨rfl, rfl⟩
  go_wp2_with fail
  clear hmk
  go_loopw [28] (fun i w' => ∃ k : Nat, k ≤ M ∧ i = .int .i64 k ∧ Frm [] w w' ∧ Hid (w'.heap[g]? = some (.cells (ns .u8 (ubs l k ++ List.replicate (M - k) 0)).toArray 5 (0, 0)))) (fun i _ => M - (intOf i).toNat)
  case atStart => exact ⟨0, by omega, rfl, HFX.out, Lib.hid (by simpa [ubs] using HG.out)⟩
  case round =>
    obtain ⟨k, hk, rfl, hF, HB⟩ := hrel
    by_cases hlt : k < M
    · have hb0 : (0 : Int) ≤ (k : Int) := by omega
      have hb1 : (k : Int) < (M : Int) := by omega
      have hM40 : M ≤ 40 := by have := HMM.out; omega
      have hq : k / 8 < m := by have := HMM.out; omega
      obtain ⟨W, hW, hWD, hcell⟩ := (HL.out.frm0 hF).get hq
      have hsh := fun W => shift_walk k (by omega) W
      have hset := heap_setCell_at (i := k) (.int .u8 (ub l k)) HB.out
      rw [set_ns, fill_ub hlt] at hset
      have hfz : wr.frozen? ⟨g, k, none⟩ = false := frozen_of_heap HB.out
      have hcell2 : wr.cell? ⟨g, k, none⟩ = some (.int .u8 0) := by
        rw [cell_of_heap HB.out, List.getElem?_toArray]
        unfold ns
        rw [List.getElem?_map, List.getElem?_append_right (by rw [ubs_length]; exact Nat.le_refl _), ubs_length, Nat.sub_self, List.getElem?_replicate, if_pos (by omega)]
        rfl
      have hY : (8 * (7 - (k : Int) % 8)).toNat = 8 * (7 - k % 8) := by omega
      have hY0 : 0 ≤ 8 * (7 - (k : Int) % 8) := by omega
      have hY1 : 8 * (7 - (k : Int) % 8) ≤ 64 := by omega
      have hsh2 : IntKind.u8.wrap (W / 2 ^ (8 * (7 - (k : Int) % 8)).toNat) = ub l k := by
        rw [hY, ← sh_pow, IntKind.wrap_u8']
        unfold ub
        rw [hWD]
      clear hY
      have hqt : (k : Int).tdiv 8 = ((k / 8 : Nat) : Int) := by rw [Int.tdiv_eq_ediv_of_nonneg hb0]; omega
      have hqw : IntKind.i64.wrap ((k / 8 : Nat) : Int) = ((k / 8 : Nat) : Int) := IntWalk.i64_in _ (by omega)
      have hix := fun W => ix_u64 (a := a) (c := c) HL.out.ad hq W
      have hix2 := fun W => ix_u8 (a := some ⟨g, 0, none⟩) (c := M) (fun _ => rfl) hlt W
      rw [Nat.zero_add] at hix2
      have hFs := hF.setCell ⟨g, k, none⟩ (.int .u8 (ub l k)) (.inr (by have := HGG.out; show w.heap.size ≤ g; omega))
      generalize ub l k = v2 at *
      generalize 8 * (7 - (k : Int) % 8) = y at *
      generalize k / 8 = q at *
      have HSET := Lib.hid hset
      have HFS := Lib.hid hFs
      have HSH := Lib.hid hsh
      clear hset hFs hsh hW hWD
      go_wp2_with fail
      go_region_with (go_at_call 35; refine (HSH.out _).mono ?_; rintro e w1 ⟨rfl, rfl⟩)
      all_goals
        go_wp2
        go_roundw
        case rel => exact ⟨k + 1, by omega, by go_num, HFS.out.drew, HSET⟩
        case measure => simp [intOf]; omega
    · obtain rfl : k = M := by omega
      have hblk := HB.out
      rw [Nat.sub_self] at hblk
      simp only [List.replicate_zero, List.append_nil] at hblk
      have hli := li_new (n := k) (ubs_length l k) hblk
      obtain ⟨a2, hcut, hL2⟩ := cut_from hli n hm8
      have hix := fun (j : Nat) (hj : j < k - n) (W : World) => ix_u8 (c := k - n) hL2.ad hj W
      have HIX := Lib.hid hix
      have HLI := Lib.hid hli
      have HL2 := Lib.hid hL2
      clear hblk hli hL2 hix
      go_wp2_with fail
      clear hcut
      go_loopw [48] (fun i w' => ∃ j : Nat, j ≤ k - n ∧ i = .int .i64 j ∧ Frm [] wr w' ∧ Hid (∀ i, i < j → ub l (n + i) = 0)) (fun i _ => k - n - (intOf i).toNat)
      case atStart => exact ⟨0, by omega, rfl, Frm.refl _ _, Lib.hid (fun i hi => by omega)⟩
      case round =>
        obtain ⟨j, hj, rfl, hF2, HZ⟩ := hrel
        by_cases hj2 : j < k - n
        · have hb0 : (0 : Int) ≤ (j : Int) := by omega
          have hb1 : (j : Int) < ((k - n : Nat) : Int) := by omega
          have hj40 : (j : Int) ≤ 40 := by have := HMM.out; omega
          have hub : ((ubs l k).drop n)[j]? = some (ub l (n + j)) := by rw [List.getElem?_drop]; exact ubs_get (by omega)
          have hcell := (HL2.out.frm0 hF2).cell j _ hub
          have hix := HIX.out j hj2
          simp only [Nat.zero_add] at hcell hix
          have hnz : ub l (n + j) ≠ 0 → ¬ Tz l n := fun h1 h2 => h1 (h2 (n + j) (by omega) (by have := HLEN.out; have := HMM.out; omega))
          have hzz : ub l (n + j) = 0 → ∀ i, i < j + 1 → ub l (n + i) = 0 := fun h1 i hi => by
            by_cases e : i = j
            · subst e; exact h1
            · exact HZ.out i (by omega)
          have HNZ := Lib.hid hnz
          have HZZ := Lib.hid hzz
          clear hub hnz hzz
          generalize ub l (n + j) = v at *
          by_cases hv : v = 0
          · have hz2 := HZZ.out hv
            have HZ2 := Lib.hid hz2
            have dv : (v != 0) = false := by simpa using hv
            clear hz2 hv
            go_wp2_with fail
            go_roundw
            case rel => exact ⟨j + 1, by omega, by go_num, hF2, HZ2⟩
            case measure => simp [intOf]; omega
          · have hz2 := HNZ.out hv
            have HZ2 := Lib.hid hz2
            have dv : (v != 0) = true := by simpa using hv
            clear hz2 hv
            go_wp2_with fail
            go_ret2
            exact ⟨hF.trans hF2, .inr ⟨HZ2.out, rfl⟩⟩
        · obtain rfl : j = k - n := by omega
          have htz : Tz l n := fun i h1 h2 => by
            have h3 := HZ.out (i - n) (by have := HLEN.out; have := HMM.out; omega)
            rw [show n + (i - n) = i by omega] at h3
            exact h3
          have hct := fun W => cut_to_u8 (a := some ⟨g, 0, none⟩) (n := k) (c := k) hm8 W
          have hcv := conv_li ((HLI.out.frm0 hF2).take hm8)
          rw [ubs_take hm8] at hcv
          have HTZ := Lib.hid htz
          clear htz
          go_wp2_with fail
          go_ret2
          exact ⟨hF.trans hF2, .inl ⟨HTZ.out, rfl⟩⟩
end Go.Proofs.Ytembnakhcggbpaa
