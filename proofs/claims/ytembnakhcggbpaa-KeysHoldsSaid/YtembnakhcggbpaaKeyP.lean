/- Pack. -/
import Derived.Test.YtembnakhcggbpaaKeyG
import Derived.Test.YtembnakhcggbpaaRw
namespace Go.Proofs.Ytembnakhcggbpaa
open Go.ChangeShapes Go.WideShapes Go.ChangeAt Go.RowKit

theorem info_u8 : (Try.prog.info? 5).map (fun i => (i.zero, i.size, i.bytes)) = some (some (.int .u8 0), 1, 1) := by kernel_rfl
theorem info_u64 : (Try.prog.info? 43).map (fun i => (i.zero, i.size, i.bytes)) = some (some (.int .u64 0), 1, 8) := by kernel_rfl
theorem ix_u64 {a : Option Addr} {n c b o k : Nat} (ha : 0 < n → a = some ⟨b, o, none⟩) (hk : k < n) (w : World) : (Instr.indexAt 29 (.slice a n c) (.int .i64 (k : Int))).run Try.prog w = .ok (.pointer (some ⟨b, o + k, none⟩)) w := by
  obtain rfl := ha (by omega)
  have h1 : (k : Int) < (n : Int) := by omega
  simp [go_sem, h1]
theorem size_lit {s : ByteArray} (h : s.size ≤ 2147483647) : (Lit.int .i64 (s.size : Int)).wf = true := by
  simp [Lit.wf, IntKind.min, IntKind.max, IntKind.signed, IntKind.bits]; omega

set_option maxRecDepth 100000 in
set_option maxHeartbeats 4000000 in
theorem pack_ok (s : ByteArray) (w : World) (hs : s.size ≤ 40) :
    Calls Try.prog 28 #[.string s] w (fun e w' => ∃ g, Ret (.tuple #[.slice (some ⟨g, 0, none⟩) (wdsN s.size) (wdsN s.size), .int .i64 0]) (fun w' => Frm [] w w' ∧ Row .u64 43 w.heap.size w' (some ⟨g, 0, none⟩) (wdsN s.size) (wdsN s.size) (pk s)) e w') := by
  have d1 : decide ((40 : Int) < (s.size : Int)) = false := by simp; omega
  have hwd := fun W => words_walk (s.size : Int) (size_lit (by omega)) W
  rw [wds_nat] at hwd
  have hpk : pk s = pks (cut (sb s) s.size) (wdsN s.size) := by rw [sb_cut]; rfl
  have hm : ∀ k, k < s.size → k / 8 < wdsN s.size := fun k hk => by unfold wdsN; omega
  have hm7 : wdsN s.size ≤ 10 := by unfold wdsN; omega
  generalize wdsN s.size = m at *
  have hmk := fun W => run_mk Try.underlying29 info_u64 (by decide) m (by omega) W
  obtain ⟨X, hX⟩ : ∃ X, X = w.alloc (.cells (ns .u64 (List.replicate m 0)).toArray 43) := ⟨_, rfl⟩
  have hg : X.heap[w.heap.size]? = some (.cells (ns .u64 (List.replicate m 0)).toArray 43 (0, 0)) := by rw [hX]; exact heap_alloc_new _ _
  have hFX : Frm [] w X := by rw [hX]; exact (Frm.refl _ _).alloc _
  have hmk1 := hmk w
  rw [← hX] at hmk1
  have HWD := Lib.hid hwd
  have HPK := Lib.hid hpk
  have HM := Lib.hid hm
  have HG := Lib.hid hg
  have HFX := Lib.hid hFX
  clear hwd hpk hm hmk hg hFX hX
  obtain ⟨g, hgg⟩ : ∃ g, w.heap.size = g := ⟨_, rfl⟩
  have HGG := Lib.hid hgg
  rw [hgg] at hmk1 HG
  clear hgg
  go_enter Try.func28, Try.ntmps28
  go_wp2_with fail
  refine (HWD.out _).mono ?_
  rintro e w' ⟨rfl, rfl⟩
  go_wp2_with fail
  clear hmk1
  go_loopw [15] (fun i w' => ∃ k : Nat, k ≤ s.size ∧ i = .int .i64 k ∧ Frm [] w w' ∧ Hid (w'.heap[g]? = some (.cells (ns .u64 (pks (cut (sb s) k) m)).toArray 43 (0, 0)))) (fun i _ => s.size - (intOf i).toNat)
  case atStart => exact ⟨0, by omega, rfl, HFX.out, Lib.hid (by rw [pks_zero]; exact HG.out)⟩
  case round =>
    obtain ⟨k, hk, rfl, hF, HB⟩ := hrel
    by_cases hlt : k < s.size
    · have hb0 : (0 : Int) ≤ (k : Int) := by omega
      have hb1 : (k : Int) < (s.size : Int) := by omega
      have hq := HM.out k hlt
      have hsh := fun W => shift_walk k (by omega) W
      have hor := or_step (sb_bf s) k
      have hset := heap_setCell_at (i := k / 8) (.int .u64 (wd (cut (sb s) (k + 1)) (k / 8))) HB.out
      rw [set_ns, pks_set] at hset
      have hcell : wr.cell? ⟨g, k / 8, none⟩ = some (.int .u64 (wd (cut (sb s) k) (k / 8))) := by
        rw [cell_of_heap HB.out, List.getElem?_toArray]
        unfold ns
        rw [List.getElem?_map, pks_get hq]; rfl
      have hfz : wr.frozen? ⟨g, k / 8, none⟩ = false := frozen_of_heap HB.out
      have hY : (8 * (7 - (k : Int) % 8)).toNat = 8 * (7 - k % 8) := by omega
      have hY0 : 0 ≤ 8 * (7 - (k : Int) % 8) := by omega
      have hY1 : 8 * (7 - (k : Int) % 8) ≤ 64 := by omega
      have hsh2 : IntKind.u64.wrap ((s[k].toNat : Int) * 2 ^ (8 * (7 - (k : Int) % 8)).toNat) = sb s k * sh k := by
        rw [hY, ← sh_pow, ← sb_get hlt, IntKind.wrap_u64]
        have h1 := sb_bf s k
        have h2 := sh_pos k
        have h3 : 0 ≤ sb s k * sh k := Int.mul_nonneg h1.1 (by omega)
        have h4 : sb s k * sh k ≤ 255 * sh k := Int.mul_le_mul_of_nonneg_right h1.2 (by omega)
        omega
      clear hY
      have hqt : (k : Int).tdiv 8 = ((k / 8 : Nat) : Int) := by rw [Int.tdiv_eq_ediv_of_nonneg hb0]; omega
      have hqw : IntKind.i64.wrap ((k / 8 : Nat) : Int) = ((k / 8 : Nat) : Int) := IntWalk.i64_in _ (by omega)
      have hix := fun W => ix_u64 (a := some ⟨g, 0, none⟩) (c := m) (fun _ => rfl) hq W
      rw [Nat.zero_add] at hix
      have hFs := hF.setCell ⟨g, k / 8, none⟩ (.int .u64 (wd (cut (sb s) (k + 1)) (k / 8))) (.inr (by have := HGG.out; show w.heap.size ≤ g; omega))
      generalize wd (cut (sb s) (k + 1)) (k / 8) = v2 at *
      generalize wd (cut (sb s) k) (k / 8) = v1 at *
      generalize sb s k * sh k = z at *
      generalize 8 * (7 - (k : Int) % 8) = y at *
      generalize k / 8 = q at *
      have hsw : IntKind.u64.wrap (s[k].toNat : Int) = (s[k].toNat : Int) := by
        have := s[k].toNat_lt
        rw [IntKind.wrap_u64]; omega
      have HSET := Lib.hid hset
      have HFS := Lib.hid hFs
      have HSH := Lib.hid hsh
      clear hset hFs hsh
      go_wp2_with fail
      go_region_with (go_at_call 35; refine (HSH.out _).mono ?_; rintro e w1 ⟨rfl, rfl⟩)
      all_goals
        go_wp2
        go_roundw
        case rel => exact ⟨k + 1, by omega, by go_num, HFS.out.drew, HSET⟩
        case measure => simp [intOf]; omega
    · obtain rfl : k = s.size := by omega
      have hrow := row_new (B := w.heap.size) (pks_length _ _) HB.out (by have := HGG.out; omega) (by unfold maxLen; omega)
      rw [← HPK.out] at hrow
      have HR := Lib.hid hrow
      clear hrow
      go_wp2
      go_ret2
      exact ⟨g, rfl, hF, HR.out⟩
end Go.Proofs.Ytembnakhcggbpaa
