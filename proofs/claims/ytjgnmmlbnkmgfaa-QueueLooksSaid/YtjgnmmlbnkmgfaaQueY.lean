/- The reference of layer 3: Fair, Window, Counts; the walk of QueueLooks. -/
import Derived.Test.YtjgnmmlbnkmgfaaQueX
namespace Go.Proofs.Ytjgnmmlbnkmgfaa
open Go.ChangeShapes Go.WideShapes Go.ChangeAt Go.RowKit

theorem mem_win {l : List Int} {i S : Nat} {x : Int} : x ∈ (l.drop i).take S ↔ ∃ k, i ≤ k ∧ k < i + S ∧ l[k]? = some x := by
  rw [List.mem_iff_getElem?]
  constructor
  · rintro ⟨j, hj⟩
    rw [List.getElem?_take] at hj
    split at hj
    · rw [List.getElem?_drop] at hj; exact ⟨i + j, by omega, by omega, hj⟩
    · cases hj
  · rintro ⟨k, h1, h2, h3⟩
    refine ⟨k - i, ?_⟩
    rw [List.getElem?_take, if_pos (by omega), List.getElem?_drop, show i + (k - i) = k by omega]; exact h3
theorem allW_allB {l : List Int} {t S : Nat} : AllW l t S ↔ ∀ i, i + S ≤ l.length → allB ((l.drop i).take S) t = true := by
  constructor
  · intro h i hi; exact allB_iff.2 fun j hj => mem_win.2 (h i hi j hj)
  · intro h i hi j hj; exact mem_win.1 (allB_iff.1 (h i hi) j hj)
theorem Li.sub {w : World} {n c b o : Nat} {l : List Int} (h : Li .i64 w (some ⟨b, o, none⟩) n c b o l) {k S : Nat} (hk : k + S ≤ n) : Li .i64 w (some ⟨b, o + k, none⟩) S (c - k) b (o + k) ((l.drop k).take S) := by
  have hl := h.len
  have hc := h.cap
  refine ⟨by rw [List.length_take, List.length_drop]; omega, fun _ => rfl, fun i x hx => ?_, by omega⟩
  rw [List.getElem?_take] at hx
  split at hx
  · rw [List.getElem?_drop] at hx; rw [Nat.add_assoc]; exact h.cell _ _ hx
  · cases hx

set_option maxHeartbeats 1000000 in
theorem rfair_any {w : World} {a : Option Addr} {n c b o : Nat} {l : List Int} (hL : Li .i64 w a n c b o l) (hn : n ≤ 100000) (t : Nat) (h1 : 1 ≤ t) (ht : t ≤ 64) (hl : ∀ x ∈ l, 0 ≤ x ∧ x < (t : Int)) (s : Int) (hs : 1 ≤ s) :
    Calls Try.prog 22 #[.slice a n c, .int .i64 (t : Int), .int .i64 s] w (Ret (.bool (decide (win l t ≤ s))) (fun w' => w = w')) := by
  have hln := hL.len
  have hwb := (win_bd (l := l) (t := t) h1).2
  by_cases hbig : (n : Int) < s
  · have hr : decide (win l t ≤ s) = true := by simp; omega
    rw [hr]
    have d1 : decide (s ≤ (n : Int)) = false := by simp; omega
    clear hr hwb hL hl
    by_cases h0 : n = 0
    · subst h0
      go_enter Try.func22, Try.ntmps22
      go_wp2_with fail
      go_loop [7] (fun i => i = .int .i64 0) (fun _ => 0)
      case atStart => exact rfl
      case round =>
        subst hrel
        go_wp2
        go_ret
        exact ⟨rfl, rfl⟩
    · have hb0 : (0 : Int) < (n : Int) := by omega
      go_enter Try.func22, Try.ntmps22
      go_wp2_with fail
      go_loop [7] (fun i => i = .int .i64 0) (fun _ => 0)
      case atStart => exact rfl
      case round =>
        subst hrel
        go_wp2
        go_ret
        exact ⟨rfl, rfl⟩
  · obtain ⟨S, rfl⟩ := Int.eq_ofNat_of_zero_le (show 0 ≤ s by omega)
    have hS1 : 1 ≤ S := by omega
    have hSn : S ≤ n := by omega
    have hiff := allW_iff (s := S) h1 hl hS1
    rw [allW_allB] at hiff
    obtain rfl := hL.ad (by omega)
    have hyes : (∀ j, j + S ≤ n → allB ((l.drop j).take S) t = true) → decide (win l t ≤ (S : Int)) = true := fun h => by simpa using hiff.1 (fun i hi => h i (by omega))
    have hno : ∀ j, j + S ≤ n → allB ((l.drop j).take S) t = false → decide (win l t ≤ (S : Int)) = false := fun j hj hb => by
      simp only [decide_eq_false_iff_not]
      intro h
      have := hiff.2 h j (by omega)
      rw [this] at hb; cases hb
    generalize decide (win l t ≤ (S : Int)) = R at *
    have HY := Lib.hid hyes
    have HN := Lib.hid hno
    have HL := Lib.hid hL
    have hcn := hL.cap
    clear hyes hno hL hiff hl hwb hln
    go_enter Try.func22, Try.ntmps22
    go_wp2_with fail
    go_loop [7] (fun i => ∃ k : Nat, k ≤ n - S + 1 ∧ i = .int .i64 k ∧ Hid (∀ j, j < k → allB ((l.drop j).take S) t = true)) (fun i => n - (intOf i).toNat)
    case atStart => exact ⟨0, by omega, rfl, Lib.hid (fun j hj => by omega)⟩
    case round =>
      obtain ⟨k, hk, rfl, HI⟩ := hrel
      by_cases hlt : k + S ≤ n
      · have hb0 : (k : Int) < (n : Int) := by omega
        have hb1 : (S : Int) ≤ (n : Int) - (k : Int) := by omega
        have hb2 : (k : Int) + (S : Int) ≤ (c : Int) := by omega
        have hb3 : ¬ c = k := by omega
        have hb4 : (k : Int) ≤ (k : Int) + (S : Int) := by omega
        have hal := rall_any (HL.out.sub hlt) (by omega) t ht
        have hwp : IntKind.i64.wrap ((k : Int) + (S : Int)) = ((k + S : Nat) : Int) := by rw [IntKind.wrap_i64]; omega
        cases hab : allB ((l.drop k).take S) t with
        | true =>
          rw [hab] at hal
          have HA := Lib.hid hal
          have HAB := Lib.hid hab
          clear hal hab
          go_wp2_with (go_at_call 39; refine HA.out.mono ?_; rintro e w' ⟨rfl, rfl⟩)
          go_round
          case rel =>
            refine ⟨k + 1, by omega, by go_num, Lib.hid (fun j hj => ?_)⟩
            by_cases e : j = k
            · subst e; exact HAB.out
            · exact HI.out j (by omega)
          case measure => simp [intOf]; omega
        | false =>
          have hR := HN.out k hlt hab
          rw [hab] at hal
          have HA := Lib.hid hal
          have HR := Lib.hid hR
          clear hal hab hR
          go_wp2_with (go_at_call 39; refine HA.out.mono ?_; rintro e w' ⟨rfl, rfl⟩)
          go_ret
          exact ⟨by rw [HR.out]; rfl, rfl⟩
      · have hR := HY.out (fun j hj => HI.out j (by omega))
        have HR := Lib.hid hR
        clear hR
        by_cases hkn : k < n
        · have hb0 : (k : Int) < (n : Int) := by omega
          have d1 : decide ((S : Int) ≤ (n : Int) - (k : Int)) = false := by simp; omega
          go_wp2
          go_ret
          exact ⟨by rw [HR.out]; rfl, rfl⟩
        · have hb0 : ¬ (k : Int) < (n : Int) := by omega
          go_wp2
          go_ret
          exact ⟨by rw [HR.out]; rfl, rfl⟩

set_option maxHeartbeats 1000000 in
theorem rwindow_any {w : World} {a : Option Addr} {n c b o : Nat} {l : List Int} (hL : Li .i64 w a n c b o l) (hn : n ≤ 100000) (t : Nat) (h1 : 1 ≤ t) (ht : t ≤ 64) (hl : ∀ x ∈ l, 0 ≤ x ∧ x < (t : Int)) :
    Calls Try.prog 21 #[.slice a n c, .int .i64 (t : Int)] w (Ret (.int .i64 (win l t)) (fun w' => w = w')) := by
  have hf := fun (s : Int) hs => rfair_any hL hn t h1 ht hl s hs
  have hln := hL.len
  obtain ⟨hw1, hw2⟩ := win_bd (l := l) (t := t) h1
  generalize win l t = W at *
  have HF := Lib.hid hf
  clear hf hL hl
  go_enter Try.func21, Try.ntmps21
  go_wp2_with fail
  go_loop [5] (fun i => ∃ k : Nat, 1 ≤ k ∧ (k : Int) ≤ W ∧ i = .int .i64 k) (fun i => W.toNat - (intOf i).toNat)
  case atStart => exact ⟨1, by omega, by omega, rfl⟩
  case round =>
    obtain ⟨k, hk1, hk2, rfl⟩ := hrel
    have hc := HF.out (k : Int) (by omega)
    by_cases hlt : W ≤ (k : Int)
    · have e : decide (W ≤ (k : Int)) = true := by simpa using hlt
      rw [e] at hc
      have HC := Lib.hid hc
      have hW : W = (k : Int) := by omega
      have HWW := Lib.hid hW
      clear hc e hW
      go_wp2_with (go_at_call 22; refine HC.out.mono ?_; rintro e w' ⟨rfl, rfl⟩)
      go_ret
      exact ⟨by rw [HWW.out]; rfl, rfl⟩
    · have e : decide (W ≤ (k : Int)) = false := by simpa using hlt
      rw [e] at hc
      have HC := Lib.hid hc
      clear hc e
      go_wp2_with (go_at_call 22; refine HC.out.mono ?_; rintro e w' ⟨rfl, rfl⟩)
      go_round
      case rel => exact ⟨k + 1, by omega, by omega, by go_num⟩
      case measure => simp [intOf]; omega

theorem cnts_succ (l : List Int) (t : Nat) : cnts l (t + 1) = cnts l t ++ [cnt l (t : Int)] := by unfold cnts; rw [List.range_succ, List.map_append]; rfl
set_option maxHeartbeats 1000000 in
theorem rcounts_any {w : World} {a : Option Addr} {n c b o : Nat} {l : List Int} (hL : Li .i64 w a n c b o l) (hn : n ≤ 100000) (t : Nat) (ht : t ≤ 64) :
    Calls Try.prog 20 #[.slice a n c, .int .i64 (t : Int)] w (fun e w' => ∃ a' c', Ret (.slice a' t c') (fun w' => Frm [] w w' ∧ RowI w.heap.size w' a' t c' (cnts l t)) e w') := by
  have HL := Lib.hid hL
  clear hL
  go_enter Try.func20, Try.ntmps20
  go_wp2_with fail
  go_loopw [5, 6] (fun v i w' => ∃ (k : Nat) (a' : Option Addr) (c' : Nat), k ≤ t ∧ i = .int .i64 k ∧ v = .slice a' k c' ∧ Frm [] w w' ∧ Hid (RowI w.heap.size w' a' k c' (cnts l k))) (fun _ i _ => t - (intOf i).toNat)
  case atStart => exact ⟨0, none, 0, by omega, rfl, rfl, Frm.refl _ _, Lib.hid (RowI.nil _ _)⟩
  case round =>
    obtain ⟨k, a', c', hk, rfl, rfl, hF, HR⟩ := hrel
    by_cases hlt : k < t
    · have hb1 : (k : Int) < (t : Int) := by omega
      have hcn := rcount_any (HL.out.frm0 hF) hn (k : Int)
      have hs := cnts_succ l k
      have hA : (cnts l k).length ≤ 100000 := by rw [cnts_length]; omega
      generalize cnt l (k : Int) = z at *
      generalize cnts l k = A at *
      have HC := Lib.hid hcn
      have HS := Lib.hid hs
      clear hcn hs
      go_wp2_with fail
      refine HC.out.mono ?_
      rintro e w1 ⟨rfl, rfl⟩
      go_wp2_with (at_builtin; refine wpl_appI rfl (.tmp 12) (.tmp 16) rfl (B := w.heap.size) (a := a') (n := k) (c := c') (l := A) (by simp [Act.eval]) (by simp [Act.eval]) (HR.out.frm0 ((Frm.refl _ _).alloc _)) (heap_alloc_new _ _) hA (by have := hF.size; simp; omega) ?_; intro a2 c2 w2 hR2 hF2)
      have hF3 : Frm [] w w2 := (hF.alloc _).trans_new hF2 (fun y hy => .inr (HR.out.blk y hy).1)
      have HR2 := Lib.hid hR2
      clear hR2 hF2
      go_wp2
      go_roundw
      case rel => exact ⟨k + 1, a2, c2, by omega, by go_num, by rfl, hF3, by rw [HS.out]; exact HR2⟩
      case measure => simp [intOf]; omega
    · obtain rfl : k = t := by omega
      go_wp2
      go_ret
      exact ⟨a', c', rfl, hF, HR.out⟩

set_option maxRecDepth 100000 in
set_option maxHeartbeats 3200000 in
theorem walk_QueueLooks (a : Option Addr) (n c : Nat) (zs : List Int) (t : Int) (_wt : (Lit.int .i64 t).wf = true) (s : Int) (_ws : (Lit.int .i64 s).wf = true) (w : World) (hR : IsRow .i64 w a n c zs) :
    Calls Try.prog 4 #[.slice a n c, .int .i64 t, .int .i64 s] w (Ret (.bool true) (fun w' => Below w.heap.size w w')) := by
  obtain ⟨b, o, hL, -⟩ := li_of_row hR
  generalize zs.take n = l at hL
  clear hR
  by_cases hn : 50 < n
  · have d1 : decide ((50 : Int) < (n : Int)) = true := by simp; omega
    clear hL
    go_enter Try.func4, Try.ntmps4
    go_wp2_with (go_at_call 10; refine (known_true _).mono ?_; rintro e w1 ⟨rfl, hF⟩)
    go_ret
    exact ⟨rfl, hF.below (Nat.le_refl _) (by simp)⟩
  · have d1 : decide ((50 : Int) < (n : Int)) = false := by simp; omega
    have hln := hL.len
    have hv1 := valid_any hL t
    have hv2 := rvalid_any hL t
    have hwr := wrong_any hL t
    by_cases hz : ck l t = 0
    · obtain ⟨hm, _, hl⟩ := ck_zero hz
      obtain ⟨t0, t1⟩ := mb_iff.1 hm
      obtain ⟨k, rfl⟩ := Int.eq_ofNat_of_zero_le (show 0 ≤ t by omega)
      have hvt : vld l (k : Int) = true := by unfold vld; rw [hz]; rfl
      rw [hvt] at hv1 hv2
      rw [hz] at hwr
      have hk1 : 1 ≤ k := by omega
      have hk2 : k ≤ 64 := by omega
      have HV1 := Lib.hid hv1
      have HV2 := Lib.hid hv2
      have HWR := Lib.hid hwr
      have HL := Lib.hid hL
      have HZ := Lib.hid hz
      have HLL := Lib.hid hl
      have hn2 : n ≤ 100000 := by omega
      clear hv1 hv2 hwr hL hz hl hvt hm hln t0 t1
      have hcs : decide (s < 1) = true ∨ decide (s < 1) = false := by cases decide (s < 1) <;> simp
      rcases hcs with d2 | d2
      all_goals
        go_enter Try.func4, Try.ntmps4
        go_wp2_with fail
        refine HV1.out.mono ?_
        rintro e w1 ⟨rfl, rfl⟩
        go_wp2_with fail
        refine HV2.out.mono ?_
        rintro e w1 ⟨rfl, rfl⟩
        go_wp2_with fail
        refine HWR.out.mono ?_
        rintro e w1 ⟨rfl, rfl⟩
        go_wp2_with fail
        refine (rcounts_any HL.out hn2 k hk2).mono ?_
        rintro e w1 ⟨a1, c1, rfl, hF1, hR1⟩
        obtain ⟨b1, hL1⟩ := hR1.li
        have HL1 := Lib.hid hL1
        clear hR1 hL1
        go_wp2_with fail
        refine (qcounts_ok (HL.out.frm0 hF1) k HZ.out HL1.out).mono ?_
        rintro e w2 ⟨rfl, hF2⟩
        have hF2' := hF1.trans hF2
        clear hF1 hF2 HL1
        go_wp2_with fail
        refine (rwindow_any (HL.out.frm0 hF2') hn2 k hk1 hk2 HLL.out).mono ?_
        rintro e w3 ⟨rfl, hE⟩
        rw [hE] at hF2'
        clear hE
        go_wp2_with fail
        refine (qwindow_ok (HL.out.frm0 hF2') k HZ.out _ rfl).mono ?_
        rintro e w4 ⟨rfl, hF4⟩
        have hF4' := hF2'.trans hF4
        clear hF2' hF4
        go_wp2_with fail
        first
        | (have hs1 : s < 1 := by simpa using d2
           refine (qfair_arg _ _ (k : Int) s hs1).mono ?_
           rintro e w5 ⟨rfl, hF5⟩
           go_wp2_with (go_at_call 10; refine (known_true _).mono ?_; rintro e w8 ⟨rfl, hF8⟩)
           go_ret
           exact ⟨rfl, ((hF4'.trans hF5).trans hF8).below (Nat.le_refl _) (by simp)⟩)
        | (have hs1 : 1 ≤ s := by simp at d2; omega
           refine (rfair_any (HL.out.frm0 hF4') hn2 k hk1 hk2 HLL.out s hs1).mono ?_
           rintro e w5 ⟨rfl, hE⟩
           rw [hE] at hF4'
           clear hE
           go_wp2_with fail
           refine (qfair_ok (HL.out.frm0 hF4') k s hs1 HZ.out _ rfl).mono ?_
           rintro e w6 ⟨rfl, hF6⟩
           go_wp2_with (go_at_call 10; refine (known_true _).mono ?_; rintro e w8 ⟨rfl, hF8⟩)
           go_ret
           exact ⟨rfl, ((hF4'.trans hF6).trans hF8).below (Nat.le_refl _) (by simp)⟩)
    · have h2 : ck l t = 2 := by
        unfold ck at hz ⊢
        by_cases hm : mb t = false
        · rw [if_pos hm]
        · rw [if_neg hm, if_neg (by omega)] at hz ⊢
          split at hz
          · exact absurd rfl hz
          · rename_i h; rw [if_neg h]
      have hvt : vld l t = false := by unfold vld; rw [h2]; rfl
      rw [hvt] at hv1 hv2
      rw [h2] at hwr
      have HV1 := Lib.hid hv1
      have HV2 := Lib.hid hv2
      have HWR := Lib.hid hwr
      have HL := Lib.hid hL
      have H2 := Lib.hid h2
      have hfr : ∀ w', Frm [] w w' → Calls Try.prog 19 #[.slice a n c, .int .i64 t, .int .i64 s, .bool false, .int .i64 2] w' (Ret (.bool true) (fun w'' => Frm [] w' w'')) := fun w' hF => by
        by_cases hs : s < 1
        · exact qfair_arg w' _ t s hs
        · exact qfair_err (HL.out.frm0 hF) t s 2 (by omega) H2.out (by omega)
      have HFR := Lib.hid hfr
      clear hv1 hv2 hwr hL hz hvt hln h2 hfr
      go_enter Try.func4, Try.ntmps4
      go_wp2_with fail
      refine HV1.out.mono ?_
      rintro e w1 ⟨rfl, rfl⟩
      go_wp2_with fail
      refine HV2.out.mono ?_
      rintro e w1 ⟨rfl, rfl⟩
      go_wp2_with fail
      refine HWR.out.mono ?_
      rintro e w1 ⟨rfl, rfl⟩
      go_wp2_with fail
      refine (qcounts_err HL.out t 2 H2.out (by omega)).mono ?_
      rintro e w1 ⟨rfl, hF1⟩
      go_wp2_with fail
      refine (qwindow_err (HL.out.frm0 hF1) t 2 H2.out (by omega)).mono ?_
      rintro e w2 ⟨rfl, hF2⟩
      go_wp2_with fail
      refine (HFR.out _ (hF1.trans hF2)).mono ?_
      rintro e w3 ⟨rfl, hF3⟩
      go_wp2_with (go_at_call 10; refine (known_true _).mono ?_; rintro e w8 ⟨rfl, hF8⟩)
      go_ret
      exact ⟨rfl, (((hF1.trans hF2).trans hF3).trans hF8).below (Nat.le_refl _) (by simp)⟩
end Go.Proofs.Ytjgnmmlbnkmgfaa
