/- The reference of layer 3: schedules and windows. -/
import Derived.Test.YtjgnmmlbnkmgfaaQueV
namespace Go.Proofs.Ytjgnmmlbnkmgfaa
open Go.ChangeShapes Go.WideShapes Go.ChangeAt Go.RowKit

theorem vld_mb {l : List Int} {t : Int} (h : mb t = false) : vld l t = false := by unfold vld; rw [ck_mb h]; rfl
theorem vld_long {l : List Int} {t : Int} (h : mb t = true) (h1 : 100000 < l.length) : vld l t = false := by unfold vld; rw [ck_long h h1]; rfl
theorem vld_bad {l : List Int} {t : Int} (h : mb t = true) (h1 : ¬ 100000 < l.length) {x : Int} (hx : x ∈ l) (hb : inR t x = false) : vld l t = false := by unfold vld; rw [ck_bad h h1 hx hb]; rfl
theorem vld_good {l : List Int} {t : Int} (h : mb t = true) (h1 : ¬ 100000 < l.length) (hb : ∀ x ∈ l, inR t x = true) : vld l t = true := by unfold vld; rw [ck_good h h1 hb]; rfl

set_option maxHeartbeats 1000000 in
theorem rvalid_any {w : World} {a : Option Addr} {n c b o : Nat} {l : List Int} (hL : Li .i64 w a n c b o l) (t : Int) :
    Calls Try.prog 15 #[.slice a n c, .int .i64 t] w (Ret (.bool (vld l t)) (fun w' => w = w')) := by
  by_cases hm : mb t = true
  · by_cases hn : 100000 < n
    · have he := vld_long (l := l) hm (by have := hL.len; omega)
      have hb : decide ((100000 : Int) < (n : Int)) = true := by simp; omega
      rw [he]
      have HM := Lib.hid hm
      clear hm he
      go_enter Try.func15, Try.ntmps15
      go_wp2_with (go_at_call 11; refine (rthreads_any _ _).mono ?_; rintro e w' ⟨rfl, rfl⟩; rw [HM.out])
      go_ret
      exact ⟨rfl, rfl⟩
    · have hb : decide ((100000 : Int) < (n : Int)) = false := by simp; omega
      have hg := vld_good (l := l) hm (by have := hL.len; omega)
      have hbad := fun x hx hb => vld_bad (l := l) hm (by have := hL.len; omega) (x := x) hx hb
      generalize vld l t = R at hg hbad ⊢
      have HM := Lib.hid hm
      have HG := Lib.hid hg
      have HB := Lib.hid hbad
      have HL := Lib.hid hL
      clear hm hg hbad hL
      go_enter Try.func15, Try.ntmps15
      go_wp2_with (go_at_call 11; refine (rthreads_any _ _).mono ?_; rintro e w' ⟨rfl, rfl⟩; rw [HM.out])
      go_loop [5] (fun i => ∃ k : Nat, k ≤ n ∧ i = .int .i64 k ∧ Hid (∀ j, j < k → inR t (l.getD j 0) = true)) (fun i => n - (intOf i).toNat)
      case atStart => exact ⟨0, by omega, rfl, Lib.hid (fun j hj => by omega)⟩
      case round =>
        obtain ⟨k, hk, rfl, HI⟩ := hrel
        by_cases hlt : k < n
        · obtain ⟨x, hx, hg, hc⟩ := HL.out.get hlt
          have hix := ix_int (c := c) HL.out.ad hlt
          have HX := Lib.hid hx
          have HGD := Lib.hid hg
          clear hx hg
          have hb0 : (k : Int) < (n : Int) := by omega
          have hb00 : (0 : Int) ≤ (k : Int) := by omega
          by_cases hir : inR t x = true
          · obtain ⟨g0, g1⟩ := inR_iff.1 hir
            have d0 : decide (x < 0) = false := by simp; omega
            have d1 : decide (t ≤ x) = false := by simp; omega
            have HR := Lib.hid hir
            clear hir
            go_wp2
            go_round
            case rel =>
              refine ⟨k + 1, by omega, by go_num, Lib.hid (fun j hj => ?_)⟩
              by_cases e : j = k
              · subst e; rw [HGD.out]; exact HR.out
              · exact HI.out j (by omega)
            case measure => simp [intOf]; omega
          · have hir : inR t x = false := by simpa using hir
            have hR := HB.out x (List.mem_of_getElem? HX.out) hir
            have hor := inR_not.1 hir
            have HR := Lib.hid hR
            clear hR hir
            by_cases h0 : x < 0
            · have d0 : decide (x < 0) = true := by simpa using h0
              go_wp2
              go_ret
              exact ⟨by rw [HR.out]; rfl, rfl⟩
            · have d0 : decide (x < 0) = false := by simpa using h0
              have d1 : decide (t ≤ x) = true := by simp; omega
              go_wp2
              go_ret
              exact ⟨by rw [HR.out]; rfl, rfl⟩
        · have hR := HG.out (fun x hx => by
            obtain ⟨i, hi, rfl⟩ := List.getElem_of_mem hx
            have := HI.out i (by have := HL.out.len; omega)
            rwa [List.getD_eq_getElem?_getD, List.getElem?_eq_getElem hi] at this)
          have HR := Lib.hid hR
          clear hR
          go_wp2
          go_ret
          exact ⟨by rw [HR.out]; rfl, rfl⟩
  · have hm : mb t = false := by simpa using hm
    rw [vld_mb hm]
    have HM := Lib.hid hm
    clear hm
    go_enter Try.func15, Try.ntmps15
    go_wp2_with (go_at_call 11; refine (rthreads_any _ _).mono ?_; rintro e w' ⟨rfl, rfl⟩; rw [HM.out])
    go_ret
    exact ⟨rfl, rfl⟩

theorem wrong_any {w : World} {a : Option Addr} {n c b o : Nat} {l : List Int} (hL : Li .i64 w a n c b o l) (t : Int) :
    Calls Try.prog 16 #[.slice a n c, .int .i64 t] w (Ret (.int .i64 (ck l t)) (fun w' => w = w')) := by
  have hv := rvalid_any hL t
  have hln := hL.len
  by_cases hm : mb t = true
  · have HM := Lib.hid hm
    by_cases hn : 100000 < n
    · have he := ck_long (l := l) hm (by omega)
      have hb : decide ((100000 : Int) < (n : Int)) = true := by simp; omega
      rw [he]
      clear hm he hv hL hln
      go_enter Try.func16, Try.ntmps16
      go_wp2_with (go_at_call 11; refine (rthreads_any _ _).mono ?_; rintro e w' ⟨rfl, rfl⟩; rw [HM.out])
      go_ret
      exact ⟨rfl, rfl⟩
    · have hb : decide ((100000 : Int) < (n : Int)) = false := by simp; omega
      by_cases hz : ck l t = 0
      · have hvt : vld l t = true := by unfold vld; rw [hz]; rfl
        rw [hvt] at hv
        rw [hz]
        have HV := Lib.hid hv
        clear hm hv hL hln hz hvt
        go_enter Try.func16, Try.ntmps16
        go_wp2_with (first | (go_at_call 11; refine (rthreads_any _ _).mono ?_; rintro e w' ⟨rfl, rfl⟩; rw [HM.out]) | (go_at_call 15; refine HV.out.mono ?_; rintro e w' ⟨rfl, rfl⟩))
        go_ret
        exact ⟨rfl, rfl⟩
      · have hvt : vld l t = false := by unfold vld; simpa using hz
        have h2 : ck l t = 2 := by
          unfold ck at hz ⊢
          rw [if_neg (by simp [hm]), if_neg (by omega)] at hz ⊢
          split at hz
          · exact absurd rfl hz
          · rename_i h; rw [if_neg h]
        rw [hvt] at hv
        rw [h2]
        have HV := Lib.hid hv
        clear hm hv hL hln hz hvt h2
        go_enter Try.func16, Try.ntmps16
        go_wp2_with (first | (go_at_call 11; refine (rthreads_any _ _).mono ?_; rintro e w' ⟨rfl, rfl⟩; rw [HM.out]) | (go_at_call 15; refine HV.out.mono ?_; rintro e w' ⟨rfl, rfl⟩))
        go_ret
        exact ⟨rfl, rfl⟩
  · have hm : mb t = false := by simpa using hm
    have HM := Lib.hid hm
    have hvt := vld_mb (l := l) hm
    rw [hvt] at hv
    rw [ck_mb hm]
    have HV := Lib.hid hv
    clear hm hv hL hln hvt
    go_enter Try.func16, Try.ntmps16
    go_wp2_with (first | (go_at_call 11; refine (rthreads_any _ _).mono ?_; rintro e w' ⟨rfl, rfl⟩; rw [HM.out]) | (go_at_call 15; refine HV.out.mono ?_; rintro e w' ⟨rfl, rfl⟩))
    go_ret
    exact ⟨rfl, rfl⟩

theorem cnt_take {l : List Int} {k : Nat} {x y : Int} (h : l[k]? = some y) : cnt (l.take (k + 1)) x = cnt (l.take k) x + if y = x then 1 else 0 := by
  obtain ⟨hk, rfl⟩ := List.getElem?_eq_some_iff.1 h
  unfold cnt
  rw [List.take_succ_eq_append_getElem hk, List.count_append]
  by_cases e : l[k] = x <;> simp [e]

set_option maxHeartbeats 1000000 in
theorem rcount_any {w : World} {a : Option Addr} {n c b o : Nat} {l : List Int} (hL : Li .i64 w a n c b o l) (hn : n ≤ 100000) (t : Int) :
    Calls Try.prog 38 #[.slice a n c, .int .i64 t] w (Ret (.int .i64 (cnt l t)) (fun w' => w = w')) := by
  have hfin : cnt (l.take n) t = cnt l t := by rw [List.take_of_length_le (by have := hL.len; omega)]
  rw [← hfin]
  have HL := Lib.hid hL
  clear hL hfin
  go_enter Try.func38, Try.ntmps38
  go_wp2_with fail
  go_loop [5, 6] (fun m i => ∃ k : Nat, k ≤ n ∧ i = .int .i64 k ∧ m = .int .i64 (cnt (l.take k) t)) (fun _ i => n - (intOf i).toNat)
  case atStart => exact ⟨0, by omega, rfl, by simp [cnt]⟩
  case round =>
    obtain ⟨k, hk, rfl, rfl⟩ := hrel
    by_cases hlt : k < n
    · obtain ⟨x, hx, hg, hc⟩ := HL.out.get hlt
      have hix := ix_int (c := c) HL.out.ad hlt
      have hs := cnt_take (x := t) hx
      have hbd := cnt_bd (l.take k) t
      rw [List.length_take] at hbd
      have hb0 : (k : Int) < (n : Int) := by omega
      have hb00 : (0 : Int) ≤ (k : Int) := by omega
      generalize cnt (l.take k) t = z at *
      have hz0 := hbd.1
      have hz1 : z ≤ 100000 := by omega
      clear hx hg hbd
      by_cases hxt : x = t
      · rw [if_pos hxt] at hs
        subst hxt
        have HS := Lib.hid hs
        clear hs
        have e : (x == x) = true := by simp
        go_wp2
        go_round
        case rel => exact ⟨k + 1, by omega, by go_num, by rw [HS.out]⟩
        case measure => simp [intOf]; omega
      · rw [if_neg hxt] at hs
        have HS := Lib.hid hs
        have e : (x == t) = false := by simpa using hxt
        clear hs hxt
        go_wp2
        go_round
        case rel => exact ⟨k + 1, by omega, by go_num, by rw [HS.out, Int.add_zero]⟩
        case measure => simp [intOf]; omega
    · obtain rfl : k = n := by omega
      go_wp2
      go_ret
      exact ⟨rfl, rfl⟩

/-- Whether all threads are picked in a list. -/
def allB (l : List Int) (t : Nat) : Bool := (List.range t).all (fun j : Nat => cnt l (j : Int) != 0)
theorem allB_iff {l : List Int} {t : Nat} : allB l t = true ↔ ∀ j, j < t → (j : Int) ∈ l := by
  unfold allB
  rw [List.all_eq_true]
  constructor
  · intro h j hj
    have := h j (List.mem_range.2 hj)
    have h0 : ¬ cnt l (j : Int) = 0 := by simpa using this
    rw [cnt_pos] at h0
    exact Classical.not_not.1 h0
  · intro h j hj
    have := h j (List.mem_range.1 hj)
    have h0 : ¬ cnt l (j : Int) = 0 := by rw [cnt_pos]; exact fun hh => hh this
    simpa using h0

set_option maxHeartbeats 1000000 in
theorem rall_any {w : World} {a : Option Addr} {n c b o : Nat} {l : List Int} (hL : Li .i64 w a n c b o l) (hn : n ≤ 100000) (t : Nat) (ht : t ≤ 64) :
    Calls Try.prog 39 #[.slice a n c, .int .i64 (t : Int)] w (Ret (.bool (allB l t)) (fun w' => w = w')) := by
  have hy : (∀ j, j < t → ¬ cnt l (j : Int) = 0) → allB l t = true := fun h => allB_iff.2 fun j hj => Classical.not_not.1 (mt cnt_pos.2 (h j hj))
  have hno : ∀ j, j < t → cnt l (j : Int) = 0 → allB l t = false := fun j hj h0 => by
    cases hh : allB l t
    · rfl
    · exact absurd (allB_iff.1 hh j hj) (cnt_pos.1 h0)
  generalize allB l t = R at *
  have HY := Lib.hid hy
  have HN := Lib.hid hno
  have HL := Lib.hid hL
  clear hy hno hL
  go_enter Try.func39, Try.ntmps39
  go_wp2_with fail
  go_loop [5] (fun i => ∃ k : Nat, k ≤ t ∧ i = .int .i64 k ∧ Hid (∀ j, j < k → ¬ cnt l (j : Int) = 0)) (fun i => t - (intOf i).toNat)
  case atStart => exact ⟨0, by omega, rfl, Lib.hid (fun j hj => by omega)⟩
  case round =>
    obtain ⟨k, hk, rfl, HI⟩ := hrel
    by_cases hlt : k < t
    · have hb0 : (k : Int) < (t : Int) := by omega
      have hcn := rcount_any HL.out hn (k : Int)
      by_cases h0 : cnt l (k : Int) = 0
      · have hR := HN.out k hlt h0
        rw [h0] at hcn
        have HC := Lib.hid hcn
        have HR := Lib.hid hR
        clear hcn hR h0
        go_wp2_with (go_at_call 38; refine HC.out.mono ?_; rintro e w' ⟨rfl, rfl⟩)
        go_ret
        exact ⟨by rw [HR.out]; rfl, rfl⟩
      · have HC := Lib.hid hcn
        have HZ := Lib.hid h0
        have e : (cnt l (k : Int) == 0) = false := by simpa using h0
        clear hcn h0
        generalize hz : cnt l (k : Int) = z at *
        have HZZ := Lib.hid hz
        clear hz
        go_wp2_with (go_at_call 38; refine HC.out.mono ?_; rintro e w' ⟨rfl, rfl⟩)
        go_round
        case rel =>
          refine ⟨k + 1, by omega, by go_num, Lib.hid (fun j hj => ?_)⟩
          by_cases e : j = k
          · subst e; rw [HZZ.out]; exact HZ.out
          · exact HI.out j (by omega)
        case measure => simp [intOf]; omega
    · have hR := HY.out (fun j hj => HI.out j (by omega))
      have HR := Lib.hid hR
      clear hR
      go_wp2
      go_ret
      exact ⟨by rw [HR.out]; rfl, rfl⟩
end Go.Proofs.Ytjgnmmlbnkmgfaa
