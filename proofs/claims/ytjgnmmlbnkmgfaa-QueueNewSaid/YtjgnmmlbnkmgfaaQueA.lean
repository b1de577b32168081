/- Package queue: lists of picks as they are read; what is a schedule. -/
import Derived.Test.YtjgnmmlbnkmgfaaQueM
import Derived.Test.YtjgnmmlbnkmgfaaArgs
import Derived.Test.YtjgnmmlbnkmgfaaClkL
import Derived.Deep.RegionHeld3
namespace Go.Proofs.Ytjgnmmlbnkmgfaa
open Go.ChangeShapes Go.WideShapes Go.ChangeAt Go.RowKit

/-- A slice of integers that is read alone. -/
structure Li (k : IntKind) (w : World) (a : Option Addr) (n c b o : Nat) (l : List Int) : Prop where
  len : l.length = n
  ad : 0 < n → a = some ⟨b, o, none⟩
  cell : ∀ i x, l[i]? = some x → w.cell? ⟨b, o + i, none⟩ = some (.int k x)
  cap : n ≤ c

namespace Li
variable {k : IntKind} {w w' : World} {a : Option Addr} {n c b o : Nat} {l : List Int}
theorem lt (h : Li k w a n c b o l) (hn : 0 < n) : b < w.heap.size := by
  have hl := h.len
  have := h.cell 0 (l[0]'(by omega)) (List.getElem?_eq_getElem _)
  exact World.block_lt_of_cell? w _ this
theorem frm {D : List Nat} (h : Li k w a n c b o l) (hf : Frm D w w') (hd : 0 < n → b ∉ D) : Li k w' a n c b o l := by
  refine ⟨h.len, h.ad, fun i x hx => ?_, h.cap⟩
  have hn : 0 < n := by have := (List.getElem?_eq_some_iff.1 hx).1; have := h.len; omega
  rw [hf.cell (h.lt hn) (hd hn)]; exact h.cell i x hx
theorem frm0 (h : Li k w a n c b o l) (hf : Frm [] w w') : Li k w' a n c b o l := h.frm hf (by simp)
theorem nil (w : World) (b o : Nat) : Li k w none 0 0 b o [] := ⟨rfl, fun h => by omega, fun i x hx => by simp at hx, by omega⟩
theorem get (h : Li k w a n c b o l) {i : Nat} (hi : i < n) : ∃ x, l[i]? = some x ∧ l.getD i 0 = x ∧ w.cell? ⟨b, o + i, none⟩ = some (.int k x) := by
  have hl := h.len
  have e : l[i]? = some (l[i]'(by omega)) := List.getElem?_eq_getElem _
  exact ⟨_, e, by rw [List.getD_eq_getElem?_getD, e]; rfl, h.cell _ _ e⟩
end Li

theorem ix_int {a : Option Addr} {n c b o k : Nat} (ha : 0 < n → a = some ⟨b, o, none⟩) (hk : k < n) (w : World) : (Instr.indexAt 28 (.slice a n c) (.int .i64 (k : Int))).run Try.prog w = .ok (.pointer (some ⟨b, o + k, none⟩)) w := by
  obtain rfl := ha (by omega)
  have h1 : (k : Int) < (n : Int) := by omega
  simp [go_sem, h1]
theorem ix_u8 {a : Option Addr} {n c b o k : Nat} (ha : 0 < n → a = some ⟨b, o, none⟩) (hk : k < n) (w : World) : (Instr.indexAt 22 (.slice a n c) (.int .i64 (k : Int))).run Try.prog w = .ok (.pointer (some ⟨b, o + k, none⟩)) w := by
  obtain rfl := ha (by omega)
  have h1 : (k : Int) < (n : Int) := by omega
  simp [go_sem, h1]

theorem maybe_any (w : World) (n : Int) : Calls Try.prog 40 #[.int .i64 n] w (Ret (.bool (mb n)) (fun w' => w = w')) := by
  by_cases h0 : 1 ≤ n
  · have hb : decide (1 ≤ n) = true := by simpa using h0
    by_cases h1 : n ≤ 64
    · have ht : mb n = true := mb_iff.2 ⟨h0, h1⟩
      rw [ht]
      clear ht
      go_enter Try.func40, Try.ntmps40
      go_wp2
      go_ret
      exact ⟨rfl, rfl⟩
    · have ht : mb n = false := mb_not.2 (by omega)
      have hc : decide (n ≤ 64) = false := by simpa using h1
      rw [ht]
      clear ht
      go_enter Try.func40, Try.ntmps40
      go_wp2
      go_ret
      exact ⟨rfl, rfl⟩
  · have ht : mb n = false := mb_not.2 (by omega)
    have hc : decide (1 ≤ n) = false := by simpa using h0
    rw [ht]
    clear ht
    go_enter Try.func40, Try.ntmps40
    go_wp2
    go_ret
    exact ⟨rfl, rfl⟩
theorem rthreads_any (w : World) (n : Int) : Calls Try.prog 11 #[.int .i64 n] w (Ret (.bool (mb n)) (fun w' => w = w')) := by
  by_cases h0 : 0 < n
  · have hb : decide (0 < n) = true := by simpa using h0
    by_cases h1 : n ≤ 64
    · have ht : mb n = true := mb_iff.2 ⟨h0, h1⟩
      rw [ht]
      clear ht
      go_enter Try.func11, Try.ntmps11
      go_wp2
      go_ret
      exact ⟨rfl, rfl⟩
    · have ht : mb n = false := mb_not.2 (by omega)
      have hc : decide (n ≤ 64) = false := by simpa using h1
      rw [ht]
      clear ht
      go_enter Try.func11, Try.ntmps11
      go_wp2
      go_ret
      exact ⟨rfl, rfl⟩
  · have ht : mb n = false := mb_not.2 (by omega)
    have hc : decide (0 < n) = false := by simpa using h0
    rw [ht]
    clear ht
    go_enter Try.func11, Try.ntmps11
    go_wp2
    go_ret
    exact ⟨rfl, rfl⟩

theorem ck_mb {l : List Int} {t : Int} (h : mb t = false) : ck l t = 2 := by unfold ck; rw [if_pos h]
theorem ck_long {l : List Int} {t : Int} (h : mb t = true) (h1 : 100000 < l.length) : ck l t = 5 := by unfold ck; rw [if_neg (by simp [h]), if_pos h1]
theorem ck_bad {l : List Int} {t : Int} (h : mb t = true) (h1 : ¬ 100000 < l.length) {x : Int} (hx : x ∈ l) (hb : inR t x = false) : ck l t = 2 := by
  unfold ck; rw [if_neg (by simp [h]), if_neg h1, if_neg]
  intro ha
  have := List.all_eq_true.1 ha x hx
  rw [this] at hb; cases hb
theorem ck_good {l : List Int} {t : Int} (h : mb t = true) (h1 : ¬ 100000 < l.length) (hb : ∀ x ∈ l, inR t x = true) : ck l t = 0 := by
  unfold ck; rw [if_neg (by simp [h]), if_neg h1, if_pos (List.all_eq_true.2 hb)]

set_option maxHeartbeats 1000000 in
theorem check_any {w : World} {a : Option Addr} {n c b o : Nat} {l : List Int} (hL : Li .i64 w a n c b o l) (t : Int) :
    Calls Try.prog 36 #[.slice a n c, .int .i64 t] w (Ret (.int .i64 (ck l t)) (fun w' => w = w')) := by
  by_cases hm : mb t = true
  · by_cases hn : 100000 < n
    · have he := ck_long (l := l) hm (by have := hL.len; omega)
      have hb : decide ((100000 : Int) < (n : Int)) = true := by simp; omega
      rw [he]
      have HM := Lib.hid hm
      clear hm he
      go_enter Try.func36, Try.ntmps36
      go_wp2_with (go_at_call 40; refine (maybe_any _ _).mono ?_; rintro e w' ⟨rfl, rfl⟩; rw [HM.out])
      go_ret
      exact ⟨rfl, rfl⟩
    · have hb : decide ((100000 : Int) < (n : Int)) = false := by simp; omega
      have hg := ck_good (l := l) hm (by have := hL.len; omega)
      have hbad := fun x hx hb => ck_bad (l := l) hm (by have := hL.len; omega) (x := x) hx hb
      generalize ck l t = R at hg hbad ⊢
      have HM := Lib.hid hm
      have HG := Lib.hid hg
      have HB := Lib.hid hbad
      have HL := Lib.hid hL
      clear hm hg hbad hL
      go_enter Try.func36, Try.ntmps36
      go_wp2_with (go_at_call 40; refine (maybe_any _ _).mono ?_; rintro e w' ⟨rfl, rfl⟩; rw [HM.out])
      go_loop [6, 15] (fun _ i => ∃ k : Nat, k ≤ n ∧ i = .int .i64 k ∧ Hid (∀ j, j < k → inR t (l.getD j 0) = true)) (fun _ i => n - (intOf i).toNat)
      case atStart => exact ⟨0, by omega, rfl, Lib.hid (fun j hj => by omega)⟩
      case round =>
        obtain ⟨k, hk, rfl, HI⟩ := hrel
        by_cases hlt : k < n
        · obtain ⟨x, hx, hg, hc⟩ := HL.out.get hlt
          have hix := ix_int (c := c) HL.out.ad hlt
          have HX := Lib.hid hx
          have HGD := Lib.hid hg
          clear hx hg
          have hb0 : (k : Int) < (n : Int) := by omega
          by_cases hir : inR t x = true
          · obtain ⟨g0, g1⟩ := inR_iff.1 hir
            have d0 : decide (x < 0) = false := by simp; omega
            have d1 : decide (t ≤ x) = false := by simp; omega
            have HR := Lib.hid hir
            clear hir
            go_wp2
            go_round
            case rel =>
              refine ⟨k + 1, by omega, by go_num, Lib.hid (fun j hj => ?_)⟩
              by_cases e : j = k
              · subst e; rw [HGD.out]; exact HR.out
              · exact HI.out j (by omega)
            case measure => simp [intOf]; omega
          · have hir : inR t x = false := by simpa using hir
            have hR := HB.out x (List.mem_of_getElem? HX.out) hir
            have hor := inR_not.1 hir
            have HR := Lib.hid hR
            clear hR hir
            by_cases h0 : x < 0
            · have d0 : decide (x < 0) = true := by simpa using h0
              go_wp2
              go_ret
              exact ⟨by rw [HR.out]; rfl, rfl⟩
            · have d0 : decide (x < 0) = false := by simpa using h0
              have d1 : decide (t ≤ x) = true := by simp; omega
              go_wp2
              go_ret
              exact ⟨by rw [HR.out]; rfl, rfl⟩
        · have hR := HG.out (fun x hx => by
            obtain ⟨i, hi, rfl⟩ := List.getElem_of_mem hx
            have := HI.out i (by have := HL.out.len; omega)
            rwa [List.getD_eq_getElem?_getD, List.getElem?_eq_getElem hi] at this)
          have HR := Lib.hid hR
          clear hR
          go_wp2
          go_ret
          exact ⟨by rw [HR.out]; rfl, rfl⟩
  · have hm : mb t = false := by simpa using hm
    rw [ck_mb hm]
    have HM := Lib.hid hm
    clear hm
    go_enter Try.func36, Try.ntmps36
    go_wp2_with (go_at_call 40; refine (maybe_any _ _).mono ?_; rintro e w' ⟨rfl, rfl⟩; rw [HM.out])
    go_ret
    exact ⟨rfl, rfl⟩

theorem valid_any {w : World} {a : Option Addr} {n c b o : Nat} {l : List Int} (hL : Li .i64 w a n c b o l) (t : Int) :
    Calls Try.prog 14 #[.slice a n c, .int .i64 t] w (Ret (.bool (vld l t)) (fun w' => w = w')) := by
  unfold vld
  go_enter Try.func14, Try.ntmps14
  go_wp2_with (go_at_call 36; refine (check_any hL _).mono ?_; rintro e w' ⟨rfl, rfl⟩)
  go_ret
  exact ⟨rfl, rfl⟩
end Go.Proofs.Ytjgnmmlbnkmgfaa
