/- Stage 12: the law's arena, instr, adds, awaits. -/
import Derived.Test.YtieccmmnfnpcoaaTih
namespace Go.Proofs.Ytieccmmnfnpcoaa
open Go.ChangeShapes Go.WideShapes Go.ChangeAt Go.RowKit
set_option linter.unusedVariables false
/-- What 'made' has after k words. -/
def part (xs : List Int) (k : Nat) : List Int := xs.take k ++ List.replicate (xs.length - k) 0
theorem part_zero (xs : List Int) : part xs 0 = List.replicate xs.length 0 := by simp [part]
theorem part_all (xs : List Int) : part xs xs.length = xs := by simp [part]
theorem part_len (xs : List Int) (k : Nat) (h : k ≤ xs.length) : (part xs k).length = xs.length := by simp [part]; omega
theorem part_succ (xs : List Int) (k : Nat) (x : Int) (h : xs[k]? = some x) : part xs (k + 1) = (part xs k).set k x := by
  have hk : k < xs.length := (List.getElem?_eq_some_iff.1 h).1
  apply List.ext_getElem?
  intro j
  rw [List.getElem?_set]
  unfold part
  by_cases hj : k = j
  · subst hj
    rw [if_pos rfl, if_pos (by simp; omega), List.getElem?_append_left (by simp; omega), List.getElem?_take, if_pos (by omega), h]
  · rw [if_neg hj]
    by_cases hlt : j < k
    · rw [List.getElem?_append_left (by simp; omega), List.getElem?_append_left (by simp; omega), List.getElem?_take, List.getElem?_take, if_pos (by omega), if_pos hlt]
    · rw [List.getElem?_append_right (by simp; omega), List.getElem?_append_right (by simp; omega), List.getElem?_replicate, List.getElem?_replicate]
      simp only [List.length_take]
      have e1 : min (k + 1) xs.length = k + 1 := by omega
      have e2 : min k xs.length = k := by omega
      rw [e1, e2]
      by_cases hl : j < xs.length
      · rw [if_pos (by omega), if_pos (by omega)]
      · rw [if_neg (by omega), if_neg (by omega)]
theorem part_succ_zero (xs : List Int) (k : Nat) (h : xs[k]? = some 0) : part xs (k + 1) = part xs k := by
  rw [part_succ xs k 0 h]
  have hk : k < xs.length := (List.getElem?_eq_some_iff.1 h).1
  apply List.ext_getElem?
  intro j
  rw [List.getElem?_set]
  split
  · rename_i e
    subst e
    rw [if_pos (by rw [part_len _ _ (by omega)]; exact hk)]
    unfold part
    rw [List.getElem?_append_right (by simp; omega), List.getElem?_replicate, if_pos (by simp; omega)]
  · rfl

theorem arena_any {w : World} {xs : List Int} {v : Value} (hv : Rd w v (u64s xs)) (h1 : 1 ≤ xs.length) (h2 : xs.length ≤ 65536) :
    Calls Try.prog 11 #[v] w (fun e w' => ∃ p d c, Ret (.pointer (some ⟨p, 0, none⟩)) (fun w' => Frm [] w w' ∧ MemAt w' p d c xs ∧ w.heap.size ≤ p ∧ w.heap.size ≤ d) e w') := by
  rcases hv with ⟨_, hl⟩ | ⟨b, o, cc, rfl, hl, hb, hr⟩
  · have : xs = [] := by simpa [u64s] using hl
    subst this; simp at h1
  have hlen : (u64s xs).length = xs.length := by simp [u64s]
  rw [hlen]
  have R1 := Lib.hid hr
  clear hr hl hlen
  go_enter Try.func11, Try.ntmps11
  go_wp2_with fail
  refine (new_ok w xs.length h1 h2).mono ?_
  rintro e w1 ⟨p, d, rfl, hF1, hM1, hp, hd⟩
  rw [← part_zero] at hM1
  go_wp2_with fail
  go_loopw [2, 5, 6, 21, 22, 23, 24, 25, 26, 27, 28, 29, 30, 31, 32, 33, 34, 35] (fun r _ _ i _ _ _ _ _ _ _ _ _ _ _ _ _ _ wr => ∃ k : Nat, r = .pointer none ∧ k ≤ xs.length ∧ i = .int .i64 k ∧ Frm [] w wr ∧ MemAt wr p d xs.length (part xs k)) (fun _ _ _ i _ _ _ _ _ _ _ _ _ _ _ _ _ _ _ => xs.length - (intOf i).toNat)
  case atStart => exact ⟨0, rfl, Nat.zero_le _, rfl, hF1, hM1⟩
  case round =>
    obtain ⟨k, rfl, hk, rfl, hF, hM⟩ := hrel
    by_cases hlt : k < xs.length
    · obtain ⟨x, hx⟩ : ∃ x, xs[k]? = some x := ⟨_, List.getElem?_eq_getElem hlt⟩
      have hcx : _ = some (Value.int .u64 x) := (hF.cell (i := o + k) hb (by simp)).trans (R1.out k _ (by rw [u64s, List.getElem?_map, hx]; rfl))
      have HX := Lib.hid hx
      clear hx
      have hbw := Nat.lt_of_lt_of_le hb hF.size
      by_cases hz : x = 0
      · have hz1 : (x != 0) = false := by simp [hz]
        have HZ := Lib.hid hz
        clear hz
        go_wp2
        go_roundw
        case rel => exact ⟨k + 1, rfl, by omega, by go_num, hF, by rw [part_succ_zero xs k (by rw [HX.out, HZ.out])]; exact hM⟩
        case measure => simp [intOf]; omega
      · have hz1 : (x != 0) = true := by simp [hz]
        clear hz
        go_wp2_with fail
        refine (Store_ok hM k x (by rw [part_len _ _ hk]; exact hlt)).mono ?_
        rintro e w2 ⟨rfl, hF2, hM2⟩
        have hFF : Frm [] w w2 := hF.trans_new hF2 (by simp; omega)
        rw [← part_succ xs k x HX.out] at hM2
        clear hF2
        go_wp2
        go_roundw
        case rel => exact ⟨k + 1, rfl, by omega, by go_num, hFF, hM2⟩
        case measure => simp [intOf]; omega
    · obtain rfl : k = xs.length := by omega
      go_wp2
      go_ret
      rw [part_all] at hM
      exact ⟨p, d, _, rfl, hF, hM, hp, hd⟩


theorem instr_any (k r wd v : Int) (w : World) : Calls Try.prog 25 #[.int .i64 k, .int .i64 r, .int .i64 wd, .int .u64 v] w (Ret (.agg #[.int .i64 k, .int .i64 r, .int .i64 wd, .int .u64 v]) (fun w' => Frm [] w w')) := by
  go_enter Try.func25, Try.ntmps25
  go_wp2
  exact bodyPost_ret (v := .agg #[.int .i64 k, .int .i64 r, .int .i64 wd, .int .u64 v]) (by simp [results, Try.results25, go_sem]) rfl ⟨rfl, (Frm.refl _ _).alloc _⟩
def addsL : List Ins := [⟨1, 1, 0, 0⟩, ⟨7, 1, 0, 1⟩, ⟨2, 1, 0, 0⟩, ⟨9, 1, 0, 0⟩]
def awaitsL : List Ins := [⟨5, 0, 0, 2⟩, ⟨6, 0, 0, 9⟩]
/-- Instructions that lie in a block of their own. -/
theorem inl_of {w : World} {g : Nat} {l : List Ins} (h : w.heap[g]? = some (.cells (l.flatMap Ins.cells).toArray 74 (0, 0))) : InL w (some ⟨g, 0, none⟩) l.length l.length g 0 l := by
  refine ⟨rfl, fun _ => rfl, fun i x hx j v hv => ?_, Nat.le_refl _⟩
  rw [Nat.zero_add, cell_of_heap h, List.getElem?_toArray]
  have hj : j < 4 := (List.getElem?_eq_some_iff.1 hv).1
  have key : ∀ (l : List Ins) (i : Nat), l[i]? = some x → (l.flatMap Ins.cells)[i * 4 + j]? = some v := by
    intro l
    induction l with
    | nil => intro i hx; simp at hx
    | cons y l ih =>
      intro i hx
      rw [List.flatMap_cons]
      rcases i with _ | i
      · simp at hx; subst hx
        rw [List.getElem?_append_left (by show 0 * 4 + j < 4; omega)]; simpa using hv
      · rw [List.getElem?_append_right (by show 4 ≤ _; omega)]
        have := ih i (by simpa using hx)
        rw [← this]; congr 1; show (i + 1) * 4 + j - 4 = _; omega
  exact key l i hx
theorem adds_any (w : World) : Calls Try.prog 29 #[] w (fun e w' => ∃ g, Ret (.slice (some ⟨g, 0, none⟩) 4 4) (fun w' => Frm [] w w' ∧ InL w' (some ⟨g, 0, none⟩) 4 4 g 0 addsL ∧ w.heap.size ≤ g) e w') := by
  go_enter Try.func29, Try.ntmps29
  go_wp2_with fail
  refine (instr_any _ _ _ _ _).mono ?_
  rintro e w1 ⟨rfl, hF1⟩
  go_wp2_with fail
  refine (instr_any _ _ _ _ _).mono ?_
  rintro e w2 ⟨rfl, hF2⟩
  go_wp2_with fail
  refine (instr_any _ _ _ _ _).mono ?_
  rintro e w3 ⟨rfl, hF3⟩
  go_wp2_with fail
  refine (instr_any _ _ _ _ _).mono ?_
  rintro e w4 ⟨rfl, hF4⟩
  have HF := Lib.hid (((hF1.trans hF2).trans hF3).trans hF4)
  clear hF1 hF2 hF3 hF4
  go_wp2
  go_ret
  exact ⟨_, rfl, HF.out.alloc _, inl_of (l := addsL) (heap_alloc_new _ _), HF.out.size⟩
theorem awaits_any (w : World) : Calls Try.prog 48 #[] w (fun e w' => ∃ g, Ret (.slice (some ⟨g, 0, none⟩) 2 2) (fun w' => Frm [] w w' ∧ InL w' (some ⟨g, 0, none⟩) 2 2 g 0 awaitsL ∧ w.heap.size ≤ g) e w') := by
  go_enter Try.func48, Try.ntmps48
  go_wp2_with fail
  refine (instr_any _ _ _ _ _).mono ?_
  rintro e w1 ⟨rfl, hF1⟩
  go_wp2_with fail
  refine (instr_any _ _ _ _ _).mono ?_
  rintro e w2 ⟨rfl, hF2⟩
  have HF := Lib.hid (hF1.trans hF2)
  clear hF1 hF2
  go_wp2
  go_ret
  exact ⟨_, rfl, HF.out.alloc _, inl_of (l := awaitsL) (heap_alloc_new _ _), HF.out.size⟩
end Go.Proofs.Ytieccmmnfnpcoaa
