/- Package clock: which alarm has an ID; alarms as they are given to callers. -/
import Derived.Test.YtamnhpcbflpabaaClkC
namespace Go.Proofs.Ytamnhpcbflpabaa
open Go.ChangeShapes Go.WideShapes Go.ChangeAt Go.RowKit

/-- The first alarm with an ID. -/
def idxN (l : List Al) (id : Int) : Nat := l.findIdx (fun a => a.1 == id)
def idx (l : List Al) (id : Int) : Int := if idxN l id < l.length then (idxN l id : Int) else -1
theorem idxN_le (l : List Al) (id : Int) : idxN l id ≤ l.length := List.findIdx_le_length
theorem idxN_at {l : List Al} {id : Int} {i : Nat} {x : Al} (hx : l[i]? = some x) (hi : i ≤ idxN l id) : (x.1 == id) = decide (i = idxN l id) := by
  obtain ⟨hl, rfl⟩ := List.getElem?_eq_some_iff.1 hx
  by_cases h : i = idxN l id
  · have := List.findIdx_getElem (p := fun a : Al => a.1 == id) (xs := l) (w := by unfold idxN at h; omega)
    unfold idxN at h
    subst h
    rw [this]; simp [idxN]
  · have := List.not_of_lt_findIdx (p := fun a : Al => a.1 == id) (xs := l) (i := i) (by unfold idxN at h hi; omega)
    rw [decide_eq_false h]; simpa using this

theorem clo_any (w : World) (x : Al) (b : Nat) (id : Int) (hb : w.cell? ⟨b, 0, none⟩ = some (.int .i64 id)) (t : Bool) (ht : (x.1 == id) = t) :
    Calls Try.prog 40 #[.agg #[.int .i64 x.1, .int .i64 x.2], .pointer (some ⟨b, 0, none⟩)] w (Ret (.bool t) (fun w' => Frm [] w w')) := by
  have hlt : b < w.heap.size := World.block_lt_of_cell? w _ hb
  go_enter Try.func40, Try.ntmps40
  go_wp2
  go_ret
  exact ⟨rfl, (Frm.refl _ _).alloc _⟩

set_option maxHeartbeats 1000000 in
theorem ixf_nil (w : World) (f : Value) :
    Calls Try.prog 39 #[.slice none 0 0, f] w (Ret (.int .i64 (-1)) (fun w' => w = w')) := by
  go_enter Try.func39, Try.ntmps39
  go_wp2_with fail
  go_loop [5, 8] (fun _ i => i = .int .i64 0) (fun _ _ => 0)
  case atStart => exact rfl
  case round =>
    subst hrel
    go_wp2
    go_ret
    exact ⟨rfl, rfl⟩

set_option maxHeartbeats 1000000 in
theorem ixf_some {w : World} {d o c : Nat} {l : List Al} (hl : l.length ≤ 4096) (hd : d < w.heap.size) (hr : ∀ (j : Nat) (u : Value), (flat l)[j]? = some u → w.cell? ⟨d, o + j, none⟩ = some u)
    (b : Nat) (id : Int) (hb : w.cell? ⟨b, 0, none⟩ = some (.int .i64 id)) :
    Calls Try.prog 39 #[.slice (some ⟨d, o, none⟩) l.length c, .func (.func 40) #[] #[.pointer (some ⟨b, 0, none⟩)]] w (Ret (.int .i64 (idx l id)) (fun w' => Frm [] w w')) := by
  have hN := idxN_le l id
  have hat := fun (i : Nat) (x : Al) (hx : l[i]? = some x) (hi : i ≤ idxN l id) => idxN_at hx hi
  have hfin : idx l id = if idxN l id < l.length then (idxN l id : Int) else -1 := rfl
  generalize idx l id = R at hfin ⊢
  generalize idxN l id = N at *
  have HR := Lib.hid hr
  have HA := Lib.hid hat
  have HF := Lib.hid hfin
  have hbl : b < w.heap.size := World.block_lt_of_cell? w _ hb
  clear hr hat hfin
  go_enter Try.func39, Try.ntmps39
  go_wp2_with fail
  go_loopw [5, 8] (fun _ i w' => ∃ k : Nat, k ≤ N ∧ i = .int .i64 k ∧ Frm [] w w') (fun _ i _ => l.length - (intOf i).toNat)
  case atStart => exact ⟨0, by omega, rfl, Frm.refl _ _⟩
  case round =>
    obtain ⟨k, hk, rfl, hF⟩ := hrel
    by_cases hlt : k < l.length
    · have hb0 : (0 : Int) ≤ (k : Int) := by omega
      have hb1 : (k : Int) < (l.length : Int) := by omega
      have hx : l[k]? = some (l[k]'(by omega)) := List.getElem?_eq_getElem _
      generalize (l[k]'(by omega)) = x at hx
      obtain ⟨x1, x2⟩ := x
      have hxc : w.cell? ⟨d, o + k * 2, none⟩ = some (.int .i64 x1) ∧ w.cell? ⟨d, o + k * 2 + 1, none⟩ = some (.int .i64 x2) := Als.cell0 HR.out hx
      have k2 : wr.cell? ⟨d, o + k * 2, none⟩ = some (.int .i64 x1) := by rw [hF.cell hd (by simp)]; exact hxc.1
      have k3 : wr.cell? ⟨d, o + k * 2 + 1, none⟩ = some (.int .i64 x2) := by rw [hF.cell hd (by simp)]; exact hxc.2
      have k4 : wr.cell? ⟨b, 0, none⟩ = some (.int .i64 id) := by rw [hF.cell hbl (by simp)]; exact hb
      have hq := HA.out k _ hx hk
      clear hx hxc
      by_cases hkN : k = N
      · rw [decide_eq_true hkN] at hq
        have HQ := Lib.hid hq
        have HKN := Lib.hid hkN
        clear hq hkN
        go_wp2_with fail
        refine (clo_any _ (x1, x2) _ _ k4 _ HQ.out).mono ?_
        rintro e w1 ⟨rfl, hF1⟩
        go_wp2
        go_ret
        refine ⟨?_, hF.trans hF1⟩
        have e := HF.out
        rw [if_pos (by have := HKN.out; omega)] at e
        rw [e, ← HKN.out]
        rfl
      · rw [decide_eq_false hkN] at hq
        have HQ := Lib.hid hq
        clear hq
        go_wp2_with fail
        refine (clo_any _ (x1, x2) _ _ k4 _ HQ.out).mono ?_
        rintro e w1 ⟨rfl, hF1⟩
        go_wp2
        go_roundw
        case rel => exact ⟨k + 1, by omega, by go_num, hF.trans hF1⟩
        case measure => simp [intOf]; omega
    · go_wp2
      go_ret
      refine ⟨?_, hF⟩
      have e := HF.out
      rw [if_neg (by omega)] at e
      rw [e]
      rfl

theorem ixf_any {w : World} {v : Value} {l : List Al} (hA : Als w v l) (hl : l.length ≤ 4096) (b : Nat) (id : Int) (hb : w.cell? ⟨b, 0, none⟩ = some (.int .i64 id)) :
    Calls Try.prog 39 #[v, .func (.func 40) #[] #[.pointer (some ⟨b, 0, none⟩)]] w (Ret (.int .i64 (idx l id)) (fun w' => Frm [] w w')) := by
  rcases hA with ⟨rfl, rfl⟩ | ⟨d, o, c, rfl, _, _, h3, h4⟩
  · exact (ixf_nil w _).mono fun _ _ h => ⟨h.1, h.2 ▸ Frm.refl _ _⟩
  · exact ixf_some hl h3 h4 b id hb

theorem index_clk {w : World} {p : Nat} {now : Int} {v : Value} {l : List Al} (h : ClockAt w p now v l) (hl : l.length ≤ 4096) (id : Int) :
    Calls Try.prog 29 #[.pointer (some ⟨p, 0, none⟩), .int .i64 id] w (Ret (.int .i64 (idx l id)) (fun w' => Frm [] w w')) := by
  have h' : ClockAt (w.alloc (.cells #[.int .i64 id] 3)) p now v l := h.alloc _
  have hbx : (w.alloc (.cells #[.int .i64 id] 3)).cell? ⟨w.heap.size, 0, none⟩ = some (.int .i64 id) := by rw [cell_of_heap (heap_alloc_new _ _)]; rfl
  have k2 := h'.c2
  have hA := h'.own.als
  have HB := Lib.hid hbx
  clear h hbx
  go_enter Try.func29, Try.ntmps29
  go_wp2_with fail
  refine (ixf_any hA hl _ _ HB.out).mono ?_
  rintro e w1 ⟨rfl, hF1⟩
  go_wp2
  go_ret
  exact ⟨rfl, ((Frm.refl _ _).alloc _).trans hF1⟩
end Go.Proofs.Ytamnhpcbflpabaa
