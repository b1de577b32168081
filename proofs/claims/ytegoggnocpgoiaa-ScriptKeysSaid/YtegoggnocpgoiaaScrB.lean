/- Package script: mayBe, needs, the reader's next. -/
import Derived.Test.YtegoggnocpgoiaaScrN
import Derived.Test.YtegoggnocpgoiaaScrA
namespace Go.Proofs.Ytegoggnocpgoiaa
open Go.ChangeShapes Go.WideShapes Go.ChangeAt Go.RowKit

def mb (n : Int) : Bool := decide (1 ≤ n ∧ n ≤ 64)
theorem mb_iff {n : Int} : mb n = true ↔ 1 ≤ n ∧ n ≤ 64 := by unfold mb; simp
theorem mb_not {n : Int} : mb n = false ↔ n < 1 ∨ 64 < n := by unfold mb; simp; omega
theorem maybe_any (w : World) (n : Int) : Calls Try.prog 32 #[.int .i64 n] w (Ret (.bool (mb n)) (fun w' => w = w')) := by
  by_cases h0 : 1 ≤ n
  · have hb : decide (1 ≤ n) = true := by simpa using h0
    by_cases h1 : n ≤ 64
    · have ht : mb n = true := mb_iff.2 ⟨h0, h1⟩
      rw [ht]
      clear ht
      go_enter Try.func32, Try.ntmps32
      go_wp2
      go_ret
      exact ⟨rfl, rfl⟩
    · have ht : mb n = false := mb_not.2 (by omega)
      have hc : decide (n ≤ 64) = false := by simpa using h1
      rw [ht]
      clear ht
      go_enter Try.func32, Try.ntmps32
      go_wp2
      go_ret
      exact ⟨rfl, rfl⟩
  · have ht : mb n = false := mb_not.2 (by omega)
    have hc : decide (1 ≤ n) = false := by simpa using h0
    rw [ht]
    clear ht
    go_enter Try.func32, Try.ntmps32
    go_wp2
    go_ret
    exact ⟨rfl, rfl⟩

theorem vc_1 {v : Int} (h : vc v = 1) : v = 1 ∨ v = 4 := by unfold vc at h; split at h <;> (try split at h) <;> (try split at h) <;> (try split at h) <;> omega
theorem vc_2 {v : Int} (h : vc v = 2) : v = 2 ∨ v = 3 := by unfold vc at h; split at h <;> (try split at h) <;> (try split at h) <;> (try split at h) <;> omega
theorem vc_3 {v : Int} (h : vc v = 3) : v = 5 := by unfold vc at h; split at h <;> (try split at h) <;> (try split at h) <;> (try split at h) <;> omega
theorem vc_4 {v : Int} (h : vc v = 4) : v = 6 := by unfold vc at h; split at h <;> (try split at h) <;> (try split at h) <;> (try split at h) <;> omega
theorem vc_0 {v : Int} (h : vc v = 0) : ¬ v = 1 ∧ ¬ v = 4 ∧ ¬ v = 2 ∧ ¬ v = 3 ∧ ¬ v = 5 ∧ ¬ v = 6 := by unfold vc at h; split at h <;> (try split at h) <;> (try split at h) <;> (try split at h) <;> omega
theorem vc_cases (v : Int) : vc v = 0 ∨ vc v = 1 ∨ vc v = 2 ∨ vc v = 3 ∨ vc v = 4 := by
  unfold vc; split <;> (try split) <;> (try split) <;> (try split) <;> simp

theorem needs_1 (w : World) (v : Int) (hv : vc v = 1) : Calls Try.prog 49 #[.int .i64 v] w (Ret (.agg #[.bool true, .bool false, .bool false, .bool false]) (fun w' => Frm [] w w')) := by
  rcases vc_1 hv with rfl | rfl
  all_goals
    clear hv
    go_enter Try.func49, Try.ntmps49
    go_wp2
    exact bodyPost_ret (v := .agg #[.bool true, .bool false, .bool false, .bool false]) (by simp [results, Try.results49, go_sem]) rfl ⟨rfl, (Frm.refl _ _).alloc _⟩
theorem needs_2 (w : World) (v : Int) (hv : vc v = 2) : Calls Try.prog 49 #[.int .i64 v] w (Ret (.agg #[.bool true, .bool false, .bool true, .bool false]) (fun w' => Frm [] w w')) := by
  rcases vc_2 hv with rfl | rfl
  all_goals
    clear hv
    go_enter Try.func49, Try.ntmps49
    go_wp2
    exact bodyPost_ret (v := .agg #[.bool true, .bool false, .bool true, .bool false]) (by simp [results, Try.results49, go_sem]) rfl ⟨rfl, (Frm.refl _ _).alloc _⟩
theorem needs_3 (w : World) (v : Int) (hv : vc v = 3) : Calls Try.prog 49 #[.int .i64 v] w (Ret (.agg #[.bool true, .bool true, .bool true, .bool false]) (fun w' => Frm [] w w')) := by
  obtain rfl := vc_3 hv
  clear hv
  go_enter Try.func49, Try.ntmps49
  go_wp2
  exact bodyPost_ret (v := .agg #[.bool true, .bool true, .bool true, .bool false]) (by simp [results, Try.results49, go_sem]) rfl ⟨rfl, (Frm.refl _ _).alloc _⟩
theorem needs_4 (w : World) (v : Int) (hv : vc v = 4) : Calls Try.prog 49 #[.int .i64 v] w (Ret (.agg #[.bool true, .bool false, .bool false, .bool true]) (fun w' => Frm [] w w')) := by
  obtain rfl := vc_4 hv
  clear hv
  go_enter Try.func49, Try.ntmps49
  go_wp2
  exact bodyPost_ret (v := .agg #[.bool true, .bool false, .bool false, .bool true]) (by simp [results, Try.results49, go_sem]) rfl ⟨rfl, (Frm.refl _ _).alloc _⟩
theorem needs_0 (w : World) (v : Int) (hv : vc v = 0) : Calls Try.prog 49 #[.int .i64 v] w (Ret (.agg #[.bool false, .bool false, .bool false, .bool false]) (fun w' => Frm [] w w')) := by
  obtain ⟨a1, a2, a3, a4, a5, a6⟩ := vc_0 hv
  have b1 : (v == 1) = false := by simpa using a1
  have b2 : (v == 4) = false := by simpa using a2
  have b3 : (v == 2) = false := by simpa using a3
  have b4 : (v == 3) = false := by simpa using a4
  have b5 : (v == 5) = false := by simpa using a5
  have b6 : (v == 6) = false := by simpa using a6
  clear hv a1 a2 a3 a4 a5 a6
  go_enter Try.func49, Try.ntmps49
  go_wp2
  exact bodyPost_ret (v := .agg #[.bool false, .bool false, .bool false, .bool false]) (by simp [results, Try.results49, go_sem]) rfl ⟨rfl, (Frm.refl _ _).alloc _⟩

/-- A reader at block p, that has these bytes left; they lie in a block before B. -/
def RdAt (B : Nat) (w : World) (p : Nat) (l : List Int) : Prop :=
  ∃ a n c b o, w.heap[p]? = some (.cells #[.slice a n c] 63 (0, 0)) ∧ Li .u8 w a n c b o l ∧ (0 < n → b < B)
variable {B : Nat}
theorem li_ne {w : World} {p n c b o : Nat} {a : Option Addr} {l : List Int} {v : Value} {t : TypeId} (hp : w.heap[p]? = some (.cells #[v] t (0, 0))) (hv : ∀ x, v ≠ .int .u8 x) (h : Li .u8 w a n c b o l) (hn : 0 < n) : b ≠ p := by
  rintro rfl
  obtain ⟨x, _, _, hc⟩ := h.get hn
  rw [cell_of_heap hp] at hc
  simp only [Nat.add_zero] at hc
  cases o with
  | zero => simp at hc; exact hv _ hc
  | succ o => simp at hc
theorem RdAt.frm {D : List Nat} {w w' : World} {p : Nat} {l : List Int} (h : RdAt B w p l) (hf : Frm D w w') (hd : p ∉ D) (hb : ∀ a n c b o, 0 < n → b < B → Li .u8 w a n c b o l → b ∉ D) : RdAt B w' p l := by
  obtain ⟨a, n, c, b, o, h1, h2, h3⟩ := h
  exact ⟨a, n, c, b, o, hf.heap h1 hd, h2.frm hf (fun hn => hb a n c b o hn (h3 hn) h2), h3⟩
theorem RdAt.frm0 {w w' : World} {p : Nat} {l : List Int} (h : RdAt B w p l) (hf : Frm [] w w') : RdAt B w' p l := h.frm hf (by simp) (by simp)
/-- Behind a store into a block that holds no bytes. -/
theorem RdAt.set {w : World} {p q i : Nat} {l : List Int} {v : Value} {cs : Array Value} {t : TypeId} (h : RdAt B w p l) (hq : w.heap[q]? = some (.cells cs t (0, 0))) (hqp : q ≠ p) (hcs : ∀ (j : Nat) (y : Int), cs[j]? ≠ some (.int .u8 y)) : RdAt B (w.setCell ⟨q, i, none⟩ v) p l := by
  refine h.frm ((Frm.refl [q] w).setCell ⟨q, i, none⟩ v (.inl (by simp))) (by simpa using hqp.symm) (fun a n c b o hn _ hL => ?_)
  simp
  rintro rfl
  obtain ⟨x, _, _, hc⟩ := hL.get hn
  rw [cell_of_heap hq] at hc
  exact hcs _ _ hc

set_option maxHeartbeats 1000000 in
theorem rnext_any {w : World} {p : Nat} {l : List Int} (h : RdAt B w p l) : Calls Try.prog 41 #[.pointer (some ⟨p, 0, none⟩)] w (Ret (.int .u8 (l.getD 0 0)) (fun w' => Frm [p] w w' ∧ RdAt B w' p (l.drop 1))) := by
  obtain ⟨a, n, c, b, o, hp, hL, hlt⟩ := h
  have hc0 : w.cell? ⟨p, 0, none⟩ = some (.slice a n c) := by rw [cell_of_heap hp]; rfl
  have hfz : w.frozen? ⟨p, 0, none⟩ = false := frozen_of_heap hp
  by_cases hn : 0 < n
  · obtain ⟨x, hx, hg, hc⟩ := hL.get hn
    obtain ⟨a', hs, hL'⟩ := cut_from hL 1 hn
    have hix : ∀ W : World, (Instr.indexAt 22 (.slice a n c) (.int .i64 0)).run Try.prog W = .ok (.pointer (some ⟨b, o, none⟩)) W := ix_u8 (c := c) (k := 0) hL.ad hn
    replace hs : ∀ W : World, (Instr.sliceAt 22 (.slice a n c) (some (.int .i64 1)) none none).run Try.prog W = .ok (.slice a' (n - 1) (c - 1)) W := hs
    have hb : ((n : Int) == 0) = false := by simp; omega
    have hne := li_ne hp (by intro x h; cases h) hL hn
    rw [hg]
    simp only [Nat.add_zero] at hc
    have hpost : Frm [p] w (w.setCell ⟨p, 0, none⟩ (.slice a' (n - 1) (c - 1))) ∧ RdAt B (w.setCell ⟨p, 0, none⟩ (.slice a' (n - 1) (c - 1))) p (l.drop 1) := by
      have hF : Frm [p] w (w.setCell ⟨p, 0, none⟩ (.slice a' (n - 1) (c - 1))) := (Frm.refl [p] w).setCell ⟨p, 0, none⟩ _ (.inl (by simp))
      exact ⟨hF, a', n - 1, c - 1, b, o + 1, heap_setCell_at (i := 0) _ hp, hL'.frm hF (fun _ => by simpa using hne), fun _ => hlt hn⟩
    have HP := Lib.hid hpost
    have HL := Lib.hid hL
    have HH := Lib.hid hp
    clear hpost hL hp hx hg hL' hlt
    go_enter Try.func41, Try.ntmps41
    go_wp2
    go_ret
    exact ⟨rfl, HP.out⟩
  · obtain rfl : n = 0 := by omega
    obtain rfl : l = [] := List.eq_nil_of_length_eq_zero hL.len
    have HL := Lib.hid hL
    have HH := Lib.hid hp
    clear hL hp hlt
    go_enter Try.func41, Try.ntmps41
    go_wp2
    go_ret
    exact ⟨rfl, Frm.refl _ _, a, 0, c, b, o, HH.out, HL.out, fun h0 => absurd h0 (by omega)⟩
end Go.Proofs.Ytegoggnocpgoiaa
