/- Package qnode: where nodes lie; nil and zero Nodes; none, Threads, many, has, Base, Len. -/
import Derived.Test.YtoieedlkffmcgaaBase
import Derived.IntWalk
namespace Go.Proofs.Ytoieedlkffmcgaa
open Go.ChangeShapes Go.WideShapes Go.ChangeAt Go.RowKit

/-- A block holds the Nodes of t threads from the word b on. -/
structure Nd (w : World) (p b t : Nat) : Prop where
  at_ : w.cell? ⟨p, 0, none⟩ = some (.int .i64 b) ∧ w.cell? ⟨p, 1, none⟩ = some (.int .i64 t)
  t1 : 1 ≤ t
  t64 : t ≤ 64
/-- A nil or zero Nodes. -/
def Zv (w : World) (v : Value) : Prop := v = .pointer none ∨ ∃ p, v = .pointer (some ⟨p, 0, none⟩) ∧ w.heap[p]? = some (.cells #[.int .i64 0, .int .i64 0] 61 (0, 0))

theorem cells2 {w : World} {b : Nat} {x0 x1 : Value} {t : TypeId} (h : w.heap[b]? = some (.cells #[x0, x1] t (0, 0))) :
    w.cell? ⟨b, 0, none⟩ = some x0 ∧ w.cell? ⟨b, 1, none⟩ = some x1 := by
  refine ⟨?_, ?_⟩ <;> rw [cell_of_heap h] <;> rfl
theorem Nd.lt {w : World} {p b t : Nat} (h : Nd w p b t) : p < w.heap.size := World.block_lt_of_cell? w _ h.at_.1
theorem Nd.frmD {D : List Nat} {w w' : World} {p b t : Nat} (h : Nd w p b t) (hf : Frm D w w') (hd : p ∉ D) : Nd w' p b t :=
  ⟨⟨(hf.cell h.lt hd).trans h.at_.1, (hf.cell h.lt hd).trans h.at_.2⟩, h.t1, h.t64⟩
theorem Nd.frm {w w' : World} {p b t : Nat} (h : Nd w p b t) (hf : Frm [] w w') : Nd w' p b t := h.frmD hf (by simp)
theorem Nd.heap {w : World} {p b t : Nat} {cs : Array Value} {T : TypeId} (h : w.heap[p]? = some (.cells cs T (0, 0))) (h0 : cs[0]? = some (.int .i64 b)) (h1 : cs[1]? = some (.int .i64 t)) (t1 : 1 ≤ t) (t64 : t ≤ 64) : Nd w p b t :=
  ⟨⟨by rw [cell_of_heap h]; exact h0, by rw [cell_of_heap h]; exact h1⟩, t1, t64⟩
theorem Zv.frm {w w' : World} {v : Value} (h : Zv w v) (hf : Frm [] w w') : Zv w' v := by
  rcases h with h | ⟨p, h, hp⟩
  · exact .inl h
  · exact .inr ⟨p, h, hf.heap hp (by simp)⟩
theorem Zv.nil (w : World) : Zv w (.pointer none) := .inl rfl

theorem none_nd {w : World} {p b t : Nat} (h : Nd w p b t) : Calls Try.prog 53 #[.pointer (some ⟨p, 0, none⟩)] w (Ret (.bool false) (fun w' => w = w')) := by
  obtain ⟨c0, c1⟩ := h.at_
  have ht := h.t1
  have hb : ((t : Int) == 0) = false := by simp; omega
  clear h
  go_enter Try.func53, Try.ntmps53
  go_wp2
  go_ret
  exact ⟨rfl, rfl⟩
theorem none_z {w : World} {v : Value} (h : Zv w v) : Calls Try.prog 53 #[v] w (Ret (.bool true) (fun w' => w = w')) := by
  rcases h with rfl | ⟨p, rfl, h⟩
  · go_enter Try.func53, Try.ntmps53
    go_wp2
    go_ret
    exact ⟨rfl, rfl⟩
  · obtain ⟨c0, c1⟩ := cells2 h
    clear h
    go_enter Try.func53, Try.ntmps53
    go_wp2
    go_ret
    exact ⟨rfl, rfl⟩

theorem threads_nd {w : World} {p b t : Nat} (h : Nd w p b t) : Calls Try.prog 46 #[.pointer (some ⟨p, 0, none⟩)] w (Ret (.int .i64 t) (fun w' => w = w')) := by
  obtain ⟨c0, c1⟩ := h.at_
  have H := Lib.hid h
  clear h
  go_enter Try.func46, Try.ntmps46
  go_wp2_with fail
  refine (none_nd H.out).mono ?_
  rintro e w' ⟨rfl, rfl⟩
  go_wp2
  go_ret
  exact ⟨rfl, rfl⟩
theorem threads_z {w : World} {v : Value} (h : Zv w v) : Calls Try.prog 46 #[v] w (Ret (.int .i64 0) (fun w' => w = w')) := by
  have H := Lib.hid h
  clear h
  go_enter Try.func46, Try.ntmps46
  go_wp2_with fail
  refine (none_z H.out).mono ?_
  rintro e w' ⟨rfl, rfl⟩
  go_wp2
  go_ret
  exact ⟨rfl, rfl⟩

theorem base_nd {w : World} {p b t : Nat} (h : Nd w p b t) : Calls Try.prog 54 #[.pointer (some ⟨p, 0, none⟩)] w (Ret (.int .i64 b) (fun w' => w = w')) := by
  obtain ⟨c0, c1⟩ := h.at_
  have H := Lib.hid h
  clear h
  go_enter Try.func54, Try.ntmps54
  go_wp2_with fail
  refine (none_nd H.out).mono ?_
  rintro e w' ⟨rfl, rfl⟩
  go_wp2
  go_ret
  exact ⟨rfl, rfl⟩
theorem base_z {w : World} {v : Value} (h : Zv w v) : Calls Try.prog 54 #[v] w (Ret (.int .i64 0) (fun w' => w = w')) := by
  have H := Lib.hid h
  clear h
  go_enter Try.func54, Try.ntmps54
  go_wp2_with fail
  refine (none_z H.out).mono ?_
  rintro e w' ⟨rfl, rfl⟩
  go_wp2
  go_ret
  exact ⟨rfl, rfl⟩

theorem many_nd {w : World} {p b t : Nat} (h : Nd w p b t) : Calls Try.prog 34 #[.pointer (some ⟨p, 0, none⟩)] w (Ret (.int .i64 ((t : Int) * 2)) (fun w' => w = w')) := by
  have t64 := h.t64
  have H := Lib.hid h
  clear h
  go_enter Try.func34, Try.ntmps34
  go_wp2_with fail
  refine (threads_nd H.out).mono ?_
  rintro e w' ⟨rfl, rfl⟩
  go_wp2
  go_ret
  exact ⟨rfl, rfl⟩
theorem many_z {w : World} {v : Value} (h : Zv w v) : Calls Try.prog 34 #[v] w (Ret (.int .i64 0) (fun w' => w = w')) := by
  have H := Lib.hid h
  clear h
  go_enter Try.func34, Try.ntmps34
  go_wp2_with fail
  refine (threads_z H.out).mono ?_
  rintro e w' ⟨rfl, rfl⟩
  go_wp2
  go_ret
  exact ⟨rfl, rfl⟩
theorem len_nd {w : World} {p b t : Nat} (h : Nd w p b t) : Calls Try.prog 22 #[.pointer (some ⟨p, 0, none⟩)] w (Ret (.int .i64 ((t : Int) * 2 * 3)) (fun w' => w = w')) := by
  have t64 := h.t64
  have H := Lib.hid h
  clear h
  go_enter Try.func22, Try.ntmps22
  go_wp2_with fail
  refine (many_nd H.out).mono ?_
  rintro e w' ⟨rfl, rfl⟩
  go_wp2
  go_ret
  exact ⟨rfl, rfl⟩
theorem len_z {w : World} {v : Value} (h : Zv w v) : Calls Try.prog 22 #[v] w (Ret (.int .i64 0) (fun w' => w = w')) := by
  have H := Lib.hid h
  clear h
  go_enter Try.func22, Try.ntmps22
  go_wp2_with fail
  refine (many_z H.out).mono ?_
  rintro e w' ⟨rfl, rfl⟩
  go_wp2
  go_ret
  exact ⟨rfl, rfl⟩

theorem has_yes {w : World} {p b t : Nat} (h : Nd w p b t) (k : Nat) (hk : k < 2 * t) : Calls Try.prog 42 #[.pointer (some ⟨p, 0, none⟩), .int .i64 k] w (Ret (.bool true) (fun w' => w = w')) := by
  have t64 := h.t64
  have hb : decide ((k : Int) < (t : Int) * 2) = true := by simp; omega
  have H := Lib.hid h
  clear h
  go_enter Try.func42, Try.ntmps42
  go_wp2_with fail
  refine (many_nd H.out).mono ?_
  rintro e w' ⟨rfl, rfl⟩
  go_wp2
  go_ret
  exact ⟨rfl, rfl⟩
theorem has_no {w : World} {p b t : Nat} (h : Nd w p b t) (k : Int) (hk : k < 0 ∨ 2 * (t : Int) ≤ k) : Calls Try.prog 42 #[.pointer (some ⟨p, 0, none⟩), .int .i64 k] w (Ret (.bool false) (fun w' => w = w')) := by
  have t64 := h.t64
  have H := Lib.hid h
  clear h
  by_cases h0 : 0 ≤ k
  · have h0' : decide (0 ≤ k) = true := by simpa using h0
    have hb : decide (k < (t : Int) * 2) = false := by simp; omega
    go_enter Try.func42, Try.ntmps42
    go_wp2_with fail
    refine (many_nd H.out).mono ?_
    rintro e w' ⟨rfl, rfl⟩
    go_wp2
    go_ret
    exact ⟨rfl, rfl⟩
  · have h0' : decide (0 ≤ k) = false := by simpa using h0
    go_enter Try.func42, Try.ntmps42
    go_wp2
    go_ret
    exact ⟨rfl, rfl⟩
theorem has_z {w : World} {v : Value} (h : Zv w v) (k : Int) : Calls Try.prog 42 #[v, .int .i64 k] w (Ret (.bool false) (fun w' => w = w')) := by
  have H := Lib.hid h
  clear h
  by_cases h0 : 0 ≤ k
  · have h0' : decide (0 ≤ k) = true := by simpa using h0
    have hb : decide (k < 0) = false := by simpa using h0
    go_enter Try.func42, Try.ntmps42
    go_wp2_with fail
    refine (many_z H.out).mono ?_
    rintro e w' ⟨rfl, rfl⟩
    go_wp2
    go_ret
    exact ⟨rfl, rfl⟩
  · have h0' : decide (0 ≤ k) = false := by simpa using h0
    go_enter Try.func42, Try.ntmps42
    go_wp2
    go_ret
    exact ⟨rfl, rfl⟩

theorem word_yes {w : World} {p b t : Nat} (h : Nd w p b t) (fit : b + 6 * t ≤ 65536) (k : Nat) (hk : k < 2 * t) (i : Nat) (hi : i < 3) : Calls Try.prog 30 #[.pointer (some ⟨p, 0, none⟩), .int .i64 k, .int .i64 i] w (Ret (.int .i64 ((b : Int) + (k : Int) * 3 + (i : Int))) (fun w' => w = w')) := by
  have t64 := h.t64
  obtain ⟨c0, c1⟩ := h.at_
  have H := Lib.hid h
  clear h
  go_enter Try.func30, Try.ntmps30
  go_wp2_with fail
  refine (has_yes H.out k hk).mono ?_
  rintro e w' ⟨rfl, rfl⟩
  go_wp2
  go_ret
  exact ⟨rfl, rfl⟩
theorem word_no {w : World} {p b t : Nat} (h : Nd w p b t) (k : Int) (hk : k < 0 ∨ 2 * (t : Int) ≤ k) (i : Int) : Calls Try.prog 30 #[.pointer (some ⟨p, 0, none⟩), .int .i64 k, .int .i64 i] w (Ret (.int .i64 (-1)) (fun w' => w = w')) := by
  have H := Lib.hid h
  have HK := Lib.hid hk
  clear h hk
  go_enter Try.func30, Try.ntmps30
  go_wp2_with fail
  refine (has_no H.out k HK.out).mono ?_
  rintro e w' ⟨rfl, rfl⟩
  go_wp2
  go_ret
  exact ⟨rfl, rfl⟩
theorem word_z {w : World} {v : Value} (h : Zv w v) (k i : Int) : Calls Try.prog 30 #[v, .int .i64 k, .int .i64 i] w (Ret (.int .i64 (-1)) (fun w' => w = w')) := by
  have H := Lib.hid h
  clear h
  go_enter Try.func30, Try.ntmps30
  go_wp2_with fail
  refine (has_z H.out k).mono ?_
  rintro e w' ⟨rfl, rfl⟩
  go_wp2
  go_ret
  exact ⟨rfl, rfl⟩

theorem next_yes {w : World} {p b t : Nat} (h : Nd w p b t) (fit : b + 6 * t ≤ 65536) (k : Nat) (hk : k < 2 * t) : Calls Try.prog 15 #[.pointer (some ⟨p, 0, none⟩), .int .i64 k] w (Ret (.int .i64 ((b : Int) + (k : Int) * 3 + 0)) (fun w' => w = w')) := by
  have H := Lib.hid h
  clear h
  go_enter Try.func15, Try.ntmps15
  go_wp2_with fail
  refine (word_yes H.out fit k hk 0 (by decide)).mono ?_
  rintro e w' ⟨rfl, rfl⟩
  go_wp2
  go_ret
  exact ⟨rfl, rfl⟩
theorem next_no {w : World} {p b t : Nat} (h : Nd w p b t) (k : Int) (hk : k < 0 ∨ 2 * (t : Int) ≤ k) : Calls Try.prog 15 #[.pointer (some ⟨p, 0, none⟩), .int .i64 k] w (Ret (.int .i64 (-1)) (fun w' => w = w')) := by
  have H := Lib.hid h
  have HK := Lib.hid hk
  clear h hk
  go_enter Try.func15, Try.ntmps15
  go_wp2_with fail
  refine (word_no H.out k HK.out 0).mono ?_
  rintro e w' ⟨rfl, rfl⟩
  go_wp2
  go_ret
  exact ⟨rfl, rfl⟩
theorem next_z {w : World} {v : Value} (h : Zv w v) (k : Int) : Calls Try.prog 15 #[v, .int .i64 k] w (Ret (.int .i64 (-1)) (fun w' => w = w')) := by
  have H := Lib.hid h
  clear h
  go_enter Try.func15, Try.ntmps15
  go_wp2_with fail
  refine (word_z H.out k 0).mono ?_
  rintro e w' ⟨rfl, rfl⟩
  go_wp2
  go_ret
  exact ⟨rfl, rfl⟩

theorem wait_yes {w : World} {p b t : Nat} (h : Nd w p b t) (fit : b + 6 * t ≤ 65536) (k : Nat) (hk : k < 2 * t) : Calls Try.prog 16 #[.pointer (some ⟨p, 0, none⟩), .int .i64 k] w (Ret (.int .i64 ((b : Int) + (k : Int) * 3 + 1)) (fun w' => w = w')) := by
  have H := Lib.hid h
  clear h
  go_enter Try.func16, Try.ntmps16
  go_wp2_with fail
  refine (word_yes H.out fit k hk 1 (by decide)).mono ?_
  rintro e w' ⟨rfl, rfl⟩
  go_wp2
  go_ret
  exact ⟨rfl, rfl⟩
theorem wait_no {w : World} {p b t : Nat} (h : Nd w p b t) (k : Int) (hk : k < 0 ∨ 2 * (t : Int) ≤ k) : Calls Try.prog 16 #[.pointer (some ⟨p, 0, none⟩), .int .i64 k] w (Ret (.int .i64 (-1)) (fun w' => w = w')) := by
  have H := Lib.hid h
  have HK := Lib.hid hk
  clear h hk
  go_enter Try.func16, Try.ntmps16
  go_wp2_with fail
  refine (word_no H.out k HK.out 1).mono ?_
  rintro e w' ⟨rfl, rfl⟩
  go_wp2
  go_ret
  exact ⟨rfl, rfl⟩
theorem wait_z {w : World} {v : Value} (h : Zv w v) (k : Int) : Calls Try.prog 16 #[v, .int .i64 k] w (Ret (.int .i64 (-1)) (fun w' => w = w')) := by
  have H := Lib.hid h
  clear h
  go_enter Try.func16, Try.ntmps16
  go_wp2_with fail
  refine (word_z H.out k 1).mono ?_
  rintro e w' ⟨rfl, rfl⟩
  go_wp2
  go_ret
  exact ⟨rfl, rfl⟩

#print axioms wait_yes
end Go.Proofs.Ytoieedlkffmcgaa
