/- Package qnode: where nodes lie; nil and zero Nodes; none, Threads, many, has, Base, Len. -/
import Derived.Test.YtclcgmadilcdgaaBase
import Derived.IntWalk
namespace Go.Proofs.Ytclcgmadilcdgaa
open Go.ChangeShapes Go.WideShapes Go.ChangeAt Go.RowKit

/-- A block holds the Nodes of t threads from the word b on. -/
structure Nd (w : World) (p b t : Nat) : Prop where
  at_ : w.heap[p]? = some (.cells #[.int .i64 b, .int .i64 t] 43 (0, 0))
  t1 : 1 ≤ t
  t64 : t ≤ 64
/-- A nil or zero Nodes. -/
def Zv (w : World) (v : Value) : Prop := v = .pointer none ∨ ∃ p, v = .pointer (some ⟨p, 0, none⟩) ∧ w.heap[p]? = some (.cells #[.int .i64 0, .int .i64 0] 43 (0, 0))

theorem cells2 {w : World} {b : Nat} {x0 x1 : Value} {t : TypeId} (h : w.heap[b]? = some (.cells #[x0, x1] t (0, 0))) :
    w.cell? ⟨b, 0, none⟩ = some x0 ∧ w.cell? ⟨b, 1, none⟩ = some x1 := by
  refine ⟨?_, ?_⟩ <;> rw [cell_of_heap h] <;> rfl
theorem Nd.frm {w w' : World} {p b t : Nat} (h : Nd w p b t) (hf : Frm [] w w') : Nd w' p b t := ⟨hf.heap h.at_ (by simp), h.t1, h.t64⟩
theorem Zv.frm {w w' : World} {v : Value} (h : Zv w v) (hf : Frm [] w w') : Zv w' v := by
  rcases h with h | ⟨p, h, hp⟩
  · exact .inl h
  · exact .inr ⟨p, h, hf.heap hp (by simp)⟩
theorem Zv.nil (w : World) : Zv w (.pointer none) := .inl rfl

theorem none_nd {w : World} {p b t : Nat} (h : Nd w p b t) : Calls Try.prog 29 #[.pointer (some ⟨p, 0, none⟩)] w (Ret (.bool false) (fun w' => w = w')) := by
  obtain ⟨c0, c1⟩ := cells2 h.at_
  have ht := h.t1
  have hb : ((t : Int) == 0) = false := by simp; omega
  have hl := lt_of_heap h.at_
  clear h
  go_enter Try.func29, Try.ntmps29
  go_wp2
  go_ret
  exact ⟨rfl, rfl⟩
theorem none_z {w : World} {v : Value} (h : Zv w v) : Calls Try.prog 29 #[v] w (Ret (.bool true) (fun w' => w = w')) := by
  rcases h with rfl | ⟨p, rfl, h⟩
  · go_enter Try.func29, Try.ntmps29
    go_wp2
    go_ret
    exact ⟨rfl, rfl⟩
  · obtain ⟨c0, c1⟩ := cells2 h
    clear h
    go_enter Try.func29, Try.ntmps29
    go_wp2
    go_ret
    exact ⟨rfl, rfl⟩

theorem threads_nd {w : World} {p b t : Nat} (h : Nd w p b t) : Calls Try.prog 13 #[.pointer (some ⟨p, 0, none⟩)] w (Ret (.int .i64 t) (fun w' => w = w')) := by
  obtain ⟨c0, c1⟩ := cells2 h.at_
  have H := Lib.hid h
  clear h
  go_enter Try.func13, Try.ntmps13
  go_wp2_with fail
  refine (none_nd H.out).mono ?_
  rintro e w' ⟨rfl, rfl⟩
  go_wp2
  go_ret
  exact ⟨rfl, rfl⟩
theorem threads_z {w : World} {v : Value} (h : Zv w v) : Calls Try.prog 13 #[v] w (Ret (.int .i64 0) (fun w' => w = w')) := by
  have H := Lib.hid h
  clear h
  go_enter Try.func13, Try.ntmps13
  go_wp2_with fail
  refine (none_z H.out).mono ?_
  rintro e w' ⟨rfl, rfl⟩
  go_wp2
  go_ret
  exact ⟨rfl, rfl⟩

theorem base_nd {w : World} {p b t : Nat} (h : Nd w p b t) : Calls Try.prog 12 #[.pointer (some ⟨p, 0, none⟩)] w (Ret (.int .i64 b) (fun w' => w = w')) := by
  obtain ⟨c0, c1⟩ := cells2 h.at_
  have H := Lib.hid h
  clear h
  go_enter Try.func12, Try.ntmps12
  go_wp2_with fail
  refine (none_nd H.out).mono ?_
  rintro e w' ⟨rfl, rfl⟩
  go_wp2
  go_ret
  exact ⟨rfl, rfl⟩
theorem base_z {w : World} {v : Value} (h : Zv w v) : Calls Try.prog 12 #[v] w (Ret (.int .i64 0) (fun w' => w = w')) := by
  have H := Lib.hid h
  clear h
  go_enter Try.func12, Try.ntmps12
  go_wp2_with fail
  refine (none_z H.out).mono ?_
  rintro e w' ⟨rfl, rfl⟩
  go_wp2
  go_ret
  exact ⟨rfl, rfl⟩

theorem many_nd {w : World} {p b t : Nat} (h : Nd w p b t) : Calls Try.prog 30 #[.pointer (some ⟨p, 0, none⟩)] w (Ret (.int .i64 ((t : Int) * 2)) (fun w' => w = w')) := by
  have t64 := h.t64
  have H := Lib.hid h
  clear h
  go_enter Try.func30, Try.ntmps30
  go_wp2_with fail
  refine (threads_nd H.out).mono ?_
  rintro e w' ⟨rfl, rfl⟩
  go_wp2
  go_ret
  exact ⟨rfl, rfl⟩
theorem many_z {w : World} {v : Value} (h : Zv w v) : Calls Try.prog 30 #[v] w (Ret (.int .i64 0) (fun w' => w = w')) := by
  have H := Lib.hid h
  clear h
  go_enter Try.func30, Try.ntmps30
  go_wp2_with fail
  refine (threads_z H.out).mono ?_
  rintro e w' ⟨rfl, rfl⟩
  go_wp2
  go_ret
  exact ⟨rfl, rfl⟩
theorem len_nd {w : World} {p b t : Nat} (h : Nd w p b t) : Calls Try.prog 14 #[.pointer (some ⟨p, 0, none⟩)] w (Ret (.int .i64 ((t : Int) * 2 * 3)) (fun w' => w = w')) := by
  have t64 := h.t64
  have H := Lib.hid h
  clear h
  go_enter Try.func14, Try.ntmps14
  go_wp2_with fail
  refine (many_nd H.out).mono ?_
  rintro e w' ⟨rfl, rfl⟩
  go_wp2
  go_ret
  exact ⟨rfl, rfl⟩
theorem len_z {w : World} {v : Value} (h : Zv w v) : Calls Try.prog 14 #[v] w (Ret (.int .i64 0) (fun w' => w = w')) := by
  have H := Lib.hid h
  clear h
  go_enter Try.func14, Try.ntmps14
  go_wp2_with fail
  refine (many_z H.out).mono ?_
  rintro e w' ⟨rfl, rfl⟩
  go_wp2
  go_ret
  exact ⟨rfl, rfl⟩

theorem has_yes {w : World} {p b t : Nat} (h : Nd w p b t) (k : Nat) (hk : k < 2 * t) : Calls Try.prog 35 #[.pointer (some ⟨p, 0, none⟩), .int .i64 k] w (Ret (.bool true) (fun w' => w = w')) := by
  have t64 := h.t64
  have hb : decide ((k : Int) < (t : Int) * 2) = true := by simp; omega
  have H := Lib.hid h
  clear h
  go_enter Try.func35, Try.ntmps35
  go_wp2_with fail
  refine (many_nd H.out).mono ?_
  rintro e w' ⟨rfl, rfl⟩
  go_wp2
  go_ret
  exact ⟨rfl, rfl⟩
theorem has_no {w : World} {p b t : Nat} (h : Nd w p b t) (k : Int) (hk : k < 0 ∨ 2 * (t : Int) ≤ k) : Calls Try.prog 35 #[.pointer (some ⟨p, 0, none⟩), .int .i64 k] w (Ret (.bool false) (fun w' => w = w')) := by
  have t64 := h.t64
  have H := Lib.hid h
  clear h
  by_cases h0 : 0 ≤ k
  · have h0' : decide (0 ≤ k) = true := by simpa using h0
    have hb : decide (k < (t : Int) * 2) = false := by simp; omega
    go_enter Try.func35, Try.ntmps35
    go_wp2_with fail
    refine (many_nd H.out).mono ?_
    rintro e w' ⟨rfl, rfl⟩
    go_wp2
    go_ret
    exact ⟨rfl, rfl⟩
  · have h0' : decide (0 ≤ k) = false := by simpa using h0
    go_enter Try.func35, Try.ntmps35
    go_wp2
    go_ret
    exact ⟨rfl, rfl⟩
theorem has_z {w : World} {v : Value} (h : Zv w v) (k : Int) : Calls Try.prog 35 #[v, .int .i64 k] w (Ret (.bool false) (fun w' => w = w')) := by
  have H := Lib.hid h
  clear h
  by_cases h0 : 0 ≤ k
  · have h0' : decide (0 ≤ k) = true := by simpa using h0
    have hb : decide (k < 0) = false := by simpa using h0
    go_enter Try.func35, Try.ntmps35
    go_wp2_with fail
    refine (many_z H.out).mono ?_
    rintro e w' ⟨rfl, rfl⟩
    go_wp2
    go_ret
    exact ⟨rfl, rfl⟩
  · have h0' : decide (0 ≤ k) = false := by simpa using h0
    go_enter Try.func35, Try.ntmps35
    go_wp2
    go_ret
    exact ⟨rfl, rfl⟩

theorem word_yes {w : World} {p b t : Nat} (h : Nd w p b t) (fit : b + 6 * t ≤ 65536) (k : Nat) (hk : k < 2 * t) (i : Nat) (hi : i < 3) : Calls Try.prog 32 #[.pointer (some ⟨p, 0, none⟩), .int .i64 k, .int .i64 i] w (Ret (.int .i64 ((b : Int) + (k : Int) * 3 + (i : Int))) (fun w' => w = w')) := by
  have t64 := h.t64
  obtain ⟨c0, c1⟩ := cells2 h.at_
  have H := Lib.hid h
  clear h
  go_enter Try.func32, Try.ntmps32
  go_wp2_with fail
  refine (has_yes H.out k hk).mono ?_
  rintro e w' ⟨rfl, rfl⟩
  go_wp2
  go_ret
  exact ⟨rfl, rfl⟩
theorem word_no {w : World} {p b t : Nat} (h : Nd w p b t) (k : Int) (hk : k < 0 ∨ 2 * (t : Int) ≤ k) (i : Int) : Calls Try.prog 32 #[.pointer (some ⟨p, 0, none⟩), .int .i64 k, .int .i64 i] w (Ret (.int .i64 (-1)) (fun w' => w = w')) := by
  have H := Lib.hid h
  have HK := Lib.hid hk
  clear h hk
  go_enter Try.func32, Try.ntmps32
  go_wp2_with fail
  refine (has_no H.out k HK.out).mono ?_
  rintro e w' ⟨rfl, rfl⟩
  go_wp2
  go_ret
  exact ⟨rfl, rfl⟩
theorem word_z {w : World} {v : Value} (h : Zv w v) (k i : Int) : Calls Try.prog 32 #[v, .int .i64 k, .int .i64 i] w (Ret (.int .i64 (-1)) (fun w' => w = w')) := by
  have H := Lib.hid h
  clear h
  go_enter Try.func32, Try.ntmps32
  go_wp2_with fail
  refine (has_z H.out k).mono ?_
  rintro e w' ⟨rfl, rfl⟩
  go_wp2
  go_ret
  exact ⟨rfl, rfl⟩

theorem next_yes {w : World} {p b t : Nat} (h : Nd w p b t) (fit : b + 6 * t ≤ 65536) (k : Nat) (hk : k < 2 * t) : Calls Try.prog 19 #[.pointer (some ⟨p, 0, none⟩), .int .i64 k] w (Ret (.int .i64 ((b : Int) + (k : Int) * 3 + 0)) (fun w' => w = w')) := by
  have H := Lib.hid h
  clear h
  go_enter Try.func19, Try.ntmps19
  go_wp2_with fail
  refine (word_yes H.out fit k hk 0 (by decide)).mono ?_
  rintro e w' ⟨rfl, rfl⟩
  go_wp2
  go_ret
  exact ⟨rfl, rfl⟩
theorem next_no {w : World} {p b t : Nat} (h : Nd w p b t) (k : Int) (hk : k < 0 ∨ 2 * (t : Int) ≤ k) : Calls Try.prog 19 #[.pointer (some ⟨p, 0, none⟩), .int .i64 k] w (Ret (.int .i64 (-1)) (fun w' => w = w')) := by
  have H := Lib.hid h
  have HK := Lib.hid hk
  clear h hk
  go_enter Try.func19, Try.ntmps19
  go_wp2_with fail
  refine (word_no H.out k HK.out 0).mono ?_
  rintro e w' ⟨rfl, rfl⟩
  go_wp2
  go_ret
  exact ⟨rfl, rfl⟩
theorem next_z {w : World} {v : Value} (h : Zv w v) (k : Int) : Calls Try.prog 19 #[v, .int .i64 k] w (Ret (.int .i64 (-1)) (fun w' => w = w')) := by
  have H := Lib.hid h
  clear h
  go_enter Try.func19, Try.ntmps19
  go_wp2_with fail
  refine (word_z H.out k 0).mono ?_
  rintro e w' ⟨rfl, rfl⟩
  go_wp2
  go_ret
  exact ⟨rfl, rfl⟩

theorem wait_yes {w : World} {p b t : Nat} (h : Nd w p b t) (fit : b + 6 * t ≤ 65536) (k : Nat) (hk : k < 2 * t) : Calls Try.prog 21 #[.pointer (some ⟨p, 0, none⟩), .int .i64 k] w (Ret (.int .i64 ((b : Int) + (k : Int) * 3 + 1)) (fun w' => w = w')) := by
  have H := Lib.hid h
  clear h
  go_enter Try.func21, Try.ntmps21
  go_wp2_with fail
  refine (word_yes H.out fit k hk 1 (by decide)).mono ?_
  rintro e w' ⟨rfl, rfl⟩
  go_wp2
  go_ret
  exact ⟨rfl, rfl⟩
theorem wait_no {w : World} {p b t : Nat} (h : Nd w p b t) (k : Int) (hk : k < 0 ∨ 2 * (t : Int) ≤ k) : Calls Try.prog 21 #[.pointer (some ⟨p, 0, none⟩), .int .i64 k] w (Ret (.int .i64 (-1)) (fun w' => w = w')) := by
  have H := Lib.hid h
  have HK := Lib.hid hk
  clear h hk
  go_enter Try.func21, Try.ntmps21
  go_wp2_with fail
  refine (word_no H.out k HK.out 1).mono ?_
  rintro e w' ⟨rfl, rfl⟩
  go_wp2
  go_ret
  exact ⟨rfl, rfl⟩
theorem wait_z {w : World} {v : Value} (h : Zv w v) (k : Int) : Calls Try.prog 21 #[v, .int .i64 k] w (Ret (.int .i64 (-1)) (fun w' => w = w')) := by
  have H := Lib.hid h
  clear h
  go_enter Try.func21, Try.ntmps21
  go_wp2_with fail
  refine (word_z H.out k 1).mono ?_
  rintro e w' ⟨rfl, rfl⟩
  go_wp2
  go_ret
  exact ⟨rfl, rfl⟩

theorem mode_yes {w : World} {p b t : Nat} (h : Nd w p b t) (fit : b + 6 * t ≤ 65536) (k : Nat) (hk : k < 2 * t) : Calls Try.prog 23 #[.pointer (some ⟨p, 0, none⟩), .int .i64 k] w (Ret (.int .i64 ((b : Int) + (k : Int) * 3 + 2)) (fun w' => w = w')) := by
  have H := Lib.hid h
  clear h
  go_enter Try.func23, Try.ntmps23
  go_wp2_with fail
  refine (word_yes H.out fit k hk 2 (by decide)).mono ?_
  rintro e w' ⟨rfl, rfl⟩
  go_wp2
  go_ret
  exact ⟨rfl, rfl⟩
theorem mode_no {w : World} {p b t : Nat} (h : Nd w p b t) (k : Int) (hk : k < 0 ∨ 2 * (t : Int) ≤ k) : Calls Try.prog 23 #[.pointer (some ⟨p, 0, none⟩), .int .i64 k] w (Ret (.int .i64 (-1)) (fun w' => w = w')) := by
  have H := Lib.hid h
  have HK := Lib.hid hk
  clear h hk
  go_enter Try.func23, Try.ntmps23
  go_wp2_with fail
  refine (word_no H.out k HK.out 2).mono ?_
  rintro e w' ⟨rfl, rfl⟩
  go_wp2
  go_ret
  exact ⟨rfl, rfl⟩
theorem mode_z {w : World} {v : Value} (h : Zv w v) (k : Int) : Calls Try.prog 23 #[v, .int .i64 k] w (Ret (.int .i64 (-1)) (fun w' => w = w')) := by
  have H := Lib.hid h
  clear h
  go_enter Try.func23, Try.ntmps23
  go_wp2_with fail
  refine (word_z H.out k 2).mono ?_
  rintro e w' ⟨rfl, rfl⟩
  go_wp2
  go_ret
  exact ⟨rfl, rfl⟩
#print axioms mode_yes
end Go.Proofs.Ytclcgmadilcdgaa
