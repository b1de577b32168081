/- Package qnode: Of, Owner, Ref, Node. -/
import Derived.Test.YtclcgmadilcdgaaQndA
namespace Go.Proofs.Ytclcgmadilcdgaa
open Go.ChangeShapes Go.WideShapes Go.ChangeAt Go.RowKit

theorem of_z {w : World} {v : Value} (h : Zv w v) (a k : Int) : Calls Try.prog 27 #[v, .int .i64 a, .int .i64 k] w (Ret (.tuple #[.int .i64 0, .int .i64 1]) (fun w' => w = w')) := by
  have H := Lib.hid h
  clear h
  go_enter Try.func27, Try.ntmps27
  go_wp2_with fail
  refine (none_z H.out).mono ?_
  rintro e w' ⟨rfl, rfl⟩
  go_wp2
  go_ret2
  exact ⟨rfl, rfl⟩

theorem owner_z {w : World} {v : Value} (h : Zv w v) (k : Int) : Calls Try.prog 31 #[v, .int .i64 k] w (Ret (.tuple #[.int .i64 0, .int .i64 1]) (fun w' => w = w')) := by
  have H := Lib.hid h
  clear h
  go_enter Try.func31, Try.ntmps31
  go_wp2_with fail
  refine (none_z H.out).mono ?_
  rintro e w' ⟨rfl, rfl⟩
  go_wp2
  go_ret2
  exact ⟨rfl, rfl⟩

theorem ref_z {w : World} {v : Value} (h : Zv w v) (k : Int) : Calls Try.prog 28 #[v, .int .i64 k] w (Ret (.tuple #[.int .u64 0, .int .i64 1]) (fun w' => w = w')) := by
  have H := Lib.hid h
  clear h
  go_enter Try.func28, Try.ntmps28
  go_wp2_with fail
  refine (none_z H.out).mono ?_
  rintro e w' ⟨rfl, rfl⟩
  go_wp2
  go_ret2
  exact ⟨rfl, rfl⟩

theorem node_z {w : World} {v : Value} (h : Zv w v) (x : Int) : Calls Try.prog 34 #[v, .int .u64 x] w (Ret (.tuple #[.int .i64 0, .int .i64 1]) (fun w' => w = w')) := by
  have H := Lib.hid h
  clear h
  go_enter Try.func34, Try.ntmps34
  go_wp2_with fail
  refine (none_z H.out).mono ?_
  rintro e w' ⟨rfl, rfl⟩
  go_wp2
  go_ret2
  exact ⟨rfl, rfl⟩

theorem of_yes {w : World} {p b t : Nat} (h : Nd w p b t) (a k : Nat) (ha : a < t) (hk : k < 2) : Calls Try.prog 27 #[.pointer (some ⟨p, 0, none⟩), .int .i64 a, .int .i64 k] w (Ret (.tuple #[.int .i64 ((a : Int) * 2 + (k : Int)), .int .i64 0]) (fun w' => w = w')) := by
  have t64 := h.t64
  obtain ⟨c0, c1⟩ := cells2 h.at_
  have H := Lib.hid h
  have hb1 : decide ((t : Int) ≤ (a : Int)) = false := by simp; omega
  have hb1' : decide (t ≤ a) = false := by simp; omega
  have hb2 : decide (1 < (k : Int)) = false := by simp; omega
  have hb2' : decide (1 < k) = false := by simp; omega
  clear h
  go_enter Try.func27, Try.ntmps27
  go_wp2_with fail
  refine (none_nd H.out).mono ?_
  rintro e w' ⟨rfl, rfl⟩
  go_wp2
  go_ret2
  exact ⟨rfl, rfl⟩
theorem of_no {w : World} {p b t : Nat} (h : Nd w p b t) (a k : Int) (hk : a < 0 ∨ (t : Int) ≤ a ∨ k < 0 ∨ 1 < k) : Calls Try.prog 27 #[.pointer (some ⟨p, 0, none⟩), .int .i64 a, .int .i64 k] w (Ret (.tuple #[.int .i64 0, .int .i64 2]) (fun w' => w = w')) := by
  have t64 := h.t64
  obtain ⟨c0, c1⟩ := cells2 h.at_
  have H := Lib.hid h
  clear h
  by_cases h1 : a < 0
  · have hb1 : decide (a < 0) = true := by simpa using h1
    go_enter Try.func27, Try.ntmps27
    go_wp2_with fail
    refine (none_nd H.out).mono ?_
    rintro e w' ⟨rfl, rfl⟩
    go_wp2
    go_ret2
    exact ⟨rfl, rfl⟩
  · have hb1 : decide (a < 0) = false := by simpa using h1
    by_cases h2 : (t : Int) ≤ a
    · have hb2 : decide ((t : Int) ≤ a) = true := by simpa using h2
      go_enter Try.func27, Try.ntmps27
      go_wp2_with fail
      refine (none_nd H.out).mono ?_
      rintro e w' ⟨rfl, rfl⟩
      go_wp2
      go_ret2
      exact ⟨rfl, rfl⟩
    · have hb2 : decide ((t : Int) ≤ a) = false := by simpa using h2
      by_cases h3 : k < 0
      · have hb3 : decide (k < 0) = true := by simpa using h3
        go_enter Try.func27, Try.ntmps27
        go_wp2_with fail
        refine (none_nd H.out).mono ?_
        rintro e w' ⟨rfl, rfl⟩
        go_wp2
        go_ret2
        exact ⟨rfl, rfl⟩
      · have hb3 : decide (k < 0) = false := by simpa using h3
        have hb4 : decide (1 < k) = true := by simp; omega
        go_enter Try.func27, Try.ntmps27
        go_wp2_with fail
        refine (none_nd H.out).mono ?_
        rintro e w' ⟨rfl, rfl⟩
        go_wp2
        go_ret2
        exact ⟨rfl, rfl⟩

theorem owner_yes {w : World} {p b t : Nat} (h : Nd w p b t) (k : Nat) (hk : k < 2 * t) : Calls Try.prog 31 #[.pointer (some ⟨p, 0, none⟩), .int .i64 k] w (Ret (.tuple #[.int .i64 ((k : Int) / 2), .int .i64 0]) (fun w' => w = w')) := by
  have t64 := h.t64
  have H := Lib.hid h
  clear h
  go_enter Try.func31, Try.ntmps31
  go_wp2_with fail
  refine (none_nd H.out).mono ?_
  rintro e w' ⟨rfl, rfl⟩
  go_wp2_with fail
  refine (has_yes H.out k hk).mono ?_
  rintro e w' ⟨rfl, rfl⟩
  go_wp2
  go_ret2
  exact ⟨rfl, rfl⟩
theorem owner_no {w : World} {p b t : Nat} (h : Nd w p b t) (k : Int) (hk : k < 0 ∨ 2 * (t : Int) ≤ k) : Calls Try.prog 31 #[.pointer (some ⟨p, 0, none⟩), .int .i64 k] w (Ret (.tuple #[.int .i64 0, .int .i64 9]) (fun w' => w = w')) := by
  have H := Lib.hid h
  have HK := Lib.hid hk
  clear h hk
  go_enter Try.func31, Try.ntmps31
  go_wp2_with fail
  refine (none_nd H.out).mono ?_
  rintro e w' ⟨rfl, rfl⟩
  go_wp2_with fail
  refine (has_no H.out k HK.out).mono ?_
  rintro e w' ⟨rfl, rfl⟩
  go_wp2
  go_ret2
  exact ⟨rfl, rfl⟩

theorem u64_nat (k : Nat) (h : k < 100000) : IntKind.u64.wrap (k : Int) = k := by rw [IntKind.wrap_u64]; omega
theorem u64_nat1 (k : Nat) (h : k < 100000) : IntKind.u64.wrap ((k : Int) + 1) = (k : Int) + 1 := by rw [IntKind.wrap_u64]; omega
theorem ref_yes {w : World} {p b t : Nat} (h : Nd w p b t) (k : Nat) (hk : k < 2 * t) : Calls Try.prog 28 #[.pointer (some ⟨p, 0, none⟩), .int .i64 k] w (Ret (.tuple #[.int .u64 ((k : Int) + 1), .int .i64 0]) (fun w' => w = w')) := by
  have t64 := h.t64
  have H := Lib.hid h
  have hu := u64_nat k (by omega)
  have hu1 := u64_nat1 k (by omega)
  clear h
  go_enter Try.func28, Try.ntmps28
  go_wp2_with fail
  refine (none_nd H.out).mono ?_
  rintro e w' ⟨rfl, rfl⟩
  go_wp2_with fail
  refine (has_yes H.out k hk).mono ?_
  rintro e w' ⟨rfl, rfl⟩
  go_wp2
  go_ret2
  exact ⟨rfl, rfl⟩
theorem ref_no {w : World} {p b t : Nat} (h : Nd w p b t) (k : Int) (hk : k < 0 ∨ 2 * (t : Int) ≤ k) : Calls Try.prog 28 #[.pointer (some ⟨p, 0, none⟩), .int .i64 k] w (Ret (.tuple #[.int .u64 0, .int .i64 9]) (fun w' => w = w')) := by
  have H := Lib.hid h
  have HK := Lib.hid hk
  clear h hk
  go_enter Try.func28, Try.ntmps28
  go_wp2_with fail
  refine (none_nd H.out).mono ?_
  rintro e w' ⟨rfl, rfl⟩
  go_wp2_with fail
  refine (has_no H.out k HK.out).mono ?_
  rintro e w' ⟨rfl, rfl⟩
  go_wp2
  go_ret2
  exact ⟨rfl, rfl⟩

theorem node_yes {w : World} {p b t : Nat} (h : Nd w p b t) (x : Nat) (hx : x ≤ 2 * t) : Calls Try.prog 34 #[.pointer (some ⟨p, 0, none⟩), .int .u64 x] w (Ret (.tuple #[.int .i64 ((x : Int) - 1), .int .i64 0]) (fun w' => w = w')) := by
  have t64 := h.t64
  have H := Lib.hid h
  have hu : IntKind.u64.wrap ((t : Int) * 2) = (t : Int) * 2 := by rw [IntKind.wrap_u64]; omega
  have hi : IntKind.i64.wrap (x : Int) = (x : Int) := IntWalk.i64_in _ (by omega)
  have hb : decide ((t : Int) * 2 < (x : Int)) = false := by simp; omega
  clear h
  go_enter Try.func34, Try.ntmps34
  go_wp2_with fail
  refine (none_nd H.out).mono ?_
  rintro e w' ⟨rfl, rfl⟩
  go_wp2_with fail
  refine (many_nd H.out).mono ?_
  rintro e w' ⟨rfl, rfl⟩
  go_wp2
  go_ret2
  exact ⟨rfl, rfl⟩
theorem node_no {w : World} {p b t : Nat} (h : Nd w p b t) (x : Int) (hx : 2 * (t : Int) < x) : Calls Try.prog 34 #[.pointer (some ⟨p, 0, none⟩), .int .u64 x] w (Ret (.tuple #[.int .i64 0, .int .i64 12]) (fun w' => w = w')) := by
  have t64 := h.t64
  have H := Lib.hid h
  have hu : IntKind.u64.wrap ((t : Int) * 2) = (t : Int) * 2 := by rw [IntKind.wrap_u64]; omega
  have hb : decide ((t : Int) * 2 < x) = true := by simp; omega
  clear h
  go_enter Try.func34, Try.ntmps34
  go_wp2_with fail
  refine (none_nd H.out).mono ?_
  rintro e w' ⟨rfl, rfl⟩
  go_wp2_with fail
  refine (many_nd H.out).mono ?_
  rintro e w' ⟨rfl, rfl⟩
  go_wp2
  go_ret2
  exact ⟨rfl, rfl⟩

theorem qof {w : World} {v : Value} {a k : Int} {r e : Int} (h : Calls Try.prog 27 #[v, .int .i64 a, .int .i64 k] w (Ret (.tuple #[.int .i64 r, .int .i64 e]) (fun w' => w = w'))) :
    Calls Try.prog 16 #[v, .int .i64 a, .int .i64 k, .int .i64 r, .int .i64 e] w (Ret (.bool true) (fun w' => w = w')) := by
  have H := Lib.hid h
  clear h
  go_enter Try.func16, Try.ntmps16
  go_wp2_with fail
  refine H.out.mono ?_
  rintro e w' ⟨rfl, rfl⟩
  go_wp2
  go_ret
  exact ⟨rfl, rfl⟩

theorem qowner {w : World} {v : Value} {k : Int} {r e : Int} (h : Calls Try.prog 31 #[v, .int .i64 k] w (Ret (.tuple #[.int .i64 r, .int .i64 e]) (fun w' => w = w'))) :
    Calls Try.prog 18 #[v, .int .i64 k, .int .i64 r, .int .i64 e] w (Ret (.bool true) (fun w' => w = w')) := by
  have H := Lib.hid h
  clear h
  go_enter Try.func18, Try.ntmps18
  go_wp2_with fail
  refine H.out.mono ?_
  rintro e w' ⟨rfl, rfl⟩
  go_wp2
  go_ret
  exact ⟨rfl, rfl⟩

theorem qrefers {w : World} {v : Value} {k : Int} {r e : Int} (h : Calls Try.prog 28 #[v, .int .i64 k] w (Ret (.tuple #[.int .u64 r, .int .i64 e]) (fun w' => w = w'))) :
    Calls Try.prog 25 #[v, .int .i64 k, .int .u64 r, .int .i64 e] w (Ret (.bool true) (fun w' => w = w')) := by
  have H := Lib.hid h
  clear h
  go_enter Try.func25, Try.ntmps25
  go_wp2_with fail
  refine H.out.mono ?_
  rintro e w' ⟨rfl, rfl⟩
  go_wp2
  go_ret
  exact ⟨rfl, rfl⟩

theorem qnode {w : World} {v : Value} {x : Int} {r e : Int} (h : Calls Try.prog 34 #[v, .int .u64 x] w (Ret (.tuple #[.int .i64 r, .int .i64 e]) (fun w' => w = w'))) :
    Calls Try.prog 26 #[v, .int .u64 x, .int .i64 r, .int .i64 e] w (Ret (.bool true) (fun w' => w = w')) := by
  have H := Lib.hid h
  clear h
  go_enter Try.func26, Try.ntmps26
  go_wp2_with fail
  refine H.out.mono ?_
  rintro e w' ⟨rfl, rfl⟩
  go_wp2
  go_ret
  exact ⟨rfl, rfl⟩

#print axioms qnode
end Go.Proofs.Ytclcgmadilcdgaa
