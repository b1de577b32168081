/- Package qnode: Of, Owner, Ref, Node. -/
import Derived.Test.YtoieedlkffmcgaaMcA
namespace Go.Proofs.Ytoieedlkffmcgaa
open Go.ChangeShapes Go.WideShapes Go.ChangeAt Go.RowKit

theorem owner_z {w : World} {v : Value} (h : Zv w v) (k : Int) : Calls Try.prog 48 #[v, .int .i64 k] w (Ret (.tuple #[.int .i64 0, .int .i64 1]) (fun w' => w = w')) := by
  have H := Lib.hid h
  clear h
  go_enter Try.func48, Try.ntmps48
  go_wp2_with fail
  refine (none_z H.out).mono ?_
  rintro e w' ⟨rfl, rfl⟩
  go_wp2
  go_ret2
  exact ⟨rfl, rfl⟩

theorem ref_z {w : World} {v : Value} (h : Zv w v) (k : Int) : Calls Try.prog 90 #[v, .int .i64 k] w (Ret (.tuple #[.int .u64 0, .int .i64 1]) (fun w' => w = w')) := by
  have H := Lib.hid h
  clear h
  go_enter Try.func90, Try.ntmps90
  go_wp2_with fail
  refine (none_z H.out).mono ?_
  rintro e w' ⟨rfl, rfl⟩
  go_wp2
  go_ret2
  exact ⟨rfl, rfl⟩

theorem node_z {w : World} {v : Value} (h : Zv w v) (x : Int) : Calls Try.prog 91 #[v, .int .u64 x] w (Ret (.tuple #[.int .i64 0, .int .i64 1]) (fun w' => w = w')) := by
  have H := Lib.hid h
  clear h
  go_enter Try.func91, Try.ntmps91
  go_wp2_with fail
  refine (none_z H.out).mono ?_
  rintro e w' ⟨rfl, rfl⟩
  go_wp2
  go_ret2
  exact ⟨rfl, rfl⟩

theorem owner_yes {w : World} {p b t : Nat} (h : Nd w p b t) (k : Nat) (hk : k < 2 * t) : Calls Try.prog 48 #[.pointer (some ⟨p, 0, none⟩), .int .i64 k] w (Ret (.tuple #[.int .i64 ((k : Int) / 2), .int .i64 0]) (fun w' => w = w')) := by
  have t64 := h.t64
  have H := Lib.hid h
  clear h
  go_enter Try.func48, Try.ntmps48
  go_wp2_with fail
  refine (none_nd H.out).mono ?_
  rintro e w' ⟨rfl, rfl⟩
  go_wp2_with fail
  refine (has_yes H.out k hk).mono ?_
  rintro e w' ⟨rfl, rfl⟩
  go_wp2
  go_ret2
  exact ⟨rfl, rfl⟩
theorem owner_no {w : World} {p b t : Nat} (h : Nd w p b t) (k : Int) (hk : k < 0 ∨ 2 * (t : Int) ≤ k) : Calls Try.prog 48 #[.pointer (some ⟨p, 0, none⟩), .int .i64 k] w (Ret (.tuple #[.int .i64 0, .int .i64 9]) (fun w' => w = w')) := by
  have H := Lib.hid h
  have HK := Lib.hid hk
  clear h hk
  go_enter Try.func48, Try.ntmps48
  go_wp2_with fail
  refine (none_nd H.out).mono ?_
  rintro e w' ⟨rfl, rfl⟩
  go_wp2_with fail
  refine (has_no H.out k HK.out).mono ?_
  rintro e w' ⟨rfl, rfl⟩
  go_wp2
  go_ret2
  exact ⟨rfl, rfl⟩

theorem u64_nat (k : Nat) (h : k < 100000) : IntKind.u64.wrap (k : Int) = k := by rw [IntKind.wrap_u64]; omega
theorem u64_nat1 (k : Nat) (h : k < 100000) : IntKind.u64.wrap ((k : Int) + 1) = (k : Int) + 1 := by rw [IntKind.wrap_u64]; omega
theorem ref_yes {w : World} {p b t : Nat} (h : Nd w p b t) (k : Nat) (hk : k < 2 * t) : Calls Try.prog 90 #[.pointer (some ⟨p, 0, none⟩), .int .i64 k] w (Ret (.tuple #[.int .u64 ((k : Int) + 1), .int .i64 0]) (fun w' => w = w')) := by
  have t64 := h.t64
  have H := Lib.hid h
  have hu := u64_nat k (by omega)
  have hu1 := u64_nat1 k (by omega)
  clear h
  go_enter Try.func90, Try.ntmps90
  go_wp2_with fail
  refine (none_nd H.out).mono ?_
  rintro e w' ⟨rfl, rfl⟩
  go_wp2_with fail
  refine (has_yes H.out k hk).mono ?_
  rintro e w' ⟨rfl, rfl⟩
  go_wp2
  go_ret2
  exact ⟨rfl, rfl⟩
theorem ref_no {w : World} {p b t : Nat} (h : Nd w p b t) (k : Int) (hk : k < 0 ∨ 2 * (t : Int) ≤ k) : Calls Try.prog 90 #[.pointer (some ⟨p, 0, none⟩), .int .i64 k] w (Ret (.tuple #[.int .u64 0, .int .i64 9]) (fun w' => w = w')) := by
  have H := Lib.hid h
  have HK := Lib.hid hk
  clear h hk
  go_enter Try.func90, Try.ntmps90
  go_wp2_with fail
  refine (none_nd H.out).mono ?_
  rintro e w' ⟨rfl, rfl⟩
  go_wp2_with fail
  refine (has_no H.out k HK.out).mono ?_
  rintro e w' ⟨rfl, rfl⟩
  go_wp2
  go_ret2
  exact ⟨rfl, rfl⟩

theorem node_yes {w : World} {p b t : Nat} (h : Nd w p b t) (x : Nat) (hx : x ≤ 2 * t) : Calls Try.prog 91 #[.pointer (some ⟨p, 0, none⟩), .int .u64 x] w (Ret (.tuple #[.int .i64 ((x : Int) - 1), .int .i64 0]) (fun w' => w = w')) := by
  have t64 := h.t64
  have H := Lib.hid h
  have hu : IntKind.u64.wrap ((t : Int) * 2) = (t : Int) * 2 := by rw [IntKind.wrap_u64]; omega
  have hi : IntKind.i64.wrap (x : Int) = (x : Int) := IntWalk.i64_in _ (by omega)
  have hb : decide ((t : Int) * 2 < (x : Int)) = false := by simp; omega
  clear h
  go_enter Try.func91, Try.ntmps91
  go_wp2_with fail
  refine (none_nd H.out).mono ?_
  rintro e w' ⟨rfl, rfl⟩
  go_wp2_with fail
  refine (many_nd H.out).mono ?_
  rintro e w' ⟨rfl, rfl⟩
  go_wp2
  go_ret2
  exact ⟨rfl, rfl⟩
theorem node_no {w : World} {p b t : Nat} (h : Nd w p b t) (x : Int) (hx : 2 * (t : Int) < x) : Calls Try.prog 91 #[.pointer (some ⟨p, 0, none⟩), .int .u64 x] w (Ret (.tuple #[.int .i64 0, .int .i64 12]) (fun w' => w = w')) := by
  have t64 := h.t64
  have H := Lib.hid h
  have hu : IntKind.u64.wrap ((t : Int) * 2) = (t : Int) * 2 := by rw [IntKind.wrap_u64]; omega
  have hb : decide ((t : Int) * 2 < x) = true := by simp; omega
  clear h
  go_enter Try.func91, Try.ntmps91
  go_wp2_with fail
  refine (none_nd H.out).mono ?_
  rintro e w' ⟨rfl, rfl⟩
  go_wp2_with fail
  refine (many_nd H.out).mono ?_
  rintro e w' ⟨rfl, rfl⟩
  go_wp2
  go_ret2
  exact ⟨rfl, rfl⟩

#print axioms node_no
end Go.Proofs.Ytoieedlkffmcgaa
