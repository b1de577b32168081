/- The reference: Key, Value, at, head, threaded, needs. -/
import Derived.Test.YtegoggnocpgoiaaScrO
namespace Go.Proofs.Ytegoggnocpgoiaa
open Go.ChangeShapes Go.WideShapes Go.ChangeAt Go.RowKit

theorem strOf_append (l m : List Int) : strOfNums (l ++ m) = strOfNums l ++ strOfNums m := by
  apply ByteArray.ext
  simp [strOfNums]
theorem strOf_rep (x : Int) (n : Nat) : strOfNums (List.replicate n x) = reps (UInt8.ofNat x.toNat) n := by
  unfold strOfNums reps; simp
theorem conv_row {B : Nat} {w : World} {a : Option Addr} {n c : Nat} {l : List Int} (h : RowU B w a n c l) : (convert 22 9 (.slice a n c)).run Try.prog w = .ok (.string (strOfNums l)) w := by
  obtain ⟨b, hL⟩ := h.li
  by_cases hn : 0 < n
  · obtain rfl := hL.ad hn
    exact conv_u8s l hL.len (fun i hi => by
      obtain ⟨x, _, h2, h3⟩ := hL.get hi
      rw [h2]; exact h3)
  · obtain rfl : n = 0 := by omega
    obtain rfl : l = [] := List.eq_nil_of_length_eq_zero hL.len
    obtain ⟨_, h1, _, h2⟩ := own_form h.1
    cases a with
    | none => exact run_convert_bytes_nil w 22 5 Try.underlying22 Try.underlying5 0 c 9 Try.underlying9
    | some a =>
      have := conv_u8s (w := w) (b := a.block) (o := a.off) (n := 0) (c := c) [] rfl (fun i hi => by omega)
      obtain ⟨h0, hh⟩ := h.1
      rcases hh with ⟨hv, _⟩ | ⟨g, cap, cur, hv, _⟩
      · cases hv
      · cases hv; exact this

theorem valL_reps {x : Int} (h0 : 0 ≤ x) : reps (UInt8.ofNat (97 + x % 26).toNat) (x % 41).toNat = valB x := by
  unfold reps valB valL
  rw [show (97 + x % 26).toNat = 97 + x.toNat % 26 by omega, show (x % 41).toNat = x.toNat % 41 by omega]

set_option maxRecDepth 100000 in
set_option maxHeartbeats 2000000 in
theorem rval_any (x : Int) (h0 : 0 ≤ x) (h1 : x ≤ 255) (w : World) :
    Calls Try.prog 20 #[.int .i64 x] w (Ret (.string (valB x)) (fun w' => Frm [] w w')) := by
  obtain ⟨M, hM⟩ : ∃ M : Nat, x % 41 = (M : Int) := ⟨(x % 41).toNat, by omega⟩
  obtain ⟨Y, hY⟩ : ∃ Y : Int, 97 + x % 26 = Y := ⟨_, rfl⟩
  have hY0 : 0 ≤ Y ∧ Y ≤ 255 := by omega
  have hv : strOfNums (List.replicate M Y) = valB x := by
    rw [strOf_rep, ← hY, ← valL_reps h0, hM]; simp
  have hM2 : M ≤ 40 := by omega
  have HV := Lib.hid hv
  clear hv
  go_enter Try.func20, Try.ntmps20
  go_wp2_with fail
  go_loopw [3, 4] (fun v i w' => ∃ (k : Nat) (a' : Option Addr) (c' : Nat), k ≤ M ∧ i = .int .i64 k ∧ v = .slice a' k c' ∧ Frm [] w w' ∧ Hid (RowU w.heap.size w' a' k c' (List.replicate k Y))) (fun _ i _ => M - (intOf i).toNat)
  case atStart => exact ⟨0, none, 0, by omega, rfl, rfl, Frm.refl _ _, Lib.hid (RowU.nil _ _)⟩
  case round =>
    obtain ⟨k, a', c', hk, rfl, rfl, hF, HR⟩ := hrel
    by_cases hlt : k < M
    · have hb1 : (k : Int) < (M : Int) := by omega
      go_wp2_with (at_builtin; refine wpl_appU rfl (.tmp 11) (.tmp 16) rfl (B := w.heap.size) (a := a') (n := k) (c := c') (m := 1) (l := List.replicate k Y) (l2 := [Y]) (by simp [Act.eval]) (by simp [Act.eval]) (HR.out.frm0 ((Frm.refl _ _).alloc _)) (li_u8 (n := 1) rfl (heap_alloc_new _ _)) (by simp; omega) (by have := hF.size; simp; omega) ?_; intro a3 c3 w3 hR3 hF3)
      have hF4 : Frm [] w w3 := (hF.alloc (.cells #[.int .u8 Y] 5)).trans_new hF3 (fun j hj => .inr (HR.out.blk j hj).1)
      have HR3 := Lib.hid hR3
      clear hR3 hF3
      go_wp2
      go_roundw
      case rel => exact ⟨k + 1, a3, c3, by omega, by go_num, rfl, hF4, by rw [List.replicate_succ']; exact HR3⟩
      case measure => simp [intOf]; omega
    · obtain rfl : k = M := by omega
      have hcv := conv_row HR.out
      rw [HV.out] at hcv
      go_wp2
      go_ret
      exact ⟨rfl, hF⟩

theorem keyB_of {x : Int} (h0 : 0 ≤ x) (h1 : x ≤ 255) : strOfNums ([97 + x / 16, 97 + x % 16] ++ List.replicate (x % 23).toNat 120) = keyB x := by
  rw [strOf_append, strOf_rep]
  exact key_eq h0 h1

set_option maxRecDepth 100000 in
set_option maxHeartbeats 2000000 in
theorem rkey_any (x : Int) (h0 : 0 ≤ x) (h1 : x ≤ 255) (w : World) :
    Calls Try.prog 18 #[.int .i64 x] w (Ret (.string (keyB x)) (fun w' => Frm [] w w')) := by
  obtain ⟨M, hM⟩ : ∃ M : Nat, x % 23 = (M : Int) := ⟨(x % 23).toNat, by omega⟩
  have hv := keyB_of h0 h1
  rw [hM] at hv
  obtain ⟨Y, hY⟩ : ∃ Y : Int, 97 + x / 16 = Y := ⟨_, rfl⟩
  obtain ⟨Z, hZ⟩ : ∃ Y : Int, 97 + x % 16 = Y := ⟨_, rfl⟩
  have hY0 : 0 ≤ Y ∧ Y ≤ 255 := by omega
  have hZ0 : 0 ≤ Z ∧ Z ≤ 255 := by omega
  rw [hY, hZ] at hv
  have hv2 : strOfNums ([Y, Z] ++ List.replicate M 120) = keyB x := by simpa using hv
  have hM2 : M ≤ 22 := by omega
  have HV := Lib.hid hv2
  clear hv hv2
  go_enter Try.func18, Try.ntmps18
  go_wp2_with fail
  go_loopw [3, 4] (fun v i w' => ∃ (k : Nat) (a' : Option Addr) (c' : Nat), k ≤ M ∧ i = .int .i64 k ∧ v = .slice a' (2 + k : Nat) c' ∧ Frm [] w w' ∧ Hid (RowU w.heap.size w' a' (2 + k) c' ([Y, Z] ++ List.replicate k 120))) (fun _ i _ => M - (intOf i).toNat)
  case atStart => exact ⟨0, _, _, by omega, rfl, rfl, (Frm.refl _ _).alloc _, Lib.hid (rowU_new (l := [Y, Z]) rfl (by omega) (heap_alloc_new _ _) (Nat.le_refl _))⟩
  case round =>
    obtain ⟨k, a', c', hk, rfl, rfl, hF, HR⟩ := hrel
    by_cases hlt : k < M
    · have hb1 : (k : Int) < (M : Int) := by omega
      go_wp2_with (at_builtin; refine wpl_appU rfl (.tmp 20) (.tmp 21) rfl (B := w.heap.size) (a := a') (n := 2 + k) (c := c') (m := 1) (l := [Y, Z] ++ List.replicate k 120) (l2 := [120]) (by simp [Act.eval]) (by simp [Act.eval]) (HR.out.frm0 ((Frm.refl _ _).alloc _)) (li_u8 (n := 1) rfl (heap_alloc_new _ _)) (by simp; omega) (by have := hF.size; simp; omega) ?_; intro a3 c3 w3 hR3 hF3)
      have hF4 : Frm [] w w3 := (hF.alloc (.cells #[.int .u8 120] 5)).trans_new hF3 (fun j hj => .inr (HR.out.blk j hj).1)
      have HR3 := Lib.hid hR3
      clear hR3 hF3
      go_wp2
      go_roundw
      case rel => exact ⟨k + 1, a3, c3, by omega, by go_num, rfl, hF4, by rw [List.replicate_succ', ← List.append_assoc]; exact HR3⟩
      case measure => simp [intOf]; omega
    · obtain rfl : k = M := by omega
      have hcv := conv_row HR.out
      rw [HV.out] at hcv
      go_wp2
      go_ret
      exact ⟨rfl, hF⟩

theorem at_any {w : World} {a : Option Addr} {n c b o : Nat} {l : List Int} (hL : Li .u8 w a n c b o l) (hB : Byt l) (i : Nat) : Calls Try.prog 26 #[.slice a n c, .int .i64 (i : Int)] w (Ret (.int .i64 (l.getD i 0)) (fun w' => w = w')) := by
  by_cases hlt : i < n
  · obtain ⟨x, hx, hg, hc⟩ := hL.get hlt
    have hix := ix_u8 (c := c) hL.ad hlt
    have hb : decide (n ≤ i) = false := by simp; omega
    obtain ⟨x0, x1⟩ := hB x (List.mem_of_getElem? hx)
    rw [hg]
    clear hL hx hg
    go_enter Try.func26, Try.ntmps26
    go_wp2
    go_ret
    exact ⟨rfl, rfl⟩
  · have hb : decide (n ≤ i) = true := by simp; omega
    have hg : l.getD i 0 = 0 := by
      rw [List.getD_eq_getElem?_getD, List.getElem?_eq_none (by have := hL.len; omega)]; rfl
    rw [hg]
    clear hL hg
    go_enter Try.func26, Try.ntmps26
    go_wp2
    go_ret
    exact ⟨rfl, rfl⟩

/-- What the first two bytes say, but for the thread. -/
def hd (x p : Int) : Opr :=
  if x % 8 = 3 then ⟨2, 0, p, 0, noB, noB, noB, 0⟩ else if x % 8 = 4 then ⟨4, 0, p % 8 + 1, 0, noB, noB, noB, 0⟩
  else if 5 ≤ x % 8 then ⟨3, 0, 0, p % 8 + 1, noB, noB, noB, p / 8⟩ else ⟨1, 0, p % 16 + 1, 0, noB, noB, noB, 0⟩
set_option maxHeartbeats 1000000 in
theorem head_any (w : World) (x p : Int) (x0 : 0 ≤ x) (p0 : 0 ≤ p) (p1 : p ≤ 255) : Calls Try.prog 27 #[.int .i64 x, .int .i64 p] w (Ret (.agg #[.int .i64 (hd x p).k, .int .i64 (hd x p).t, .int .i64 (hd x p).n, .int .i64 (hd x p).v, .string (hd x p).key, .string (hd x p).val, .string (hd x p).old, .int .i64 (hd x p).tk]) (fun w' => Frm [] w w')) := by
  by_cases h3 : x % 8 = 3
  · have e : hd x p = ⟨2, 0, p, 0, noB, noB, noB, 0⟩ := by unfold hd; rw [if_pos h3]
    rw [e]
    have b3 : (x % 8 == 3) = true := by simpa using h3
    clear e h3
    go_enter Try.func27, Try.ntmps27
    go_wp2
    exact bodyPost_ret (v := .agg #[.int .i64 2, .int .i64 0, .int .i64 p, .int .i64 0, .string noB, .string noB, .string noB, .int .i64 0]) (by simp [results, Try.results27, go_sem]) rfl ⟨rfl, (Frm.refl _ _).alloc _⟩
  · have b3 : (x % 8 == 3) = false := by simpa using h3
    by_cases h4 : x % 8 = 4
    · have e : hd x p = ⟨4, 0, p % 8 + 1, 0, noB, noB, noB, 0⟩ := by unfold hd; rw [if_neg h3, if_pos h4]
      rw [e]
      have b4 : (x % 8 == 4) = true := by simpa using h4
      clear e h3 h4
      go_enter Try.func27, Try.ntmps27
      go_wp2
      exact bodyPost_ret (v := .agg #[.int .i64 4, .int .i64 0, .int .i64 (p % 8 + 1), .int .i64 0, .string noB, .string noB, .string noB, .int .i64 0]) (by simp [results, Try.results27, go_sem]) rfl ⟨rfl, (Frm.refl _ _).alloc _⟩
    · have b4 : (x % 8 == 4) = false := by simpa using h4
      by_cases h5 : 5 ≤ x % 8
      · have e : hd x p = ⟨3, 0, 0, p % 8 + 1, noB, noB, noB, p / 8⟩ := by unfold hd; rw [if_neg h3, if_neg h4, if_pos h5]
        rw [e]
        have hw : ((x % 8 == 5) = true) ∨ ((x % 8 == 5) = false ∧ (x % 8 == 6) = true) ∨ ((x % 8 == 5) = false ∧ (x % 8 == 6) = false ∧ (x % 8 == 7) = true) := by simp; omega
        clear e h3 h4 h5
        rcases hw with b5 | ⟨b5, b6⟩ | ⟨b5, b6, b7⟩
        all_goals
          go_enter Try.func27, Try.ntmps27
          go_wp2
          exact bodyPost_ret (v := .agg #[.int .i64 3, .int .i64 0, .int .i64 0, .int .i64 (p % 8 + 1), .string noB, .string noB, .string noB, .int .i64 (p / 8)]) (by simp [results, Try.results27, go_sem]) rfl ⟨rfl, (Frm.refl _ _).alloc _⟩
      · have e : hd x p = ⟨1, 0, p % 16 + 1, 0, noB, noB, noB, 0⟩ := by unfold hd; rw [if_neg h3, if_neg h4, if_neg h5]
        rw [e]
        have b5 : (x % 8 == 5) = false := by simp; omega
        have b6 : (x % 8 == 6) = false := by simp; omega
        have b7 : (x % 8 == 7) = false := by simp; omega
        clear e h3 h4 h5
        go_enter Try.func27, Try.ntmps27
        go_wp2
        exact bodyPost_ret (v := .agg #[.int .i64 1, .int .i64 0, .int .i64 (p % 16 + 1), .int .i64 0, .string noB, .string noB, .string noB, .int .i64 0]) (by simp [results, Try.results27, go_sem]) rfl ⟨rfl, (Frm.refl _ _).alloc _⟩

def thB (k : Int) : Bool := decide (k = 1 ∨ k = 3)
theorem threaded_any (w : World) (k : Int) : Calls Try.prog 28 #[.int .i64 k] w (Ret (.bool (thB k)) (fun w' => w = w')) := by
  by_cases h1 : k = 1
  · subst h1
    have e : thB 1 = true := rfl
    rw [e]
    clear e
    go_enter Try.func28, Try.ntmps28
    go_wp2
    go_ret
    exact ⟨rfl, rfl⟩
  · have b1 : (k == 1) = false := by simpa using h1
    by_cases h3 : k = 3
    · subst h3
      have e : thB 3 = true := rfl
      rw [e]
      clear e h1 b1
      go_enter Try.func28, Try.ntmps28
      go_wp2
      go_ret
      exact ⟨rfl, rfl⟩
    · have b3 : (k == 3) = false := by simpa using h3
      have e : thB k = false := by unfold thB; simp [h1, h3]
      rw [e]
      clear e h1 h3
      go_enter Try.func28, Try.ntmps28
      go_wp2
      go_ret
      exact ⟨rfl, rfl⟩

/-- The letters of what a verb needs. -/
def nds (v : Int) : ByteArray := if vc v = 1 then ⟨#[107]⟩ else if vc v = 2 then ⟨#[107, 118]⟩ else if vc v = 3 then ⟨#[107, 111, 118]⟩ else if vc v = 4 then ⟨#[107, 110]⟩ else noB
theorem rneeds_any (w : World) (v : Int) : Calls Try.prog 29 #[.int .i64 v] w (Ret (.string (nds v)) (fun w' => w = w')) := by
  rcases vc_cases v with hv | hv | hv | hv | hv
  · have e : nds v = noB := by unfold nds; simp [hv]
    rw [e]
    obtain ⟨a1, a2, a3, a4, a5, a6⟩ := vc_0 hv
    have b1 : (v == 1) = false := by simpa using a1
    have b2 : (v == 4) = false := by simpa using a2
    have b3 : (v == 2) = false := by simpa using a3
    have b4 : (v == 3) = false := by simpa using a4
    have b5 : (v == 5) = false := by simpa using a5
    have b6 : (v == 6) = false := by simpa using a6
    clear hv a1 a2 a3 a4 a5 a6 e
    go_enter Try.func29, Try.ntmps29
    go_wp2
    go_ret
    exact ⟨rfl, rfl⟩
  · have e : nds v = ⟨#[107]⟩ := by unfold nds; simp [hv]
    rw [e]
    rcases vc_1 hv with rfl | rfl
    all_goals
      clear hv e
      go_enter Try.func29, Try.ntmps29
      go_wp2
      go_ret
      exact ⟨rfl, rfl⟩
  · have e : nds v = ⟨#[107, 118]⟩ := by unfold nds; simp [hv]
    rw [e]
    rcases vc_2 hv with rfl | rfl
    all_goals
      clear hv e
      go_enter Try.func29, Try.ntmps29
      go_wp2
      go_ret
      exact ⟨rfl, rfl⟩
  · have e : nds v = ⟨#[107, 111, 118]⟩ := by unfold nds; simp [hv]
    rw [e]
    obtain rfl := vc_3 hv
    clear hv e
    go_enter Try.func29, Try.ntmps29
    go_wp2
    go_ret
    exact ⟨rfl, rfl⟩
  · have e : nds v = ⟨#[107, 110]⟩ := by unfold nds; simp [hv]
    rw [e]
    obtain rfl := vc_4 hv
    clear hv e
    go_enter Try.func29, Try.ntmps29
    go_wp2
    go_ret
    exact ⟨rfl, rfl⟩
end Go.Proofs.Ytegoggnocpgoiaa
