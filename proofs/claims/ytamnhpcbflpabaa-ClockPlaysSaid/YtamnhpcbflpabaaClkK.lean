/- Package clock: clearing an alarm. -/
import Derived.Test.YtamnhpcbflpabaaClkJ
namespace Go.Proofs.Ytamnhpcbflpabaa
open Go.ChangeShapes Go.WideShapes Go.ChangeAt Go.RowKit

def cErr (l : List Al) (id : Int) : Int := if 0 ≤ idx l id then 0 else 9
def cL (l : List Al) (id : Int) : List Al := if 0 ≤ idx l id then l.eraseIdx (idxN l id) else l

theorem clear_nil (w : World) (id : Int) : Calls Try.prog 20 #[.pointer none, .int .i64 id] w (Ret (.int .i64 1) (fun w' => w = w')) := by
  go_enter Try.func20, Try.ntmps20
  go_wp2_with (go_at_call 27; refine (none_nil _).mono ?_; rintro e w' ⟨rfl, rfl⟩)
  go_ret
  exact ⟨rfl, rfl⟩
theorem clear_zero (w : World) (p : Nat) (hz : w.cell? ⟨p, 0, none⟩ = some (.bool false)) (id : Int) : Calls Try.prog 20 #[.pointer (some ⟨p, 0, none⟩), .int .i64 id] w (Ret (.int .i64 1) (fun w' => w = w')) := by
  go_enter Try.func20, Try.ntmps20
  go_wp2_with (go_at_call 27; refine (none_zero _ _ hz).mono ?_; rintro e w' ⟨rfl, rfl⟩)
  go_ret
  exact ⟨rfl, rfl⟩
theorem next_nil (w : World) : Calls Try.prog 21 #[.pointer none] w (Ret (.int .i64 0) (fun w' => w = w')) := by
  go_enter Try.func21, Try.ntmps21
  go_wp2_with (go_at_call 27; refine (none_nil _).mono ?_; rintro e w' ⟨rfl, rfl⟩)
  go_ret
  exact ⟨rfl, rfl⟩
theorem next_zero (w : World) (p : Nat) (hz : w.cell? ⟨p, 0, none⟩ = some (.bool false)) : Calls Try.prog 21 #[.pointer (some ⟨p, 0, none⟩)] w (Ret (.int .i64 0) (fun w' => w = w')) := by
  go_enter Try.func21, Try.ntmps21
  go_wp2_with (go_at_call 27; refine (none_zero _ _ hz).mono ?_; rintro e w' ⟨rfl, rfl⟩)
  go_ret
  exact ⟨rfl, rfl⟩
theorem now_nil (w : World) : Calls Try.prog 22 #[.pointer none] w (Ret (.int .i64 0) (fun w' => w = w')) := by
  go_enter Try.func22, Try.ntmps22
  go_wp2_with (go_at_call 27; refine (none_nil _).mono ?_; rintro e w' ⟨rfl, rfl⟩)
  go_ret
  exact ⟨rfl, rfl⟩
theorem now_zero (w : World) (p : Nat) (hz : w.cell? ⟨p, 0, none⟩ = some (.bool false)) : Calls Try.prog 22 #[.pointer (some ⟨p, 0, none⟩)] w (Ret (.int .i64 0) (fun w' => w = w')) := by
  go_enter Try.func22, Try.ntmps22
  go_wp2_with (go_at_call 27; refine (none_zero _ _ hz).mono ?_; rintro e w' ⟨rfl, rfl⟩)
  go_ret
  exact ⟨rfl, rfl⟩
theorem alarms_nil (w : World) : Calls Try.prog 19 #[.pointer none] w (Ret (.slice none 0 0) (fun w' => w = w')) := by
  go_enter Try.func19, Try.ntmps19
  go_wp2_with (go_at_call 27; refine (none_nil _).mono ?_; rintro e w' ⟨rfl, rfl⟩)
  go_ret
  exact ⟨rfl, rfl⟩
theorem alarms_zero (w : World) (p : Nat) (hz : w.cell? ⟨p, 0, none⟩ = some (.bool false)) : Calls Try.prog 19 #[.pointer (some ⟨p, 0, none⟩)] w (Ret (.slice none 0 0) (fun w' => w = w')) := by
  go_enter Try.func19, Try.ntmps19
  go_wp2_with (go_at_call 27; refine (none_zero _ _ hz).mono ?_; rintro e w' ⟨rfl, rfl⟩)
  go_ret
  exact ⟨rfl, rfl⟩
theorem copy_nil (w : World) : Calls Try.prog 14 #[.pointer none] w (Ret (.pointer none) (fun w' => w = w')) := by
  go_enter Try.func14, Try.ntmps14
  go_wp2_with (go_at_call 27; refine (none_nil _).mono ?_; rintro e w' ⟨rfl, rfl⟩)
  go_ret
  exact ⟨rfl, rfl⟩
theorem copy_zero (w : World) (p : Nat) (hz : w.cell? ⟨p, 0, none⟩ = some (.bool false)) : Calls Try.prog 14 #[.pointer (some ⟨p, 0, none⟩)] w (Ret (.pointer none) (fun w' => w = w')) := by
  go_enter Try.func14, Try.ntmps14
  go_wp2_with (go_at_call 27; refine (none_zero _ _ hz).mono ?_; rintro e w' ⟨rfl, rfl⟩)
  go_ret
  exact ⟨rfl, rfl⟩

set_option maxHeartbeats 1000000 in
theorem clear_none {w : World} {p : Nat} {now : Int} {v : Value} {l : List Al} (hK : ClockAt w p now v l) (hl : l.length ≤ 4096) (id : Int) (hi : idx l id < 0) :
    Calls Try.prog 20 #[.pointer (some ⟨p, 0, none⟩), .int .i64 id] w (Ret (.int .i64 9) (fun w' => Frm [] w w')) := by
  have hb2 : decide (idx l id < 0) = true := by simpa using hi
  go_enter Try.func20, Try.ntmps20
  go_wp2_with (first | (go_at_call 27; refine (none_clk hK).mono ?_; rintro e w' ⟨rfl, rfl⟩) | (go_at_call 29; refine (index_clk hK hl _).mono ?_; rintro e w1 ⟨rfl, hF1⟩))
  go_ret
  exact ⟨rfl, hF1⟩
set_option maxHeartbeats 1000000 in
theorem clear_some {w : World} {p : Nat} {now : Int} {v : Value} {l : List Al} (hK : ClockAt w p now v l) (hl : l.length ≤ 4096) (id : Int) (N : Nat) (hi : idx l id = N) (hN : N < l.length) :
    Calls Try.prog 20 #[.pointer (some ⟨p, 0, none⟩), .int .i64 id] w (fun e w' => ∃ v', Ret (.int .i64 0) (fun w' => Frm (p :: blk v) w w' ∧ ClockAt w' p now v' (l.eraseIdx N) ∧ ∀ x ∈ blk v', x ∈ blk v ∨ w.heap.size ≤ x) e w') := by
  have hI := index_clk hK hl id
  rw [hi] at hI
  have HI := Lib.hid hI
  clear hI hi
  go_enter Try.func20, Try.ntmps20
  go_wp2_with fail
  refine (none_clk hK).mono ?_
  rintro e w' ⟨rfl, rfl⟩
  go_wp2_with fail
  refine HI.out.mono ?_
  rintro e w1 ⟨rfl, hF1⟩
  have hK1 := hK.frm0 hF1
  have k2 := hK1.c2
  go_wp2_with fail
  refine (delete_any hK1.own hl hN).mono ?_
  rintro e w3 ⟨xa, xn, xc, rfl, hF3, hO3, hb3⟩
  have hP3 := hF3.heap hK1.obj hK1.ne
  have c2 : w3.cell? ⟨p, 2, none⟩ = some v := (cell_of_heap hP3).trans rfl
  have c3 : w3.frozen? ⟨p, 2, none⟩ = false := frozen_of_heap hP3
  have hpl := hK1.plt
  have HP3 := Lib.hid hP3
  clear hP3 k2
  go_wp2
  go_ret
  obtain ⟨e1, e2, e3⟩ := set_end hF1 hF3 HP3.out hK1.ne hpl hO3 hb3
  exact ⟨_, rfl, e1, e2, e3⟩
theorem clear_any {w : World} {p : Nat} {now : Int} {v : Value} {l : List Al} (hK : ClockAt w p now v l) (hl : l.length ≤ 4096) (id : Int) :
    Calls Try.prog 20 #[.pointer (some ⟨p, 0, none⟩), .int .i64 id] w (fun e w' => ∃ v', Ret (.int .i64 (cErr l id)) (fun w' => Frm (p :: blk v) w w' ∧ ClockAt w' p now v' (cL l id) ∧ ∀ x ∈ blk v', x ∈ blk v ∨ w.heap.size ≤ x) e w') := by
  by_cases h1 : 0 ≤ idx l id
  · have e1 : cErr l id = 0 := by unfold cErr; rw [if_pos h1]
    have e2 : cL l id = l.eraseIdx (idxN l id) := by unfold cL; rw [if_pos h1]
    rw [e1, e2]
    have hN : idxN l id < l.length := by
      by_cases hh : idxN l id < l.length
      · exact hh
      · unfold idx at h1; rw [if_neg hh] at h1; omega
    exact clear_some hK hl id (idxN l id) (by unfold idx; rw [if_pos hN]) hN
  · have e1 : cErr l id = 9 := by unfold cErr; rw [if_neg h1]
    have e2 : cL l id = l := by unfold cL; rw [if_neg h1]
    rw [e1, e2]
    exact (clear_none hK hl id (by omega)).mono fun e w' hh => ⟨v, hh.1, hh.2.nil, hK.frm0 hh.2, fun x hx => .inl hx⟩
end Go.Proofs.Ytamnhpcbflpabaa
