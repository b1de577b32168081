/- Package mcs: store; the words of nodes. -/
import Derived.Test.YtoieedlkffmcgaaMcP
namespace Go.Proofs.Ytoieedlkffmcgaa
open Go.ChangeShapes Go.WideShapes Go.ChangeAt Go.RowKit

theorem m_store (p : Nat) (w : World) : (method 260 29 (.pointer (some ⟨p, 0, none⟩)) "Store").run Try.prog w = .ok (24, .pointer (some ⟨p, 0, none⟩)) w := by kernel_rfl
theorem m_load (p : Nat) (w : World) : (method 249 29 (.pointer (some ⟨p, 0, none⟩)) "Load").run Try.prog w = .ok (20, .pointer (some ⟨p, 0, none⟩)) w := by kernel_rfl
theorem m_swap (p : Nat) (w : World) : (method 249 29 (.pointer (some ⟨p, 0, none⟩)) "Swap").run Try.prog w = .ok (103, .pointer (some ⟨p, 0, none⟩)) w := by kernel_rfl
theorem m_cas (p : Nat) (w : World) : (method 249 29 (.pointer (some ⟨p, 0, none⟩)) "CAS").run Try.prog w = .ok (102, .pointer (some ⟨p, 0, none⟩)) w := by kernel_rfl
theorem n_swap (p : Nat) (w : World) : (nilAhead 249 29 (.pointer (some ⟨p, 0, none⟩)) "Swap").run Try.prog w = .ok (some false) w := by kernel_rfl
theorem n_load (p : Nat) (w : World) : (nilAhead 249 29 (.pointer (some ⟨p, 0, none⟩)) "Load").run Try.prog w = .ok (some false) w := by kernel_rfl
theorem n_cas (p : Nat) (w : World) : (nilAhead 249 29 (.pointer (some ⟨p, 0, none⟩)) "CAS").run Try.prog w = .ok (some false) w := by kernel_rfl

section
variable {w : World} {p d c : Nat} {ws : List Int} {q : Nat} {T : TypeId} {b t L k : Nat} {st met : Int}

/-- What is true behind a step: the arena, the program. -/
def Aft (p d c q : Nat) (T : TypeId) (b t L k : Nat) (w : World) (ws : List Int) (st met : Int) (w' : World) : Prop :=
  Frm [d, q] w w' ∧ MemAt w' p d c ws ∧ PgC w' q T b t L k st met

set_option maxRecDepth 100000 in
theorem cstore_ok (hM : MemAt w p d c ws) (hP : PgC w q T b t L k st met) (hd : q ≠ d) (hp : q ≠ p) (x : Nat) (v s : Int) (hx : x < ws.length) :
    Calls Try.prog 83 #[.pointer (some ⟨q, 0, none⟩), .iface 29 (.pointer (some ⟨p, 0, none⟩)), .int .i64 x, .int .u64 v, .int .i64 s] w
      (Ret (.tuple #[.bool false, .int .i64 0]) (Aft p d c q T b t L k w (ws.set x v) s met)) := by
  have hm := m_store p
  have HM := Lib.hid hM
  have HP := Lib.hid hP
  have HX := Lib.hid hx
  clear hM hP hx
  go_enter Try.func83, Try.ntmps83
  go_wp2_with fail
  refine (Store_ok HM.out x v HX.out).mono ?_
  rintro e w1 ⟨rfl, hF1, hM1⟩
  have hP1 := HP.out.frm hF1 (by simpa using hd)
  obtain ⟨c0, c1, c2, c3, c4, c5⟩ := hP1.cells
  have z4 := hP1.frz 4
  have H1 := Lib.hid hP1
  have HM1 := Lib.hid hM1
  clear hP1 hM1
  go_wp2
  go_ret2
  exact ⟨rfl, (hF1.weak (by simp)).setCell _ _ (.inl (by simp)), HM1.out.setFar _ _ hp hd, H1.out.setSt s⟩
set_option maxRecDepth 100000 in
theorem cstore_out (hM : MemAt w p d c ws) (hP : PgC w q T b t L k st met) (hd : q ≠ d) (x : Nat) (v s : Int) (hx : ws.length ≤ x) :
    Calls Try.prog 83 #[.pointer (some ⟨q, 0, none⟩), .iface 29 (.pointer (some ⟨p, 0, none⟩)), .int .i64 x, .int .u64 v, .int .i64 s] w
      (Ret (.tuple #[.bool false, .int .i64 3]) (Aft p d c q T b t L k w ws st met)) := by
  have hm := m_store p
  have HM := Lib.hid hM
  have HP := Lib.hid hP
  have HX := Lib.hid hx
  clear hM hP hx
  go_enter Try.func83, Try.ntmps83
  go_wp2_with fail
  refine (Store_out HM.out x v HX.out).mono ?_
  rintro e w1 ⟨rfl, hF1, hM1⟩
  have hP1 := HP.out.frm hF1 (by simpa using hd)
  have H1 := Lib.hid hP1
  have HM1 := Lib.hid hM1
  clear hP1 hM1
  go_wp2
  go_ret2
  exact ⟨rfl, hF1.weak (by simp), HM1.out, H1.out⟩


/-- The words next and wait of a node. -/
def nxW (b k : Nat) : Nat := b + k * 3
def wtW (b k : Nat) : Nat := b + k * 3 + 1
theorem cnext (h : PgC w q T b t L k st met) : Calls Try.prog 15 #[.pointer (some ⟨q, 0, none⟩), .int .i64 k] w (Ret (.int .i64 (nxW b k : Nat)) (fun w' => w = w')) := by
  refine (next_yes h.nd h.fit k h.kt).mono fun e w' hh => ?_
  have : ((b : Int) + (k : Int) * 3 + 0) = ((nxW b k : Nat) : Int) := by unfold nxW; omega
  rw [this] at hh; exact hh
theorem cwait (h : PgC w q T b t L k st met) : Calls Try.prog 16 #[.pointer (some ⟨q, 0, none⟩), .int .i64 k] w (Ret (.int .i64 (wtW b k : Nat)) (fun w' => w = w')) := by
  refine (wait_yes h.nd h.fit k h.kt).mono fun e w' hh => ?_
  have : ((b : Int) + (k : Int) * 3 + 1) = ((wtW b k : Nat) : Int) := by unfold wtW; omega
  rw [this] at hh; exact hh
theorem cnextx (h : PgC w q T b t L k st met) (x : Nat) (h1 : 1 ≤ x) (h2 : x ≤ 2 * t) : Calls Try.prog 15 #[.pointer (some ⟨q, 0, none⟩), .int .i64 ((x : Int) - 1)] w (Ret (.int .i64 (nxW b (x - 1) : Nat)) (fun w' => w = w')) := by
  have e : ((x : Int) - 1) = ((x - 1 : Nat) : Int) := by omega
  rw [e]
  refine (next_yes h.nd h.fit (x - 1) (by omega)).mono fun e w' hh => ?_
  have : ((b : Int) + ((x - 1 : Nat) : Int) * 3 + 0) = ((nxW b (x - 1) : Nat) : Int) := by unfold nxW; omega
  rw [this] at hh; exact hh
theorem cwaitx (h : PgC w q T b t L k st met) (x : Nat) (h1 : 1 ≤ x) (h2 : x ≤ 2 * t) : Calls Try.prog 16 #[.pointer (some ⟨q, 0, none⟩), .int .i64 ((x : Int) - 1)] w (Ret (.int .i64 (wtW b (x - 1) : Nat)) (fun w' => w = w')) := by
  have e : ((x : Int) - 1) = ((x - 1 : Nat) : Int) := by omega
  rw [e]
  refine (wait_yes h.nd h.fit (x - 1) (by omega)).mono fun e w' hh => ?_
  have : ((b : Int) + ((x - 1 : Nat) : Int) * 3 + 1) = ((wtW b (x - 1) : Nat) : Int) := by unfold wtW; omega
  rw [this] at hh; exact hh
end
end Go.Proofs.Ytoieedlkffmcgaa
