/- Stage 12: instructions, codes as data, and where they lie. -/
import Derived.Test.YtieccmmnfnpcoaaThF
import Derived.Test.YtieccmmnfnpcoaaGr
namespace Go.Proofs.Ytieccmmnfnpcoaa
open Go.ChangeShapes Go.WideShapes Go.ChangeAt Go.RowKit
set_option linter.unusedVariables false

/-- An instruction. -/
structure Ins where
  k : Int
  r : Int
  w : Int
  v : Int
def Ins.cells (x : Ins) : List Value := [.int .i64 x.k, .int .i64 x.r, .int .i64 x.w, .int .u64 x.v]
def Ins.val (x : Ins) : Value := .agg #[.int .i64 x.k, .int .i64 x.r, .int .i64 x.w, .int .u64 x.v]
def ins0 : Ins := ⟨0, 0, 0, 0⟩
/-- An instruction is allowed as one of n. -/
def alw (x : Ins) (n : Nat) : Bool :=
  if x.k = 5 then decide (0 ≤ x.w) && decide (x.w < 65536)
  else if x.k = 8 then (decide (0 ≤ x.r) && decide (x.r < 4)) && (decide (0 ≤ x.w) && decide (x.w < n))
  else if 1 ≤ x.k ∧ x.k ≤ 4 then (decide (0 ≤ x.r) && decide (x.r < 4)) && (decide (0 ≤ x.w) && decide (x.w < 65536))
  else if 6 ≤ x.k ∧ x.k ≤ 9 then decide (0 ≤ x.r) && decide (x.r < 4)
  else false
def insF (l : List Ins) (i : Nat) : List Value := (l.getD i ins0).cells
/-- Instructions at block b. -/
def InsAt (w : World) (b c : Nat) (l : List Ins) : Prop := Gr 74 4 0 w (some ⟨b, 0, none⟩) l.length c (insF l)

/-- A code: its instructions, its registers, the next one, its result. -/
structure Cd where
  l : List Ins
  g : List Int
  nx : Nat
  res : Int
def cdArr (b n c : Nat) (g : List Int) (nx : Nat) (res : Int) : Array Value :=
  (Value.slice (some ⟨b, 0, none⟩) n c :: ((g.map (Value.int .u64)) ++ [.int .i64 nx, .int .u64 res])).toArray
structure CodeAt (w : World) (q b c : Nat) (x : Cd) : Prop where
  obj : w.heap[q]? = some (.cells (cdArr b x.l.length c x.g x.nx x.res) 89 (0, 0))
  row : InsAt w b c x.l
  reg : x.g.length = 4
  pos : 0 < x.l.length
  le : x.l.length ≤ 256
  nle : x.nx ≤ x.l.length
  ok : ∀ (i : Nat) (y : Ins), x.l[i]? = some y → alw y x.l.length = true
namespace CodeAt
variable {w w' : World} {q b c : Nat} {x : Cd}
theorem lt (h : CodeAt w q b c x) : q < w.heap.size := lt_of_heap h.obj
theorem ne (h : CodeAt w q b c x) : q ≠ b := by
  intro e
  have := h.row.ne h.obj (by decide)
  exact this b (by simp [bkG]) e.symm
theorem frm {D : List Nat} (h : CodeAt w q b c x) (hf : Frm D w w') (hq : q ∉ D) (hb : b ∉ D) : CodeAt w' q b c x :=
  ⟨hf.heap h.obj hq, Gr.frm h.row hf (by simpa [bkG] using hb), h.reg, h.pos, h.le, h.nle, h.ok⟩
theorem frm0 (h : CodeAt w q b c x) (hf : Frm [] w w') : CodeAt w' q b c x := h.frm hf (by simp) (by simp)
theorem c0 (h : CodeAt w q b c x) : w.cell? ⟨q, 0, none⟩ = some (.slice (some ⟨b, 0, none⟩) x.l.length c) := by
  rw [cell_of_heap h.obj]; rfl
theorem cr (h : CodeAt w q b c x) {r : Nat} (hr : r < 4) : w.cell? ⟨q, 1 + r, none⟩ = some (.int .u64 (x.g.getD r 0)) := by
  have hg := h.reg
  rw [cell_of_heap h.obj, cdArr, List.getElem?_toArray, show 1 + r = r + 1 by omega, List.getElem?_cons_succ, List.getElem?_append_left (by simp; omega), List.getElem?_map, List.getD_eq_getElem?_getD, List.getElem?_eq_getElem (by omega)]; rfl
theorem c5 (h : CodeAt w q b c x) : w.cell? ⟨q, 5, none⟩ = some (.int .i64 x.nx) := by
  have hg := h.reg
  rw [cell_of_heap h.obj, cdArr, List.getElem?_toArray, List.getElem?_cons_succ, List.getElem?_append_right (by simp; omega)]; simp [hg]
theorem c6 (h : CodeAt w q b c x) : w.cell? ⟨q, 6, none⟩ = some (.int .u64 x.res) := by
  have hg := h.reg
  rw [cell_of_heap h.obj, cdArr, List.getElem?_toArray, List.getElem?_cons_succ, List.getElem?_append_right (by simp; omega)]; simp [hg]
theorem frz (h : CodeAt w q b c x) (k : Nat) : w.frozen? ⟨q, k, none⟩ = false := frozen_of_heap h.obj
theorem ins (h : CodeAt w q b c x) {i : Nat} {y : Ins} (hy : x.l[i]? = some y) :
    w.cell? ⟨b, i * 4, none⟩ = some (.int .i64 y.k) ∧ w.cell? ⟨b, i * 4 + 1, none⟩ = some (.int .i64 y.r) ∧ w.cell? ⟨b, i * 4 + 2, none⟩ = some (.int .i64 y.w) ∧ w.cell? ⟨b, i * 4 + 3, none⟩ = some (.int .u64 y.v) := by
  have hi : i < x.l.length := (List.getElem?_eq_some_iff.1 hy).1
  obtain ⟨g, hg, _, _, _, hc⟩ := Gr.at_ h.row hi
  cases hg
  have e : insF x.l i = y.cells := by rw [insF, List.getD_eq_getElem?_getD, hy]; rfl
  have := hc i hi
  rw [e] at this
  exact ⟨by simpa using this 0 _ rfl, this 1 _ rfl, this 2 _ rfl, this 3 _ rfl⟩
theorem blt (h : CodeAt w q b c x) : b < w.heap.size := (Gr.from_ h.row b (by simp [bkG])).2
theorem drewN (h : CodeAt w q b c x) (n : Nat) : CodeAt (w.drewN n) q b c x := h.frm0 ((Frm.refl [] w).drewN n)
/-- A store into a cell of the code. -/
theorem set (h : CodeAt w q b c x) {i : Nat} {v : Value} {x' : Cd} (hl : x'.l = x.l) (hg : x'.g.length = 4) (hn : x'.nx ≤ x.l.length)
    (he : (cdArr b x.l.length c x.g x.nx x.res).setIfInBounds i v = cdArr b x.l.length c x'.g x'.nx x'.res) : CodeAt (w.setCell ⟨q, i, none⟩ v) q b c x' := by
  have hne := h.ne
  refine ⟨?_, ?_, hg, by rw [hl]; exact h.pos, by rw [hl]; exact h.le, by rw [hl]; exact hn, by rw [hl]; exact h.ok⟩
  · rw [hl, ← he]; exact heap_setCell_at v h.obj
  · rw [hl]; exact Gr.frm h.row ((Frm.refl [q] w).setCell ⟨q, i, none⟩ v (.inl (by simp))) (by simpa [bkG] using hne.symm)
theorem setR (h : CodeAt w q b c x) {r : Nat} (hr : r < 4) (v : Int) : CodeAt (w.setCell ⟨q, 1 + r, none⟩ (.int .u64 v)) q b c { x with g := x.g.set r v } := by
  have hg := h.reg
  refine h.set rfl (by simpa using hg) h.nle ?_
  obtain ⟨l, g, nx, res⟩ := x
  dsimp only at hg ⊢
  obtain ⟨g0, g1, g2, g3, rfl⟩ : ∃ g0 g1 g2 g3, g = [g0, g1, g2, g3] := by
    match g, hg with
    | [a, b, c, d], _ => exact ⟨a, b, c, d, rfl⟩
  rcases r with _ | _ | _ | _ | r <;> first | rfl | omega
theorem setN (h : CodeAt w q b c x) {n : Nat} (hn : n ≤ x.l.length) : CodeAt (w.setCell ⟨q, 5, none⟩ (.int .i64 n)) q b c { x with nx := n } := by
  have hg := h.reg
  refine h.set rfl hg hn ?_
  obtain ⟨l, g, nx, res⟩ := x
  dsimp only at hg ⊢
  obtain ⟨g0, g1, g2, g3, rfl⟩ : ∃ g0 g1 g2 g3, g = [g0, g1, g2, g3] := by
    match g, hg with
    | [a, b, c, d], _ => exact ⟨a, b, c, d, rfl⟩
  rfl
theorem setS (h : CodeAt w q b c x) (v : Int) : CodeAt (w.setCell ⟨q, 6, none⟩ (.int .u64 v)) q b c { x with res := v } := by
  have hg := h.reg
  refine h.set rfl hg h.nle ?_
  obtain ⟨l, g, nx, res⟩ := x
  dsimp only at hg ⊢
  obtain ⟨g0, g1, g2, g3, rfl⟩ : ∃ g0 g1 g2 g3, g = [g0, g1, g2, g3] := by
    match g, hg with
    | [a, b, c, d], _ => exact ⟨a, b, c, d, rfl⟩
  rfl
end CodeAt
theorem ix_reg {q r : Nat} (hr : r < 4) (w : World) : (Instr.indexAt 29 (.pointer (some ⟨q, 1, none⟩)) (.int .i64 (r : Int))).run Try.prog w = .ok (.pointer (some ⟨q, 1 + r, none⟩)) w := by
  have h1 : (r : Int) < 4 := by omega
  simp [go_sem, h1]
theorem u_ins : Try.prog.underlying 71 = some (.slice 74) := by kernel_rfl
theorem i_ins : (Try.prog.info? 74).map (fun i => (i.zero, i.size, i.bytes)) = some (some ins0.val, 4, 32) := by kernel_rfl
theorem ix_ins {b n c k : Nat} (hk : k < n) (w : World) : (Instr.indexAt 71 (.slice (some ⟨b, 0, none⟩) n c) (.int .i64 (k : Int))).run Try.prog w = .ok (.pointer (some ⟨b, k * 4, none⟩)) w := ix_gr u_ins i_ins hk w

/-! The methods that ask. -/
section
variable {w : World} {q b c : Nat} {x : Cd}
theorem cnone_nil (w : World) : Calls Try.prog 69 #[.pointer none] w (Ret (.bool true) (fun w' => w = w')) := by
  go_enter Try.func69, Try.ntmps69
  go_wp2
  go_ret
  exact ⟨rfl, rfl⟩
theorem cnone_at (h : CodeAt w q b c x) : Calls Try.prog 69 #[.pointer (some ⟨q, 0, none⟩)] w (Ret (.bool false) (fun w' => w = w')) := by
  have h0 := h.c0
  have hb : ((x.l.length : Int) == 0) = false := by have := h.pos; simp; intro e; rw [e] at this; simp at this
  go_enter Try.func69, Try.ntmps69
  go_wp2
  go_ret
  exact ⟨rfl, rfl⟩
theorem cdone_at (h : CodeAt w q b c x) (n : Nat) : Calls Try.prog 32 #[.pointer (some ⟨q, 0, none⟩)] (w.drewN n) (fun e w' => e = .returned (.bool (decide (x.nx = x.l.length))) ∧ ∃ m, w' = w.drewN m) := by
  have h0 := h.c0
  have h5 := h.c5
  by_cases hx : x.nx = x.l.length
  · have hb : ((x.nx : Int) == (x.l.length : Int)) = true := by simp; omega
    have hd : decide (x.nx = x.l.length) = true := by simpa using hx
    rw [hd]
    clear hd hx
    go_enter Try.func32, Try.ntmps32
    go_wp2
    go_quiet (fail)
    go_wp2
    go_ret
    exact ⟨rfl, _, World.drewN_drewN _ _ _⟩
  · have hb : ((x.nx : Int) == (x.l.length : Int)) = false := by simp; omega
    have hd : decide (x.nx = x.l.length) = false := by simpa using hx
    rw [hd]
    clear hd hx
    go_enter Try.func32, Try.ntmps32
    go_wp2
    go_quiet (fail)
    go_wp2
    go_ret
    exact ⟨rfl, _, World.drewN_drewN _ _ _⟩
theorem cresult_at (h : CodeAt w q b c x) : Calls Try.prog 33 #[.pointer (some ⟨q, 0, none⟩)] w (Ret (.int .u64 x.res) (fun w' => w = w')) := by
  have h6 := h.c6
  go_enter Try.func33, Try.ntmps33
  go_wp2
  go_ret
  exact ⟨rfl, rfl⟩
theorem ccopy_at (h : CodeAt w q b c x) : Calls Try.prog 34 #[.pointer (some ⟨q, 0, none⟩)] w (fun e w' => ∃ q', Ret (.iface 76 (.pointer (some ⟨q', 0, none⟩))) (fun w' => Frm [] w w' ∧ CodeAt w' q' b c x ∧ w.heap.size ≤ q') e w') := by
  have hg := h.reg
  obtain ⟨l, g, nx, res⟩ := x
  dsimp only at hg
  obtain ⟨g0, g1, g2, g3, rfl⟩ : ∃ g0 g1 g2 g3, g = [g0, g1, g2, g3] := by
    match g, hg with
    | [a, b, c, d], _ => exact ⟨a, b, c, d, rfl⟩
  have h0 := h.c0
  have h1 : w.cell? ⟨q, 1, none⟩ = some (.int .u64 g0) := h.cr (r := 0) (by omega)
  have h2 : w.cell? ⟨q, 2, none⟩ = some (.int .u64 g1) := h.cr (r := 1) (by omega)
  have h3 : w.cell? ⟨q, 3, none⟩ = some (.int .u64 g2) := h.cr (r := 2) (by omega)
  have h4 : w.cell? ⟨q, 4, none⟩ = some (.int .u64 g3) := h.cr (r := 3) (by omega)
  have h5 := h.c5
  have h6 := h.c6
  have hql := h.lt
  have H := Lib.hid h
  clear h
  go_enter Try.func34, Try.ntmps34
  go_wp2_with fail
  refine (cnone_at H.out).mono ?_
  rintro e w' ⟨rfl, rfl⟩
  go_wp2
  go_ret
  exact ⟨_, rfl, (Frm.refl _ _).alloc _, ⟨heap_alloc_new _ _, H.out.row.frm0 ((Frm.refl _ _).alloc _), H.out.reg, H.out.pos, H.out.le, H.out.nle, H.out.ok⟩, Nat.le_refl _⟩
end
end Go.Proofs.Ytieccmmnfnpcoaa
