/- Stage 12: both kinds of memory by one name. -/
import Derived.Test.YtieccmmnfnpcoaaThA
namespace Go.Proofs.Ytieccmmnfnpcoaa
open Go.ChangeShapes Go.WideShapes Go.ChangeAt Go.RowKit
set_option linter.unusedVariables false

def acc0 : Acc := ⟨0, 0, 0, 0⟩
/-- A memory: an arena itself (K false), or an Once of it. -/
def tMm (K : Bool) : TypeId := if K then 134 else 34
def aMm (K : Bool) (p q : Nat) : Nat := if K then q else p
def vMm (K : Bool) (p q : Nat) : Value := .iface (tMm K) (.pointer (some ⟨aMm K p q, 0, none⟩))
structure Mm (K : Bool) (w : World) (p d c q : Nat) (a : Acc) (ws : List Int) : Prop where
  mem : MemAt w p d c ws
  once : K = true → OnceAt w q p a ∧ q ≠ p ∧ q ≠ d
  arena : K = false → a = acc0 ∧ q = d
def fLoad (K : Bool) : FuncId := if K then 123 else 44
def fStore (K : Bool) : FuncId := if K then 124 else 52
def fCAS (K : Bool) : FuncId := if K then 121 else 106
def fSwap (K : Bool) : FuncId := if K then 125 else 108
theorem m_Load (K : Bool) (q : Nat) (w : World) : (method 273 (tMm K) (.pointer (some ⟨q, 0, none⟩)) "Load").run Try.prog w = .ok (fLoad K, .pointer (some ⟨q, 0, none⟩)) w := by cases K <;> kernel_rfl
theorem m_Store (K : Bool) (q : Nat) (w : World) : (method 273 (tMm K) (.pointer (some ⟨q, 0, none⟩)) "Store").run Try.prog w = .ok (fStore K, .pointer (some ⟨q, 0, none⟩)) w := by cases K <;> kernel_rfl
theorem m_CAS (K : Bool) (q : Nat) (w : World) : (method 273 (tMm K) (.pointer (some ⟨q, 0, none⟩)) "CAS").run Try.prog w = .ok (fCAS K, .pointer (some ⟨q, 0, none⟩)) w := by cases K <;> kernel_rfl
theorem m_Swap (K : Bool) (q : Nat) (w : World) : (method 273 (tMm K) (.pointer (some ⟨q, 0, none⟩)) "Swap").run Try.prog w = .ok (fSwap K, .pointer (some ⟨q, 0, none⟩)) w := by cases K <;> kernel_rfl
set_option maxRecDepth 100000 in
theorem c_Load (K : Bool) (args : Array Value) (w : World) : (callFunc (fLoad K) args).run Try.prog w = .ok (.enter (fLoad K) args) w := by cases K <;> first | rfl | (show (callFunc _ _).run _ _ = _; simp only [fLoad, Bool.false_eq_true, if_false, if_true]; go_simp)
set_option maxRecDepth 100000 in
theorem c_Store (K : Bool) (args : Array Value) (w : World) : (callFunc (fStore K) args).run Try.prog w = .ok (.enter (fStore K) args) w := by cases K <;> first | rfl | (show (callFunc _ _).run _ _ = _; simp only [fStore, Bool.false_eq_true, if_false, if_true]; go_simp)
set_option maxRecDepth 100000 in
theorem c_CAS (K : Bool) (args : Array Value) (w : World) : (callFunc (fCAS K) args).run Try.prog w = .ok (.enter (fCAS K) args) w := by cases K <;> first | rfl | (show (callFunc _ _).run _ _ = _; simp only [fCAS, Bool.false_eq_true, if_false, if_true]; go_simp)
set_option maxRecDepth 100000 in
theorem c_Swap (K : Bool) (args : Array Value) (w : World) : (callFunc (fSwap K) args).run Try.prog w = .ok (.enter (fSwap K) args) w := by cases K <;> first | rfl | (show (callFunc _ _).run _ _ = _; simp only [fSwap, Bool.false_eq_true, if_false, if_true]; go_simp)

namespace Mm
variable {K : Bool} {w w' : World} {p d c q : Nat} {a : Acc} {ws : List Int}
theorem frm {D : List Nat} (h : Mm K w p d c q a ws) (hf : Frm D w w') (hp : p ∉ D) (hd : d ∉ D) (hq : q ∉ D) : Mm K w' p d c q a ws :=
  ⟨h.mem.frm hf hp hd, fun hk => ⟨(h.once hk).1.frm hf hq, (h.once hk).2⟩, h.arena⟩
theorem frm0 (h : Mm K w p d c q a ws) (hf : Frm [] w w') : Mm K w' p d c q a ws := h.frm hf (by simp) (by simp) (by simp)
theorem drewN (h : Mm K w p d c q a ws) (n : Nat) : Mm K (w.drewN n) p d c q a ws := h.frm0 ((Frm.refl [] w).drewN n)
theorem qlt (h : Mm K w p d c q a ws) : q < w.heap.size := by
  cases hk : K with
  | true => exact (h.once hk).1.lt
  | false => rw [(h.arena hk).2]; exact h.mem.dlt
theorem plt (h : Mm K w p d c q a ws) : p < w.heap.size := h.mem.plt
theorem dlt (h : Mm K w p d c q a ws) : d < w.heap.size := h.mem.dlt
theorem ofMem (h : MemAt w p d c ws) : Mm false w p d c d acc0 ws := ⟨h, (fun h => by cases h), fun _ => ⟨rfl, rfl⟩⟩
theorem ofOnce (h : MemAt w p d c ws) (ho : OnceAt w q p a) (h1 : q ≠ p) (h2 : q ≠ d) : Mm true w p d c q a ws := ⟨h, fun _ => ⟨ho, h1, h2⟩, (fun h => by cases h)⟩
/-- A block of another type than an arena's, an Once's and words'. -/
theorem ne (h : Mm K w p d c q a ws) {b : Nat} {cs : Array Value} {t : TypeId} (hb : w.heap[b]? = some (.cells cs t (0, 0))) (h1 : t ≠ 115) (h2 : t ≠ 28) (h3 : t ≠ 150) : b ≠ p ∧ b ≠ d ∧ b ≠ q := by
  have e1 : b ≠ p := by
    intro e; subst e
    have := hb.symm.trans h.mem.obj
    simp only [Option.some.injEq, Obj.cells.injEq] at this
    exact h1 this.2.1
  have e2 : b ≠ d := by
    intro e; subst e
    obtain ⟨cs', hc, _⟩ := h.mem.arr
    have := hb.symm.trans hc
    simp only [Option.some.injEq, Obj.cells.injEq] at this
    exact h2 this.2.1
  refine ⟨e1, e2, ?_⟩
  cases hk : K with
  | true =>
    intro e; subst e
    have := hb.symm.trans (h.once hk).1
    simp only [Option.some.injEq, Obj.cells.injEq] at this
    exact h3 this.2.1
  | false => rw [(h.arena hk).2]; exact e2
end Mm
/-- What an access of a memory leaves noted. -/
def mAcc (K : Bool) (a : Acc) (ws : List Int) (b : Acc) : Acc := if K then oAcc a ws b else a
theorem Load_mm {K : Bool} {w : World} {p d c q : Nat} {a : Acc} {ws : List Int} (h : Mm K w p d c q a ws) (x : Int) :
    Calls Try.prog (fLoad K) #[.pointer (some ⟨aMm K p q, 0, none⟩), .int .i64 x] w (Ret (.tuple #[.int .u64 (oRes a ws ⟨1, x, 0, 0⟩).b, .int .i64 (oErr a ws.length 1 x)]) (fun w' => Frm [d, q] w w' ∧ Mm K w' p d c q (mAcc K a ws ⟨1, x, 0, 0⟩) (oWs a ws ⟨1, x, 0, 0⟩))) := by
  cases K with
  | true =>
    obtain ⟨ho, h1, h2⟩ := h.once rfl
    exact (Load_once ho h.mem h1 h2 x).mono fun e w' hh => ⟨hh.1, hh.2.1, hh.2.2.1, fun _ => ⟨hh.2.2.2, h1, h2⟩, (fun e => by cases e)⟩
  | false =>
    obtain ⟨rfl, rfl⟩ := h.arena rfl
    exact (Load_mem h.mem x).mono fun e w' hh => ⟨hh.1, hh.2.1.weak (by simp), hh.2.2, (fun e => by cases e), fun _ => ⟨rfl, rfl⟩⟩
theorem Store_mm {K : Bool} {w : World} {p d c q : Nat} {a : Acc} {ws : List Int} (h : Mm K w p d c q a ws) (x v : Int) :
    Calls Try.prog (fStore K) #[.pointer (some ⟨aMm K p q, 0, none⟩), .int .i64 x, .int .u64 v] w (Ret (.int .i64 (oErr a ws.length 2 x)) (fun w' => Frm [d, q] w w' ∧ Mm K w' p d c q (mAcc K a ws ⟨2, x, 0, v⟩) (oWs a ws ⟨2, x, 0, v⟩))) := by
  cases K with
  | true =>
    obtain ⟨ho, h1, h2⟩ := h.once rfl
    exact (Store_once ho h.mem h1 h2 x v).mono fun e w' hh => ⟨hh.1, hh.2.1, hh.2.2.1, fun _ => ⟨hh.2.2.2, h1, h2⟩, (fun e => by cases e)⟩
  | false =>
    obtain ⟨rfl, rfl⟩ := h.arena rfl
    exact (Store_mem h.mem x v).mono fun e w' hh => ⟨hh.1, hh.2.1.weak (by simp), hh.2.2, (fun e => by cases e), fun _ => ⟨rfl, rfl⟩⟩
theorem CAS_mm {K : Bool} {w : World} {p d c q : Nat} {a : Acc} {ws : List Int} (h : Mm K w p d c q a ws) (x o v : Int) :
    Calls Try.prog (fCAS K) #[.pointer (some ⟨aMm K p q, 0, none⟩), .int .i64 x, .int .u64 o, .int .u64 v] w (Ret (.tuple #[.bool (oErr a ws.length 3 x == 0 && (oRes a ws ⟨3, x, o, v⟩).b == o), .int .i64 (oErr a ws.length 3 x)]) (fun w' => Frm [d, q] w w' ∧ Mm K w' p d c q (mAcc K a ws ⟨3, x, o, v⟩) (oWs a ws ⟨3, x, o, v⟩))) := by
  cases K with
  | true =>
    obtain ⟨ho, h1, h2⟩ := h.once rfl
    exact (CAS_once ho h.mem h1 h2 x o v).mono fun e w' hh => ⟨hh.1, hh.2.1, hh.2.2.1, fun _ => ⟨hh.2.2.2, h1, h2⟩, (fun e => by cases e)⟩
  | false =>
    obtain ⟨rfl, rfl⟩ := h.arena rfl
    exact (CAS_mem h.mem x o v).mono fun e w' hh => ⟨hh.1, hh.2.1.weak (by simp), hh.2.2, (fun e => by cases e), fun _ => ⟨rfl, rfl⟩⟩
theorem Swap_mm {K : Bool} {w : World} {p d c q : Nat} {a : Acc} {ws : List Int} (h : Mm K w p d c q a ws) (x v : Int) :
    Calls Try.prog (fSwap K) #[.pointer (some ⟨aMm K p q, 0, none⟩), .int .i64 x, .int .u64 v] w (Ret (.tuple #[.int .u64 (oRes a ws ⟨4, x, 0, v⟩).b, .int .i64 (oErr a ws.length 4 x)]) (fun w' => Frm [d, q] w w' ∧ Mm K w' p d c q (mAcc K a ws ⟨4, x, 0, v⟩) (oWs a ws ⟨4, x, 0, v⟩))) := by
  cases K with
  | true =>
    obtain ⟨ho, h1, h2⟩ := h.once rfl
    exact (Swap_once ho h.mem h1 h2 x v).mono fun e w' hh => ⟨hh.1, hh.2.1, hh.2.2.1, fun _ => ⟨hh.2.2.2, h1, h2⟩, (fun e => by cases e)⟩
  | false =>
    obtain ⟨rfl, rfl⟩ := h.arena rfl
    exact (Swap_mem h.mem x v).mono fun e w' hh => ⟨hh.1, hh.2.1.weak (by simp), hh.2.2, (fun e => by cases e), fun _ => ⟨rfl, rfl⟩⟩
end Go.Proofs.Ytieccmmnfnpcoaa
