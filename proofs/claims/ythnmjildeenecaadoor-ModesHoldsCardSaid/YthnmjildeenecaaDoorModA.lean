/- Package modes: the tables, Valid, Fits. -/
import Derived.Test.YthnmjildeenecaaDoorModM
import Derived.Test.YthnmjildeenecaaDoorLaid
import Derived.Test.YthnmjildeenecaaDoorLi
namespace Go.Proofs.YthnmjildeenecaaDoor
open Go.ChangeShapes Go.WideShapes Go.ChangeAt Go.RowKit

theorem ix_md {a : Option Addr} {n c b o k : Nat} (ha : 0 < n → a = some ⟨b, o, none⟩) (hk : k < n) (w : World) : (Instr.indexAt 30 (.slice a n c) (.int .i64 (k : Int))).run Tryd.prog w = .ok (.pointer (some ⟨b, o + k, none⟩)) w := by
  obtain rfl := ha (by omega)
  have h1 : (k : Int) < (n : Int) := by omega
  simp [go_sem, h1]

/-- The tables of the chapter: what goes together, the words. -/
def tog : List (List Bool) := [[false, false, false, false], [false, true, true, false], [false, true, false, false], [false, false, false, false]]
def wrd : List (List UInt8) := [[], [115, 104, 97, 114, 101, 100], [117, 112, 100, 97, 116, 101], [101, 120, 99, 108, 117, 115, 105, 118, 101]]

/-- The package's variables read as they are laid. -/
structure Laid (w : World) : Prop where
  tg : ∀ (i j : Nat) (r : List Bool) (x : Bool), tog[i]? = some r → r[j]? = some x → j < 4 → w.cell? ⟨0, i * 4 + j, none⟩ = some (.bool x)
  wd : ∀ (i : Nat) (s : List UInt8), wrd[i]? = some s → w.cell? ⟨1, i, none⟩ = some (.string ⟨s.toArray⟩)

theorem gTog : Tryd.prog.globalNamed "ticketline/modes.together" = some 0 := by kernel_rfl
theorem gWrd : Tryd.prog.globalNamed "ticketline/modes.words" = some 1 := by kernel_rfl
theorem tTog : (Tryd.prog.globals[0]?).map (·.type) = some 38 := by kernel_rfl
theorem tWrd : (Tryd.prog.globals[1]?).map (·.type) = some 48 := by kernel_rfl

theorem laid_of {W : World} (h : laidMetH Tryd.prog [("ticketline/modes.together", Rows.laid_ticketline_modes_together), ("ticketline/modes.words", Rows.laid_ticketline_modes_words)] W) : Laid W := by
  rw [MakeChecks.laidMetH_plain _ _ _ (by kernel_rfl)] at h
  obtain ⟨ps, ⟨g0, t0, cs0, f0, p0, q0, hg0, ht0, hv0, hd0, ⟨g1, t1, cs1, f1, p1, q1, hg1, ht1, hv1, hd1, _, _⟩, _⟩, _, _⟩ := h
  obtain rfl := Option.some.inj (gTog.symm.trans hg0)
  obtain rfl := Option.some.inj (gWrd.symm.trans hg1)
  obtain rfl := Option.some.inj (tTog.symm.trans ht0)
  obtain rfl := Option.some.inj (tWrd.symm.trans ht1)
  refine ⟨fun i j r x hi hj hk => ?_, fun i s hs => ?_⟩
  · rw [World.var?_cell hg0 hv0, ← Array.getElem?_toList]
    exact rows_of_trod (rs := tog) Tryd.underlying38 Tryd.underlying37 Tryd.underlying4 (by kernel_rfl) (by kernel_rfl) hd0 i j r x hi hj hk
  · rw [World.var?_cell hg1 hv1, ← Array.getElem?_toList]
    exact strings_of_trod (ss := wrd) Tryd.underlying48 Tryd.underlying9 (by kernel_rfl) hd1 i s hs

namespace Laid
variable {w w' : World}
theorem size (h : Laid w) : 1 < w.heap.size := World.block_lt_of_cell? w _ (h.wd 0 _ rfl)
theorem frm {D : List Nat} (h : Laid w) (hf : Frm D w w') (hD : ∀ x ∈ D, 2 ≤ x) : Laid w' := by
  have hs := h.size
  refine ⟨fun i j r x hi hj hk => ?_, fun i s hs => ?_⟩
  · rw [hf.cell (by omega) (fun hx => by have := hD _ hx; omega)]; exact h.tg i j r x hi hj hk
  · rw [hf.cell (by omega) (fun hx => by have := hD _ hx; omega)]; exact h.wd i s hs
theorem frm0 (h : Laid w) (hf : Frm [] w w') : Laid w' := h.frm hf (by simp)
theorem alloc (h : Laid w) (o : Obj) : Laid (w.alloc o) := h.frm0 ((Frm.refl _ _).alloc o)
end Laid

theorem valid_any (w : World) (m : Int) : Calls Tryd.prog 9 #[.int .i64 m] w (Ret (.bool (vm m)) (fun w' => w = w')) := by
  by_cases h0 : 0 < m
  · have hb : decide (0 < m) = true := by simpa using h0
    by_cases h1 : m < 4
    · have hc : decide (m < 4) = true := by simpa using h1
      have ht : vm m = true := vm_iff.2 (by omega)
      rw [ht]
      clear ht
      go_enter Tryd.func9, Tryd.ntmps9
      go_wp2
      go_ret
      exact ⟨rfl, rfl⟩
    · have hc : decide (m < 4) = false := by simpa using h1
      have ht : vm m = false := vm_not.2 (by omega)
      rw [ht]
      clear ht
      go_enter Tryd.func9, Tryd.ntmps9
      go_wp2
      go_ret
      exact ⟨rfl, rfl⟩
  · have hb : decide (0 < m) = false := by simpa using h0
    have ht : vm m = false := vm_not.2 (by omega)
    rw [ht]
    clear ht
    go_enter Tryd.func9, Tryd.ntmps9
    go_wp2
    go_ret
    exact ⟨rfl, rfl⟩
theorem rvalid_any (w : World) (m : Int) : Calls Tryd.prog 10 #[.int .i64 m] w (Ret (.bool (vm m)) (fun w' => w = w')) := by
  by_cases h1 : m = 1
  · subst h1
    rw [show vm 1 = true from rfl]
    go_enter Tryd.func10, Tryd.ntmps10
    go_wp2
    go_ret
    exact ⟨rfl, rfl⟩
  · have e1 : (m == 1) = false := by simpa using h1
    by_cases h2 : m = 2
    · subst h2
      rw [show vm 2 = true from rfl]
      clear h1 e1
      go_enter Tryd.func10, Tryd.ntmps10
      go_wp2
      go_ret
      exact ⟨rfl, rfl⟩
    · have e2 : (m == 2) = false := by simpa using h2
      by_cases h3 : m = 3
      · subst h3
        rw [show vm 3 = true from rfl]
        clear h1 e1 h2 e2
        go_enter Tryd.func10, Tryd.ntmps10
        go_wp2
        go_ret
        exact ⟨rfl, rfl⟩
      · have e3 : (m == 3) = false := by simpa using h3
        have ht : vm m = false := vm_not.2 (by omega)
        rw [ht]
        clear ht h1 h2 h3
        go_enter Tryd.func10, Tryd.ntmps10
        go_wp2
        go_ret
        exact ⟨rfl, rfl⟩
#print axioms rvalid_any
end Go.Proofs.YthnmjildeenecaaDoor
