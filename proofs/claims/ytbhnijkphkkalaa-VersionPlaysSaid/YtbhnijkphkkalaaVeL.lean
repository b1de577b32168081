/- Accesses of an arena, plainly; the methods of an arena behind its interface. -/
import Derived.Test.YtbhnijkphkkalaaVeS
namespace Go.Proofs.Ytbhnijkphkkalaa
open Go.ChangeShapes Go.WideShapes Go.ChangeAt Go.RowKit

theorem Load_ok {w : World} {p d c : Nat} {ws : List Int} (hM : MemAt w p d c ws) (x : Nat) (v : Int) (hx : ws[x]? = some v) :
    Calls Try.prog 77 #[.pointer (some ⟨p, 0, none⟩), .int .i64 x] w (Ret (.tuple #[.int .u64 v, .int .i64 0]) (fun w' => Frm [d] w w' ∧ MemAt w' p d c ws)) := by
  have hl : x < ws.length := (List.getElem?_eq_some_iff.1 hx).1
  have h0 : mErr ws.length 1 x = 0 := by unfold mErr; rw [if_neg (by omega), if_neg (by omega)]
  have hg : ws.getD (x : Int).toNat 0 = v := by rw [List.getD_eq_getElem?_getD, Int.toNat_natCast, hx]; rfl
  have h1 : mWs ws ⟨1, x, 0, 0⟩ = ws := by
    unfold mWs; simp only []; rw [if_pos h0, hg]; simp only [aft]
    rw [if_neg (by decide), if_neg (by decide)]
    apply List.ext_getElem?; intro j; rw [List.getElem?_set]; split
    · rename_i e; subst e; rw [if_pos (by simpa using hl)]; simpa using hx.symm
    · rfl
  have h2 : (mRes ws ⟨1, x, 0, 0⟩).b = v := by unfold mRes; simp only []; rw [if_pos h0]; exact hg
  refine (Load_mem hM x).mono fun e w' hh => ?_
  rw [h0, h1, h2] at hh
  exact hh
theorem Load_out {w : World} {p d c : Nat} {ws : List Int} (hM : MemAt w p d c ws) (x : Nat) (hx : ws.length ≤ x) :
    Calls Try.prog 77 #[.pointer (some ⟨p, 0, none⟩), .int .i64 x] w (Ret (.tuple #[.int .u64 0, .int .i64 3]) (fun w' => Frm [d] w w' ∧ MemAt w' p d c ws)) := by
  have h0 : mErr ws.length 1 x = 3 := by unfold mErr; rw [if_neg (by omega), if_pos (by omega)]
  have h1 : mWs ws ⟨1, x, 0, 0⟩ = ws := by unfold mWs; simp only []; rw [h0]; rfl
  have h2 : (mRes ws ⟨1, x, 0, 0⟩).b = 0 := by unfold mRes; simp only []; rw [h0]; rfl
  refine (Load_mem hM x).mono fun e w' hh => ?_
  rw [h0, h1, h2] at hh
  exact hh
theorem Store_ok {w : World} {p d c : Nat} {ws : List Int} (hM : MemAt w p d c ws) (x : Nat) (v : Int) (hx : x < ws.length) :
    Calls Try.prog 33 #[.pointer (some ⟨p, 0, none⟩), .int .i64 x, .int .u64 v] w (Ret (.int .i64 0) (fun w' => Frm [d] w w' ∧ MemAt w' p d c (ws.set x v))) := by
  have h0 : mErr ws.length 2 x = 0 := by unfold mErr; rw [if_neg (by omega), if_neg (by omega)]
  have h1 : mWs ws ⟨2, x, 0, v⟩ = ws.set x v := by unfold mWs; simp only []; rw [if_pos h0]; simp [aft]
  refine (Store_mem hM x v).mono fun e w' hh => ?_
  rw [h0, h1] at hh
  exact hh
theorem Store_out {w : World} {p d c : Nat} {ws : List Int} (hM : MemAt w p d c ws) (x : Nat) (v : Int) (hx : ws.length ≤ x) :
    Calls Try.prog 33 #[.pointer (some ⟨p, 0, none⟩), .int .i64 x, .int .u64 v] w (Ret (.int .i64 3) (fun w' => Frm [d] w w' ∧ MemAt w' p d c ws)) := by
  have h0 : mErr ws.length 2 x = 3 := by unfold mErr; rw [if_neg (by omega), if_pos (by omega)]
  have h1 : mWs ws ⟨2, x, 0, v⟩ = ws := by unfold mWs; simp only []; rw [h0]; rfl
  refine (Store_mem hM x v).mono fun e w' hh => ?_
  rw [h0, h1] at hh
  exact hh
theorem m_store (p : Nat) (w : World) : (method 241 39 (.pointer (some ⟨p, 0, none⟩)) "Store").run Try.prog w = .ok (33, .pointer (some ⟨p, 0, none⟩)) w := by kernel_rfl
theorem m_load (p : Nat) (w : World) : (method 230 39 (.pointer (some ⟨p, 0, none⟩)) "Load").run Try.prog w = .ok (77, .pointer (some ⟨p, 0, none⟩)) w := by kernel_rfl
theorem n_load (p : Nat) (w : World) : (nilAhead 230 39 (.pointer (some ⟨p, 0, none⟩)) "Load").run Try.prog w = .ok (some false) w := by kernel_rfl
theorem n_store (p : Nat) (w : World) : (nilAhead 230 39 (.pointer (some ⟨p, 0, none⟩)) "Store").run Try.prog w = .ok (some false) w := by kernel_rfl
#print axioms Store_out
end Go.Proofs.Ytbhnijkphkkalaa
