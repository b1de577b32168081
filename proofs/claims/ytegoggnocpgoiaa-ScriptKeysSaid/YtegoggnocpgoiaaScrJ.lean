/- Package script: shortest, write, Valid. -/
import Derived.Test.YtegoggnocpgoiaaScrI
namespace Go.Proofs.Ytegoggnocpgoiaa
open Go.ChangeShapes Go.WideShapes Go.ChangeAt Go.RowKit

/-- No string is longer than strings may be. -/
def OpOk (o : Opr) : Prop := o.key.size ≤ maxLen ∧ o.val.size ≤ maxLen ∧ o.old.size ≤ maxLen
theorem keyB_ok (x : Int) : (keyB x).size ≤ maxLen := by rw [keyB_size]; unfold maxLen; omega
theorem valB_ok (x : Int) : (valB x).size ≤ maxLen := by rw [valB_size]; unfold maxLen; omega
theorem noB_ok : noB.size ≤ maxLen := by unfold maxLen; show 0 ≤ _; omega
theorem nx_ok (l : List Int) (t : Int) : OpOk (nx l t) := by
  unfold nx rq OpOk
  repeat' split
  all_goals refine ⟨?_, ?_, ?_⟩
  all_goals first | exact noB_ok | exact keyB_ok _ | exact valB_ok _ | (split <;> first | exact noB_ok | exact keyB_ok _ | exact valB_ok _ | (split <;> first | exact noB_ok | exact keyB_ok _ | exact valB_ok _))

theorem short_any (w : World) (x : Int) (o : Opr) (h : OpOk o) :
    Calls Try.prog 48 #[.int .u8 x, .agg #[.int .i64 o.k, .int .i64 o.t, .int .i64 o.n, .int .i64 o.v, .string o.key, .string o.val, .string o.old, .int .i64 o.tk]] w (fun e w' => ∃ a' c', Ret (.slice a' (sbq x o).length c') (fun w' => Frm [] w w' ∧ RowU w.heap.size w' a' (sbq x o).length c' (sbq x o)) e w') := by
  rcases vc_cases o.v with hv | hv | hv | hv | hv
  · exact short_0 w x o hv h.1 h.2.1 h.2.2
  · exact short_1 w x o hv h.1 h.2.1 h.2.2
  · exact short_2 w x o hv h.1 h.2.1 h.2.2
  · exact short_3 w x o hv h.1 h.2.1 h.2.2
  · exact short_4 w x o hv h.1 h.2.1 h.2.2

theorem RowU.base {B B' : Nat} {w : World} {a : Option Addr} {n c : Nat} {l : List Int} (h : RowU B w a n c l) (hb : B' ≤ B) : RowU B' w a n c l := by
  obtain ⟨⟨h0, hh⟩, h2⟩ := h
  refine ⟨⟨h0, ?_⟩, h2⟩
  rcases hh with hh | ⟨g, cap, cur, hv, hg, r⟩
  · exact .inl hh
  · exact .inr ⟨g, cap, cur, hv, by omega, r⟩
set_option maxHeartbeats 2000000 in
theorem shortest_any (w : World) (o : Opr) (h : OpOk o) :
    Calls Try.prog 40 #[.agg #[.int .i64 o.k, .int .i64 o.t, .int .i64 o.n, .int .i64 o.v, .string o.key, .string o.val, .string o.old, .int .i64 o.tk]] w (fun e w' => ∃ a' c', Ret (.slice a' (sb o).length c') (fun w' => Frm [] w w' ∧ RowU w.heap.size w' a' (sb o).length c' (sb o)) e w') := by
  have hT : wrap64 (o.t * 8) % 256 = o.t * 8 % 256 := w64_256 _
  have hN : wrap64 (o.n - 1) % 256 = (o.n - 1) % 256 := w64_256 _
  have hX : (o.t * 8 % 256 + 5) % 256 = (o.t * 8 + 5) % 256 := by omega
  have hXb : 0 ≤ o.t * 8 % 256 ∧ o.t * 8 % 256 ≤ 255 := by omega
  by_cases h1 : o.k = 1
  · have e : sb o = [o.t * 8 % 256, (o.n - 1) % 256] := by unfold sb; rw [if_pos h1]
    rw [e]
    generalize o.t * 8 % 256 = T at *
    generalize (o.n - 1) % 256 = Y at *
    have b1 : (o.k == 1) = true := by simpa using h1
    clear e h1 hX
    go_enter Try.func40, Try.ntmps40
    go_wp2
    go_ret
    exact ⟨_, _, rfl, ((Frm.refl _ _).alloc _).alloc _, rowU_new rfl (by omega) (heap_alloc_at _ (by simp)) (by omega)⟩
  · have b1 : (o.k == 1) = false := by simpa using h1
    by_cases h2 : o.k = 2
    · have e : sb o = [3, o.n % 256] := by unfold sb; rw [if_neg h1, if_pos h2]
      rw [e]
      have b2 : (o.k == 2) = true := by simpa using h2
      generalize o.t * 8 % 256 = T at *
      clear e h1 h2 hX hN
      go_enter Try.func40, Try.ntmps40
      go_wp2
      go_ret
      exact ⟨_, _, rfl, ((Frm.refl _ _).alloc _).alloc _, rowU_new rfl (by omega) (heap_alloc_at _ (by simp)) (by omega)⟩
    · have b2 : (o.k == 2) = false := by simpa using h2
      by_cases h4 : o.k = 4
      · have e : sb o = [4, (o.n - 1) % 256] := by unfold sb; rw [if_neg h1, if_neg h2, if_pos h4]
        rw [e]
        have b4 : (o.k == 4) = true := by simpa using h4
        generalize o.t * 8 % 256 = T at *
        generalize (o.n - 1) % 256 = Y at *
        clear e h1 h2 h4 hX
        go_enter Try.func40, Try.ntmps40
        go_wp2
        go_ret
        exact ⟨_, _, rfl, ((Frm.refl _ _).alloc _).alloc _, rowU_new rfl (by omega) (heap_alloc_at _ (by simp)) (by omega)⟩
      · have b4 : (o.k == 4) = false := by simpa using h4
        by_cases h3 : o.k = 3
        · have e : sb o = sbq ((o.t * 8 + 5) % 256) o := by unfold sb; rw [if_neg h1, if_neg h2, if_neg h4, if_pos h3]
          rw [e]
          have b3 : (o.k == 3) = true := by simpa using h3
          have hc := fun w => short_any w ((o.t * 8 + 5) % 256) o h
          generalize (o.t * 8 + 5) % 256 = X at *
          generalize o.t * 8 % 256 = T at *
          generalize (o.n - 1) % 256 = Y at *
          generalize sbq X o = L at *
          have HC := Lib.hid hc
          clear e h1 h2 h4 h3 hc h
          go_enter Try.func40, Try.ntmps40
          go_wp2_with fail
          refine (HC.out _).mono ?_
          rintro e w2 ⟨a', c', rfl, hF, hR⟩
          go_wp2
          go_ret
          exact ⟨a', c', rfl, ((Frm.refl _ _).alloc _).trans hF, hR.base (by simp)⟩
        · have e : sb o = [] := by unfold sb; rw [if_neg h1, if_neg h2, if_neg h4, if_neg h3]
          rw [e]
          have b3 : (o.k == 3) = false := by simpa using h3
          generalize o.t * 8 % 256 = T at *
          clear e h1 h2 h4 h3 hX hN
          go_enter Try.func40, Try.ntmps40
          go_wp2
          go_ret
          exact ⟨_, _, rfl, (Frm.refl _ _).alloc _, RowU.nil _ _⟩
end Go.Proofs.Ytegoggnocpgoiaa
