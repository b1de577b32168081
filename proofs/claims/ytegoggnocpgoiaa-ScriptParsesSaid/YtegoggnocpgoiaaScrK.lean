/- Package script: write, Valid. -/
import Derived.Test.YtegoggnocpgoiaaScrJ
namespace Go.Proofs.Ytegoggnocpgoiaa
open Go.ChangeShapes Go.WideShapes Go.ChangeAt Go.RowKit

theorem mb64 : mb 64 = true := by decide
theorem opEq_comm (a b : Opr) : opEq a b = opEq b a := by
  by_cases h : a = b
  · subst h; rfl
  · have h1 : opEq a b = false := by cases hh : opEq a b with
      | false => rfl
      | true => exact absurd (opEq_iff.1 hh) h
    have h2 : opEq b a = false := by cases hh : opEq b a with
      | false => rfl
      | true => exact absurd (opEq_iff.1 hh).symm h
    rw [h1, h2]
/-- The bytes that are written of an operation; none, if it can't be one of a script. -/
def wrL (o : Opr) : List Int := (wr o).getD []
theorem wrL_le (o : Opr) : (wrL o).length ≤ 5 := by
  unfold wrL
  cases h : wr o with
  | none => simp
  | some l => obtain ⟨rfl, _⟩ := wr_some h; simpa using sb_le o
theorem wrL_byt (o : Opr) : Byt (wrL o) := by
  unfold wrL
  cases h : wr o with
  | none => intro x hx; simp at hx
  | some l => obtain ⟨rfl, _⟩ := wr_some h; simpa using sb_byt o

set_option maxHeartbeats 2000000 in
theorem write_any (w : World) (o : Opr) (h : OpOk o) :
    Calls Try.prog 31 #[.agg #[.int .i64 o.k, .int .i64 o.t, .int .i64 o.n, .int .i64 o.v, .string o.key, .string o.val, .string o.old, .int .i64 o.tk]] w (fun e w' => ∃ a' c', Ret (.tuple #[.slice a' (wrL o).length c', .bool (wr o).isSome]) (fun w' => Frm [] w w' ∧ RowU w.heap.size w' a' (wrL o).length c' (wrL o)) e w') := by
  have hc := fun w => shortest_any w o h
  have hby := sb_byt o
  have hle := sb_le o
  by_cases h0 : sb o = []
  · have e1 : wr o = none := wr_nil h0
    have e2 : wrL o = [] := by unfold wrL; rw [e1]; rfl
    rw [e1, e2]
    rw [h0] at hc
    have HC := Lib.hid hc
    clear hc hby hle h0 e1 e2 h
    go_enter Try.func31, Try.ntmps31
    go_wp2_with fail
    refine (HC.out _).mono ?_
    rintro e w1 ⟨a', c', rfl, hF1, hR1⟩
    go_wp2_with fail
    refine (next_short _ _ _ _ mb64).mono ?_
    rintro e w2 ⟨rfl, hF2⟩
    go_wp2
    go_ret2
    exact ⟨none, 0, rfl, ((((Frm.refl _ _).alloc _).trans hF1).trans hF2).alloc _, RowU.nil _ _⟩
  · have hpos : 0 < (sb o).length := List.length_pos_iff.2 h0
    have hnx : nx (sb o) 64 = o → wr o = some (sb o) := wr_of h0
    have hnn : nx (sb o) 64 ≠ o → wr o = none := wr_none
    obtain ⟨L, hL⟩ : ∃ L, sb o = L := ⟨_, rfl⟩
    rw [hL] at hc hby hle hpos hnx hnn
    obtain ⟨m, hm⟩ : ∃ m, L.length = m := ⟨_, rfl⟩
    have hne := fun w => neq_op (nx L 64) o w
    rw [hm] at hc hle hpos
    obtain ⟨q, hq⟩ : ∃ q, nx L 64 = q := ⟨_, rfl⟩
    obtain ⟨z, hz⟩ : ∃ z : Nat, min (nxN L) m = z := ⟨_, rfl⟩
    rw [hq] at hne hnx hnn
    have hN : ∀ {w : World} {a : Option Addr} {c b o : Nat} (_ : Li .u8 w a m c b o L), Calls Try.prog 22 #[.slice a m c, .int .i64 64] w (Ret (.tuple #[.agg #[.int .i64 q.k, .int .i64 q.t, .int .i64 q.n, .int .i64 q.v, .string q.key, .string q.val, .string q.old, .int .i64 q.tk], .int .i64 (z : Int), .int .i64 0]) (fun w' => Frm [] w w')) := by
      intro w a c b o hLi
      have := next_ok hLi hby hpos (by omega) 64 mb64
      rw [hq, hz] at this
      exact this
    have HC := Lib.hid hc
    have HNx : ∀ {w : World} {a : Option Addr} {c b o : Nat} (_ : Li .u8 w a m c b o L), Hid (Calls Try.prog 22 #[.slice a m c, .int .i64 64] w (Ret (.tuple #[.agg #[.int .i64 q.k, .int .i64 q.t, .int .i64 q.n, .int .i64 q.v, .string q.key, .string q.val, .string q.old, .int .i64 q.tk], .int .i64 (z : Int), .int .i64 0]) (fun w' => Frm [] w w'))) := fun hLi => Lib.hid (hN hLi)
    by_cases he : q = o
    · have e1 : wr o = some L := hnx he
      have e2 : wrL o = L := by unfold wrL; rw [e1]; rfl
      have ht : opEq q o = true := opEq_iff.2 he
      have ht2 : (!opEq q o) = false := by rw [ht]; rfl
      rw [e1, e2, hm]
      clear hc hby hle h0 e1 e2 h hnx hnn hL hN he ht hpos hq hz hm
      go_enter Try.func31, Try.ntmps31
      go_wp2_with fail
      refine (HC.out _).mono ?_
      rintro e w1 ⟨a', c', rfl, hF1, hR1⟩
      have e0 := hF1.heap (heap_alloc_new w (.cells #[.int .i64 o.k, .int .i64 o.t, .int .i64 o.n, .int .i64 o.v, .string o.key, .string o.val, .string o.old, .int .i64 o.tk] 30)) (by simp)
      obtain ⟨b, hLi⟩ := hR1.li
      have HH := HNx hLi
      have HR1 := Lib.hid hR1
      clear hLi hR1
      go_wp2_with fail
      refine HH.out.mono ?_
      rintro e w2 ⟨rfl, hF2⟩
      have e20 := hF2.heap e0 (by simp)
      obtain ⟨c0, c1, c2, c3, c4, c5, c6, c7⟩ := OpAt.block e20
      simp only [Nat.zero_add] at c0 c1 c2 c3 c4 c5 c6 c7
      have hl := lt_of_heap e20
      have hFF : Frm [] w (w2.alloc (.cells #[.int .i64 q.k, .int .i64 q.t, .int .i64 q.n, .int .i64 q.v, .string q.key, .string q.val, .string q.old, .int .i64 q.tk] 30)) := ((((Frm.refl _ _).alloc _).trans hF1).trans hF2).alloc _
      have HR2 := Lib.hid ((HR1.out.frm0 hF2).frm0 ((Frm.refl [] w2).alloc (.cells #[.int .i64 q.k, .int .i64 q.t, .int .i64 q.n, .int .i64 q.v, .string q.key, .string q.val, .string q.old, .int .i64 q.tk] 30)))
      clear e0 e20 hF1 hF2 HH HR1
      go_wp2
      go_ret2
      exact ⟨a', c', rfl, hFF, HR2.out.base (by simp)⟩
    · have e1 : wr o = none := hnn he
      have e2 : wrL o = [] := by unfold wrL; rw [e1]; rfl
      have ht : opEq q o = false := by
        cases hh : opEq q o with
        | false => rfl
        | true => exact absurd (opEq_iff.1 hh) he
      have ht2 : (!opEq q o) = true := by rw [ht]; rfl
      rw [e1, e2]
      clear hc hby hle h0 e1 e2 h hnx hnn hL hN he ht hpos hq hz hm
      go_enter Try.func31, Try.ntmps31
      go_wp2_with fail
      refine (HC.out _).mono ?_
      rintro e w1 ⟨a', c', rfl, hF1, hR1⟩
      have e0 := hF1.heap (heap_alloc_new w (.cells #[.int .i64 o.k, .int .i64 o.t, .int .i64 o.n, .int .i64 o.v, .string o.key, .string o.val, .string o.old, .int .i64 o.tk] 30)) (by simp)
      obtain ⟨b, hLi⟩ := hR1.li
      have HH := HNx hLi
      clear hLi hR1
      go_wp2_with fail
      refine HH.out.mono ?_
      rintro e w2 ⟨rfl, hF2⟩
      have e20 := hF2.heap e0 (by simp)
      obtain ⟨c0, c1, c2, c3, c4, c5, c6, c7⟩ := OpAt.block e20
      simp only [Nat.zero_add] at c0 c1 c2 c3 c4 c5 c6 c7
      have hl := lt_of_heap e20
      have hFF : Frm [] w (w2.alloc (.cells #[.int .i64 q.k, .int .i64 q.t, .int .i64 q.n, .int .i64 q.v, .string q.key, .string q.val, .string q.old, .int .i64 q.tk] 30)) := ((((Frm.refl _ _).alloc _).trans hF1).trans hF2).alloc _
      clear e0 e20 hF1 hF2 HH
      go_wp2
      go_ret2
      exact ⟨none, 0, rfl, hFF, RowU.nil _ _⟩

theorem valid_any (w : World) (o : Opr) (h : OpOk o) : Calls Try.prog 15 #[.agg #[.int .i64 o.k, .int .i64 o.t, .int .i64 o.n, .int .i64 o.v, .string o.key, .string o.val, .string o.old, .int .i64 o.tk]] w (Ret (.bool (wr o).isSome) (fun w' => Frm [] w w')) := by
  have hc := fun w => write_any w o h
  have HC := Lib.hid hc
  generalize (wr o).isSome = r at *
  clear hc h
  go_enter Try.func15, Try.ntmps15
  go_wp2_with fail
  refine (HC.out _).mono ?_
  rintro e w1 ⟨a', c', rfl, hF1, _⟩
  go_wp2
  go_ret
  exact ⟨rfl, ((Frm.refl _ _).alloc _).trans hF1⟩
end Go.Proofs.Ytegoggnocpgoiaa
