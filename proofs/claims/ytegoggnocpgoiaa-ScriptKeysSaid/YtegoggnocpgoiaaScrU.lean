/- What the law asks of the functions: parses, next, writes. -/
import Derived.Test.YtegoggnocpgoiaaScrT
namespace Go.Proofs.Ytegoggnocpgoiaa
open Go.ChangeShapes Go.WideShapes Go.ChangeAt Go.RowKit

theorem parses_ok {w : World} {a : Option Addr} {n c b o : Nat} {l : List Int} (hL : Li .u8 w a n c b o l) (hB : Byt l) (hn : n ≤ 4096) (t : Int) (hm : mb t = true) {a2 : Option Addr} {n2 c2 b2 o2 : Nat} (hW : Lo w a2 n2 c2 b2 o2 (prs l t)) :
    Calls Try.prog 9 #[.slice a n c, .int .i64 t, .int .i64 0, .slice a2 n2 c2] w (Ret (.bool true) (fun w' => Frm [] w w')) := by
  have hc := parse_ok hL hB hn t hm
  have hl := hW.len
  have hle := prs_le l t
  have hll := hL.len
  rw [hl] at hc
  have hn2 : n2 ≤ 100000 := by omega
  have HC := Lib.hid hc
  have HW := Lib.hid hW
  clear hc hW hL hm hl hle hll
  go_enter Try.func9, Try.ntmps9
  go_wp2_with fail
  refine HC.out.mono ?_
  rintro e w1 ⟨a', c', rfl, hF1, hR1⟩
  obtain ⟨b3, hL3⟩ := hR1.lo
  have hs := same_yes hL3 (HW.out.frm0 hF1) hn2
  have HS := Lib.hid hs
  clear hs hR1 hL3
  go_wp2_with fail
  refine HS.out.mono ?_
  rintro e w2 ⟨rfl, hF2⟩
  go_wp2
  go_ret
  exact ⟨rfl, hF1.trans hF2⟩
theorem parses_err (w : World) (a : Option Addr) (n c : Nat) (t e : Int) (h : mb t = false ∧ e = 2 ∨ (mb t = true ∧ 4096 < n) ∧ e = 5) :
    Calls Try.prog 9 #[.slice a n c, .int .i64 t, .int .i64 e, .slice none 0 0] w (Ret (.bool true) (fun w' => Frm [] w w')) := by
  have hc : Calls Try.prog 21 #[.slice a n c, .int .i64 t] w (Ret (.tuple #[.slice none 0 0, .int .i64 e]) (fun w' => Frm [] w w')) := by
    rcases h with ⟨h, rfl⟩ | ⟨⟨h, h2⟩, rfl⟩
    · exact parse_arg w _ t h
    · exact parse_long w a n c t h h2
  have hee : (e == e) = true := by simp
  have HC := Lib.hid hc
  clear hc h
  go_enter Try.func9, Try.ntmps9
  go_wp2_with fail
  refine HC.out.mono ?_
  rintro e w1 ⟨rfl, hF1⟩
  have hs := same_yes (Lo.nil w1 0 0) (Lo.nil w1 0 0) (by omega)
  have HS := Lib.hid hs
  clear hs
  go_wp2_with fail
  refine HS.out.mono ?_
  rintro e w2 ⟨rfl, hF2⟩
  go_wp2
  go_ret
  exact ⟨rfl, hF1.trans hF2⟩

theorem qnext_of {w : World} {v : Value} {t : Int} {x : Opr} {z e : Int} (hc : Calls Try.prog 22 #[v, .int .i64 t] (w.alloc (.cells #[.int .i64 x.k, .int .i64 x.t, .int .i64 x.n, .int .i64 x.v, .string x.key, .string x.val, .string x.old, .int .i64 x.tk] 30)) (Ret (.tuple #[.agg #[.int .i64 x.k, .int .i64 x.t, .int .i64 x.n, .int .i64 x.v, .string x.key, .string x.val, .string x.old, .int .i64 x.tk], .int .i64 z, .int .i64 e]) (fun w' => Frm [] (w.alloc (.cells #[.int .i64 x.k, .int .i64 x.t, .int .i64 x.n, .int .i64 x.v, .string x.key, .string x.val, .string x.old, .int .i64 x.tk] 30)) w'))) :
    Calls Try.prog 10 #[v, .int .i64 t, .agg #[.int .i64 x.k, .int .i64 x.t, .int .i64 x.n, .int .i64 x.v, .string x.key, .string x.val, .string x.old, .int .i64 x.tk], .int .i64 z, .int .i64 e] w (Ret (.bool true) (fun w' => Frm [] w w')) := by
  have hee : (e == e) = true := by simp
  have hzz : (z == z) = true := by simp
  have heq := eql_op x x
  rw [opEq_refl] at heq
  have HC := Lib.hid hc
  clear hc
  go_enter Try.func10, Try.ntmps10
  go_wp2_with fail
  refine HC.out.mono ?_
  rintro e w1 ⟨rfl, hF1⟩
  have e0 := hF1.heap (heap_alloc_new w (.cells #[.int .i64 x.k, .int .i64 x.t, .int .i64 x.n, .int .i64 x.v, .string x.key, .string x.val, .string x.old, .int .i64 x.tk] 30)) (by simp)
  obtain ⟨c0, c1, c2, c3, c4, c5, c6, c7⟩ := OpAt.block e0
  simp only [Nat.zero_add] at c0 c1 c2 c3 c4 c5 c6 c7
  have hl := lt_of_heap e0
  have hFa : Frm [] w w1 := ((Frm.refl _ _).alloc _).trans hF1
  clear e0 hF1
  go_wp2
  go_ret
  exact ⟨rfl, hFa.alloc _⟩
theorem qnext_ok {w : World} {a : Option Addr} {n c b o : Nat} {l : List Int} (hL : Li .u8 w a n c b o l) (hB : Byt l) (h0 : 0 < n) (hn : n ≤ 2147483647) (t : Int) (hm : mb t = true) :
    Calls Try.prog 10 #[.slice a n c, .int .i64 t, .agg #[.int .i64 (nx l t).k, .int .i64 (nx l t).t, .int .i64 (nx l t).n, .int .i64 (nx l t).v, .string (nx l t).key, .string (nx l t).val, .string (nx l t).old, .int .i64 (nx l t).tk], .int .i64 ((min (nxN l) n : Nat) : Int), .int .i64 0] w (Ret (.bool true) (fun w' => Frm [] w w')) :=
  qnext_of (next_ok (hL.frm0 ((Frm.refl _ _).alloc _)) hB h0 hn t hm)
theorem qnext_arg (w : World) (v : Value) (t : Int) (hm : mb t = false) :
    Calls Try.prog 10 #[v, .int .i64 t, .agg #[.int .i64 zOp.k, .int .i64 zOp.t, .int .i64 zOp.n, .int .i64 zOp.v, .string zOp.key, .string zOp.val, .string zOp.old, .int .i64 zOp.tk], .int .i64 0, .int .i64 2] w (Ret (.bool true) (fun w' => Frm [] w w')) :=
  qnext_of (next_arg _ v t hm)
theorem qnext_short (w : World) (a : Option Addr) (c : Nat) (t : Int) (hm : mb t = true) :
    Calls Try.prog 10 #[.slice a 0 c, .int .i64 t, .agg #[.int .i64 zOp.k, .int .i64 zOp.t, .int .i64 zOp.n, .int .i64 zOp.v, .string zOp.key, .string zOp.val, .string zOp.old, .int .i64 zOp.tk], .int .i64 0, .int .i64 4] w (Ret (.bool true) (fun w' => Frm [] w w')) :=
  qnext_of (next_short _ a c t hm)

theorem conv_li {w : World} {a : Option Addr} {n c b o : Nat} {l : List Int} (hL : Li .u8 w a n c b o l) : (convert 22 9 (.slice a n c)).run Try.prog w = .ok (.string (strOfNums l)) w := by
  by_cases hn : 0 < n
  · obtain rfl := hL.ad hn
    exact conv_u8s l hL.len (fun i hi => by
      obtain ⟨x, _, h2, h3⟩ := hL.get hi
      rw [h2]; exact h3)
  · obtain rfl : n = 0 := by omega
    obtain rfl : l = [] := List.eq_nil_of_length_eq_zero hL.len
    cases a with
    | none => exact run_convert_bytes_nil w 22 5 Try.underlying22 Try.underlying5 0 c 9 Try.underlying9
    | some a =>
      rw [run_convert_bytes_string w 22 9 5 (some a) 0 c Try.underlying22 Try.underlying5 Try.underlying9]
      rw [run_bytesToString w a 0 c [] (by simp [loadCells, loadCellsFrom])]
      rfl
theorem conv_any {w : World} {a : Option Addr} {n c b o : Nat} {l : List Int} (hL : Li .u8 w a n c b o l) : (convert 22 9 (.slice a n c)).run Try.prog w = .ok (.string (strOfNums l)) w := conv_li hL

/-- Write returns the bytes that are wanted. -/
theorem writes_ok {w : World} {a : Option Addr} {n c b o : Nat} {l : List Opr} (hL : Lo w a n c b o l) (hO : ∀ x ∈ l, OpOk x) (hn : n ≤ 5000) {bs : List Int} (hb : wrA l = some bs) (hlen : bs.length ≤ 4096) {a2 : Option Addr} {n2 c2 b2 o2 : Nat} (hW : Li .u8 w a2 n2 c2 b2 o2 bs) :
    Calls Try.prog 16 #[.slice a n c, .slice a2 n2 c2, .int .i64 0] w (Ret (.bool true) (fun w' => Frm [] w w')) := by
  have hc : Calls Try.prog 23 #[.slice a n c] w (fun e w' => ∃ a' c', Ret (.tuple #[.slice a' bs.length c', .int .i64 0]) (fun w' => Frm [] w w' ∧ RowU w.heap.size w' a' bs.length c' bs) e w') := by
    refine (Write_any hL hO hn).mono ?_
    rintro e w1 ⟨hF, hp⟩
    rcases hp with ⟨h1, _⟩ | ⟨b1, h1, h2, _⟩ | ⟨b1, a', c', h1, h2, h3, h4⟩
    · rw [hb] at h1; cases h1
    · rw [hb] at h1; cases h1; omega
    · rw [hb] at h1; cases h1
      subst h3
      exact ⟨a', c', rfl, hF, h4⟩
  obtain ⟨m, hm⟩ : ∃ m, bs.length = m := ⟨_, rfl⟩
  rw [hm] at hc
  have HC := Lib.hid hc
  have HW := Lib.hid hW
  clear hc hW hL hO hb hm hlen
  go_enter Try.func16, Try.ntmps16
  go_wp2_with fail
  refine HC.out.mono ?_
  rintro e w1 ⟨a', c', rfl, hF1, hR1⟩
  have hc1 := conv_row hR1
  have hc2 := conv_any (HW.out.frm0 hF1)
  have hss : ((strOfNums bs).toList == (strOfNums bs).toList) = true := by simp
  generalize strOfNums bs = S at *
  clear hR1
  go_wp2
  go_ret
  exact ⟨rfl, hF1⟩
theorem writes_err {w : World} {a : Option Addr} {n c b o : Nat} {l : List Opr} (hL : Lo w a n c b o l) (hO : ∀ x ∈ l, OpOk x) (hn : n ≤ 5000) {e : Int} (he : wrA l = none ∧ e = 2 ∨ (∃ bs, wrA l = some bs ∧ 4096 < bs.length) ∧ e = 5) :
    Calls Try.prog 16 #[.slice a n c, .slice none 0 0, .int .i64 e] w (Ret (.bool true) (fun w' => Frm [] w w')) := by
  have hc : Calls Try.prog 23 #[.slice a n c] w (Ret (.tuple #[.slice none 0 0, .int .i64 e]) (fun w' => Frm [] w w')) := by
    refine (Write_any hL hO hn).mono ?_
    rintro e1 w1 ⟨hF, hp⟩
    rcases he with ⟨g1, rfl⟩ | ⟨⟨bs, g1, g2⟩, rfl⟩
    · rcases hp with ⟨h1, h2⟩ | ⟨b1, h1, h2, _⟩ | ⟨b1, a', c', h1, h2, h3, h4⟩
      · exact ⟨h2, hF⟩
      · rw [g1] at h1; cases h1
      · rw [g1] at h1; cases h1
    · rcases hp with ⟨h1, h2⟩ | ⟨b1, h1, h2, h3⟩ | ⟨b1, a', c', h1, h2, h3, h4⟩
      · rw [g1] at h1; cases h1
      · exact ⟨h3, hF⟩
      · rw [g1] at h1; cases h1; omega
  have hee : (e == e) = true := by simp
  have hc2 := fun (W : World) => conv_any (Li.nil (k := .u8) W 0 0)
  have hss : ((strOfNums []).toList == (strOfNums []).toList) = true := by simp
  generalize strOfNums [] = S at *
  have HC := Lib.hid hc
  clear hc he hL hO
  go_enter Try.func16, Try.ntmps16
  go_wp2_with fail
  refine HC.out.mono ?_
  rintro e w1 ⟨rfl, hF1⟩
  go_wp2
  go_ret
  exact ⟨rfl, hF1⟩
end Go.Proofs.Ytegoggnocpgoiaa
