/- Rows of integers that a call makes for itself; two lists that are the same; what the law asks of the functions of lists. -/
import Derived.Test.YtjgnmmlbnkmgfaaQueD
import Derived.Lib.AppendZerosOnto
namespace Go.Proofs.Ytjgnmmlbnkmgfaa
open Go.ChangeShapes Go.WideShapes Go.ChangeAt Go.RowKit

/-- The block of a slice. -/
def blk : Value → List Nat
  | .slice (some a) _ _ => [a.block]
  | _ => []
def RowI (B : Nat) (w : World) (a : Option Addr) (n c : Nat) (l : List Int) : Prop := w.ownsRow B 3 1 (.slice a n c) l.length (ints l) ∧ n = l.length
theorem RowI.nil (B : Nat) (w : World) : RowI B w none 0 0 [] := ⟨World.ownsRow_nil _ _ _ _, rfl⟩
theorem RowI.frm {D : List Nat} {B : Nat} {w w' : World} {a : Option Addr} {n c : Nat} {l : List Int} (h : RowI B w a n c l) (hf : Frm D w w') (hd : ∀ x ∈ blk (.slice a n c), x ∉ D) : RowI B w' a n c l := by
  obtain ⟨⟨h0, hh⟩, h2⟩ := h
  refine ⟨⟨h0, ?_⟩, h2⟩
  rcases hh with hh | ⟨g, cap, cur, hv, hg, hc, r⟩
  · exact .inl hh
  · exact .inr ⟨g, cap, cur, hv, hg, hf.heap hc (hd g (by rw [hv]; simp [blk])), r⟩
theorem RowI.frm0 {B : Nat} {w w' : World} {a : Option Addr} {n c : Nat} {l : List Int} (h : RowI B w a n c l) (hf : Frm [] w w') : RowI B w' a n c l := h.frm hf (by simp)
theorem RowI.blk {B : Nat} {w : World} {a : Option Addr} {n c : Nat} {l : List Int} (h : RowI B w a n c l) : ∀ x ∈ blk (.slice a n c), B ≤ x ∧ x < w.heap.size := by
  obtain ⟨⟨h0, hh⟩, h2⟩ := h
  intro x hx
  rcases hh with ⟨hv, _⟩ | ⟨g, cap, cur, hv, hg, hc, r⟩
  · rw [hv] at hx; cases hx
  · rw [hv] at hx; simp [Go.Proofs.Ytjgnmmlbnkmgfaa.blk] at hx; subst hx; exact ⟨hg, lt_of_heap hc⟩
theorem RowI.li {B : Nat} {w : World} {a : Option Addr} {n c : Nat} {l : List Int} (h : RowI B w a n c l) : ∃ b, Li .i64 w a n c b 0 l := by
  obtain ⟨⟨h0, hh⟩, h2⟩ := h
  rcases hh with ⟨hv, hn⟩ | ⟨g, cap, cur, hv, hg, hc, hn, hm, hs, ht⟩
  · cases hv
    obtain rfl : l = [] := List.eq_nil_of_length_eq_zero hn
    exact ⟨0, Li.nil w 0 0⟩
  · cases hv
    refine ⟨g, h2.symm, fun _ => rfl, fun i x hx => ?_, by omega⟩
    have hj := ints_get hx
    have hlt := (List.getElem?_eq_some_iff.1 hx).1
    rw [cell_of_heap hc, Nat.zero_add, ← Array.getElem?_toList]
    rw [← ht, List.getElem?_take, if_pos (by omega)] at hj
    exact hj
/-- append of one number onto such a row. -/
theorem run_appI {B : Nat} {w : World} {a : Option Addr} {n c q : Nat} {l : List Int} {x : Int} (hR : RowI B w a n c l) (hq : w.heap[q]? = some (.cells #[.int .i64 x] 3 (0, 0))) (hn : l.length ≤ 100000) (hB : B ≤ w.heap.size) (ty : TypeId) :
    ∃ a' c' w', (Builtin.append_ #[28, 28] ty #[.slice a n c, .slice (some ⟨q, 0, none⟩) 1 1]).run Try.prog w = .ok (.slice a' (n + 1) c') w' ∧ RowI B w' a' (n + 1) c' (l ++ [x]) ∧ Frm (Go.Proofs.Ytjgnmmlbnkmgfaa.blk (.slice a n c)) w w' := by
  obtain ⟨i0, hi, hz0, hz1, hz2⟩ := info_parts info_int
  obtain ⟨hO, rfl⟩ := hR
  obtain ⟨v', w', hr, hO2, hg, _⟩ := run_append_own (P := Try.prog) w B 28 ty 3 i0 _ 1 8 Try.underlying28 hi hz0 hz1 hz2 rfl (by decide) _ _ _ hO ⟨q, 0, none⟩ 1 1 (ints [x]) rfl
      (fun j u hj => by
        rw [Addr.add_lit, Nat.zero_add, cell_of_heap hq]
        have : j = 0 := by have := (List.getElem?_eq_some_iff.1 hj).1; simp [ints] at this; omega
        subst this; simpa [ints] using hj) (ints_one [x]) (by unfold maxLen; omega) (by omega) hB
  have hform : ∃ a' c', v' = .slice a' (l.length + 1) c' := by
    rcases hO2.2 with ⟨hv, hn⟩ | ⟨g, cap, cur, hv, _⟩
    · omega
    · exact ⟨_, cap, hv⟩
  obtain ⟨a', c', rfl⟩ := hform
  refine ⟨a', c', w', hr, ⟨?_, by simp⟩, Frm.grown hg (fun k hk => ?_)⟩
  · have e : ints (l ++ [x]) = ints l ++ ints [x] := by simp [ints]
    rw [e, List.length_append]; exact hO2
  · cases a with
    | none => simp [Value.ownBlock] at hk
    | some a => simp [Value.ownBlock] at hk; subst hk; simp [Go.Proofs.Ytjgnmmlbnkmgfaa.blk]
theorem wpl_appI {w : World} {ops : Array Oper} {rest : List Oper} {o : Oper} {x : Act} {Q : Exit → Act → World → Prop} (hgd : o.guard = none) (p q : Operand)
    (ho : o.op = .call { callee := .builtin .append, args := #[p, q], argTypes := #[28, 28] }) {B : Nat} {a : Option Addr} {n c g : Nat} {l : List Int} {y : Int}
    (hd : x.eval p = .slice a n c) (hq : x.eval q = .slice (some ⟨g, 0, none⟩) 1 1) (hR : RowI B w a n c l) (hs : w.heap[g]? = some (.cells #[.int .i64 y] 3 (0, 0))) (hn : l.length ≤ 100000) (hB : B ≤ w.heap.size)
    (hK : ∀ a' c' w', RowI B w' a' (n + 1) c' (l ++ [y]) → Frm (blk (.slice a n c)) w w' → wpList Try.prog ops Q rest (x.put o.dst (.slice a' (n + 1 : Nat) c')) w') : wpList Try.prog ops Q (o :: rest) x w := by
  refine wpList_plain hgd fun K hK' => ?_
  obtain ⟨a', c', w', hr, h1, h2⟩ := run_appI hR hs hn hB o.type
  unfold Oper.wp
  simp [execOp, ho, resolve, invoke, builtin, hd, hq, hr, Result.andThen]
  exact hK' _ _ (hK _ _ _ h1 h2)

set_option maxHeartbeats 1000000 in
theorem same_any {w : World} {a : Option Addr} {n c b o : Nat} {l : List Int} (hL : Li .i64 w a n c b o l) {a2 : Option Addr} {n2 c2 b2 o2 : Nat} {l2 : List Int} (hL2 : Li .i64 w a2 n2 c2 b2 o2 l2) (hn : n ≤ 200000) :
    Calls Try.prog 34 #[.slice a n c, .slice a2 n2 c2] w (Ret (.bool (decide (l = l2))) (fun w' => Frm [] w w')) := by
  have hl1 := hL.len
  have hl2 := hL2.len
  by_cases hne : n = n2
  · subst hne
    have hyes : (∀ j, j < n → l.getD j 0 = l2.getD j 0) → decide (l = l2) = true := by
      intro h
      simp only [decide_eq_true_eq]
      apply List.ext_getElem (by omega)
      intro i h1 h2
      have := h i (by omega)
      rwa [List.getD_eq_getElem?_getD, List.getD_eq_getElem?_getD, List.getElem?_eq_getElem h1, List.getElem?_eq_getElem h2] at this
    have hno : ∀ (j : Nat) (x y : Int), l[j]? = some x → l2[j]? = some y → ¬ x = y → decide (l = l2) = false := by
      intro j x y hx hy hxy
      simp only [decide_eq_false_iff_not]
      intro e
      subst e
      rw [hx] at hy; cases hy; exact hxy rfl
    generalize decide (l = l2) = R at *
    have HY := Lib.hid hyes
    have HN := Lib.hid hno
    have HL := Lib.hid hL
    have HL2 := Lib.hid hL2
    clear hyes hno hL hL2 hl1 hl2
    go_enter Try.func34, Try.ntmps34
    go_wp2_with fail
    go_loopw [5] (fun i w' => ∃ k : Nat, k ≤ n ∧ i = .int .i64 k ∧ Frm [] w w' ∧ Hid (∀ j, j < k → l.getD j 0 = l2.getD j 0)) (fun i _ => n - (intOf i).toNat)
    case atStart => exact ⟨0, by omega, rfl, Frm.refl _ _, Lib.hid (fun j hj => by omega)⟩
    case round =>
      obtain ⟨k, hk, rfl, hF, HI⟩ := hrel
      by_cases hlt : k < n
      · have hb0 : (0 : Int) ≤ (k : Int) := by omega
        have hb2 : (k : Int) < (n : Int) := by omega
        obtain ⟨x, hx, hg, hc⟩ := (HL.out.frm0 hF).get hlt
        obtain ⟨y, hy, hg2, hc2⟩ := (HL2.out.frm0 hF).get hlt
        have hix := ix_int (c := c) HL.out.ad hlt
        have hix2 := ix_int (c := c2) HL2.out.ad hlt
        by_cases hxy : x = y
        · subst hxy
          have hd : (x != x) = false := by simp
          have HG := Lib.hid (hg.trans hg2.symm)
          clear hx hg hy hg2
          go_wp2_with fail
          go_quiet (fail)
          go_wp2
          go_roundw
          case rel =>
            refine ⟨k + 1, by omega, by go_num, hF.drewN _, Lib.hid (fun j hj => ?_)⟩
            by_cases e : j = k
            · subst e; exact HG.out
            · exact HI.out j (by omega)
          case measure => simp [intOf]; omega
        · have hR := HN.out k x y hx hy hxy
          have HR := Lib.hid hR
          have hd : (x != y) = true := by simpa using hxy
          clear hR hx hg hy hg2 hxy
          go_wp2_with fail
          go_quiet (fail)
          go_wp2
          go_ret
          exact ⟨by rw [HR.out]; rfl, hF.drewN _⟩
      · obtain rfl : k = n := by omega
        have hR := HY.out HI.out
        have HR := Lib.hid hR
        clear hR
        go_wp2
        go_ret
        exact ⟨by rw [HR.out]; rfl, hF⟩
  · have hd : decide (l = l2) = false := by simp only [decide_eq_false_iff_not]; intro e; subst e; omega
    rw [hd]
    have hb : ((n : Int) != (n2 : Int)) = true := by simp; omega
    clear hd hL hL2 hl1 hl2
    go_enter Try.func34, Try.ntmps34
    go_wp2
    go_ret
    exact ⟨rfl, Frm.refl _ _⟩

theorem same_in {w : World} {a : Option Addr} {n c b o : Nat} {l : List Int} (hL : Li .i64 w a n c b o l) {a2 : Option Addr} {n2 c2 b2 o2 : Nat} (hL2 : Li .i64 w a2 n2 c2 b2 o2 l) (hn : n ≤ 200000) :
    Calls Try.prog 34 #[.slice a n c, .slice a2 n2 c2] w (Ret (.bool true) (fun w' => Frm [] w w')) := by
  have := same_any hL hL2 hn
  simpa using this

/-- A call that returns a list and an error, and the list that is wanted. -/
theorem qround_ok (w : World) (t : Int) (m : Nat) (hm : mb t = true) (h : m ≤ 100000) {a2 : Option Addr} {n2 c2 b2 o2 : Nat} (hL2 : Li .i64 w a2 n2 c2 b2 o2 (rnd t m)) :
    Calls Try.prog 12 #[.int .i64 t, .int .i64 (m : Int), .slice a2 n2 c2, .int .i64 0] w (Ret (.bool true) (fun w' => Frm [] w w')) := by
  have hc := round_ok w t m hm h
  have HC := Lib.hid hc
  have HL2 := Lib.hid hL2
  clear hc hL2 hm
  go_enter Try.func12, Try.ntmps12
  go_wp2_with fail
  refine HC.out.mono ?_
  rintro e w1 ⟨rfl, hF1, hB1⟩
  have hs := same_in (li_block (n := m) (rnd_length t m) hB1) (HL2.out.frm0 hF1) (by omega)
  have HS := Lib.hid hs
  clear hs hB1
  go_wp2_with (go_at_call 34; refine HS.out.mono ?_; rintro e w2 ⟨rfl, hF2⟩)
  go_ret
  exact ⟨rfl, hF1.trans hF2⟩
theorem qround_err (w : World) (t m e : Int) (he : mb t = false ∧ e = 2 ∨ m < 0 ∧ e = 2 ∨ (mb t = true ∧ 100000 < m) ∧ e = 5) :
    Calls Try.prog 12 #[.int .i64 t, .int .i64 m, .slice none 0 0, .int .i64 e] w (Ret (.bool true) (fun w' => Frm [] w w')) := by
  have hc : Calls Try.prog 23 #[.int .i64 t, .int .i64 m] w (Ret (.tuple #[.slice none 0 0, .int .i64 e]) (fun w' => w = w')) := by
    rcases he with ⟨h, rfl⟩ | ⟨h, rfl⟩ | ⟨⟨h, h2⟩, rfl⟩
    · exact round_bad w t m (.inl h)
    · exact round_bad w t m (.inr h)
    · exact round_long w t m h h2
  have hs := same_in (Li.nil w 0 0) (Li.nil w 0 0) (by omega)
  have HC := Lib.hid hc
  have HS := Lib.hid hs
  clear hc hs he
  have hee : (e == e) = true := by simp
  go_enter Try.func12, Try.ntmps12
  go_wp2_with fail
  refine HC.out.mono ?_
  rintro e w1 ⟨rfl, rfl⟩
  go_wp2_with (go_at_call 34; refine HS.out.mono ?_; rintro e w2 ⟨rfl, hF2⟩)
  go_ret
  exact ⟨rfl, hF2⟩
theorem qfrom_ok {w : World} {a : Option Addr} {n c b o : Nat} {l : List Int} (hL : Li .u8 w a n c b o l) (hw : ∀ x ∈ l, 0 ≤ x ∧ x ≤ 255) (t : Int) (hm : mb t = true) (h : n ≤ 100000)
    {a2 : Option Addr} {n2 c2 b2 o2 : Nat} (hL2 : Li .i64 w a2 n2 c2 b2 o2 (sayB l t)) :
    Calls Try.prog 13 #[.slice a n c, .int .i64 t, .slice a2 n2 c2, .int .i64 0] w (Ret (.bool true) (fun w' => Frm [] w w')) := by
  have hc := from_ok hL hw t hm h
  have HC := Lib.hid hc
  have HL := Lib.hid hL
  have HL2 := Lib.hid hL2
  clear hc hL2 hm hL hw
  go_enter Try.func13, Try.ntmps13
  go_wp2_with fail
  refine HC.out.mono ?_
  rintro e w1 ⟨rfl, hF1, hB1⟩
  have hs := same_in (li_block (n := n) (by rw [sayB_length]; exact HL.out.len) hB1) (HL2.out.frm0 hF1) (by omega)
  have HS := Lib.hid hs
  clear hs hB1
  go_wp2_with (go_at_call 34; refine HS.out.mono ?_; rintro e w2 ⟨rfl, hF2⟩)
  go_ret
  exact ⟨rfl, hF1.trans hF2⟩
theorem qfrom_err (w : World) (a : Option Addr) (n c : Nat) (t e : Int) (he : mb t = false ∧ e = 2 ∨ (mb t = true ∧ 100000 < n) ∧ e = 5) :
    Calls Try.prog 13 #[.slice a n c, .int .i64 t, .slice none 0 0, .int .i64 e] w (Ret (.bool true) (fun w' => Frm [] w w')) := by
  have hc : Calls Try.prog 35 #[.slice a n c, .int .i64 t] w (Ret (.tuple #[.slice none 0 0, .int .i64 e]) (fun w' => w = w')) := by
    rcases he with ⟨h, rfl⟩ | ⟨⟨h, h2⟩, rfl⟩
    · exact from_bad _ t h
    · exact from_long a n c t h h2
  have hs := same_in (Li.nil w 0 0) (Li.nil w 0 0) (by omega)
  have HC := Lib.hid hc
  have HS := Lib.hid hs
  clear hc hs he
  have hee : (e == e) = true := by simp
  go_enter Try.func13, Try.ntmps13
  go_wp2_with fail
  refine HC.out.mono ?_
  rintro e w1 ⟨rfl, rfl⟩
  go_wp2_with (go_at_call 34; refine HS.out.mono ?_; rintro e w2 ⟨rfl, hF2⟩)
  go_ret
  exact ⟨rfl, hF2⟩
theorem qcounts_ok {w : World} {a : Option Addr} {n c b o : Nat} {l : List Int} (hL : Li .i64 w a n c b o l) (t : Nat) (h : ck l (t : Int) = 0)
    {a2 : Option Addr} {n2 c2 b2 o2 : Nat} (hL2 : Li .i64 w a2 n2 c2 b2 o2 (cnts l t)) :
    Calls Try.prog 17 #[.slice a n c, .int .i64 (t : Int), .slice a2 n2 c2, .int .i64 0] w (Ret (.bool true) (fun w' => Frm [] w w')) := by
  have ht : t ≤ 64 := by have := mb_iff.1 (ck_zero h).1; omega
  have hc := counts_ok hL t h
  have HC := Lib.hid hc
  have HL2 := Lib.hid hL2
  clear hc hL2 hL h
  go_enter Try.func17, Try.ntmps17
  go_wp2_with fail
  refine HC.out.mono ?_
  rintro e w1 ⟨rfl, hF1, hB1⟩
  have hs := same_in (li_block (n := t) (cnts_length l t) hB1) (HL2.out.frm0 hF1) (by omega)
  have HS := Lib.hid hs
  clear hs hB1
  go_wp2_with (go_at_call 34; refine HS.out.mono ?_; rintro e w2 ⟨rfl, hF2⟩)
  go_ret
  exact ⟨rfl, hF1.trans hF2⟩
theorem qcounts_err {w : World} {a : Option Addr} {n c b o : Nat} {l : List Int} (hL : Li .i64 w a n c b o l) (t e : Int) (he : ck l t = e) (h0 : e ≠ 0) :
    Calls Try.prog 17 #[.slice a n c, .int .i64 t, .slice none 0 0, .int .i64 e] w (Ret (.bool true) (fun w' => Frm [] w w')) := by
  subst he
  have hc := counts_bad hL t h0
  have hs := same_in (Li.nil w 0 0) (Li.nil w 0 0) (by omega)
  generalize ck l t = e at *
  have HC := Lib.hid hc
  have HS := Lib.hid hs
  clear hc hs hL h0
  have hee : (e == e) = true := by simp
  go_enter Try.func17, Try.ntmps17
  go_wp2_with fail
  refine HC.out.mono ?_
  rintro e w1 ⟨rfl, rfl⟩
  go_wp2_with (go_at_call 34; refine HS.out.mono ?_; rintro e w2 ⟨rfl, hF2⟩)
  go_ret
  exact ⟨rfl, hF2⟩
theorem qwindow_ok {w : World} {a : Option Addr} {n c b o : Nat} {l : List Int} (hL : Li .i64 w a n c b o l) (t : Nat) (h : ck l (t : Int) = 0) (x : Int) (hx : win l t = x) :
    Calls Try.prog 18 #[.slice a n c, .int .i64 (t : Int), .int .i64 x, .int .i64 0] w (Ret (.bool true) (fun w' => Frm [] w w')) := by
  subst hx
  have hc := window_ok hL t h
  generalize win l t = x at *
  have HC := Lib.hid hc
  clear hc hL h
  have hee : (x == x) = true := by simp
  go_enter Try.func18, Try.ntmps18
  go_wp2_with fail
  refine HC.out.mono ?_
  rintro e w1 ⟨rfl, hF1⟩
  go_wp2
  go_ret
  exact ⟨rfl, hF1⟩
theorem qwindow_err {w : World} {a : Option Addr} {n c b o : Nat} {l : List Int} (hL : Li .i64 w a n c b o l) (t e : Int) (he : ck l t = e) (h0 : e ≠ 0) :
    Calls Try.prog 18 #[.slice a n c, .int .i64 t, .int .i64 0, .int .i64 e] w (Ret (.bool true) (fun w' => Frm [] w w')) := by
  subst he
  have hc := window_bad hL t h0
  generalize ck l t = e at *
  have HC := Lib.hid hc
  clear hc hL h0
  have hee : (e == e) = true := by simp
  go_enter Try.func18, Try.ntmps18
  go_wp2_with fail
  refine HC.out.mono ?_
  rintro e w1 ⟨rfl, rfl⟩
  go_wp2
  go_ret
  exact ⟨rfl, Frm.refl _ _⟩
theorem qfair_of {w : World} {v : Value} {t s e : Int} {r : Bool} (hc : Calls Try.prog 37 #[v, .int .i64 t, .int .i64 s] w (Ret (.tuple #[.bool r, .int .i64 e]) (fun w' => Frm [] w w'))) :
    Calls Try.prog 19 #[v, .int .i64 t, .int .i64 s, .bool r, .int .i64 e] w (Ret (.bool true) (fun w' => Frm [] w w')) := by
  have HC := Lib.hid hc
  clear hc
  have hee : (e == e) = true := by simp
  have hrr : (r == r) = true := by simp
  go_enter Try.func19, Try.ntmps19
  go_wp2_with fail
  refine HC.out.mono ?_
  rintro e w1 ⟨rfl, hF1⟩
  go_wp2
  go_ret
  exact ⟨rfl, hF1⟩
theorem qfair_ok {w : World} {a : Option Addr} {n c b o : Nat} {l : List Int} (hL : Li .i64 w a n c b o l) (t : Nat) (s : Int) (hs : 1 ≤ s) (h : ck l (t : Int) = 0) (r : Bool) (hr : decide (win l t ≤ s) = r) :
    Calls Try.prog 19 #[.slice a n c, .int .i64 (t : Int), .int .i64 s, .bool r, .int .i64 0] w (Ret (.bool true) (fun w' => Frm [] w w')) := by
  subst hr
  exact qfair_of (fair_ok hL t s hs h)
theorem qfair_arg (w : World) (v : Value) (t s : Int) (h : s < 1) :
    Calls Try.prog 19 #[v, .int .i64 t, .int .i64 s, .bool false, .int .i64 2] w (Ret (.bool true) (fun w' => Frm [] w w')) :=
  qfair_of ((fair_arg w v t s h).mono fun _ _ hh => ⟨hh.1, by rw [← hh.2]; exact Frm.refl _ _⟩)
theorem qfair_err {w : World} {a : Option Addr} {n c b o : Nat} {l : List Int} (hL : Li .i64 w a n c b o l) (t s e : Int) (hs : 1 ≤ s) (he : ck l t = e) (h0 : e ≠ 0) :
    Calls Try.prog 19 #[.slice a n c, .int .i64 t, .int .i64 s, .bool false, .int .i64 e] w (Ret (.bool true) (fun w' => Frm [] w w')) := by
  subst he
  exact qfair_of ((fair_bad hL t s hs h0).mono fun _ _ hh => ⟨hh.1, by rw [← hh.2]; exact Frm.refl _ _⟩)
end Go.Proofs.Ytjgnmmlbnkmgfaa
