/- The reference's clock: appending; has; Next. -/
import Derived.Test.YtamnhpcbflpabaaClkY
namespace Go.Proofs.Ytamnhpcbflpabaa
open Go.ChangeShapes Go.WideShapes Go.ChangeAt Go.RowKit

theorem run_append_none {P : Program} (w : World) (t ty e : TypeId) (i : TypeInfo) (ht : P.underlying t = some (.slice e)) (hi : P.info? e = some i) (a : Option Addr) (n c : Nat) (hnc : n ≤ c) (hn : a = none → n = 0) :
    (Builtin.append_ #[t, t] ty #[.slice a n c, .slice none 0 0]).run P w = .ok (.slice a n c) w := by
  cases a with
  | none => obtain rfl := hn rfl; simp [Builtin.append_, run_underlying ht, sizeOf, typeInfo, hi, Builtin.lenOf, Builtin.firstCells]
  | some a => simp [Builtin.append_, run_underlying ht, sizeOf, typeInfo, hi, Builtin.lenOf, Builtin.firstCells, hnc, storeCells]

/-- A row of alarms that a call has made for itself from block B on. -/
def Row (B : Nat) (w : World) (a : Option Addr) (n c : Nat) (l : List Al) : Prop := w.ownsRow B 47 2 (.slice a n c) l.length (flat l) ∧ n = l.length
theorem Row.nil (B : Nat) (w : World) : Row B w none 0 0 [] := ⟨World.ownsRow_nil _ _ _ _, rfl⟩
theorem Row.als {B : Nat} {w : World} {a : Option Addr} {n c : Nat} {l : List Al} (h : Row B w a n c l) : Als w (.slice a n c) l := row_als h.1
theorem Row.frm {D : List Nat} {B : Nat} {w w' : World} {a : Option Addr} {n c : Nat} {l : List Al} (h : Row B w a n c l) (hf : Frm D w w') (hd : ∀ x ∈ blk (.slice a n c), x ∉ D) : Row B w' a n c l := ⟨row_frm h.1 hf hd, h.2⟩
theorem Row.blk {B : Nat} {w : World} {a : Option Addr} {n c : Nat} {l : List Al} (h : Row B w a n c l) : ∀ x ∈ blk (.slice a n c), B ≤ x ∧ x < w.heap.size := row_blk h.1
theorem row_form {B : Nat} {w : World} {v : Value} {n : Nat} {xs : List Value} {t : TypeId} (h : w.ownsRow B t 2 v n xs) : ∃ a c, v = .slice a n c ∧ n ≤ c ∧ (a = none → n = 0) := by
  rcases h.2 with ⟨hv, hn⟩ | ⟨g, cap, cur, hv, _, _, hc, _⟩
  · exact ⟨none, 0, by rw [hv, hn], by omega, fun _ => hn⟩
  · exact ⟨_, cap, hv, hc, fun h => by cases h⟩
/-- append onto such a row, of whatever reads as a list. -/
theorem run_app {B : Nat} {w : World} {a : Option Addr} {n c : Nat} {l l2 : List Al} {sv : Value} (hR : Row B w a n c l) (hs : Als w sv l2) (hn : l.length + l2.length ≤ 100000) (hB : B ≤ w.heap.size) (ty : TypeId) :
    ∃ a' c' w', (Builtin.append_ #[33, 33] ty #[.slice a n c, sv]).run Try.prog w = .ok (.slice a' (n + l2.length) c') w' ∧ Row B w' a' (n + l2.length) c' (l ++ l2) ∧ Frm (blk (.slice a n c)) w w' := by
  obtain ⟨i0, hi, hz0, hz1, hz2⟩ := info_parts info_alarm
  obtain ⟨hO, rfl⟩ := hR
  rcases hs with ⟨rfl, rfl⟩ | ⟨d, o, cc, rfl, h1, h2, h3, h4⟩
  · obtain ⟨a', c', hv, hnc, hn0⟩ := row_form hO
    have := run_append_none (P := Try.prog) w 33 ty 47 i0 Try.underlying33 hi a l.length c (by cases hv; exact hnc) (by cases hv; exact hn0)
    exact ⟨a, c, w, this, ⟨by simpa using hO, by simp⟩, Frm.refl _ _⟩
  · obtain ⟨v', w', hr, hO2, hg, _⟩ := run_append_own (P := Try.prog) w B 33 ty 47 i0 _ 2 16 Try.underlying33 hi hz0 hz1 hz2 rfl (by decide) _ _ _ hO ⟨d, o, none⟩ l2.length cc (flat l2) (flat_length l2)
      (fun j u hj => by rw [Addr.add_lit]; exact h4 j u hj) (flat_one l2) (by unfold maxLen; omega) (by omega) hB
    obtain ⟨a', c', rfl, _, _⟩ := row_form hO2
    exact ⟨a', c', w', hr, ⟨by rw [List.length_append, flat_append]; exact hO2, by simp⟩, Frm.grown hg (fun k hk => row_own hk)⟩

def hasB (l : List Al) (id : Int) : Bool := decide (0 ≤ idx l id)
theorem hasB_at {l : List Al} {id : Int} {k : Nat} {x : Al} (hk : k ≤ idxN l id) (hx : l[k]? = some x) : ((x.1 == id) = true → hasB l id = true) ∧ ((x.1 == id) = false → k + 1 ≤ idxN l id) := by
  have := idxN_at hx hk
  have hl := (List.getElem?_eq_some_iff.1 hx).1
  constructor
  · intro h1
    rw [h1] at this
    have hkN : k = idxN l id := by simpa using this.symm
    unfold hasB idx
    rw [if_pos (by omega)]; simp
  · intro h1
    rw [h1] at this
    have hkN : ¬ k = idxN l id := by simpa using this.symm
    omega
theorem hasB_end {l : List Al} {id : Int} (hk : l.length ≤ idxN l id) : hasB l id = false := by
  unfold hasB idx; rw [if_neg (by omega)]; decide

set_option maxHeartbeats 1000000 in
theorem has_any {w : World} {now : Int} {a : Option Addr} {n c : Nat} {l : List Al} (hA : Als w (.slice a n c) l) (hl : l.length ≤ 5000) (id : Int) :
    Calls Try.prog 45 #[.agg #[.int .i64 now, .slice a n c], .int .i64 id] w (Ret (.bool (hasB l id)) (fun w' => Frm [] w w')) := by
  rcases hA with ⟨hv, rfl⟩ | ⟨d, o, c', hv, h1, h2, h3, hr⟩
  · cases hv
    show Calls Try.prog 45 #[.agg #[.int .i64 now, .slice none 0 0], .int .i64 id] w (Ret (.bool false) (fun w' => Frm [] w w'))
    go_enter Try.func45, Try.ntmps45
    go_wp2_with fail
    go_loop [5] (fun i => i = .int .i64 0) (fun _ => 0)
    case atStart => exact rfl
    case round =>
      subst hrel
      go_wp2
      go_ret
      exact ⟨rfl, (Frm.refl _ _).alloc _⟩
  · cases hv
    have hat := fun (k : Nat) (x : Al) (hk : k ≤ idxN l id) (hx : l[k]? = some x) => hasB_at hk hx
    have hend : l.length ≤ idxN l id → hasB l id = false := hasB_end
    have hN := idxN_le l id
    generalize hasB l id = R at *
    generalize idxN l id = N at *
    have HAT := Lib.hid hat
    have HEND := Lib.hid hend
    have HR := Lib.hid hr
    clear hat hend hr
    go_enter Try.func45, Try.ntmps45
    go_wp2_with fail
    go_loop [5] (fun i => ∃ k : Nat, k ≤ N ∧ i = .int .i64 k) (fun i => l.length - (intOf i).toNat)
    case atStart => exact ⟨0, by omega, rfl⟩
    case round =>
      obtain ⟨k, hk, rfl⟩ := hrel
      by_cases hlt : k < l.length
      · have hb0 : (0 : Int) ≤ (k : Int) := by omega
        have hb1 : (k : Int) < (l.length : Int) := by omega
        have hx : l[k]? = some (l[k]'(by omega)) := List.getElem?_eq_getElem _
        generalize (l[k]'(by omega)) = x at hx
        obtain ⟨x1, x2⟩ := x
        obtain ⟨k1, k2⟩ := Als.cell0 HR.out hx
        have hat := HAT.out k _ hk hx
        have HX := Lib.hid hx
        have hdl := h3
        clear hx
        by_cases hq : (x1 == id) = true
        · have hRt := hat.1 hq
          have HRT := Lib.hid hRt
          clear hat hRt
          go_wp2
          go_ret
          exact ⟨by rw [HRT.out]; rfl, (Frm.refl _ _).alloc _⟩
        · have hq : (x1 == id) = false := by simpa using hq
          have hk1 := hat.2 hq
          clear hat
          go_wp2
          go_round
          case rel => exact ⟨k + 1, by omega, by go_num⟩
          case measure => simp [intOf]; omega
      · have hRf := HEND.out (by omega)
        have HRF := Lib.hid hRf
        clear hRf
        go_wp2
        go_ret
        exact ⟨by rw [HRF.out]; rfl, (Frm.refl _ _).alloc _⟩

theorem rnext_any {w : World} {now : Int} {a : Option Addr} {n c : Nat} {l : List Al} (hA : Als w (.slice a n c) l) :
    Calls Try.prog 37 #[.agg #[.int .i64 now, .slice a n c]] w (Ret (.int .i64 (nxt l)) (fun w' => Frm [] w w')) := by
  rcases hA with ⟨hv, rfl⟩ | ⟨d, o, c', hv, h1, h2, h3, hr⟩
  · cases hv
    show Calls _ _ _ _ (Ret (.int .i64 4611686018427387904) _)
    go_enter Try.func37, Try.ntmps37
    go_wp2
    go_ret
    exact ⟨rfl, (Frm.refl _ _).alloc _⟩
  · cases hv
    cases l with
    | nil =>
      show Calls _ _ _ _ (Ret (.int .i64 4611686018427387904) _)
      go_enter Try.func37, Try.ntmps37
      go_wp2
      go_ret
      exact ⟨rfl, (Frm.refl _ _).alloc _⟩
    | cons x l =>
      show Calls _ _ _ _ (Ret (.int .i64 x.2) _)
      have hx : w.cell? ⟨d, o + 1, none⟩ = some (.int .i64 x.2) := hr 1 _ rfl
      have hlen : (((x :: l).length : Int) == 0) = false := by simp; omega
      have hlen2 : 0 < (x :: l).length := by simp
      generalize (x :: l).length = n at *
      clear hr
      go_enter Try.func37, Try.ntmps37
      go_wp2
      go_ret
      exact ⟨rfl, (Frm.refl _ _).alloc _⟩

theorem step_app {ops : Array Oper} {o : Oper} {x : Act} {w : World} {K : Act → World → Prop} {Q : Exit → Act → World → Prop} {E : Prop} (hgd : o.guard = none) (p q : Operand)
    (ho : o.op = .call { callee := .builtin .append, args := #[p, q], argTypes := #[33, 33] }) {B : Nat} {a : Option Addr} {n c : Nat} {l l2 : List Al} {sv : Value}
    (hd : x.eval p = .slice a n c) (hq : x.eval q = sv) (hR : Row B w a n c l) (hs : Als w sv l2) (hn : l.length + l2.length ≤ 100000) (hB : B ≤ w.heap.size)
    (hK : ∀ a' c' w', Row B w' a' (n + l2.length) c' (l ++ l2) → Frm (blk (.slice a n c)) w w' → K (x.put o.dst (.slice a' (n + l2.length) c')) w') :
    if Region.wanted o (yielded ops x.tmps) = true then Oper.wp Try.prog o x w K Q else E := by
  have hw : Region.wanted o (yielded ops x.tmps) = true := by simp [Region.wanted, hgd]
  rw [if_pos hw]
  obtain ⟨a', c', w', hr, h1, h2⟩ := run_app hR hs hn hB o.type
  unfold Oper.wp
  simp [execOp, ho, resolve, invoke, builtin, hd, hq, hr, Result.andThen]
  exact hK _ _ _ h1 h2
theorem wpl_app {w : World} {ops : Array Oper} {rest : List Oper} {o : Oper} {x : Act} {Q : Exit → Act → World → Prop} (hgd : o.guard = none) (p q : Operand)
    (ho : o.op = .call { callee := .builtin .append, args := #[p, q], argTypes := #[33, 33] }) {B : Nat} {a : Option Addr} {n c : Nat} {l l2 : List Al} {sv : Value}
    (hd : x.eval p = .slice a n c) (hq : x.eval q = sv) (hR : Row B w a n c l) (hs : Als w sv l2) (hn : l.length + l2.length ≤ 100000) (hB : B ≤ w.heap.size)
    (hK : ∀ a' c' w', Row B w' a' (n + l2.length) c' (l ++ l2) → Frm (blk (.slice a n c)) w w' → wpList Try.prog ops Q rest (x.put o.dst (.slice a' (n + l2.length) c')) w') : wpList Try.prog ops Q (o :: rest) x w := by
  refine wpList_plain hgd fun K hK' => ?_
  obtain ⟨a', c', w', hr, h1, h2⟩ := run_app hR hs hn hB o.type
  unfold Oper.wp
  simp [execOp, ho, resolve, invoke, builtin, hd, hq, hr, Result.andThen]
  exact hK' _ _ (hK _ _ _ h1 h2)
end Go.Proofs.Ytamnhpcbflpabaa
