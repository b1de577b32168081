/- Stage 13: what the program keeps of the waits, where it lies; goesOn. -/
import Derived.Test.YtfkikaoojelddaaTrM
import Derived.StillTailTactics
namespace Go.Proofs.Ytfkikaoojelddaa
open Go.ChangeShapes Go.WideShapes Go.ChangeAt Go.RowKit
set_option linter.unusedVariables false
set_option linter.unusedSimpArgs false
theorem u_wd : Try.prog.underlying 32 = some (.slice 52) := by kernel_rfl
theorem i_wd : (Try.prog.info? 52).map (fun i => (i.zero, i.size, i.bytes)) = some (some (.agg #[.int .i64 0, .int .i64 0, .int .i64 0, .int .i64 0, .int .i64 0]), 5, 40) := by kernel_rfl
def wdF (l : List Wd) (i : Nat) : List Value := (l.getD i wd0).cells
theorem wdF_app (l : List Wd) (d : Wd) {k : Nat} (hk : k < l.length + 1) : wdF (l ++ [d]) k = upd (wdF l) l.length d.cells k := by
  unfold wdF
  by_cases e : k = l.length
  · subst e
    rw [upd_eq, List.getD_eq_getElem?_getD, List.getElem?_append_right (Nat.le_refl _), Nat.sub_self]; rfl
  · rw [upd_ne _ _ e, List.getD_eq_getElem?_getD, List.getElem?_append_left (by omega), List.getD_eq_getElem?_getD]
theorem wd_one (d : Wd) : ∀ u ∈ d.cells, u.oneCell' = true := by
  intro u hu
  simp [Wd.cells] at hu
  rcases hu with rfl | rfl | rfl | rfl | rfl <;> rfl
def opF (S : WS) (t : Int) : Option Value := (S.op t).map (fun n => .int .i64 (n : Int))
def laF (S : WS) (x : Int) : Option Value := (S.la x).map (fun y => .agg #[.int .i64 (y.1 : Int), .int .i64 y.2])
/-- Where it lies. -/
structure WtAt (w : World) (B p q1 q2 : Nat) (a : Option Addr) (c : Nat) (S : WS) : Prop where
  P : w.heap[p]? = some (.cells #[.slice a S.ws.length c, .map (some q1), .map (some q2)] 116 (0, 0))
  G : Gr 52 5 B w a S.ws.length c (wdF S.ws)
  M1 : Mp w q1 (opF S)
  M2 : Mp w q2 (laF S)
  ne : q1 ≠ q2
  ix : ∀ t n, S.op t = some n → n < S.ws.length
  bp : B ≤ p
  b1 : B ≤ q1
  b2 : B ≤ q2
def wtD (p q1 q2 : Nat) (a : Option Addr) : List Nat := p :: q1 :: q2 :: bkG a
theorem WtAt.frm {D : List Nat} {w w' : World} {B p q1 q2 : Nat} {a : Option Addr} {c : Nat} {S : WS} (h : WtAt w B p q1 q2 a c S) (hf : Frm D w w') (hd : ∀ x ∈ wtD p q1 q2 a, x ∉ D) : WtAt w' B p q1 q2 a c S :=
  ⟨hf.heap h.P (hd p (by simp [wtD])), h.G.frm hf (fun x hx => hd x (by simp [wtD, hx])), h.M1.frm hf (hd q1 (by simp [wtD])), h.M2.frm hf (hd q2 (by simp [wtD])), h.ne, h.ix, h.bp, h.b1, h.b2⟩
theorem WtAt.frm0 {w w' : World} {B p q1 q2 : Nat} {a : Option Addr} {c : Nat} {S : WS} (h : WtAt w B p q1 q2 a c S) (hf : Frm [] w w') : WtAt w' B p q1 q2 a c S := h.frm hf (by simp)
theorem cells3 {w : World} {b : Nat} {x0 x1 x2 : Value} {t : TypeId} (h : w.heap[b]? = some (.cells #[x0, x1, x2] t (0, 0))) : w.cell? ⟨b, 0, none⟩ = some x0 ∧ w.cell? ⟨b, 1, none⟩ = some x1 ∧ w.cell? ⟨b, 2, none⟩ = some x2 := by
  refine ⟨?_, ?_, ?_⟩ <;> rw [cell_of_heap h] <;> rfl
theorem WtAt.lts {w : World} {B p q1 q2 : Nat} {a : Option Addr} {c : Nat} {S : WS} (h : WtAt w B p q1 q2 a c S) : (∀ x ∈ wtD p q1 q2 a, B ≤ x ∧ x < w.heap.size) ∧ p ≠ q1 ∧ p ≠ q2 ∧ (∀ x ∈ bkG a, x ≠ p ∧ x ≠ q1 ∧ x ≠ q2) := by
  obtain ⟨e1, c1, h1, _⟩ := h.M1
  obtain ⟨e2, c2, h2, _⟩ := h.M2
  have hG := h.G.from_
  refine ⟨fun x hx => ?_, fun e => ?_, fun e => ?_, fun x hx => ⟨?_, fun e => ?_, fun e => ?_⟩⟩
  · simp [wtD] at hx
    rcases hx with rfl | rfl | rfl | hx
    · exact ⟨h.bp, lt_of_heap h.P⟩
    · exact ⟨h.b1, lt_of_heap h1⟩
    · exact ⟨h.b2, lt_of_heap h2⟩
    · exact hG x hx
  · have := h.P; rw [e, h1] at this; cases this
  · have := h.P; rw [e, h2] at this; cases this
  · exact h.G.ne h.P (by decide) x hx
  · obtain ⟨_, _, ⟨hn, _⟩ | ⟨g, cs, hg, _, hh, _⟩⟩ := h.G
    · rw [hn] at hx; simp [bkG] at hx
    · rw [hg] at hx; simp [bkG] at hx; subst hx; rw [e, h1] at hh; cases hh
  · obtain ⟨_, _, ⟨hn, _⟩ | ⟨g, cs, hg, _, hh, _⟩⟩ := h.G
    · rw [hn] at hx; simp [bkG] at hx
    · rw [hg] at hx; simp [bkG] at hx; subst hx; rw [e, h2] at hh; cases hh
theorem z_int (w : World) : (zeroValue 3).run Try.prog w = .ok (.int .i64 0) w := by kernel_rfl
theorem z_chg (w : World) : (zeroValue 135).run Try.prog w = .ok (.agg #[.int .i64 0, .int .i64 0]) w := by kernel_rfl
theorem ix_wd {a : Option Addr} {n c g k : Nat} (ha : a = some ⟨g, 0, none⟩) (hk : k < n) (w : World) : (Instr.indexAt 32 (.slice a n c) (.int .i64 (k : Int))).run Try.prog w = .ok (.pointer (some ⟨g, k * 5, none⟩)) w := by
  subst ha
  exact ix_gr u_wd i_wd hk w
section
variable {w : World} {B p q1 q2 : Nat} {a : Option Addr} {c : Nat} {S : WS}
theorem WtAt.look1 (h : WtAt w B p q1 q2 a c S) {t : Int} (ht : (Lit.int .i64 t).wf = true) {w' : World} (hf : Frm [] w w') : (Instr.lookup 113 (.map (some q1)) (.int .i64 t) true).run Try.prog w' = .ok (match S.op t with | some n => .tuple #[.int .i64 (n : Int), .bool true] | none => .tuple #[.int .i64 0, .bool false]) w' := by
  rw [(h.frm0 hf).M1.look Try.underlying113 (z_int w') ht]
  unfold opF
  cases S.op t <;> rfl
theorem WtAt.look2 (h : WtAt w B p q1 q2 a c S) {t : Int} (ht : (Lit.int .i64 t).wf = true) {w' : World} (hf : Frm [] w w') : (Instr.lookup 114 (.map (some q2)) (.int .i64 t) true).run Try.prog w' = .ok (match S.la t with | some y => .tuple #[.agg #[.int .i64 (y.1 : Int), .int .i64 y.2], .bool true] | none => .tuple #[.agg #[.int .i64 0, .int .i64 0], .bool false]) w' := by
  rw [(h.frm0 hf).M2.look Try.underlying114 (z_chg w') ht]
  unfold laF
  cases S.la t <;> rfl
end
section
variable {w : World} {ops : Array Oper} {rest : List Oper} {o : Oper} {a : Act} {Q : Exit → Act → World → Prop} {q : Nat} {f : Int → Option Value} {t e : TypeId}
theorem wpl_mput (hg : o.guard = none) (m x v : Operand) (hop : o.op = Op.mapUpdate t m x v) (ht : Try.prog.underlying t = some (.map 3 e)) (h : Mp w q f) {k : Int} (hk : (Lit.int .i64 k).wf = true) (hm : a.eval m = .map (some q)) (hx : a.eval x = .int .i64 k) {V : Value} (hv : a.eval v = V)
    (hK : ∀ w', Mp w' q (updI f k (some V)) → Frm [q] w w' → wpList Try.prog ops Q rest (a.put o.dst undef) w') : wpList Try.prog ops Q (o :: rest) a w := by
  refine wpList_plain hg fun K' hK' => ?_
  obtain ⟨w', hrun, r1, r2⟩ := h.put ht hk V
  unfold Oper.wp
  simp [execOp, hop, hm, hx, hv, hrun, Result.andThen]
  exact hK' _ _ (hK w' r1 r2)
theorem wpl_mdel (hg : o.guard = none) (m x : Operand) (hop : o.op = Op.call { callee := Callee.builtin Builtin.delete, args := #[m, x], argTypes := #[t, 3] }) (ht : Try.prog.underlying t = some (.map 3 e)) (h : Mp w q f) {k : Int} (hk : (Lit.int .i64 k).wf = true) (hm : a.eval m = .map (some q)) (hx : a.eval x = .int .i64 k)
    (hK : ∀ w', Mp w' q (updI f k none) → Frm [q] w w' → MpDel w w' q k → wpList Try.prog ops Q rest (a.put o.dst (.tuple #[])) w') : wpList Try.prog ops Q (o :: rest) a w := by
  refine wpList_plain hg fun K' hK' => ?_
  obtain ⟨w', hrun, r1, r2, r3⟩ := h.del ht hk (ty := o.type)
  unfold Oper.wp
  simp [execOp, hop, resolve, invoke, builtin, hm, hx, hrun, Result.andThen]
  exact hK' _ _ (hK w' r1 r2 r3)
end
end Go.Proofs.Ytfkikaoojelddaa
