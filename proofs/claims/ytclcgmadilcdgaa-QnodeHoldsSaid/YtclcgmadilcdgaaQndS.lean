/- A map of ints to bools that a call makes, in which one word after the other is stored. -/
import Derived.Test.YtclcgmadilcdgaaQndC
import Derived.Maps.OwnSet
namespace Go.Proofs.Ytclcgmadilcdgaa
open Go.ChangeShapes Go.WideShapes Go.ChangeAt Go.RowKit Go.Maps Go.ChangeMaps

/-- The block q holds a map of the words from b on, j of them. -/
def Sn (w : World) (q b j : Nat) : Prop :=
  ∃ es clock, w.heap[q]? = some (.map es clock) ∧ es.size = j ∧ ∀ x ∈ es.toList, ∃ i : Nat, i < j ∧ x.key = .int .i64 ((b : Int) + (i : Int))
namespace Sn
variable {w : World} {q b j : Nat}
theorem made (w : World) (b : Nat) : Sn (w.alloc (.map #[] 0)) w.heap.size b 0 := ⟨#[], 0, heap_alloc_new _ _, rfl, by simp⟩
theorem frm {D : List Nat} {w' : World} (h : Sn w q b j) (hf : Frm D w w') (hd : q ∉ D) : Sn w' q b j := by
  obtain ⟨es, c, hb, hs, hk⟩ := h
  exact ⟨es, c, hf.heap hb hd, hs, hk⟩
theorem lt (h : Sn w q b j) : q < w.heap.size := by obtain ⟨es, c, hb, _⟩ := h; exact lt_of_heap hb

theorem wf_in {b i : Nat} (h : b + i ≤ 65536) : (Lit.int .i64 ((b : Int) + (i : Int))).wf = true := WalkArith.wf_i64 (by omega)
theorem keyed : Keyed Try.prog 3 := int_keyed Try.underlying3
theorem key {b i : Nat} (h : b + i ≤ 65536) : keyOf Try.prog 3 (.int .i64 ((b : Int) + (i : Int))) = some (.int .i64 ((b : Int) + (i : Int))) := keyOf_int_mk Try.underlying3 (wf_in h)

theorem find (hS : Sn w q b j) (hj : b + j ≤ 65536) : ∃ es clock, w.heap[q]? = some (.map es clock) ∧ es.size = j ∧ (∀ x ∈ es.toList, ∃ i : Nat, i < j ∧ x.key = .int .i64 ((b : Int) + (i : Int))) ∧
    (Instr.findKey 3 (.int .i64 ((b : Int) + (j : Int))) es.toList).run Try.prog w = .ok none w := by
  obtain ⟨es, c, hb, hs, hk⟩ := hS
  refine ⟨es, c, hb, hs, hk, ?_⟩
  rcases keyed.find w (key hj) es.toList (fun x hx => by obtain ⟨i, hi, e⟩ := hk x hx; exact ⟨_, by rw [e]; exact key (by omega)⟩) with ⟨h1, _⟩ | ⟨n, e0, _, h2, h3⟩
  · exact h1
  · obtain ⟨i, hi, e⟩ := hk e0 (List.mem_of_getElem? h2)
    rw [e] at h3
    simp at h3
    omega

/-- The next word is not there. -/
theorem look (hS : Sn w q b j) (hj : b + j ≤ 65536) : (Instr.lookup 46 (.map (some q)) (.int .i64 ((b : Int) + (j : Int))) false).run Try.prog w = .ok (.bool false) w := by
  obtain ⟨es, c, hb, hs, hk, h1⟩ := hS.find hj
  have hz : (zeroValue 4).run Try.prog w = .ok (.bool false) w := by kernel_rfl
  simp [Instr.lookup, run_underlying Try.underlying46, MapKept.run_getObj_map hb, keyed.check w _ (key hj), h1, hz, Result.andThen]
/-- It is stored. -/
theorem put (hS : Sn w q b j) (hj : b + j ≤ 65536) : ∃ w', (Instr.mapUpdate 46 (.map (some q)) (.int .i64 ((b : Int) + (j : Int))) (.bool true)).run Try.prog w = .ok () w' ∧ Sn w' q b (j + 1) ∧ Frm [q] w w' := by
  obtain ⟨es, c, hb, hs, hk, h1⟩ := hS.find hj
  refine ⟨setBlock w q (.map (es.push ⟨.int .i64 ((b : Int) + (j : Int)), .bool true, c⟩) (c + 1)), ?_, ⟨_, _, heap_setBlock_same hb _, by simp [hs], ?_⟩, ⟨rfl, rfl, rfl, by simp [setBlock], fun k _ hd => heap_setBlock_other hb _ (by simpa using hd)⟩⟩
  · simp [Instr.mapUpdate, run_underlying Try.underlying46, MapKept.run_getObj_map hb, keyed.check w _ (key hj), h1, MapKept.run_setObj_map _ hb, Result.andThen, setBlock]
  · intro x hx
    simp only [Array.toList_push, List.mem_append, List.mem_singleton] at hx
    rcases hx with hx | rfl
    · obtain ⟨i, hi, e⟩ := hk x hx
      exact ⟨i, by omega, e⟩
    · exact ⟨j, by omega, rfl⟩
theorem len (hS : Sn w q b j) (ty : TypeId) : (Builtin.len_ #[46] ty #[.map (some q)]).run Try.prog w = .ok (.int .i64 j) w := by
  obtain ⟨es, c, hb, hs, _⟩ := hS
  simp [Builtin.len_, run_underlying Try.underlying46, MapKept.run_getObj_map hb, goInt, Result.andThen, hs]
end Sn

section
variable {w : World} {ops : Array Oper} {rest : List Oper} {o : Oper} {a : Act} {Q : Exit → Act → World → Prop} {q b j : Nat}
theorem wpl_look (hg : o.guard = none) (m x : Operand) (hop : o.op = Op.lookup 46 m x false) (hS : Sn w q b j) (hj : b + j ≤ 65536) (hm : a.eval m = .map (some q)) (v : Int) (hx : a.eval x = .int .i64 v) (hv : v = (b : Int) + (j : Int))
    (hK : wpList Try.prog ops Q rest (a.put o.dst (.bool false)) w) : wpList Try.prog ops Q (o :: rest) a w := by
  subst hv
  refine wpList_plain hg fun K' hK' => ?_
  unfold Oper.wp
  simp [execOp, hop, hm, hx, hS.look hj, Result.andThen]
  exact hK' _ _ hK
theorem wpl_put (hg : o.guard = none) (m x : Operand) (hop : o.op = Op.mapUpdate 46 m x (.const (.bool true))) (hS : Sn w q b j) (hj : b + j ≤ 65536) (hm : a.eval m = .map (some q)) (v : Int) (hx : a.eval x = .int .i64 v) (hv : v = (b : Int) + (j : Int))
    (hK : ∀ w', Sn w' q b (j + 1) → Frm [q] w w' → wpList Try.prog ops Q rest (a.put o.dst undef) w') : wpList Try.prog ops Q (o :: rest) a w := by
  subst hv
  refine wpList_plain hg fun K' hK' => ?_
  obtain ⟨w', hrun, r1, r2⟩ := hS.put hj
  have he : a.eval (Operand.const (.bool true)) = .bool true := rfl
  unfold Oper.wp
  simp [execOp, hop, hm, hx, he, hrun, Result.andThen]
  exact hK' _ _ (hK w' r1 r2)
theorem wpl_len (hg : o.guard = none) (m : Operand) (hop : o.op = Op.call { callee := Callee.builtin Builtin.len, args := #[m], argTypes := #[46] }) (hS : Sn w q b j) (hm : a.eval m = .map (some q))
    (hK : wpList Try.prog ops Q rest (a.put o.dst (.int .i64 j)) w) : wpList Try.prog ops Q (o :: rest) a w := by
  refine wpList_plain hg fun K' hK' => ?_
  unfold Oper.wp
  simp [execOp, hop, resolve, invoke, builtin, hm, hS.len o.type, Result.andThen]
  exact hK' _ _ hK
end
theorem Nd.frmD {D : List Nat} {w w' : World} {p b t : Nat} (h : Nd w p b t) (hf : Frm D w w') (hp : p ∉ D) : Nd w' p b t := ⟨hf.heap h.at_ hp, h.t1, h.t64⟩
#print axioms wpl_len
end Go.Proofs.Ytclcgmadilcdgaa
