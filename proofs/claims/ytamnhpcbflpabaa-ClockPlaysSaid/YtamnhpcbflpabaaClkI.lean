/- slices.Delete of one alarm. -/
import Derived.Test.YtamnhpcbflpabaaClkH
namespace Go.Proofs.Ytamnhpcbflpabaa
open Go.ChangeShapes Go.WideShapes Go.ChangeAt Go.RowKit

theorem step_append {P : Program} {ops : Array Oper} {o : Oper} {a : Act} {w : World} {K : Act → World → Prop} {Q : Exit → Act → World → Prop} {E : Prop} (hgd : o.guard = none) (d s : Operand) (t : TypeId)
    (ho : o.op = .call { callee := .builtin .append, args := #[d, s], argTypes := #[t, t] }) {vd vs v' : Value} (hd : a.eval d = vd) (hs : a.eval s = vs) {w' : World} (hr : (Builtin.append_ #[t, t] o.type #[vd, vs]).run P w = .ok v' w')
    (hK : K (a.put o.dst v') w') : if Region.wanted o (yielded ops a.tmps) = true then Oper.wp P o a w K Q else E := by
  have hw : Region.wanted o (yielded ops a.tmps) = true := by simp [Region.wanted, hgd]
  rw [if_pos hw]
  unfold Oper.wp
  simp [execOp, ho, resolve, invoke, builtin, hd, hs, hr, Result.andThen]
  exact hK
theorem wpl_clear {P : Program} (w : World) {ops : Array Oper} {rest : List Oper} {o : Oper} {a : Act} {Q : Exit → Act → World → Prop} (hgd : o.guard = none) (s : Operand) (t : TypeId)
    (ho : o.op = .call { callee := .builtin .clear, args := #[s], argTypes := #[t] }) {vs v' : Value} (hs : a.eval s = vs) {w' : World} (hr : (Builtin.clear_ #[t] o.type #[vs]).run P w = .ok v' w')
    (hh : wpList P ops Q rest (a.put o.dst v') w') : wpList P ops Q (o :: rest) a w := by
  refine wpList_plain hgd fun K hK => ?_
  unfold Oper.wp
  simp [execOp, ho, resolve, invoke, builtin, hs, hr, Result.andThen]
  exact hK _ _ hh

theorem zero_al (w : World) : (zeroValue 62).run Try.prog w = .ok (.agg #[.int .i64 0, .int .i64 0]) w := by
  obtain ⟨i0, hi, hz0, hz1, hz2⟩ := info_parts info_al
  simp [zeroValue, typeInfo, hi, hz0]

set_option maxHeartbeats 4000000 in
theorem del_some {w : World} {d o c N m : Nat} {l : List Al} {cs : Array Value} (hd : w.heap[d]? = some (.cells cs 62 (0, 0))) (hsz : o + c * 2 ≤ cs.size) (hr : ∀ (j : Nat) (u : Value), (flat l)[j]? = some u → cs[o + j]? = some u)
    (hcc : c ≤ 9223372036854775807) (hm : l.length = m + 1) (hlc : m + 1 ≤ c) (hN : N ≤ m) (hl : m ≤ 4096) :
    Calls Try.prog 38 #[.slice (some ⟨d, o, none⟩) (m + 1 : Nat) c, .int .i64 N, .int .i64 ((N : Int) + 1)] w (InsPost w (.slice (some ⟨d, o, none⟩) (m + 1) c) (l.eraseIdx N)) := by
  obtain ⟨i0, hi, hz0, hz1, hz2⟩ := info_parts info_al
  have hrun : ∀ ty (ad : Addr) c2 k, k = m - N → (N < m → ad = ⟨d, o + (N + 1) * 2, none⟩) → (Builtin.append_ #[51, 51] ty #[.slice (some ⟨d, o, none⟩) N c, .slice (some ad) k c2]).run Try.prog w.drew =
      .ok (.slice (some ⟨d, o, none⟩) m c) (w.drew.setCells d (o + N * 2) (flat (l.drop (N + 1)))) := fun ty ad c2 k hk had => by
    subst hk
    have hsrc : Src Try.prog i0.size 51 (.slice (some ad) (m - N) c2) (m - N) (flat (l.drop (N + 1))) w.drew := by
      rw [hz1]
      refine Src.ofSlice w.drew Try.underlying51 ad (m - N) c2 _ (by rw [flat_length, List.length_drop, hm]; omega) (fun j u hj => ?_) (flat_one _)
      have hjl := some_lt hj
      rw [List.length_drop, hm] at hjl
      rw [had (by omega), Addr.add_lit]
      rw [flat_drop, List.getElem?_drop] at hj
      exact (cell_of_heap hd).trans (by rw [Nat.add_assoc]; exact hr _ _ hj)
    have hh := run_append_room_src w.drew 51 51 ty 62 i0 Try.underlying51 hi d o N c _ (m - N) _ hsrc (by omega)
      (fun j hj => by rw [flat_length, List.length_drop, hm] at hj; rw [hz1]; exact (congrArg Option.isSome (cell_of_heap hd)).trans (by rw [Array.getElem?_eq_getElem (by omega)]; rfl)) (fun j _ => frozen_of_heap hd)
    rw [hz1, show N + (m - N) = m by omega] at hh
    exact hh
  have hW := heap_setCells_at d (flat (l.drop (N + 1))) (o + N * 2) w.drew cs hd
  have hF : Frm [d] w (w.drew.setCells d (o + N * 2) (flat (l.drop (N + 1)))) := Frm.setCells d (.inl (by simp)) _ _ _ (Frm.refl _ _).drew
  generalize w.drew.setCells d (o + N * 2) (flat (l.drop (N + 1))) = W1 at hrun hW hF
  generalize hc1 : wr cs (o + N * 2) (flat (l.drop (N + 1))) = cs1 at hW
  have hcs1 : cs1.size = cs.size := by rw [← hc1, wr_size]
  have hclr : ∀ ty c2, (Builtin.clear_ #[51] ty #[.slice (some ⟨d, o + m * 2, none⟩) 1 c2]).run Try.prog W1 = .ok (.tuple #[]) (W1.setCells d (o + m * 2) (List.replicate (1 * 2) (.int .i64 0))) := fun ty c2 =>
    run_clear2 W1 _ _ ty Try.underlying51 zero_al d (o + m * 2) 1 c2 (by omega) (fun j hj => (congrArg Option.isSome (cell_of_heap hW)).trans (by rw [Array.getElem?_eq_getElem (by omega)]; rfl)) (fun j _ => frozen_of_heap hW)
  have hW2 := heap_setCells_at d (List.replicate (1 * 2) (.int .i64 0)) (o + m * 2) W1 cs1 hW
  have hF2 : Frm [d] w (W1.setCells d (o + m * 2) (List.replicate (1 * 2) (.int .i64 0))) := Frm.setCells d (.inl (by simp)) _ _ _ hF
  generalize W1.setCells d (o + m * 2) (List.replicate (1 * 2) (.int .i64 0)) = W2 at hclr hW2 hF2
  have hlen : (l.eraseIdx N).length = m := by rw [List.length_eraseIdx_of_lt (by omega)]; omega
  have hO : Own W2 (.slice (some ⟨d, o, none⟩) m c) (l.eraseIdx N) := by
    refine .inr ⟨d, o, c, by rw [hlen], by rw [hlen]; omega, hcc, _, hW2, by rw [wr_size, hcs1]; exact hsz, fun j u hj => ?_⟩
    have hjl := some_lt hj
    rw [hlen] at hjl
    rw [wr_get _ _ _ _ (by simp [hcs1]; omega), if_neg (by simp; omega), ← hc1, wr_get _ _ _ _ (by rw [flat_length, List.length_drop, hm]; omega), flat_length, List.length_drop, hm]
    rw [List.eraseIdx_eq_take_drop_succ, flat_append] at hj
    have hfl : (flat (l.take N)).length = N * 2 := by rw [flat_length, List.length_take]; omega
    by_cases h1 : j < N * 2
    · rw [List.getElem?_append_left (by omega), flat_take, List.getElem?_take, if_pos h1] at hj
      rw [if_neg (by omega)]; exact hr _ _ hj
    · rw [List.getElem?_append_right (by omega), hfl] at hj
      rw [if_pos (by omega), show o + j - (o + N * 2) = j - N * 2 by omega]; exact hj
  generalize l.eraseIdx N = L at hO ⊢
  have HR := Lib.hid hrun
  have HC := Lib.hid hclr
  have hb1 : (N : Int) ≤ (m : Int) := by omega
  have hb2 : (m : Int) + 1 ≤ (c : Int) := by omega
  have hb3 : ¬ c = m := by omega
  have hb5 : ((N : Int) == (N : Int) + 1) = false := by simp; omega
  have htn : ((N : Int) + 1).toNat = N + 1 := by omega
  by_cases hcN : c = N + 1
  · obtain rfl : N = m := by omega
    subst hcN
    have hb8 : (N : Int) ≤ (N : Int) + 1 := by omega
    have hb7 : (0 : Int) ≤ (N : Int) + 1 := by omega
    have hwp : IntKind.i64.wrap ((N : Int) + 1) = (N : Int) + 1 := by rw [IntKind.wrap_i64]; omega
    clear hrun hclr hd hr hW hW2 hc1 hm hF
    go_enter Try.func38, Try.ntmps38
    go_wp2_with fail
    go_region_law (refine step_append rfl _ _ 51 rfl (vd := .slice (some ⟨d, o, none⟩) N (N + 1)) (vs := .slice (some ⟨d, o, none⟩) 0 0) (by simp [Act.eval, Act.put]) (by simp [Act.eval, Act.put]) (HR.out _ _ _ _ (by omega) (fun hlt => absurd hlt (by omega))) ?_)
    go_wp2_with (refine wpl_clear (o := ⟨none, _, _, _, _, _⟩) _ rfl (.tmp 31) 51 rfl rfl (HC.out _ _) ?_)
    go_ret
    exact ⟨_, _, _, rfl, hF2, hO, fun x hx => .inl hx⟩
  · have hb8 : N ≤ c := by omega
    have hb7 : (0 : Int) ≤ (N : Int) + 1 := by omega
    have hwp : IntKind.i64.wrap ((N : Int) + 1) = (N : Int) + 1 := by rw [IntKind.wrap_i64]; omega
    clear hrun hclr hd hr hW hW2 hc1 hm hF
    go_enter Try.func38, Try.ntmps38
    go_wp2_with fail
    go_region_law (refine step_append rfl _ _ 51 rfl (vd := .slice (some ⟨d, o, none⟩) N c) (vs := .slice (some ⟨d, o + (N + 1) * 2, none⟩) (m - N) (c - (N + 1))) (by simp [Act.eval, Act.put]) (by simp [Act.eval, Act.put]) (HR.out _ _ _ _ rfl (fun _ => rfl)) ?_)
    go_wp2_with (refine wpl_clear (o := ⟨none, _, _, _, _, _⟩) _ rfl (.tmp 31) 51 rfl rfl (HC.out _ _) ?_)
    go_ret
    exact ⟨_, _, _, rfl, hF2, hO, fun x hx => .inl hx⟩

theorem delete_any {w : World} {v : Value} {N : Nat} {l : List Al} (hO : Own w v l) (hl : l.length ≤ 4096) (hN : N < l.length) :
    Calls Try.prog 38 #[v, .int .i64 N, .int .i64 ((N : Int) + 1)] w (InsPost w v (l.eraseIdx N)) := by
  rcases hO with ⟨rfl, rfl⟩ | ⟨d, o, c, rfl, hlc, hcc, cs, hd, hsz, hr⟩
  · simp at hN
  · obtain ⟨m, hm⟩ : ∃ m, l.length = m + 1 := ⟨l.length - 1, by omega⟩
    rw [hm]
    exact del_some hd hsz hr hcc hm (by omega) (by omega) (by omega)
end Go.Proofs.Ytamnhpcbflpabaa
