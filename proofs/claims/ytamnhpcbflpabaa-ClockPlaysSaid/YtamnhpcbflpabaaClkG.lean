/- slices.Insert of one alarm. -/
import Derived.Test.YtamnhpcbflpabaaClkF
import Derived.Lib.Overlaps
import Derived.Deep.RegionLaw
import Derived.Lib.SliceRun
namespace Go.Proofs.Ytamnhpcbflpabaa
open Go.ChangeShapes Go.WideShapes Go.ChangeAt Go.RowKit

/-- The operation copy where its run is known. -/
theorem wpl_copy {P : Program} (w : World) {ops : Array Oper} {rest : List Oper} {o : Oper} {a : Act} {Q : Exit → Act → World → Prop} (hgd : o.guard = none) (d s : Operand) (t : TypeId)
    (ho : o.op = .call { callee := .builtin .copy, args := #[d, s], argTypes := #[t, t] }) {vd vs v' : Value} (hd : a.eval d = vd) (hs : a.eval s = vs) {w' : World} (hr : (Builtin.copy_ #[t, t] o.type #[vd, vs]).run P w = .ok v' w')
    (hh : wpList P ops Q rest (a.put o.dst v') w') : wpList P ops Q (o :: rest) a w := by
  refine wpList_plain hgd fun K hK => ?_
  unfold Oper.wp
  simp [execOp, ho, resolve, invoke, builtin, hd, hs, hr, Result.andThen]
  exact hK _ _ hh
theorem step_copy {P : Program} {ops : Array Oper} {o : Oper} {a : Act} {w : World} {K : Act → World → Prop} {Q : Exit → Act → World → Prop} {E : Prop} (hgd : o.guard = none) (d s : Operand) (t : TypeId)
    (ho : o.op = .call { callee := .builtin .copy, args := #[d, s], argTypes := #[t, t] }) {vd vs v' : Value} (hd : a.eval d = vd) (hs : a.eval s = vs) {w' : World} (hr : (Builtin.copy_ #[t, t] o.type #[vd, vs]).run P w = .ok v' w')
    (hK : K (a.put o.dst v') w') : if Region.wanted o (yielded ops a.tmps) = true then Oper.wp P o a w K Q else E := by
  have hw : Region.wanted o (yielded ops a.tmps) = true := by simp [Region.wanted, hgd]
  rw [if_pos hw]
  unfold Oper.wp
  simp [execOp, ho, resolve, invoke, builtin, hd, hs, hr, Result.andThen]
  exact hK

/-- An alarm inserted at a place. -/
def insN (l : List Al) (N : Nat) (a : Al) : List Al := l.take N ++ a :: l.drop N
theorem insN_length (l : List Al) (N : Nat) (a : Al) (hN : N ≤ l.length) : (insN l N a).length = l.length + 1 := by unfold insN; simp; omega
theorem insN_end (l : List Al) (a : Al) : insN l l.length a = l ++ [a] := by unfold insN; simp
theorem insN_get (l : List Al) (N : Nat) (a : Al) (hN : N ≤ l.length) (j : Nat) :
    (flat (insN l N a))[j]? = if j < N * 2 then (flat l)[j]? else if j < N * 2 + 2 then (flat [a])[j - N * 2]? else (flat (l.drop N))[j - (N * 2 + 2)]? := by
  have hfl : (flat (l.take N)).length = N * 2 := by rw [flat_length, List.length_take]; omega
  have e : insN l N a = l.take N ++ ([a] ++ l.drop N) := rfl
  rw [e, flat_append, flat_append]
  by_cases h1 : j < N * 2
  · rw [if_pos h1, List.getElem?_append_left (by omega), flat_take, List.getElem?_take, if_pos h1]
  · rw [if_neg h1, List.getElem?_append_right (by omega), hfl]
    by_cases h2 : j < N * 2 + 2
    · rw [if_pos h2, List.getElem?_append_left (by rw [flat_length]; simp; omega)]
    · rw [if_neg h2, List.getElem?_append_right (by rw [flat_length]; simp; omega), flat_length]
      congr 1
theorem some_lt {l : List Al} {j : Nat} {u : Value} (h : (flat l)[j]? = some u) : j < l.length * 2 := by
  have := (List.getElem?_eq_some_iff.1 h).1; rw [flat_length] at this; exact this

/-- The alarm that is inserted, in a block of its own. -/
theorem src_one {w : World} {vb : Nat} {a : Al} {i0 : TypeInfo} (hz1 : i0.size = 2) (hv : w.heap[vb]? = some (.cells #[.int .i64 a.1, .int .i64 a.2] 62 (0, 0))) :
    Src Try.prog i0.size 51 (.slice (some ⟨vb, 0, none⟩) 1 1) 1 (flat [a]) w := by
  rw [hz1]
  refine Src.ofSlice w Try.underlying51 ⟨vb, 0, none⟩ 1 1 (flat [a]) rfl (fun j u hj => ?_) (flat_one _)
  have := some_lt hj
  simp at this
  rw [Addr.add_lit, Nat.zero_add, cell_of_heap hv]
  have : j = 0 ∨ j = 1 := by omega
  rcases this with rfl | rfl <;> simpa [flat] using hj

/-- What an insertion leaves. -/
def InsPost (w : World) (v : Value) (l : List Al) (e : Ending) (w' : World) : Prop :=
  ∃ a n c, Ret (.slice a n c) (fun w' => Frm (blk v) w w' ∧ Own w' (.slice a n c) l ∧ ∀ x ∈ blk (.slice a n c), x ∈ blk v ∨ w.heap.size ≤ x) e w'

set_option maxHeartbeats 1000000 in
theorem ins_end_room {w : World} {d o c vb : Nat} {l : List Al} {a : Al} {cs : Array Value} (hd : w.heap[d]? = some (.cells cs 62 (0, 0))) (hsz : o + c * 2 ≤ cs.size) (hr : ∀ (j : Nat) (u : Value), (flat l)[j]? = some u → cs[o + j]? = some u)
    (hcc : c ≤ 9223372036854775807) (hlc : l.length + 1 ≤ c) (hv : w.heap[vb]? = some (.cells #[.int .i64 a.1, .int .i64 a.2] 62 (0, 0))) :
    Calls Try.prog 30 #[.slice (some ⟨d, o, none⟩) l.length c, .int .i64 l.length, .slice (some ⟨vb, 0, none⟩) 1 1] w (InsPost w (.slice (some ⟨d, o, none⟩) l.length c) (insN l l.length a)) := by
  obtain ⟨i0, hi, hz0, hz1, hz2⟩ := info_parts info_al
  have hsrc := src_one hz1 hv
  have hrun : ∀ ty, (Builtin.append_ #[51, 51] ty #[.slice (some ⟨d, o, none⟩) l.length c, .slice (some ⟨vb, 0, none⟩) 1 1]).run Try.prog w = _ := fun ty =>
    run_append_room_src w 51 51 ty 62 i0 Try.underlying51 hi d o l.length c _ 1 (flat [a]) hsrc hlc
      (fun j hj => by rw [cell_of_heap hd, hz1]; simp [flat_length] at hj; rw [Array.getElem?_eq_getElem (by omega)]; rfl) (fun j hj => frozen_of_heap hd)
  rw [hz1] at hrun
  have hW := heap_setCells_at d (flat [a]) (o + l.length * 2) w cs hd
  have hF : Frm [d] w (w.setCells d (o + l.length * 2) (flat [a])) := Frm.setCells d (.inl (by simp)) _ _ _ (Frm.refl _ _)
  generalize w.setCells d (o + l.length * 2) (flat [a]) = w1 at hrun hW hF
  have hO : Own w1 (.slice (some ⟨d, o, none⟩) (l.length + 1) c) (insN l l.length a) := by
    refine .inr ⟨d, o, c, by rw [insN_length _ _ _ (Nat.le_refl _)], by rw [insN_length _ _ _ (Nat.le_refl _)]; exact hlc, hcc, _, hW, by rw [wr_size]; exact hsz, fun j u hj => ?_⟩
    have hjl := some_lt hj
    rw [insN_length _ _ _ (Nat.le_refl _)] at hjl
    rw [insN_get _ _ _ (Nat.le_refl _)] at hj
    rw [wr_get _ _ _ _ (by rw [flat_length]; simp; omega), flat_length]
    by_cases h1 : j < l.length * 2
    · rw [if_pos h1] at hj; rw [if_neg (by omega)]; exact hr _ _ hj
    · rw [if_neg h1, if_pos (by omega)] at hj; rw [if_pos (by simp; omega)]; rw [show o + j - (o + l.length * 2) = j - l.length * 2 by omega]; exact hj
  have HR := Lib.hid hrun
  generalize insN l l.length a = L at hO ⊢
  have hlb : (l.length : Int) ≤ (c : Int) := by omega
  have hcne : ¬ c = l.length := by omega
  clear hrun hsrc hv hd hr hW
  go_enter Try.func30, Try.ntmps30
  go_wp2_with (at_builtin; refine Lib.wpList_append_run _ rfl _ _ _ _ rfl _ _ rfl rfl _ _ (HR.out _) ?_)
  go_ret
  exact ⟨_, _, _, rfl, hF, hO, fun x hx => .inl hx⟩

set_option maxHeartbeats 1000000 in
theorem ins_nil {w : World} {vb : Nat} {a : Al} (hv : w.heap[vb]? = some (.cells #[.int .i64 a.1, .int .i64 a.2] 62 (0, 0))) :
    Calls Try.prog 30 #[.slice none 0 0, .int .i64 0, .slice (some ⟨vb, 0, none⟩) 1 1] w (InsPost w (.slice none 0 0) (insN [] 0 a)) := by
  obtain ⟨i0, hi, hz0, hz1, hz2⟩ := info_parts info_al
  have hsrc := src_one hz1 hv
  have hrun : ∀ ty, (Builtin.append_ #[51, 51] ty #[.slice none 0 0, .slice (some ⟨vb, 0, none⟩) 1 1]).run Try.prog w = _ := fun ty =>
    run_append_grow_src w 51 51 ty 62 i0 _ Try.underlying51 hi hz0 none 0 0 [] (run_firstCells_none w.drew i0.size 0 0 0) _ 1 (flat [a]) hsrc (by omega) (by omega)
      (by rw [hz2]; exact growslice_fits (by omega) (by omega))
  have hcap := cap_le w (0 + 1) 0 62 (by omega)
  obtain ⟨G, hG⟩ : ∃ G, G = grownCap w (0 + 1) 0 62 := ⟨_, rfl⟩
  rw [← hG] at hrun hcap
  clear hG
  have hO := own_grown (w := w.drew) (l := [a]) (C := G) (z := [] ++ flat [a]) (zr := Builtin.zeroCells (Value.agg #[.int .i64 0, .int .i64 0]).cells (G - (0 + 1))) rfl hcap.1 hcap.2 (by simp [Builtin.zeroCells, Value.cells])
  have hF2 : Frm [] w (w.drew.alloc (.cells (([] ++ flat [a]).toArray ++ Builtin.zeroCells (Value.agg #[.int .i64 0, .int .i64 0]).cells (G - (0 + 1))) 62)) := ((Frm.refl _ _).drew).alloc _
  generalize hY : w.drew.alloc (.cells (([] ++ flat [a]).toArray ++ Builtin.zeroCells (Value.agg #[.int .i64 0, .int .i64 0]).cells (G - (0 + 1))) 62) = Y at hrun hO hF2
  have hO' : Own Y (.slice (some ⟨w.heap.size, 0, none⟩) 1 G) (insN [] 0 a) := hO
  generalize insN [] 0 a = L at hO' ⊢
  have HR := Lib.hid hrun
  clear hrun hsrc hv hY hO
  go_enter Try.func30, Try.ntmps30
  go_wp2_with (at_builtin; refine Lib.wpList_append_run _ rfl _ _ _ _ rfl _ _ rfl rfl _ _ (HR.out _) ?_)
  go_ret
  exact ⟨_, _, _, rfl, hF2, hO', fun x hx => .inr (by simp [blk] at hx; omega)⟩

set_option maxHeartbeats 1000000 in
theorem ins_end_grow {w : World} {d o c vb : Nat} {l : List Al} {a : Al} {cs : Array Value} (hd : w.heap[d]? = some (.cells cs 62 (0, 0))) (hr : ∀ (j : Nat) (u : Value), (flat l)[j]? = some u → cs[o + j]? = some u)
    (hl : l.length ≤ 4096) (hlc : l.length = c) (hv : w.heap[vb]? = some (.cells #[.int .i64 a.1, .int .i64 a.2] 62 (0, 0))) :
    Calls Try.prog 30 #[.slice (some ⟨d, o, none⟩) l.length c, .int .i64 l.length, .slice (some ⟨vb, 0, none⟩) 1 1] w (InsPost w (.slice (some ⟨d, o, none⟩) l.length c) (insN l l.length a)) := by
  obtain ⟨i0, hi, hz0, hz1, hz2⟩ := info_parts info_al
  have hsrc := src_one hz1 hv
  have hold : (Builtin.firstCells i0.size l.length (.slice (some ⟨d, o, none⟩) l.length c)).run Try.prog w.drew = .ok (flat l).toArray w.drew := by
    rw [hz1]; exact run_firstCells_some w.drew 2 l.length ⟨d, o, none⟩ l.length c (flat l) (flat_length l) (fun j u hj => by rw [Addr.add_lit]; exact (cell_of_heap hd).trans (hr j u hj))
  have hrun : ∀ ty, (Builtin.append_ #[51, 51] ty #[.slice (some ⟨d, o, none⟩) l.length c, .slice (some ⟨vb, 0, none⟩) 1 1]).run Try.prog w = _ := fun ty =>
    run_append_grow_src w 51 51 ty 62 i0 _ Try.underlying51 hi hz0 _ l.length c (flat l) hold _ 1 (flat [a]) hsrc (by omega) (by omega)
      (by rw [hz2]; exact growslice_fits (by omega) (by omega))
  have hcap := cap_le w (l.length + 1) c 62 (by omega)
  obtain ⟨G, hG⟩ : ∃ G, G = grownCap w (l.length + 1) c 62 := ⟨_, rfl⟩
  rw [← hG] at hrun hcap
  clear hG
  have hlen : (insN l l.length a).length = l.length + 1 := insN_length _ _ _ (Nat.le_refl _)
  have hO := own_grown (w := w.drew) (l := insN l l.length a) (C := G) (z := flat l ++ flat [a]) (zr := Builtin.zeroCells (Value.agg #[.int .i64 0, .int .i64 0]).cells (G - (l.length + 1))) (by rw [insN_end, flat_append]) (by omega) hcap.2 (by rw [hlen]; simp [Builtin.zeroCells, Value.cells])
  have hF2 : Frm [d] w (w.drew.alloc (.cells ((flat l ++ flat [a]).toArray ++ Builtin.zeroCells (Value.agg #[.int .i64 0, .int .i64 0]).cells (G - (l.length + 1))) 62)) := ((Frm.refl _ _).drew).alloc _
  generalize hY : w.drew.alloc (.cells ((flat l ++ flat [a]).toArray ++ Builtin.zeroCells (Value.agg #[.int .i64 0, .int .i64 0]).cells (G - (l.length + 1))) 62) = Y at hrun hO hF2
  have hO' : Own Y (.slice (some ⟨w.heap.size, 0, none⟩) (l.length + 1) G) (insN l l.length a) := by rw [← hlen]; exact hO
  generalize insN l l.length a = L at hO' ⊢
  have HR := Lib.hid hrun
  have hcne : (l.length : Int) ≤ (c : Int) := by omega
  subst hlc
  clear hrun hsrc hv hY hO hold hd hr
  go_enter Try.func30, Try.ntmps30
  go_wp2_with (at_builtin; refine Lib.wpList_append_run _ rfl _ _ _ _ rfl _ _ rfl rfl _ _ (HR.out _) ?_)
  go_ret
  exact ⟨_, _, _, rfl, hF2, hO', fun x hx => .inr (by simp [blk] at hx; omega)⟩

set_option maxHeartbeats 2000000 in
theorem ins_shift {w : World} {d o c vb N : Nat} {l : List Al} {a : Al} {cs : Array Value} (hd : w.heap[d]? = some (.cells cs 62 (0, 0))) (hsz : o + c * 2 ≤ cs.size) (hr : ∀ (j : Nat) (u : Value), (flat l)[j]? = some u → cs[o + j]? = some u)
    (hcc : c ≤ 9223372036854775807) (hlc : l.length + 1 ≤ c) (hN : N < l.length) (hne : vb ≠ d) (hv : w.heap[vb]? = some (.cells #[.int .i64 a.1, .int .i64 a.2] 62 (0, 0))) :
    Calls Try.prog 30 #[.slice (some ⟨d, o, none⟩) l.length c, .int .i64 N, .slice (some ⟨vb, 0, none⟩) 1 1] w (InsPost w (.slice (some ⟨d, o, none⟩) l.length c) (insN l N a)) := by
  obtain ⟨i0, hi, hz0, hz1, hz2⟩ := info_parts info_al
  have hinfo : (Try.prog.info? 62).map (·.size) = some 2 := by rw [hi]; simp [hz1]
  have hov : ∀ lb cb, (callFunc 41 #[.slice (some ⟨vb, 0, none⟩) 1 1, .slice (some ⟨d, o + (N + 1) * 2, none⟩) lb cb]).run Try.prog w = .ok (.value (.bool false)) w := fun lb cb => by
    rw [run_callFunc_extern Try.func41 (by kernel_rfl) (by kernel_rfl) (by kernel_rfl) (e := Extern.SlicesOverlaps.overlaps #[51, 51] #[4]) (by kernel_rfl),
      Lib.run_overlaps_apart w 51 4 62 Try.underlying51 2 (fun w => by simp [sizeOf, typeInfo, hi, hz1]) ⟨vb, 0, none⟩ ⟨d, o + (N + 1) * 2, none⟩ 1 1 lb cb hne 62 62 2 cs.size (by simp [World.shape?, hv]) (by simp [World.shape?, hd]) (by omega) (frozen_of_heap hv) (frozen_of_heap hv)]
    rfl
  have hcp1 : ∀ ty dl' dc sl sc, Nat.min sl dl' = l.length - N → (Builtin.copy_ #[51, 51] ty #[.slice (some ⟨d, o + (N + 1) * 2, none⟩) dl' dc, .slice (some ⟨d, o + N * 2, none⟩) sl sc]).run Try.prog w.drew =
      .ok (goInt (l.length - N : Nat)) (w.drew.setCells d (o + (N + 1) * 2) (flat (l.drop N))) := fun ty dl' dc sl sc hm =>
    run_copy2 w.drew _ _ ty 62 d (o + (N + 1) * 2) dl' dc ⟨d, o + N * 2, none⟩ sl sc (flat (l.drop N)) Try.underlying51 hinfo (l.length - N) hm (by rw [flat_length, List.length_drop])
      (fun j u hj => by
        rw [Addr.add_lit]
        rw [flat_drop, List.getElem?_drop] at hj
        exact (cell_of_heap hd).trans (by rw [Nat.add_assoc]; exact hr _ _ hj))
      (fun j hj => by rw [flat_length, List.length_drop] at hj; exact (congrArg Option.isSome (cell_of_heap hd)).trans (by rw [Array.getElem?_eq_getElem (by omega)]; rfl)) (fun j _ => frozen_of_heap hd) (flat_one _)
  have hW := heap_setCells_at d (flat (l.drop N)) (o + (N + 1) * 2) w.drew cs hd
  have hF : Frm [d] w (w.drew.setCells d (o + (N + 1) * 2) (flat (l.drop N))) := Frm.setCells d (.inl (by simp)) _ _ _ (Frm.refl _ _).drew
  have hv1 := heap_setCells_far (w := w.drew) d (Ne.symm hne) hv (flat (l.drop N)) (o + (N + 1) * 2)
  generalize w.drew.setCells d (o + (N + 1) * 2) (flat (l.drop N)) = W1 at hcp1 hW hF hv1
  generalize hc1 : wr cs (o + (N + 1) * 2) (flat (l.drop N)) = cs1 at hW
  have hcs1 : cs1.size = cs.size := by rw [← hc1, wr_size]
  have hcp2 : ∀ ty dl' dc, Nat.min 1 dl' = 1 → (Builtin.copy_ #[51, 51] ty #[.slice (some ⟨d, o + N * 2, none⟩) dl' dc, .slice (some ⟨vb, 0, none⟩) 1 1]).run Try.prog W1 =
      .ok (goInt (1 : Nat)) (W1.setCells d (o + N * 2) (flat [a])) := fun ty dl' dc hm =>
    run_copy2 W1 _ _ ty 62 d (o + N * 2) dl' dc ⟨vb, 0, none⟩ 1 1 (flat [a]) Try.underlying51 hinfo 1 hm rfl
      (fun j u hj => by
        have := some_lt hj
        simp at this
        rw [Addr.add_lit, Nat.zero_add, cell_of_heap hv1]
        have : j = 0 ∨ j = 1 := by omega
        rcases this with rfl | rfl <;> simpa [flat] using hj)
      (fun j hj => by rw [flat_length] at hj; simp at hj; exact (congrArg Option.isSome (cell_of_heap hW)).trans (by rw [Array.getElem?_eq_getElem (by omega)]; rfl)) (fun j _ => frozen_of_heap hW) (flat_one _)
  have hW2 := heap_setCells_at d (flat [a]) (o + N * 2) W1 cs1 hW
  have hF2 : Frm [d] w (W1.setCells d (o + N * 2) (flat [a])) := Frm.setCells d (.inl (by simp)) _ _ _ hF
  generalize W1.setCells d (o + N * 2) (flat [a]) = W2 at hcp2 hW2 hF2
  have hlen : (insN l N a).length = l.length + 1 := insN_length _ _ _ (by omega)
  have hO : Own W2 (.slice (some ⟨d, o, none⟩) (l.length + 1) c) (insN l N a) := by
    refine .inr ⟨d, o, c, by rw [hlen], by rw [hlen]; exact hlc, hcc, _, hW2, by rw [wr_size, hcs1]; exact hsz, fun j u hj => ?_⟩
    have hjl := some_lt hj
    rw [hlen] at hjl
    rw [insN_get _ _ _ (by omega)] at hj
    rw [wr_get _ _ _ _ (by rw [flat_length, hcs1]; simp; omega), flat_length, ← hc1, wr_get _ _ _ _ (by rw [flat_length, List.length_drop]; omega), flat_length, List.length_drop]
    by_cases h1 : j < N * 2
    · rw [if_pos h1] at hj; rw [if_neg (by simp; omega), if_neg (by omega)]; exact hr _ _ hj
    · rw [if_neg h1] at hj
      by_cases h2 : j < N * 2 + 2
      · rw [if_pos h2] at hj; rw [if_pos (by simp; omega), show o + j - (o + N * 2) = j - N * 2 by omega]; exact hj
      · rw [if_neg h2] at hj; rw [if_neg (by simp; omega), if_pos (by omega), show o + j - (o + (N + 1) * 2) = j - (N * 2 + 2) by omega]; exact hj
  generalize insN l N a = L at hO hlen ⊢
  have HC1 := Lib.hid hcp1
  have HC2 := Lib.hid hcp2
  have hb1 : (N : Int) ≤ (l.length : Int) := by omega
  have hb2 : (l.length : Int) + 1 ≤ (c : Int) := by omega
  have hb3 : ¬ c = N := by omega
  have hb4 : ¬ c = N + 1 := by omega
  have hb5 : ((N : Int) == (l.length : Int)) = false := by simp; omega
  have hb6 : decide ((c : Int) < (l.length : Int) + 1) = false := by simp; omega
  have hb7 : (0 : Int) ≤ (N : Int) + 1 := by omega
  have hb8 : (N : Int) ≤ (l.length : Int) + 1 := by omega
  have htn : ((N : Int) + 1).toNat = N + 1 := by omega
  have hwp : IntKind.i64.wrap ((N : Int) + 1) = (N : Int) + 1 := by rw [IntKind.wrap_i64]; omega
  clear hcp1 hcp2 hd hr hv hW hv1 hc1 hW2
  go_enter Try.func30, Try.ntmps30
  go_wp2_with fail
  go_region_law (refine step_copy rfl _ _ 51 rfl (by simp [Act.eval, Act.put]) (by simp [Act.eval, Act.put]) (HC1.out _ (l.length - N) (c - (N + 1)) (l.length + 1 - N) (c - N) (by simp only [Nat.min_def]; split <;> omega)) ?_)
  go_wp2_with (refine wpl_copy (o := ⟨some 82, _, _, _, _, _⟩) _ rfl (.tmp 80) (.tmp 81) 51 rfl rfl rfl (HC2.out _ (l.length + 1 - N) (c - N) (by simp only [Nat.min_def]; split <;> omega)) ?_)
  go_ret
  exact ⟨_, _, _, rfl, hF2, hO, fun x hx => .inl hx⟩
end Go.Proofs.Ytamnhpcbflpabaa
