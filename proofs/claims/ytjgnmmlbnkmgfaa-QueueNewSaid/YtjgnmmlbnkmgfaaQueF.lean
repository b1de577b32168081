/- Package queue: the order of ages in memory; which place a thread has; a turn is taken out; a copy. -/
import Derived.Test.YtjgnmmlbnkmgfaaQueE
namespace Go.Proofs.Ytjgnmmlbnkmgfaa
open Go.ChangeShapes Go.WideShapes Go.ChangeAt Go.RowKit

/-- A slice of turns with its spare cells, in a block of its own. -/
structure OwnAt (w : World) (d c : Nat) (l : List Al) : Prop where
  blk : ∃ cs : Array Value, w.heap[d]? = some (.cells cs 63 (0, 0)) ∧ c * 2 ≤ cs.size ∧ ∀ (j : Nat) (u : Value), (flat l)[j]? = some u → cs[j]? = some u
  len : l.length ≤ c
  cap : c ≤ 9223372036854775807

namespace OwnAt
variable {w w' : World} {d c : Nat} {l : List Al}
theorem lt (h : OwnAt w d c l) : d < w.heap.size := by obtain ⟨⟨cs, h1, _⟩, _, _⟩ := h; exact lt_of_heap h1
theorem frm {D : List Nat} (h : OwnAt w d c l) (hf : Frm D w w') (hd : d ∉ D) : OwnAt w' d c l := by
  obtain ⟨⟨cs, h1, h2⟩, h3, h4⟩ := h
  exact ⟨⟨cs, hf.heap h1 hd, h2⟩, h3, h4⟩
theorem frm0 (h : OwnAt w d c l) (hf : Frm [] w w') : OwnAt w' d c l := h.frm hf (by simp)
theorem cells (h : OwnAt w d c l) {i : Nat} {a : Al} (hi : l[i]? = some a) : w.cell? ⟨d, i * 2, none⟩ = some (.int .i64 a.1) ∧ w.cell? ⟨d, i * 2 + 1, none⟩ = some (.int .i64 a.2) := by
  obtain ⟨⟨cs, h1, h2, h3⟩, _, _⟩ := h
  exact ⟨by rw [cell_of_heap h1]; exact h3 _ _ (flat_get0 hi), by rw [cell_of_heap h1]; exact h3 _ _ (flat_get1 hi)⟩
theorem rd (h : OwnAt w d c l) : ∀ (j : Nat) (u : Value), (flat l)[j]? = some u → w.cell? ⟨d, 0 + j, none⟩ = some u := by
  obtain ⟨⟨cs, h1, h2, h3⟩, _, _⟩ := h
  intro j u hj
  rw [Nat.zero_add, cell_of_heap h1]; exact h3 j u hj
end OwnAt

theorem cells2 {w : World} {b : Nat} {x0 x1 : Value} {t : TypeId} {f : Nat × Nat} (h : w.heap[b]? = some (.cells #[x0, x1] t f)) : w.cell? ⟨b, 0, none⟩ = some x0 ∧ w.cell? ⟨b, 1, none⟩ = some x1 :=
  ⟨by rw [cell_of_heap h]; rfl, by rw [cell_of_heap h]; rfl⟩
theorem al_cell0 {w : World} {d o : Nat} {l : List Al} (hr : ∀ (j : Nat) (u : Value), (flat l)[j]? = some u → w.cell? ⟨d, o + j, none⟩ = some u) {i : Nat} {a : Al} (hi : l[i]? = some a) :
    w.cell? ⟨d, o + i * 2, none⟩ = some (.int .i64 a.1) ∧ w.cell? ⟨d, o + i * 2 + 1, none⟩ = some (.int .i64 a.2) :=
  ⟨hr _ _ (flat_get0 hi), by rw [Nat.add_assoc]; exact hr _ _ (flat_get1 hi)⟩

/-- The first turn with an ID. -/
def idxN (l : List Al) (id : Int) : Nat := l.findIdx (fun a => a.1 == id)
def idx (l : List Al) (id : Int) : Int := if idxN l id < l.length then (idxN l id : Int) else -1
theorem idxN_le (l : List Al) (id : Int) : idxN l id ≤ l.length := List.findIdx_le_length
theorem idxN_at {l : List Al} {id : Int} {i : Nat} {x : Al} (hx : l[i]? = some x) (hi : i ≤ idxN l id) : (x.1 == id) = decide (i = idxN l id) := by
  obtain ⟨hl, rfl⟩ := List.getElem?_eq_some_iff.1 hx
  by_cases h : i = idxN l id
  · have := List.findIdx_getElem (p := fun a : Al => a.1 == id) (xs := l) (w := by unfold idxN at h; omega)
    unfold idxN at h
    subst h
    rw [this]; simp [idxN]
  · have := List.not_of_lt_findIdx (p := fun a : Al => a.1 == id) (xs := l) (i := i) (by unfold idxN at h hi; omega)
    rw [decide_eq_false h]; simpa using this

theorem clo_any (w : World) (x : Al) (b : Nat) (id : Int) (hb : w.cell? ⟨b, 0, none⟩ = some (.int .i64 id)) (t : Bool) (ht : (x.1 == id) = t) :
    Calls Try.prog 51 #[.agg #[.int .i64 x.1, .int .i64 x.2], .pointer (some ⟨b, 0, none⟩)] w (Ret (.bool t) (fun w' => Frm [] w w')) := by
  have hlt : b < w.heap.size := World.block_lt_of_cell? w _ hb
  go_enter Try.func51, Try.ntmps51
  go_wp2
  go_ret
  exact ⟨rfl, (Frm.refl _ _).alloc _⟩


set_option maxHeartbeats 1000000 in
theorem ixf_some {w : World} {d o c : Nat} {l : List Al} (hl : l.length ≤ 4096) (hd : d < w.heap.size) (hr : ∀ (j : Nat) (u : Value), (flat l)[j]? = some u → w.cell? ⟨d, o + j, none⟩ = some u)
    (b : Nat) (id : Int) (hb : w.cell? ⟨b, 0, none⟩ = some (.int .i64 id)) :
    Calls Try.prog 50 #[.slice (some ⟨d, o, none⟩) l.length c, .func (.func 51) #[] #[.pointer (some ⟨b, 0, none⟩)]] w (Ret (.int .i64 (idx l id)) (fun w' => Frm [] w w')) := by
  have hN := idxN_le l id
  have hat := fun (i : Nat) (x : Al) (hx : l[i]? = some x) (hi : i ≤ idxN l id) => idxN_at hx hi
  have hfin : idx l id = if idxN l id < l.length then (idxN l id : Int) else -1 := rfl
  generalize idx l id = R at hfin ⊢
  generalize idxN l id = N at *
  have HR := Lib.hid hr
  have HA := Lib.hid hat
  have HF := Lib.hid hfin
  have hbl : b < w.heap.size := World.block_lt_of_cell? w _ hb
  clear hr hat hfin
  go_enter Try.func50, Try.ntmps50
  go_wp2_with fail
  go_loopw [5, 8] (fun _ i w' => ∃ k : Nat, k ≤ N ∧ i = .int .i64 k ∧ Frm [] w w') (fun _ i _ => l.length - (intOf i).toNat)
  case atStart => exact ⟨0, by omega, rfl, Frm.refl _ _⟩
  case round =>
    obtain ⟨k, hk, rfl, hF⟩ := hrel
    by_cases hlt : k < l.length
    · have hb0 : (0 : Int) ≤ (k : Int) := by omega
      have hb1 : (k : Int) < (l.length : Int) := by omega
      have hx : l[k]? = some (l[k]'(by omega)) := List.getElem?_eq_getElem _
      generalize (l[k]'(by omega)) = x at hx
      obtain ⟨x1, x2⟩ := x
      have hxc : w.cell? ⟨d, o + k * 2, none⟩ = some (.int .i64 x1) ∧ w.cell? ⟨d, o + k * 2 + 1, none⟩ = some (.int .i64 x2) := al_cell0 HR.out hx
      have k2 : wr.cell? ⟨d, o + k * 2, none⟩ = some (.int .i64 x1) := by rw [hF.cell hd (by simp)]; exact hxc.1
      have k3 : wr.cell? ⟨d, o + k * 2 + 1, none⟩ = some (.int .i64 x2) := by rw [hF.cell hd (by simp)]; exact hxc.2
      have k4 : wr.cell? ⟨b, 0, none⟩ = some (.int .i64 id) := by rw [hF.cell hbl (by simp)]; exact hb
      have hq := HA.out k _ hx hk
      clear hx hxc
      by_cases hkN : k = N
      · rw [decide_eq_true hkN] at hq
        have HQ := Lib.hid hq
        have HKN := Lib.hid hkN
        clear hq hkN
        go_wp2_with fail
        refine (clo_any _ (x1, x2) _ _ k4 _ HQ.out).mono ?_
        rintro e w1 ⟨rfl, hF1⟩
        go_wp2
        go_ret
        refine ⟨?_, hF.trans hF1⟩
        have e := HF.out
        rw [if_pos (by have := HKN.out; omega)] at e
        rw [e, ← HKN.out]
        rfl
      · rw [decide_eq_false hkN] at hq
        have HQ := Lib.hid hq
        clear hq
        go_wp2_with fail
        refine (clo_any _ (x1, x2) _ _ k4 _ HQ.out).mono ?_
        rintro e w1 ⟨rfl, hF1⟩
        go_wp2
        go_roundw
        case rel => exact ⟨k + 1, by omega, by go_num, hF.trans hF1⟩
        case measure => simp [intOf]; omega
    · go_wp2
      go_ret
      refine ⟨?_, hF⟩
      have e := HF.out
      rw [if_neg (by omega)] at e
      rw [e]
      rfl


theorem info_al : (Try.prog.info? 63).map (fun i => (i.zero, i.size, i.bytes)) = some (some (.agg #[.int .i64 0, .int .i64 0]), 2, 16) := by kernel_rfl
theorem cap_le (w : World) (n c : Nat) (T : TypeId) (h : n ≤ 5000) : n ≤ grownCap w n c T ∧ grownCap w n c T ≤ 9223372036854775807 := by
  have h1 := grownCap_ge w n c T
  have h2 := grownCap_le_maxLen w n c T (by unfold maxLen; omega)
  unfold maxLen at h2
  omega
theorem own_grown {w : World} {l : List Al} {C : Nat} {z : List Value} {zr : Array Value} (hz : z = flat l) (hC : l.length ≤ C) (hm : C ≤ 9223372036854775807) (hs : zr.size = (C - l.length) * 2) :
    OwnAt (w.alloc (.cells (z.toArray ++ zr) 63)) w.heap.size C l := by
  subst hz
  refine ⟨⟨_, heap_alloc_new _ _, ?_, fun j u hj => ?_⟩, hC, hm⟩
  · simp [hs, flat_length]; omega
  · have hlt := (List.getElem?_eq_some_iff.1 hj).1
    rw [Array.getElem?_append_left (by simpa using hlt), List.getElem?_toArray]; exact hj
theorem some_lt {l : List Al} {j : Nat} {u : Value} (h : (flat l)[j]? = some u) : j < l.length * 2 := by
  have := (List.getElem?_eq_some_iff.1 h).1; rw [flat_length] at this; exact this

set_option maxHeartbeats 1000000 in
theorem clone_some {w : World} {d c : Nat} {l : List Al} (hA : OwnAt w d c l) (hl : l.length ≤ 4096) (hl0 : 0 < l.length) :
    Calls Try.prog 44 #[.slice (some ⟨d, 0, none⟩) l.length c] w (fun e w' => ∃ g c', Ret (.slice (some ⟨g, 0, none⟩) l.length c') (fun w' => Frm [] w w' ∧ OwnAt w' g c' l ∧ w.heap.size ≤ g) e w') := by
  obtain ⟨i0, hi, hz0, hz1, hz2⟩ := info_parts info_al
  have hnil := fun (w : World) (a : Option Addr) (n c : Nat) => Lib.run_eql_slice_nil (P := Try.prog) w 51 63 a n c 0 0 Try.underlying51
  have h3 := hA.lt
  have hr := hA.rd
  obtain ⟨X, hX⟩ : ∃ X, X = w.alloc (.cells #[] 63) := ⟨_, rfl⟩
  have hFX : Frm [] w X := by rw [hX]; exact (Frm.refl _ _).alloc _
  have hXs : X.heap.size = w.heap.size + 1 := by rw [hX]; simp
  have hrX : ∀ (j : Nat) (u : Value), (flat l)[j]? = some u → X.cell? ⟨d, 0 + j, none⟩ = some u := fun j u hu => by rw [hFX.cell h3 (by simp)]; exact hr j u hu
  have hsrc : Src Try.prog i0.size 51 (.slice (some ⟨d, 0, none⟩) l.length c) l.length (flat l) X := by
    rw [hz1]
    exact Src.ofSlice X Try.underlying51 ⟨d, 0, none⟩ l.length c (flat l) (flat_length l) (fun j u hj => by rw [Addr.add_lit]; exact hrX j u hj) (flat_one l)
  have hold : (Builtin.firstCells i0.size 0 (.slice (some ⟨w.heap.size, 0, none⟩) 0 0)).run Try.prog X.drew = .ok (#[] : Array Value) X.drew := by
    rw [hz1]; exact run_firstCells_some X.drew 2 0 ⟨w.heap.size, 0, none⟩ 0 0 [] rfl (by simp)
  have hrun : ∀ ty, (Builtin.append_ #[51, 51] ty #[.slice (some ⟨w.heap.size, 0, none⟩) 0 0, .slice (some ⟨d, 0, none⟩) l.length c]).run Try.prog X = _ := fun ty =>
    run_append_grow_src X 51 51 ty 63 i0 _ Try.underlying51 hi hz0 (some ⟨w.heap.size, 0, none⟩) 0 0 [] hold (.slice (some ⟨d, 0, none⟩) l.length c) l.length (flat l) hsrc (by omega) (by omega)
      (by rw [hz2]; exact growslice_fits (by omega) (by omega))
  have hcap := cap_le X (0 + l.length) 0 63 (by omega)
  obtain ⟨G, hG⟩ : ∃ G, G = grownCap X (0 + l.length) 0 63 := ⟨_, rfl⟩
  rw [← hG] at hrun hcap
  clear hG
  rw [Nat.zero_add] at hcap
  have hO := own_grown (w := X.drew) (l := l) (C := G) (z := [] ++ flat l) (zr := Builtin.zeroCells (Value.agg #[.int .i64 0, .int .i64 0]).cells (G - (0 + l.length))) rfl hcap.1 hcap.2 (by simp [Builtin.zeroCells, Value.cells])
  have hF2 : Frm [] w (X.drew.alloc (.cells (([] ++ flat l).toArray ++ Builtin.zeroCells (Value.agg #[.int .i64 0, .int .i64 0]).cells (G - (0 + l.length))) 63)) := (hFX.drew).alloc _
  generalize hY : X.drew.alloc (.cells (([] ++ flat l).toArray ++ Builtin.zeroCells (Value.agg #[.int .i64 0, .int .i64 0]).cells (G - (0 + l.length))) 63) = Y at hrun hO hF2
  rw [Nat.zero_add] at hrun
  have hXd : X.drew.heap.size = w.heap.size + 1 := hXs
  rw [hXd] at hO
  rw [hXs, hX] at hrun
  have HR := Lib.hid hrun
  generalize l.length = n at *
  have HO := Lib.hid hO
  clear hrun hX hXs hXd hY hold hsrc hO hr hrX hA
  go_enter Try.func44, Try.ntmps44
  go_wp2_with (at_builtin; refine Lib.wpList_append_run _ rfl _ _ _ _ rfl _ _ rfl rfl _ _ (HR.out _) ?_)
  go_ret
  exact ⟨_, _, rfl, hF2, HO.out, by simp⟩

theorem step_append {P : Program} {ops : Array Oper} {o : Oper} {a : Act} {w : World} {K : Act → World → Prop} {Q : Exit → Act → World → Prop} {E : Prop} (hgd : o.guard = none) (d s : Operand) (t : TypeId)
    (ho : o.op = .call { callee := .builtin .append, args := #[d, s], argTypes := #[t, t] }) {vd vs v' : Value} (hd : a.eval d = vd) (hs : a.eval s = vs) {w' : World} (hr : (Builtin.append_ #[t, t] o.type #[vd, vs]).run P w = .ok v' w')
    (hK : K (a.put o.dst v') w') : if Region.wanted o (yielded ops a.tmps) = true then Oper.wp P o a w K Q else E := by
  have hw : Region.wanted o (yielded ops a.tmps) = true := by simp [Region.wanted, hgd]
  rw [if_pos hw]
  unfold Oper.wp
  simp [execOp, ho, resolve, invoke, builtin, hd, hs, hr, Result.andThen]
  exact hK
theorem wpl_clear {P : Program} (w : World) {ops : Array Oper} {rest : List Oper} {o : Oper} {a : Act} {Q : Exit → Act → World → Prop} (hgd : o.guard = none) (s : Operand) (t : TypeId)
    (ho : o.op = .call { callee := .builtin .clear, args := #[s], argTypes := #[t] }) {vs v' : Value} (hs : a.eval s = vs) {w' : World} (hr : (Builtin.clear_ #[t] o.type #[vs]).run P w = .ok v' w')
    (hh : wpList P ops Q rest (a.put o.dst v') w') : wpList P ops Q (o :: rest) a w := by
  refine wpList_plain hgd fun K hK => ?_
  unfold Oper.wp
  simp [execOp, ho, resolve, invoke, builtin, hs, hr, Result.andThen]
  exact hK _ _ hh

theorem zero_al (w : World) : (zeroValue 63).run Try.prog w = .ok (.agg #[.int .i64 0, .int .i64 0]) w := by
  obtain ⟨i0, hi, hz0, hz1, hz2⟩ := info_parts info_al
  simp [zeroValue, typeInfo, hi, hz0]

set_option maxHeartbeats 4000000 in
theorem del_some {w : World} {d c N m : Nat} {l : List Al} (hA : OwnAt w d c l) (hm : l.length = m + 1) (hN : N ≤ m) (hl : m ≤ 4096) :
    Calls Try.prog 52 #[.slice (some ⟨d, 0, none⟩) (m + 1 : Nat) c, .int .i64 N, .int .i64 ((N : Int) + 1)] w (Ret (.slice (some ⟨d, 0, none⟩) m c) (fun w' => Frm [d] w w' ∧ OwnAt w' d c (l.eraseIdx N))) := by
  obtain ⟨⟨cs, hd, hsz', hr'⟩, hlc', hcc⟩ := hA
  obtain ⟨o, ho⟩ : ∃ o, o = 0 := ⟨0, rfl⟩
  have hsz : o + c * 2 ≤ cs.size := by omega
  have hr : ∀ (j : Nat) (u : Value), (flat l)[j]? = some u → cs[o + j]? = some u := fun j u hj => by rw [ho, Nat.zero_add]; exact hr' j u hj
  have hlc : m + 1 ≤ c := by omega
  clear hsz' hr' hlc'
  rw [← ho]
  obtain ⟨i0, hi, hz0, hz1, hz2⟩ := info_parts info_al
  have hrun : ∀ ty (ad : Addr) c2 k, k = m - N → (N < m → ad = ⟨d, o + (N + 1) * 2, none⟩) → (Builtin.append_ #[51, 51] ty #[.slice (some ⟨d, o, none⟩) N c, .slice (some ad) k c2]).run Try.prog w.drew =
      .ok (.slice (some ⟨d, o, none⟩) m c) (w.drew.setCells d (o + N * 2) (flat (l.drop (N + 1)))) := fun ty ad c2 k hk had => by
    subst hk
    have hsrc : Src Try.prog i0.size 51 (.slice (some ad) (m - N) c2) (m - N) (flat (l.drop (N + 1))) w.drew := by
      rw [hz1]
      refine Src.ofSlice w.drew Try.underlying51 ad (m - N) c2 _ (by rw [flat_length, List.length_drop, hm]; omega) (fun j u hj => ?_) (flat_one _)
      have hjl := some_lt hj
      rw [List.length_drop, hm] at hjl
      rw [had (by omega), Addr.add_lit]
      rw [flat_drop, List.getElem?_drop] at hj
      exact (cell_of_heap hd).trans (by rw [Nat.add_assoc]; exact hr _ _ hj)
    have hh := run_append_room_src w.drew 51 51 ty 63 i0 Try.underlying51 hi d o N c _ (m - N) _ hsrc (by omega)
      (fun j hj => by rw [flat_length, List.length_drop, hm] at hj; rw [hz1]; exact (congrArg Option.isSome (cell_of_heap hd)).trans (by rw [Array.getElem?_eq_getElem (by omega)]; rfl)) (fun j _ => frozen_of_heap hd)
    rw [hz1, show N + (m - N) = m by omega] at hh
    exact hh
  have hW := heap_setCells_at d (flat (l.drop (N + 1))) (o + N * 2) w.drew cs hd
  have hF : Frm [d] w (w.drew.setCells d (o + N * 2) (flat (l.drop (N + 1)))) := Frm.setCells d (.inl (by simp)) _ _ _ (Frm.refl _ _).drew
  generalize w.drew.setCells d (o + N * 2) (flat (l.drop (N + 1))) = W1 at hrun hW hF
  generalize hc1 : wr cs (o + N * 2) (flat (l.drop (N + 1))) = cs1 at hW
  have hcs1 : cs1.size = cs.size := by rw [← hc1, wr_size]
  have hclr : ∀ ty c2, (Builtin.clear_ #[51] ty #[.slice (some ⟨d, o + m * 2, none⟩) 1 c2]).run Try.prog W1 = .ok (.tuple #[]) (W1.setCells d (o + m * 2) (List.replicate (1 * 2) (.int .i64 0))) := fun ty c2 =>
    run_clear2 W1 _ _ ty Try.underlying51 zero_al d (o + m * 2) 1 c2 (by omega) (fun j hj => (congrArg Option.isSome (cell_of_heap hW)).trans (by rw [Array.getElem?_eq_getElem (by omega)]; rfl)) (fun j _ => frozen_of_heap hW)
  have hW2 := heap_setCells_at d (List.replicate (1 * 2) (.int .i64 0)) (o + m * 2) W1 cs1 hW
  have hF2 : Frm [d] w (W1.setCells d (o + m * 2) (List.replicate (1 * 2) (.int .i64 0))) := Frm.setCells d (.inl (by simp)) _ _ _ hF
  generalize W1.setCells d (o + m * 2) (List.replicate (1 * 2) (.int .i64 0)) = W2 at hclr hW2 hF2
  have hlen : (l.eraseIdx N).length = m := by rw [List.length_eraseIdx_of_lt (by omega)]; omega
  have hO : OwnAt W2 d c (l.eraseIdx N) := by
    refine ⟨⟨_, hW2, by rw [wr_size, hcs1]; omega, fun j u hj => ?_⟩, by rw [hlen]; omega, hcc⟩
    rw [← Nat.zero_add j, ← ho]
    have hjl := some_lt hj
    rw [hlen] at hjl
    rw [wr_get _ _ _ _ (by simp [hcs1]; omega), if_neg (by simp; omega), ← hc1, wr_get _ _ _ _ (by rw [flat_length, List.length_drop, hm]; omega), flat_length, List.length_drop, hm]
    rw [List.eraseIdx_eq_take_drop_succ, flat_append] at hj
    have hfl : (flat (l.take N)).length = N * 2 := by rw [flat_length, List.length_take]; omega
    by_cases h1 : j < N * 2
    · rw [List.getElem?_append_left (by omega), flat_take, List.getElem?_take, if_pos h1] at hj
      rw [if_neg (by omega)]; exact hr _ _ hj
    · rw [List.getElem?_append_right (by omega), hfl] at hj
      rw [if_pos (by omega), show o + j - (o + N * 2) = j - N * 2 by omega]; exact hj
  generalize l.eraseIdx N = L at hO ⊢
  have HR := Lib.hid hrun
  have HC := Lib.hid hclr
  have hb1 : (N : Int) ≤ (m : Int) := by omega
  have hb2 : (m : Int) + 1 ≤ (c : Int) := by omega
  have hb3 : ¬ c = m := by omega
  have hb5 : ((N : Int) == (N : Int) + 1) = false := by simp; omega
  have htn : ((N : Int) + 1).toNat = N + 1 := by omega
  by_cases hcN : c = N + 1
  · obtain rfl : N = m := by omega
    subst hcN
    have hb8 : (N : Int) ≤ (N : Int) + 1 := by omega
    have hb7 : (0 : Int) ≤ (N : Int) + 1 := by omega
    have hwp : IntKind.i64.wrap ((N : Int) + 1) = (N : Int) + 1 := by rw [IntKind.wrap_i64]; omega
    clear hrun hclr hd hr hW hW2 hc1 hm hF ho
    go_enter Try.func52, Try.ntmps52
    go_wp2_with fail
    go_region_law (refine step_append rfl _ _ 51 rfl (vd := .slice (some ⟨d, o, none⟩) N (N + 1)) (vs := .slice (some ⟨d, o, none⟩) 0 0) (by simp [Act.eval, Act.put]) (by simp [Act.eval, Act.put]) (HR.out _ _ _ _ (by omega) (fun hlt => absurd hlt (by omega))) ?_)
    go_wp2_with (refine wpl_clear (o := ⟨none, _, _, _, _, _⟩) _ rfl (.tmp 31) 51 rfl rfl (HC.out _ _) ?_)
    go_ret
    exact ⟨rfl, hF2, hO⟩
  · have hb8 : N ≤ c := by omega
    have hb7 : (0 : Int) ≤ (N : Int) + 1 := by omega
    have hwp : IntKind.i64.wrap ((N : Int) + 1) = (N : Int) + 1 := by rw [IntKind.wrap_i64]; omega
    clear hrun hclr hd hr hW hW2 hc1 hm hF ho
    go_enter Try.func52, Try.ntmps52
    go_wp2_with fail
    go_region_law (refine step_append rfl _ _ 51 rfl (vd := .slice (some ⟨d, o, none⟩) N c) (vs := .slice (some ⟨d, o + (N + 1) * 2, none⟩) (m - N) (c - (N + 1))) (by simp [Act.eval, Act.put]) (by simp [Act.eval, Act.put]) (HR.out _ _ _ _ rfl (fun _ => rfl)) ?_)
    go_wp2_with (refine wpl_clear (o := ⟨none, _, _, _, _, _⟩) _ rfl (.tmp 31) 51 rfl rfl (HC.out _ _) ?_)
    go_ret
    exact ⟨rfl, hF2, hO⟩

end Go.Proofs.Ytjgnmmlbnkmgfaa
