/- slices.Insert of one alarm where there is no room. -/
import Derived.Test.YtamnhpcbflpabaaClkG
namespace Go.Proofs.Ytamnhpcbflpabaa
open Go.ChangeShapes Go.WideShapes Go.ChangeAt Go.RowKit

theorem underlying_int : Try.prog.underlying 3 = some (.int .i64) := Try.underlying3

set_option maxHeartbeats 4000000 in
theorem ins_grow {w : World} {d o c vb N : Nat} {l : List Al} {a : Al} {cs : Array Value} (hd : w.heap[d]? = some (.cells cs 62 (0, 0))) (hr : ∀ (j : Nat) (u : Value), (flat l)[j]? = some u → cs[o + j]? = some u)
    (hl : l.length ≤ 4096) (hlc : l.length = c) (hN : N < l.length) (hv : w.heap[vb]? = some (.cells #[.int .i64 a.1, .int .i64 a.2] 62 (0, 0))) :
    Calls Try.prog 30 #[.slice (some ⟨d, o, none⟩) l.length c, .int .i64 N, .slice (some ⟨vb, 0, none⟩) 1 1] w (InsPost w (.slice (some ⟨d, o, none⟩) l.length c) (insN l N a)) := by
  obtain ⟨i0, hi, hz0, hz1, hz2⟩ := info_parts info_al
  have hinfo : (Try.prog.info? 62).map (·.size) = some 2 := by rw [hi]; simp [hz1]
  have hold : (Builtin.firstCells i0.size N (.slice (some ⟨d, o, none⟩) N c)).run Try.prog w.drew = .ok (flat (l.take N)).toArray w.drew := by
    rw [hz1]
    refine run_firstCells_some w.drew 2 N ⟨d, o, none⟩ N c (flat (l.take N)) (by rw [flat_length, List.length_take]; omega) (fun j u hj => ?_)
    rw [flat_take, List.getElem?_take] at hj
    split at hj
    · rw [Addr.add_lit]; exact (cell_of_heap hd).trans (hr j u hj)
    · cases hj
  have hk : (l.length : Int) + 1 - (N : Int) = ((l.length + 1 - N : Nat) : Int) := by omega
  have hkn : N + (l.length + 1 - N) = l.length + 1 := by omega
  have hrun : ∀ ty, (Builtin.append_ #[51, 3] ty #[.slice (some ⟨d, o, none⟩) N c, .int .i64 ((l.length : Int) + 1 - (N : Int))]).run Try.prog w = .ok (.slice (some ⟨w.heap.size, 0, none⟩) (l.length + 1) (grownCap w (l.length + 1) c 62))
      (w.drew.alloc (.cells ((flat (l.take N)).toArray ++ Builtin.zeroCells (Value.agg #[.int .i64 0, .int .i64 0]).cells (l.length + 1 - N) ++ Builtin.zeroCells (Value.agg #[.int .i64 0, .int .i64 0]).cells (grownCap w (l.length + 1) c 62 - (l.length + 1))) 62)) := fun ty => by
    have hh := Lib.run_append_grow_zeros w 51 3 ty 62 i0 _ .i64 .i64 Try.underlying51 underlying_int hi hz0 (some ⟨d, o, none⟩) N c (flat (l.take N)) hold (l.length + 1 - N) (by omega) (by omega) (by omega) (by omega) (by rw [hz2]; omega)
      (by rw [hz2, hkn]; exact growslice_fits (by omega) (by omega))
    rw [hkn] at hh
    rw [hk]
    exact hh
  have hcap := cap_le w (l.length + 1) c 62 (by omega)
  obtain ⟨G, hG⟩ : ∃ G, G = grownCap w (l.length + 1) c 62 := ⟨_, rfl⟩
  rw [← hG] at hrun hcap
  clear hG
  obtain ⟨ROW, hROW⟩ : ∃ ROW : Array Value, ROW = (flat (l.take N)).toArray ++ Builtin.zeroCells (Value.agg #[.int .i64 0, .int .i64 0]).cells (l.length + 1 - N) ++ Builtin.zeroCells (Value.agg #[.int .i64 0, .int .i64 0]).cells (G - (l.length + 1)) := ⟨_, rfl⟩
  rw [← hROW] at hrun
  have hRs : ROW.size = G * 2 := by rw [hROW]; simp [Builtin.zeroCells, Value.cells, flat_length]; omega
  have hRg : ∀ j, j < N * 2 → ROW[j]? = (flat l)[j]? := fun j hj => by
    rw [hROW, Array.append_assoc, Array.getElem?_append_left (by simp [flat_length]; omega), List.getElem?_toArray, flat_take, List.getElem?_take, if_pos hj]
  have hB1 : (w.drew.alloc (.cells ROW 62)).heap[w.heap.size]? = some (.cells ROW 62 (0, 0)) := heap_alloc_new w.drew _
  have hd1 : (w.drew.alloc (.cells ROW 62)).heap[d]? = _ := heap_alloc_old (w := w.drew) _ hd
  have hv1 : (w.drew.alloc (.cells ROW 62)).heap[vb]? = _ := heap_alloc_old (w := w.drew) _ hv
  have hF1 : Frm [] w (w.drew.alloc (.cells ROW 62)) := ((Frm.refl _ _).drew).alloc _
  have hdl := lt_of_heap hd
  have hvl := lt_of_heap hv
  generalize (w.drew.alloc (.cells ROW 62)) = W1 at hrun hB1 hd1 hv1 hF1
  obtain ⟨g, hg⟩ : ∃ g, g = w.heap.size := ⟨_, rfl⟩
  rw [← hg] at hrun hB1 hdl hvl
  have hcpA : ∀ ty dl' dc, Nat.min 1 dl' = 1 → (Builtin.copy_ #[51, 51] ty #[.slice (some ⟨g, N * 2, none⟩) dl' dc, .slice (some ⟨vb, 0, none⟩) 1 1]).run Try.prog W1 =
      .ok (goInt (1 : Nat)) (W1.setCells g (N * 2) (flat [a])) := fun ty dl' dc hm =>
    run_copy2 W1 _ _ ty 62 g (N * 2) dl' dc ⟨vb, 0, none⟩ 1 1 (flat [a]) Try.underlying51 hinfo 1 hm rfl
      (fun j u hj => by
        have := some_lt hj
        simp at this
        rw [Addr.add_lit, Nat.zero_add, cell_of_heap hv1]
        have : j = 0 ∨ j = 1 := by omega
        rcases this with rfl | rfl <;> simpa [flat] using hj)
      (fun j hj => by rw [flat_length] at hj; simp at hj; exact (congrArg Option.isSome (cell_of_heap hB1)).trans (by rw [Array.getElem?_eq_getElem (by omega)]; rfl)) (fun j _ => frozen_of_heap hB1) (flat_one _)
  have hB2 := heap_setCells_at g (flat [a]) (N * 2) W1 ROW hB1
  have hd2 := heap_setCells_far g (by omega) hd1 (flat [a]) (N * 2)
  have hF2 : Frm [] w (W1.setCells g (N * 2) (flat [a])) := Frm.setCells g (.inr (by omega)) _ _ _ hF1
  generalize W1.setCells g (N * 2) (flat [a]) = W2 at hcpA hB2 hd2 hF2
  generalize hR2 : wr ROW (N * 2) (flat [a]) = ROW2 at hB2
  have hR2s : ROW2.size = G * 2 := by rw [← hR2, wr_size, hRs]
  have hcpB : ∀ ty dl' dc sl sc, Nat.min sl dl' = l.length - N → (Builtin.copy_ #[51, 51] ty #[.slice (some ⟨g, (N + 1) * 2, none⟩) dl' dc, .slice (some ⟨d, o + N * 2, none⟩) sl sc]).run Try.prog W2.drew =
      .ok (goInt (l.length - N : Nat)) (W2.drew.setCells g ((N + 1) * 2) (flat (l.drop N))) := fun ty dl' dc sl sc hm =>
    run_copy2 W2.drew _ _ ty 62 g ((N + 1) * 2) dl' dc ⟨d, o + N * 2, none⟩ sl sc (flat (l.drop N)) Try.underlying51 hinfo (l.length - N) hm (by rw [flat_length, List.length_drop])
      (fun j u hj => by
        rw [Addr.add_lit]
        rw [flat_drop, List.getElem?_drop] at hj
        exact (cell_of_heap hd2).trans (by rw [Nat.add_assoc]; exact hr _ _ hj))
      (fun j hj => by rw [flat_length, List.length_drop] at hj; exact (congrArg Option.isSome (cell_of_heap hB2)).trans (by rw [Array.getElem?_eq_getElem (by omega)]; rfl)) (fun j _ => frozen_of_heap hB2) (flat_one _)
  have hB3 := heap_setCells_at g (flat (l.drop N)) ((N + 1) * 2) W2.drew ROW2 hB2
  have hF3 : Frm [] w (W2.drew.setCells g ((N + 1) * 2) (flat (l.drop N))) := Frm.setCells g (.inr (by omega)) _ _ _ hF2.drew
  generalize W2.drew.setCells g ((N + 1) * 2) (flat (l.drop N)) = W3 at hcpB hB3 hF3
  have hlen : (insN l N a).length = l.length + 1 := insN_length _ _ _ (by omega)
  have hO : Own W3 (.slice (some ⟨g, 0, none⟩) (l.length + 1) G) (insN l N a) := by
    refine .inr ⟨g, 0, G, by rw [hlen], by rw [hlen]; exact hcap.1, hcap.2, _, hB3, by rw [wr_size, hR2s]; omega, fun j u hj => ?_⟩
    have hjl := some_lt hj
    rw [hlen] at hjl
    rw [insN_get _ _ _ (by omega)] at hj
    rw [Nat.zero_add, wr_get _ _ _ _ (by rw [flat_length, List.length_drop, hR2s]; omega), flat_length, List.length_drop, ← hR2, wr_get _ _ _ _ (by rw [flat_length, hRs]; simp; omega), flat_length]
    by_cases h1 : j < N * 2
    · rw [if_pos h1] at hj; rw [if_neg (by omega), if_neg (by omega), hRg _ h1]; exact hj
    · rw [if_neg h1] at hj
      by_cases h2 : j < N * 2 + 2
      · rw [if_pos h2] at hj; rw [if_neg (by omega), if_pos (by simp; omega)]; exact hj
      · rw [if_neg h2] at hj; rw [if_pos (by omega), show j - (N + 1) * 2 = j - (N * 2 + 2) by omega]; exact hj
  have hgs : w.heap.size ≤ g := by omega
  generalize insN l N a = L at hO hlen ⊢
  have HR := Lib.hid hrun
  have HA := Lib.hid hcpA
  have HB := Lib.hid hcpB
  have hb1 : (N : Int) ≤ (l.length : Int) := by omega
  have hb2 : ¬ G = N := by omega
  have hb3 : ¬ G = N + 1 := by omega
  have hb4 : ¬ c = N := by omega
  have hb5 : ((N : Int) == (l.length : Int)) = false := by simp; omega
  have hb6 : decide ((c : Int) < (l.length : Int) + 1) = true := by simp; omega
  have hb7 : (0 : Int) ≤ (N : Int) + 1 := by omega
  have hb8 : (N : Int) ≤ (l.length : Int) + 1 := by omega
  have hb9 : (l.length : Int) ≤ (c : Int) := by omega
  have hb10 : (l.length : Int) + 1 ≤ (G : Int) := by have := hcap.1; omega
  have htn : ((N : Int) + 1).toNat = N + 1 := by omega
  have hcap2 := hcap.2
  have hwp : IntKind.i64.wrap ((N : Int) + 1) = (N : Int) + 1 := by rw [IntKind.wrap_i64]; omega
  clear hrun hcpA hcpB hd hr hv hd1 hv1 hd2 hB1 hB2 hB3 hROW hR2 hRg hRs hR2s hold hk hkn hlc hg hF1 hF2 hlen hcap
  go_enter Try.func30, Try.ntmps30
  go_wp2_with (first
    | (at_builtin; refine Lib.wpList_append_run _ rfl _ _ _ _ rfl _ _ rfl rfl _ _ (HR.out _) ?_)
    | (refine wpl_copy (o := ⟨some 45, _, _, _, _, _⟩) _ rfl (.tmp 43) (.tmp 44) 51 rfl rfl rfl (HA.out _ (l.length + 1 - N) (G - N) (by simp only [Nat.min_def]; split <;> omega)) ?_))
  go_region_law (refine step_copy rfl _ _ 51 rfl (by simp [Act.eval, Act.put]) (by simp [Act.eval, Act.put]) (HB.out _ (l.length - N) (G - (N + 1)) (l.length - N) (c - N) (by simp only [Nat.min_def]; split <;> omega)) ?_)
  go_wp2
  go_ret
  exact ⟨_, _, _, rfl, hF3.nil, hO, fun x hx => .inr (by simp [blk] at hx; omega)⟩

theorem insert_any {w : World} {v : Value} {vb N : Nat} {l : List Al} {a : Al} (hO : Own w v l) (hl : l.length ≤ 4096) (hN : N ≤ l.length) (hne : vb ∉ blk v) (hv : w.heap[vb]? = some (.cells #[.int .i64 a.1, .int .i64 a.2] 62 (0, 0))) :
    Calls Try.prog 30 #[v, .int .i64 N, .slice (some ⟨vb, 0, none⟩) 1 1] w (InsPost w v (insN l N a)) := by
  rcases hO with ⟨rfl, rfl⟩ | ⟨d, o, c, rfl, hlc, hcc, cs, hd, hsz, hr⟩
  · obtain rfl : N = 0 := by simpa using hN
    exact ins_nil hv
  · have hne' : vb ≠ d := by simpa [blk] using hne
    by_cases hend : N = l.length
    · subst hend
      by_cases hroom : l.length + 1 ≤ c
      · exact ins_end_room hd hsz hr hcc hroom hv
      · exact ins_end_grow hd hr hl (by omega) hv
    · by_cases hroom : l.length + 1 ≤ c
      · exact ins_shift hd hsz hr hcc hroom (by omega) hne' hv
      · exact ins_grow hd hr hl (by omega) (by omega) hv
end Go.Proofs.Ytamnhpcbflpabaa
