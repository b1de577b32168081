/- Package clock: ticks pass; a copy. -/
import Derived.Test.YtamnhpcbflpabaaClkE
import Derived.Lib.AppendZerosOnto
namespace Go.Proofs.Ytamnhpcbflpabaa
open Go.ChangeShapes Go.WideShapes Go.ChangeAt Go.RowKit

theorem dl_tick {now n : Int} (ht : tk now = true) (hn : 0 ≤ n) : 0 ≤ dl now n ∧ dl now n ≤ 4611686018427387904 ∧ now ≤ dl now n := by
  obtain ⟨h0, h1⟩ := tk_iff.1 ht
  unfold dl; split <;> omega

theorem tick_nil (w : World) (n : Int) : Calls Try.prog 16 #[.pointer none, .int .i64 n] w (Ret (.tuple #[.slice none 0 0, .int .i64 1]) (fun w' => w = w')) := by
  go_enter Try.func16, Try.ntmps16
  go_wp2_with (go_at_call 27; refine (none_nil _).mono ?_; rintro e w' ⟨rfl, rfl⟩)
  go_ret2
  exact ⟨rfl, rfl⟩
theorem tick_zero (w : World) (p : Nat) (hz : w.cell? ⟨p, 0, none⟩ = some (.bool false)) (n : Int) : Calls Try.prog 16 #[.pointer (some ⟨p, 0, none⟩), .int .i64 n] w (Ret (.tuple #[.slice none 0 0, .int .i64 1]) (fun w' => w = w')) := by
  go_enter Try.func16, Try.ntmps16
  go_wp2_with (go_at_call 27; refine (none_zero _ _ hz).mono ?_; rintro e w' ⟨rfl, rfl⟩)
  go_ret2
  exact ⟨rfl, rfl⟩
theorem tick_bad {w : World} {p : Nat} {now : Int} {v : Value} {l : List Al} (hK : ClockAt w p now v l) (n : Int) (hn : n < 0) : Calls Try.prog 16 #[.pointer (some ⟨p, 0, none⟩), .int .i64 n] w (Ret (.tuple #[.slice none 0 0, .int .i64 2]) (fun w' => w = w')) := by
  have h1 := hK.c1
  have he : dErr now n = 2 := by unfold dErr; rw [if_neg (by omega)]
  have HE := Lib.hid he
  clear he
  go_enter Try.func16, Try.ntmps16
  go_wp2_with (first | (go_at_call 27; refine (none_clk hK).mono ?_; rintro e w' ⟨rfl, rfl⟩) | (go_at_call 24; refine (due_any _ _ _).mono ?_; rintro e w' ⟨rfl, rfl⟩; rw [HE.out]))
  go_ret2
  exact ⟨rfl, rfl⟩
set_option maxHeartbeats 1000000 in
theorem tick_ok {w : World} {p : Nat} {now : Int} {v : Value} {l : List Al} (hK : ClockAt w p now v l) (hs : Sorted l) (hl : l.length ≤ 4096) (ht : tk now = true) (n : Int) (hn : 0 ≤ n) :
    Calls Try.prog 16 #[.pointer (some ⟨p, 0, none⟩), .int .i64 n] w (fun e w' => ∃ g v2, Ret (.tuple #[.slice (some ⟨g, 0, none⟩) (l.take (cutAt (dl now n) l)).length (l.take (cutAt (dl now n) l)).length, .int .i64 0])
      (fun w' => Frm [p] w w' ∧ ClockAt w' p (dl now n) v2 (l.drop (cutAt (dl now n) l)) ∧ w'.heap[g]? = some (.cells (flat (l.take (cutAt (dl now n) l))).toArray 47 (0, 0)) ∧ w.heap.size ≤ g ∧ blk v2 = blk v) e w') := by
  have h1 := hK.c1
  have hf := hK.fz 1
  obtain ⟨hd0, hd1, hd2⟩ := dl_tick ht hn
  have hr : dRes now n = dl now n := by unfold dRes; rw [if_pos ⟨ht, hn⟩]
  have he : dErr now n = 0 := by unfold dErr; rw [if_pos ⟨ht, hn⟩]
  generalize dl now n = t at *
  obtain ⟨l1, e1⟩ : ∃ l1, l1 = l.take (cutAt t l) := ⟨_, rfl⟩
  have hl1 : l1.length ≤ 4096 := by rw [e1, List.length_take]; omega
  rw [← e1]
  have E1 := Lib.hid e1
  clear e1
  have HE := Lib.hid he
  have HR := Lib.hid hr
  have HS := Lib.hid hs
  clear he hr ht hs
  go_enter Try.func16, Try.ntmps16
  go_wp2_with fail
  refine (none_clk hK).mono ?_
  rintro e w' ⟨rfl, rfl⟩
  go_wp2_with fail
  refine (due_any _ _ _).mono ?_
  rintro e w' ⟨rfl, rfl⟩
  rw [HE.out, HR.out]
  go_wp2_with fail
  have hF : Frm [p] w (w.setCell ⟨p, 1, none⟩ (.int .i64 t)) := (Frm.refl _ _).setCell _ _ (.inl (by simp))
  have hK1 : ClockAt (w.setCell ⟨p, 1, none⟩ (.int .i64 t)) p t v l := ⟨by have := heap_setCell_at (i := 1) (.int .i64 t) hK.obj; simpa using this, hK.own.frm hF (by intro x hx; have := hK.ne; simp; intro e; subst e; exact this hx), hK.ne⟩
  generalize (w.setCell ⟨p, 1, none⟩ (.int .i64 t)) = w1 at hF hK1 ⊢
  refine (cut_clk hK1 HS.out hl hd0 hd1).mono ?_
  rintro e w2 ⟨v1, v2, rfl, hF2, hK2, hA2, hb2, hb1⟩
  rw [← E1.out] at hA2
  go_wp2_with fail
  refine (given_any hA2 hl1).mono ?_
  rintro e w3 ⟨rfl, hF3, hG3⟩
  have HG := Lib.hid hG3
  clear hG3
  go_wp2
  go_ret2
  have h12 := hF.trans hF2
  exact ⟨w2.heap.size, v2, rfl, h12.trans (hF3.weak (by simp)), hK2.frm0 hF3, HG.out, h12.size, hb2⟩

theorem info_al : (Try.prog.info? 62).map (fun i => (i.zero, i.size, i.bytes)) = some (some (.agg #[.int .i64 0, .int .i64 0]), 2, 16) := by kernel_rfl

/-- A new row that an append has made. -/
theorem own_grown {w : World} {l : List Al} {C : Nat} {z : List Value} {zr : Array Value} (hz : z = flat l) (hC : l.length ≤ C) (hm : C ≤ 9223372036854775807) (hs : zr.size = (C - l.length) * 2) :
    Own (w.alloc (.cells (z.toArray ++ zr) 62)) (.slice (some ⟨w.heap.size, 0, none⟩) l.length C) l := by
  subst hz
  refine .inr ⟨w.heap.size, 0, C, rfl, hC, hm, _, heap_alloc_new _ _, ?_, fun j u hj => ?_⟩
  · simp [hs, flat_length]; omega
  · have hlt := (List.getElem?_eq_some_iff.1 hj).1
    rw [Nat.zero_add, Array.getElem?_append_left (by simpa using hlt), List.getElem?_toArray]; exact hj
theorem cap_le (w : World) (n c : Nat) (T : TypeId) (h : n ≤ 5000) : n ≤ grownCap w n c T ∧ grownCap w n c T ≤ 9223372036854775807 := by
  have h1 := grownCap_ge w n c T
  have h2 := grownCap_le_maxLen w n c T (by unfold maxLen; omega)
  unfold maxLen at h2
  omega

set_option maxHeartbeats 1000000 in
theorem clone_any {w : World} {v : Value} {l : List Al} (hA : Als w v l) (hl : l.length ≤ 4096) :
    Calls Try.prog 28 #[v] w (fun e w' => ∃ a n c, Ret (.slice a n c) (fun w' => Frm [] w w' ∧ Own w' (.slice a n c) l ∧ ∀ x ∈ blk (.slice a n c), w.heap.size ≤ x) e w') := by
  obtain ⟨i0, hi, hz0, hz1, hz2⟩ := info_parts info_al
  have hnil := fun (w : World) (a : Option Addr) (n c : Nat) => Lib.run_eql_slice_nil (P := Try.prog) w 51 62 a n c 0 0 Try.underlying51
  rcases hA with ⟨rfl, rfl⟩ | ⟨d, o, c, rfl, h1, h2, h3, hr⟩
  · go_enter Try.func28, Try.ntmps28
    go_wp2
    go_ret
    exact ⟨none, 0, 0, rfl, Frm.refl _ _, .inl ⟨rfl, rfl⟩, by simp [blk]⟩
  · obtain ⟨X, hX⟩ : ∃ X, X = w.alloc (.cells #[] 62) := ⟨_, rfl⟩
    have hFX : Frm [] w X := by rw [hX]; exact (Frm.refl _ _).alloc _
    have hXs : X.heap.size = w.heap.size + 1 := by rw [hX]; simp
    have hrX : ∀ (j : Nat) (u : Value), (flat l)[j]? = some u → X.cell? ⟨d, o + j, none⟩ = some u := fun j u hu => by rw [hFX.cell h3 (by simp)]; exact hr j u hu
    have hsrc : Src Try.prog i0.size 51 (.slice (some ⟨d, o, none⟩) l.length c) l.length (flat l) X := by
      rw [hz1]
      exact Src.ofSlice X Try.underlying51 ⟨d, o, none⟩ l.length c (flat l) (flat_length l) (fun j u hj => by rw [Addr.add_lit]; exact hrX j u hj) (flat_one l)
    by_cases hl0 : l.length = 0
    · obtain rfl : l = [] := List.eq_nil_of_length_eq_zero hl0
      have hrun : ∀ ty, (Builtin.append_ #[51, 51] ty #[.slice (some ⟨w.heap.size, 0, none⟩) 0 0, .slice (some ⟨d, o, none⟩) 0 c]).run Try.prog X = _ := fun ty =>
        run_append_room_src X 51 51 ty 62 i0 Try.underlying51 hi w.heap.size 0 0 0 (.slice (some ⟨d, o, none⟩) 0 c) 0 (flat []) hsrc (by omega) (by simp [flat]) (by simp [flat])
      rw [hX] at hrun
      have HR := Lib.hid hrun
      clear hrun
      go_enter Try.func28, Try.ntmps28
      go_wp2_with (at_builtin; refine Lib.wpList_append_run _ rfl _ _ _ _ rfl _ _ rfl rfl _ _ (HR.out _) ?_)
      go_ret
      exact ⟨some ⟨w.heap.size, 0, none⟩, 0, 0, rfl, (Frm.refl _ _).alloc _, .inr ⟨w.heap.size, 0, 0, rfl, by simp, by omega, #[], heap_alloc_new _ _, by simp, fun j u hj => by simp [flat] at hj⟩, by simp [blk]⟩
    · have hold : (Builtin.firstCells i0.size 0 (.slice (some ⟨w.heap.size, 0, none⟩) 0 0)).run Try.prog X.drew = .ok (#[] : Array Value) X.drew := by
        rw [hz1]; exact run_firstCells_some X.drew 2 0 ⟨w.heap.size, 0, none⟩ 0 0 [] rfl (by simp)
      have hrun : ∀ ty, (Builtin.append_ #[51, 51] ty #[.slice (some ⟨w.heap.size, 0, none⟩) 0 0, .slice (some ⟨d, o, none⟩) l.length c]).run Try.prog X = _ := fun ty =>
        run_append_grow_src X 51 51 ty 62 i0 _ Try.underlying51 hi hz0 (some ⟨w.heap.size, 0, none⟩) 0 0 [] hold (.slice (some ⟨d, o, none⟩) l.length c) l.length (flat l) hsrc (by omega) (by omega)
          (by rw [hz2]; exact growslice_fits (by omega) (by omega))
      have hcap := cap_le X (0 + l.length) 0 62 (by omega)
      obtain ⟨G, hG⟩ : ∃ G, G = grownCap X (0 + l.length) 0 62 := ⟨_, rfl⟩
      rw [← hG] at hrun hcap
      clear hG
      rw [Nat.zero_add] at hcap
      have hO := own_grown (w := X.drew) (l := l) (C := G) (z := [] ++ flat l) (zr := Builtin.zeroCells (Value.agg #[.int .i64 0, .int .i64 0]).cells (G - (0 + l.length))) rfl hcap.1 hcap.2 (by simp [Builtin.zeroCells, Value.cells])
      have hF2 : Frm [] w (X.drew.alloc (.cells (([] ++ flat l).toArray ++ Builtin.zeroCells (Value.agg #[.int .i64 0, .int .i64 0]).cells (G - (0 + l.length))) 62)) := (hFX.drew).alloc _
      generalize hY : X.drew.alloc (.cells (([] ++ flat l).toArray ++ Builtin.zeroCells (Value.agg #[.int .i64 0, .int .i64 0]).cells (G - (0 + l.length))) 62) = Y at hrun hO hF2
      rw [Nat.zero_add] at hrun
      have hXd : X.drew.heap.size = w.heap.size + 1 := hXs
      rw [hXd] at hO
      rw [hXs, hX] at hrun
      have HR := Lib.hid hrun
      have HL0 := Lib.hid hl0
      clear hrun hX hXs hXd hY hold hl0 hsrc
      go_enter Try.func28, Try.ntmps28
      go_wp2_with (at_builtin; refine Lib.wpList_append_run _ rfl _ _ _ _ rfl _ _ rfl rfl _ _ (HR.out _) ?_)
      go_ret
      exact ⟨_, _, _, rfl, hF2, hO, by simp [blk]⟩

set_option maxHeartbeats 1000000 in
theorem copy_clk {w : World} {p : Nat} {now : Int} {v : Value} {l : List Al} (hK : ClockAt w p now v l) (hl : l.length ≤ 4096) :
    Calls Try.prog 14 #[.pointer (some ⟨p, 0, none⟩)] w (fun e w' => ∃ q v', Ret (.pointer (some ⟨q, 0, none⟩)) (fun w' => Frm [] w w' ∧ ClockAt w' q now v' l ∧ w.heap.size ≤ q ∧ ∀ x ∈ blk v', w.heap.size ≤ x) e w') := by
  have k1 := fun w' (hF : Frm [] w w') => (hK.frm0 hF).c1
  have k2 := fun w' (hF : Frm [] w w') => (hK.frm0 hF).c2
  have hA := hK.own.als
  go_enter Try.func14, Try.ntmps14
  go_wp2_with fail
  refine (none_clk hK).mono ?_
  rintro e w' ⟨rfl, rfl⟩
  go_wp2_with fail
  go_region_held3 (fun w' => Frm [] w w')
    ((repeat' (first | assumption | exact Frm.refl _ _ | apply Frm.drew | apply Frm.alloc | (refine Frm.trans ?_ hF1))))
    ((go_at_call 28; refine (clone_any (by first | exact hA | exact hA.drewN 1) hl).mono ?_; rintro e w1 ⟨va, vn, vc, rfl, hF1, hO1, hb1⟩))
  go_wp2
  go_ret
  have hF2 : Frm [] w w1 := ((Frm.refl _ _).drew).trans hF1
  refine ⟨w1.heap.size, .slice va vn vc, rfl, hF2.alloc _, ⟨heap_alloc_new _ _, hO1.alloc _, fun hx => ?_⟩, hF2.size, hb1⟩
  have := hO1.lt _ hx
  omega
end Go.Proofs.Ytamnhpcbflpabaa
