/- Package version: NewRead, NewWrite. -/
import Derived.Test.YtbhnijkphkkalaaVeG
import Derived.Test.YtbhnijkphkkalaaClkL
import Derived.Test.YtbhnijkphkkalaaLi
namespace Go.Proofs.Ytbhnijkphkkalaa
open Go.ChangeShapes Go.WideShapes Go.ChangeAt Go.RowKit
set_option linter.unusedVariables false

theorem wpl_copy {P : Program} (w : World) {ops : Array Oper} {rest : List Oper} {o : Oper} {a : Act} {Q : Exit → Act → World → Prop} (hgd : o.guard = none) (d s : Operand) (t : TypeId)
    (ho : o.op = .call { callee := .builtin .copy, args := #[d, s], argTypes := #[t, t] }) {vd vs v' : Value} (hd : a.eval d = vd) (hs : a.eval s = vs) {w' : World} (hr : (Builtin.copy_ #[t, t] o.type #[vd, vs]).run P w = .ok v' w')
    (hh : wpList P ops Q rest (a.put o.dst v') w') : wpList P ops Q (o :: rest) a w := by
  refine wpList_plain hgd fun K hK => ?_
  unfold Oper.wp
  simp [execOp, ho, resolve, invoke, builtin, hd, hs, hr, Result.andThen]
  exact hK _ _ hh

theorem zs_arr {w : World} {b n : Nat} (h : Zs w b n) : ∃ cs : Array Value, w.heap[b]? = some (.cells cs 22 (0, 0)) ∧ (List.replicate n (0 : Int)).length ≤ cs.size ∧ ∀ (i : Nat) (x : Int), (List.replicate n (0 : Int))[i]? = some x → cs[i]? = some (Value.int .u64 x) :=
  ⟨_, h, by simp [u64s], fun i x hx => by rw [List.getElem?_toArray, u64s, List.getElem?_map, hx]; rfl⟩
theorem newRead_begin (L F n tr : Int) (w : World) (h : ¬ rOk L F n) :
    Calls Try.prog 10 #[.int .i64 L, .int .i64 F, .int .i64 n, .int .i64 tr] w (Ret (.tuple #[.pointer none, .int .i64 2]) (fun w' => Frm [] w w')) := by
  have H := Lib.hid (cbegin_no L F n w h)
  clear h
  go_enter Try.func10, Try.ntmps10
  go_wp2_with fail
  refine H.out.mono ?_
  rintro e w1 ⟨rfl, hF⟩
  have HF := Lib.hid hF
  clear hF
  go_wp2
  go_ret2
  exact ⟨rfl, HF.out.alloc _⟩
theorem newRead_tries (L : Nat) (F : Int) (n : Nat) (tr : Int) (w : World) (h : rOk L F n) (ht : tr < 1) :
    Calls Try.prog 10 #[.int .i64 L, .int .i64 F, .int .i64 n, .int .i64 tr] w (Ret (.tuple #[.pointer none, .int .i64 2]) (fun w' => Frm [] w w')) := by
  have H := Lib.hid (cbegin_yes L F n w h)
  have hb : decide (tr < 1) = true := by simpa using ht
  clear h ht
  go_enter Try.func10, Try.ntmps10
  go_wp2_with fail
  refine H.out.mono ?_
  rintro e w1 ⟨b, rfl, hF, hZ, hb1⟩
  have HF := Lib.hid hF
  clear hF hZ
  go_wp2
  go_ret2
  exact ⟨rfl, HF.out.alloc _⟩
theorem newRead_bad (L F n tr : Int) (w : World) (h : ¬ (rOk L F n ∧ 1 ≤ tr)) :
    Calls Try.prog 10 #[.int .i64 L, .int .i64 F, .int .i64 n, .int .i64 tr] w (Ret (.tuple #[.pointer none, .int .i64 2]) (fun w' => Frm [] w w')) := by
  by_cases h1 : rOk L F n
  · obtain ⟨L', rfl⟩ := Int.eq_ofNat_of_zero_le h1.1
    obtain ⟨n', rfl⟩ := Int.eq_ofNat_of_zero_le h1.2.2.1
    exact newRead_tries L' F n' tr w h1 (by rcases Int.lt_or_le tr 1 with h2 | h2; exact h2; exact absurd ⟨h1, h2⟩ h)
  · exact newRead_begin L F n tr w h1
theorem newRead_yes (L : Nat) (F : Int) (n : Nat) (tr : Int) (w : World) (h : rOk L F n) (ht : 1 ≤ tr) :
    Calls Try.prog 10 #[.int .i64 L, .int .i64 F, .int .i64 n, .int .i64 tr] w (fun e w' => ∃ q b, Ret (.tuple #[.pointer (some ⟨q, 0, none⟩), .int .i64 0])
      (fun w' => Frm [] w w' ∧ PgAt w' q b n 71 [.int .i64 tr] L F (List.replicate n 0) 0 1 0 0 ∧ w.heap.size ≤ q ∧ w.heap.size ≤ b) e w') := by
  have H := Lib.hid (cbegin_yes L F n w h)
  have hb : decide (tr < 1) = false := by simp; omega
  have HH := Lib.hid h
  clear h ht
  go_enter Try.func10, Try.ntmps10
  go_wp2_with fail
  refine H.out.mono ?_
  rintro e w1 ⟨b, rfl, hF, hZ, hb1⟩
  have HF := Lib.hid hF
  have HZ := Lib.hid hZ
  have HB := Lib.hid hb1
  clear hF hZ hb1
  go_wp2
  go_ret2
  obtain ⟨h1, h2, h3, h4, h5⟩ := HH.out
  have hz2 : Zs ((w1.alloc (.cells #[.int .i64 L, .int .i64 F, .slice (some ⟨b, 0, none⟩) n n, .int .i64 0, .int .i64 1, .int .u64 0, .int .u64 0] 69)).alloc (.cells #[.int .i64 L, .int .i64 F, .slice (some ⟨b, 0, none⟩) n n, .int .i64 0, .int .i64 1, .int .u64 0, .int .u64 0, .int .i64 tr] 71)) b n :=
    heap_alloc_old _ (heap_alloc_old _ HZ.out)
  have hbl : b < w1.heap.size := lt_of_heap HZ.out
  refine ⟨w1.heap.size + 1, b, rfl, (HF.out.alloc _).alloc _, ⟨by rw [List.length_replicate]; exact heap_alloc_at _ (by simp), zs_arr hz2, by omega, by simp, by simp; omega, by simp, by omega, ?_⟩, by have := HF.out.size; omega, HB.out⟩
  rw [List.length_replicate]
  intro hp
  have := h5.resolve_left (by omega)
  unfold mOk at this; omega
set_option maxRecDepth 100000 in
theorem newWrite_bad {w : World} {a : Option Addr} {n c b o : Nat} {l : List Int} (hL : Li .u64 w a n c b o l) (hn : n ≤ maxLen) (L F : Int) (h : ¬ rOk L F n) :
    Calls Try.prog 16 #[.int .i64 L, .int .i64 F, .slice a n c] w (Ret (.tuple #[.pointer none, .int .i64 2]) (fun w' => Frm [] w w')) := by
  have H := Lib.hid (cbegin_no L F n w h)
  unfold maxLen at hn
  clear h hL
  go_enter Try.func16, Try.ntmps16
  go_wp2_with fail
  refine H.out.mono ?_
  rintro e w1 ⟨rfl, hF⟩
  have HF := Lib.hid hF
  clear hF
  go_wp2
  go_ret2
  exact ⟨rfl, HF.out.alloc _⟩
set_option maxRecDepth 100000 in
theorem newWrite_yes {w : World} {a : Option Addr} {n c b o : Nat} {l : List Int} (hL : Li .u64 w a n c b o l) (L : Nat) (F : Int) (h : rOk L F n) :
    Calls Try.prog 16 #[.int .i64 L, .int .i64 F, .slice a n c] w (fun e w' => ∃ q b, Ret (.tuple #[.pointer (some ⟨q, 0, none⟩), .int .i64 0])
      (fun w' => Frm [] w w' ∧ PgAt w' q b n 73 [] L F l 0 1 0 0 ∧ w.heap.size ≤ q ∧ w.heap.size ≤ b) e w') := by
  have H := Lib.hid (cbegin_yes L F n w h)
  have HH := Lib.hid h
  have hn : n ≤ 256 := by have := h.2.2.2.1; omega
  have HL := Lib.hid hL
  have hinfo : (Try.prog.info? 22).map (·.size) = some 1 := by kernel_rfl
  clear h hL
  go_enter Try.func16, Try.ntmps16
  go_wp2_with fail
  refine H.out.mono ?_
  rintro e w1 ⟨g, rfl, hF, hZ, hg⟩
  have hlen := HL.out.len
  obtain ⟨X, hX⟩ : ∃ X, X = w1.alloc (.cells #[.int .i64 L, .int .i64 F, .slice (some ⟨g, 0, none⟩) n n, .int .i64 0, .int .i64 1, .int .u64 0, .int .u64 0] 69) := ⟨_, rfl⟩
  have hFX : Frm [] w X := by rw [hX]; exact hF.alloc _
  have hzX : Zs X g n := by rw [hX]; exact heap_alloc_old _ hZ
  have hcX : X.heap[w1.heap.size]? = some (.cells #[.int .i64 L, .int .i64 F, .slice (some ⟨g, 0, none⟩) n n, .int .i64 0, .int .i64 1, .int .u64 0, .int .u64 0] 69 (0, 0)) := by rw [hX]; exact heap_alloc_new _ _
  have hgl : g < w1.heap.size := lt_of_heap hZ
  have hLX := HL.out.frm0 hFX
  obtain ⟨W2, hcp, hF2, hW2, hc2⟩ : ∃ W2, (∀ ty, (Builtin.copy_ #[23, 23] ty #[.slice (some ⟨g, 0, none⟩) n n, .slice a n c]).run Try.prog X = .ok (goInt n) W2) ∧ Frm [] w W2 ∧
      (∃ cs : Array Value, W2.heap[g]? = some (.cells cs 22 (0, 0)) ∧ l.length ≤ cs.size ∧ ∀ (i : Nat) (x : Int), l[i]? = some x → cs[i]? = some (Value.int .u64 x)) ∧
      W2.heap[w1.heap.size]? = some (.cells #[.int .i64 L, .int .i64 F, .slice (some ⟨g, 0, none⟩) n n, .int .i64 0, .int .i64 1, .int .u64 0, .int .u64 0] 69 (0, 0)) := by
    by_cases h0 : 0 < n
    · obtain rfl := hLX.ad h0
      have hul : (u64s l).length = n := by simp [u64s, hlen]
      have hcs : ∀ j, j < n → (u64s (List.replicate n 0)).toArray[j]?.isSome = true := fun j hj => by simp [u64s, hj]
      refine ⟨X.setCells g 0 (u64s l), fun ty => ?_, Frm.setCells _ (.inr hg) _ _ _ hFX, ⟨_, heap_setCells_at g (u64s l) 0 X _ hzX, by rw [wr_size]; simp [u64s, hlen], ?_⟩, heap_setCells_far _ (by omega) hcX _ _⟩
      · have := run_copy_cells (P := Try.prog) X 23 23 ty 22 g 0 n n ⟨b, o, none⟩ n c (u64s l) Try.underlying23 hinfo (by rw [hul]; simp)
          (fun j v hj => by
            obtain ⟨x, hx, rfl⟩ := u64s_get hj
            rw [Addr.add_lit]; exact hLX.cell j x hx)
          (fun j hj => by rw [hul] at hj; rw [Nat.zero_add, cell_of_heap hzX]; exact hcs j hj) (fun j _ => frozen_of_heap hzX) (by intro u hu; obtain ⟨x, _, rfl⟩ := List.mem_map.1 hu; rfl)
        rw [hul] at this; exact this
      · intro i x hx
        have hi : i < n := by have := (List.getElem?_eq_some_iff.1 hx).1; omega
        rw [wr_get _ _ _ _ (by simp [u64s, hlen])]
        rw [if_pos (by rw [hul]; omega), Nat.sub_zero, u64s, List.getElem?_map, hx]; rfl
    · obtain rfl : n = 0 := by omega
      have hl0 : l = [] := List.eq_nil_of_length_eq_zero hlen
      exact ⟨X, fun ty => run_copy_none X _ _ ty 22 _ _ 0 0 0 c Try.underlying23 hinfo (by simp), hFX, ⟨_, hzX, by simp [hl0], by intro i x hx; rw [hl0] at hx; simp at hx⟩, hcX⟩
  have c2 : X.cell? ⟨w1.heap.size, 2, none⟩ = some (.slice (some ⟨g, 0, none⟩) n n) := by rw [cell_of_heap hcX]; rfl
  have g0 : W2.cell? ⟨w1.heap.size, 0, none⟩ = some (.int .i64 L) := by rw [cell_of_heap hc2]; rfl
  have g1 : W2.cell? ⟨w1.heap.size, 1, none⟩ = some (.int .i64 F) := by rw [cell_of_heap hc2]; rfl
  have g2 : W2.cell? ⟨w1.heap.size, 2, none⟩ = some (.slice (some ⟨g, 0, none⟩) n n) := by rw [cell_of_heap hc2]; rfl
  have g3 : W2.cell? ⟨w1.heap.size, 3, none⟩ = some (.int .i64 0) := by rw [cell_of_heap hc2]; rfl
  have g4 : W2.cell? ⟨w1.heap.size, 4, none⟩ = some (.int .i64 1) := by rw [cell_of_heap hc2]; rfl
  have g5 : W2.cell? ⟨w1.heap.size, 5, none⟩ = some (.int .u64 0) := by rw [cell_of_heap hc2]; rfl
  have g6 : W2.cell? ⟨w1.heap.size, 6, none⟩ = some (.int .u64 0) := by rw [cell_of_heap hc2]; rfl
  have HCP := Lib.hid hcp
  have HF2 := Lib.hid hF2
  have HW2 := Lib.hid hW2
  have HX := Lib.hid hX
  have HG := Lib.hid hg
  have HLEN := Lib.hid hlen
  have HGL := Lib.hid (Nat.lt_of_lt_of_le (lt_of_heap hW2.choose_spec.1) (Nat.le_refl _))
  clear hF hZ hFX hzX hcX hgl hLX hcp hF2 hW2 hc2 hX hg hlen
  go_wp2_with fail
  rw [← HX.out]
  rw [HCP.out]
  go_wp2
  go_ret2
  obtain ⟨h1, h2, h3, h4, h5⟩ := HH.out
  have hsz := HF2.out.size
  obtain ⟨cs, hc1, hc2, hc3⟩ := HW2.out
  refine ⟨W2.heap.size, g, rfl, HF2.out.alloc _, ⟨by rw [HLEN.out]; exact heap_alloc_at _ (by simp), ⟨cs, heap_alloc_old _ hc1, hc2, hc3⟩, by have := HGL.out; omega, by have := HLEN.out; omega, by have := HLEN.out; omega, Nat.zero_le _, by omega, ?_⟩, hsz, HG.out⟩
  rw [HLEN.out]
  intro hp
  have := h5.resolve_left (by omega)
  unfold mOk at this; omega
#print axioms newWrite_yes
end Go.Proofs.Ytbhnijkphkkalaa
