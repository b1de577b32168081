/- Package queue: picking. -/
import Derived.Test.YtjgnmmlbnkmgfaaQueG
import Derived.Deep.DrawnRows
namespace Go.Proofs.Ytjgnmmlbnkmgfaa
open Go.ChangeShapes Go.WideShapes Go.ChangeAt Go.RowKit

theorem idx_bd (l : List Al) (t : Int) : -1 ≤ idx l t ∧ idx l t < l.length := by
  unfold idx
  split <;> omega
def ageOf (l : List Al) (pk t : Int) : Int := if idx l t < 0 then 0 else pk - 1 - (l.getD (idx l t).toNat (0, 0)).2
set_option maxHeartbeats 1000000 in
theorem age_nil (w : World) (t : Int) : Calls Try.prog 26 #[.pointer none, .int .i64 t] w (Ret (.int .i64 0) (fun w' => w = w')) := by
  go_enter Try.func26, Try.ntmps26
  go_wp2_with (go_at_call 41; refine (none_nil _).mono ?_; rintro e w' ⟨rfl, rfl⟩)
  go_ret
  exact ⟨rfl, rfl⟩
theorem age_zero (w : World) (p : Nat) (h : w.cell? ⟨p, 2, none⟩ = some (.slice none 0 0)) (t : Int) : Calls Try.prog 26 #[.pointer (some ⟨p, 0, none⟩), .int .i64 t] w (Ret (.int .i64 0) (fun w' => w = w')) := by
  go_enter Try.func26, Try.ntmps26
  go_wp2_with (go_at_call 41; refine (none_zero _ _ h).mono ?_; rintro e w' ⟨rfl, rfl⟩)
  go_ret
  exact ⟨rfl, rfl⟩
set_option maxHeartbeats 1000000 in
theorem Age_pk {w : World} {p d n c : Nat} {sz pk : Int} {l : List Al} (h : PickAt w p d n c sz pk l) (t : Int) :
    Calls Try.prog 26 #[.pointer (some ⟨p, 0, none⟩), .int .i64 t] w (Ret (.int .i64 (ageOf l pk t)) (fun w' => Frm [] w w')) := by
  have hin := index_pk h t
  have hbd := idx_bd l t
  have hao : ageOf l pk t = if idx l t < 0 then 0 else pk - 1 - (l.getD (idx l t).toNat (0, 0)).2 := rfl
  generalize ageOf l pk t = R at hao ⊢
  generalize idx l t = i at *
  have hln := h.len
  have hle := h.le
  by_cases hi : i < 0
  · rw [if_pos hi] at hao
    have hb : decide (i < 0) = true := by simpa using hi
    have HA := Lib.hid hao
    have HI := Lib.hid hin
    clear hao hin
    go_enter Try.func26, Try.ntmps26
    go_wp2_with (first | (go_at_call 41; refine (none_pk h).mono ?_; rintro e w' ⟨rfl, rfl⟩) | (go_at_call 42; refine HI.out.mono ?_; rintro e w1 ⟨rfl, hF1⟩))
    go_ret
    exact ⟨by rw [HA.out]; rfl, hF1⟩
  · rw [if_neg hi] at hao
    obtain ⟨k, rfl⟩ := Int.eq_ofNat_of_zero_le (show 0 ≤ i by omega)
    have hb : decide ((k : Int) < 0) = false := by simp
    have hx : l[k]? = some (l[k]'(by omega)) := List.getElem?_eq_getElem _
    rw [Int.toNat_natCast, List.getD_eq_getElem?_getD, hx] at hao
    generalize (l[k]'(by omega)) = x at hx hao
    obtain ⟨x1, x2⟩ := x
    obtain ⟨hx1, hx2⟩ := h.ats _ (List.mem_of_getElem? hx)
    have hao' : R = pk - 1 - x2 := hao
    have hkn : (k : Int) < (n : Int) := by omega
    have HX := Lib.hid hx
    have HA := Lib.hid hao'
    have HI := Lib.hid hin
    have H := Lib.hid h
    clear hao hin hx hao' hln h
    go_enter Try.func26, Try.ntmps26
    go_wp2_with fail
    refine (none_pk H.out).mono ?_
    rintro e w' ⟨rfl, rfl⟩
    go_wp2_with fail
    refine HI.out.mono ?_
    rintro e w1 ⟨rfl, hF1⟩
    have hP := H.out.frm0 hF1
    have k2 := hP.c2
    obtain ⟨k4, k5⟩ := hP.own.cells HX.out
    have hpl := hP.plt
    have hdl := hP.dlt
    have HP := Lib.hid hP
    clear hP
    go_wp2_with fail
    refine (age_pk HP.out x1 x2 hx1 hx2).mono ?_
    rintro e w2 ⟨rfl, hF2⟩
    go_wp2
    go_ret
    exact ⟨by rw [HA.out]; rfl, hF1.trans hF2⟩

set_option maxHeartbeats 1000000 in
theorem copy_pk {w : World} {p d n c : Nat} {sz pk : Int} {l : List Al} (h : PickAt w p d n c sz pk l) :
    Calls Try.prog 27 #[.pointer (some ⟨p, 0, none⟩)] w (fun e w' => ∃ q g c', Ret (.pointer (some ⟨q, 0, none⟩)) (fun w' => Frm [] w w' ∧ PickAt w' q g n c' sz pk l ∧ w.heap.size ≤ q ∧ w.heap.size ≤ g) e w') := by
  have k0 := fun w' (hF : Frm [] w w') => (h.frm0 hF).c0
  have k1 := fun w' (hF : Frm [] w w') => (h.frm0 hF).c1
  have k2 := fun w' (hF : Frm [] w w') => (h.frm0 hF).c2
  have k3 := fun w' (hF : Frm [] w w') => (h.frm0 hF).plt
  have hln := h.len
  have hle := h.le
  have hpos := h.pos
  have hcl : ∀ w', Frm [] w w' → Calls Try.prog 44 #[.slice (some ⟨d, 0, none⟩) n c] w' (fun e w'' => ∃ g c', Ret (.slice (some ⟨g, 0, none⟩) n c') (fun w'' => Frm [] w' w'' ∧ OwnAt w'' g c' l ∧ w'.heap.size ≤ g) e w'') := by
    intro w' hF
    have := clone_some (h.frm0 hF).own (by omega) (by omega)
    rw [hln] at this
    exact this
  have HCL := Lib.hid hcl
  have HLN := Lib.hid hln
  clear hcl hln
  go_enter Try.func27, Try.ntmps27
  go_wp2_with fail
  refine (none_pk h).mono ?_
  rintro e w' ⟨rfl, rfl⟩
  go_wp2_with fail
  go_region_held3 (fun w' => Frm [] w w')
    ((repeat' (first | assumption | exact Frm.refl _ _ | apply Frm.drew | apply Frm.alloc | (refine Frm.trans ?_ hF1))))
    ((go_at_call 44; refine (HCL.out _ (by assumption)).mono ?_; rintro e w1 ⟨g, c', rfl, hF1, hO1, hb1⟩))
  go_wp2
  go_ret
  have hF2 : Frm [] w w1 := ((Frm.refl _ _).drew).trans hF1
  refine ⟨w1.heap.size, g, c', rfl, hF2.alloc _, ⟨heap_alloc_new _ _, hO1.frm0 ((Frm.refl [] w1).alloc _), ?_, HLN.out, hpos, hle, h.pk0, h.pk1, h.ats, h.sz0, h.sz1⟩, hF2.size, hb1⟩
  have := hO1.lt
  omega
theorem copy_nil (w : World) : Calls Try.prog 27 #[.pointer none] w (Ret (.pointer none) (fun w' => w = w')) := by
  go_enter Try.func27, Try.ntmps27
  go_wp2_with (go_at_call 41; refine (none_nil _).mono ?_; rintro e w' ⟨rfl, rfl⟩)
  go_ret
  exact ⟨rfl, rfl⟩
theorem copy_zero (w : World) (p : Nat) (h : w.cell? ⟨p, 2, none⟩ = some (.slice none 0 0)) : Calls Try.prog 27 #[.pointer (some ⟨p, 0, none⟩)] w (Ret (.pointer none) (fun w' => w = w')) := by
  go_enter Try.func27, Try.ntmps27
  go_wp2_with (go_at_call 41; refine (none_zero _ _ h).mono ?_; rintro e w' ⟨rfl, rfl⟩)
  go_ret
  exact ⟨rfl, rfl⟩

/-- The order of ages behind a pick of the thread at a place. -/
def pickL (l : List Al) (i : Nat) (pk : Int) : List Al := l.eraseIdx i ++ [((l.getD i (0, 0)).1, pk)]
theorem pickL_length {l : List Al} {i : Nat} {pk : Int} (h : i < l.length) : (pickL l i pk).length = l.length := by
  unfold pickL; rw [List.length_append, List.length_eraseIdx_of_lt h]; simp; omega

/-- append of one turn where there is room. -/
theorem run_appO {w : World} {d c m vb : Nat} {l : List Al} {a : Al} (hO : OwnAt w d c l) (hm : l.length = m) (hc : m + 1 ≤ c) (hv : w.heap[vb]? = some (.cells #[.int .i64 a.1, .int .i64 a.2] 63 (0, 0))) (_hne : vb ≠ d) (ty : TypeId) :
    ∃ w', (Builtin.append_ #[51, 51] ty #[.slice (some ⟨d, 0, none⟩) m c, .slice (some ⟨vb, 0, none⟩) 1 1]).run Try.prog w = .ok (.slice (some ⟨d, 0, none⟩) (m + 1) c) w' ∧ OwnAt w' d c (l ++ [a]) ∧ Frm [d] w w' := by
  obtain ⟨i0, hi, hz0, hz1, hz2⟩ := info_parts info_al
  obtain ⟨⟨cs, hd, hsz, hr⟩, hlc, hcc⟩ := hO
  have hsrc : Src Try.prog i0.size 51 (.slice (some ⟨vb, 0, none⟩) 1 1) 1 (flat [a]) w := by
    rw [hz1]
    refine Src.ofSlice w Try.underlying51 ⟨vb, 0, none⟩ 1 1 (flat [a]) rfl (fun j u hj => ?_) (flat_one _)
    have := some_lt hj
    simp at this
    rw [Addr.add_lit, Nat.zero_add, cell_of_heap hv]
    have : j = 0 ∨ j = 1 := by omega
    rcases this with rfl | rfl <;> simpa [flat] using hj
  have hrun := run_append_room_src (P := Try.prog) w 51 51 ty 63 i0 Try.underlying51 hi d 0 m c _ 1 (flat [a]) hsrc hc
      (fun j hj => by rw [cell_of_heap hd, hz1]; simp [flat_length] at hj; rw [Array.getElem?_eq_getElem (by omega)]; rfl) (fun j hj => frozen_of_heap hd)
  rw [hz1, Nat.zero_add] at hrun
  have hW := heap_setCells_at d (flat [a]) (m * 2) w cs hd
  have hF : Frm [d] w (w.setCells d (m * 2) (flat [a])) := Frm.setCells d (.inl (by simp)) _ _ _ (Frm.refl _ _)
  refine ⟨_, hrun, ⟨⟨_, hW, by rw [wr_size]; exact hsz, fun j u hj => ?_⟩, by simp; omega, hcc⟩, hF⟩
  rw [flat_append] at hj
  have hfl : (flat l).length = m * 2 := by rw [flat_length, hm]
  rw [wr_get _ _ _ _ (by rw [flat_length]; simp; omega), flat_length]
  by_cases h1 : j < m * 2
  · rw [List.getElem?_append_left (by omega)] at hj
    rw [if_neg (by omega)]; exact hr _ _ hj
  · rw [List.getElem?_append_right (by omega), hfl] at hj
    have := some_lt hj
    simp at this
    rw [if_pos (by simp; omega)]; exact hj
theorem step_appO {ops : Array Oper} {o : Oper} {x : Act} {w : World} {K : Act → World → Prop} {Q : Exit → Act → World → Prop} {E : Prop} (hgd : o.guard = none) (p q : Operand)
    (ho : o.op = .call { callee := .builtin .append, args := #[p, q], argTypes := #[51, 51] }) {d c m vb : Nat} {l : List Al} {a : Al}
    (hd : x.eval p = .slice (some ⟨d, 0, none⟩) m c) (hq : x.eval q = .slice (some ⟨vb, 0, none⟩) 1 1) (hO : OwnAt w d c l) (hm : l.length = m) (hc : m + 1 ≤ c) (hv : w.heap[vb]? = some (.cells #[.int .i64 a.1, .int .i64 a.2] 63 (0, 0))) (hne : vb ≠ d)
    (hK : ∀ w', OwnAt w' d c (l ++ [a]) → Frm [d] w w' → K (x.put o.dst (.slice (some ⟨d, 0, none⟩) (m + 1 : Nat) c)) w') :
    if Region.wanted o (yielded ops x.tmps) = true then Oper.wp Try.prog o x w K Q else E := by
  have hw : Region.wanted o (yielded ops x.tmps) = true := by simp [Region.wanted, hgd]
  rw [if_pos hw]
  obtain ⟨w', hr, h1, h2⟩ := run_appO hO hm hc hv hne o.type
  unfold Oper.wp
  simp [execOp, ho, resolve, invoke, builtin, hd, hq, hr, Result.andThen]
  exact hK _ h1 h2
end Go.Proofs.Ytjgnmmlbnkmgfaa
