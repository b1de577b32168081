/- Package queue: New, Next; what the law asks of Next. -/
import Derived.Test.YtjgnmmlbnkmgfaaQueI
namespace Go.Proofs.Ytjgnmmlbnkmgfaa
open Go.ChangeShapes Go.WideShapes Go.ChangeAt Go.RowKit

theorem flat_set : ∀ (l : List Al) (i : Nat) (a : Al), ((flat l).set (i * 2) (.int .i64 a.1)).set (i * 2 + 1) (.int .i64 a.2) = flat (l.set i a)
  | [], i, a => by simp [flat]
  | b :: l, 0, a => by rw [flat_cons]; rfl
  | b :: l, i + 1, a => by
    rw [List.set_cons_succ, flat_cons, flat_cons, show (i + 1) * 2 = i * 2 + 1 + 1 by omega, show i * 2 + 1 + 1 + 1 = (i * 2 + 1) + 1 + 1 by omega]
    simp only [List.set_cons_succ]
    rw [flat_set l i a]
/-- The order of ages at first. -/
def l0 (t : Nat) : List Al := (List.range t).map (fun i : Nat => ((i : Int), (-1 : Int)))
def ini (t k : Nat) : List Al := l0 k ++ List.replicate (t - k) (0, 0)
theorem l0_length (t : Nat) : (l0 t).length = t := by simp [l0]
theorem l0_succ (t : Nat) : l0 (t + 1) = l0 t ++ [((t : Int), (-1 : Int))] := by simp [l0, List.range_succ]
theorem ini_length {t k : Nat} (h : k ≤ t) : (ini t k).length = t := by unfold ini; rw [List.length_append, l0_length]; simp; omega
theorem ini_set {t k : Nat} (h : k < t) : (ini t k).set k ((k : Int), (-1 : Int)) = ini t (k + 1) := by
  unfold ini
  have e : List.replicate (t - k) ((0, 0) : Al) = (0, 0) :: List.replicate (t - (k + 1)) (0, 0) := by rw [show t - k = (t - (k + 1)) + 1 by omega]; rfl
  rw [e, List.set_append_right _ _ (by rw [l0_length]; omega), l0_length, Nat.sub_self, l0_succ]
  simp
theorem ini_step {t k : Nat} (h : k < t) : ((flat (ini t k)).toArray.setIfInBounds (k * 2) (.int .i64 (k : Int))).setIfInBounds (k * 2 + 1) (.int .i64 (-1)) = (flat (ini t (k + 1))).toArray := by
  simp only [List.setIfInBounds_toArray]
  rw [← ini_set h, ← flat_set]
theorem l0_get {t i : Nat} {a : Al} (h : (l0 t)[i]? = some a) : i < t ∧ a = ((i : Int), -1) := by
  have hl := (List.getElem?_eq_some_iff.1 h).1
  rw [l0_length] at hl
  refine ⟨hl, ?_⟩
  simp [l0, hl] at h
  exact h.symm

theorem make_turns (n : Nat) (h : n ≤ 4096) (w : World) : (Instr.makeSlice 51 (.int .i64 n) (.int .i64 n)).run Try.prog w =
    .ok (.slice (some ⟨w.heap.size, 0, none⟩) n n) (w.alloc (.cells (flat (ini n 0)).toArray 63)) := by
  obtain ⟨i0, hi, hz0, hz1, hz2⟩ := info_parts info_al
  have := run_make (P := Try.prog) w 51 63 i0 _ Try.underlying51 hi hz0 .i64 .i64 (n : Int) (n : Int) (by omega) (by omega) (by rw [hz2]; omega) (by omega)
  rw [this, hz1]
  have hz : flat (ini n 0) = List.replicate (n * 2) (.int .i64 0) := by
    have : ∀ k : Nat, flat (List.replicate k ((0, 0) : Al)) = List.replicate (k * 2) (.int .i64 0) := by
      intro k
      induction k with
      | zero => rfl
      | succ k ih => rw [List.replicate_succ, flat_cons, ih, show (k + 1) * 2 = k * 2 + 1 + 1 by omega]; rfl
    exact this n
  have e : madeCells (Value.agg #[.int .i64 0, .int .i64 0]).cells (Int.toNat (n : Int) * 2) = (flat (ini n 0)).toArray := by
    rw [hz]
    apply Array.ext
    · simp [madeCells]
    · intro j h1 h2
      have : j % 2 = 0 ∨ j % 2 = 1 := by omega
      rcases this with h | h <;> simp [madeCells, Value.cells, h]
  rw [e]; simp

theorem new_bad (w : World) (t s : Int) (h : mb t = false ∨ s < t ∨ 100000 < s) : Calls Try.prog 24 #[.int .i64 t, .int .i64 s] w (Ret (.tuple #[.pointer none, .int .i64 2]) (fun w' => w = w')) := by
  by_cases hm : mb t = true
  · have HM := Lib.hid hm
    have h' : s < t ∨ 100000 < s := by rcases h with h | h; rw [hm] at h; cases h; exact h
    clear h hm
    by_cases h0 : s < t
    · have hb : decide (s < t) = true := by simpa using h0
      go_enter Try.func24, Try.ntmps24
      go_wp2_with (go_at_call 40; refine (maybe_any _ _).mono ?_; rintro e w' ⟨rfl, rfl⟩; rw [HM.out])
      go_ret2
      exact ⟨rfl, rfl⟩
    · have hb : decide (s < t) = false := by simpa using h0
      have hb2 : decide (100000 < s) = true := by simp; omega
      go_enter Try.func24, Try.ntmps24
      go_wp2_with (go_at_call 40; refine (maybe_any _ _).mono ?_; rintro e w' ⟨rfl, rfl⟩; rw [HM.out])
      go_ret2
      exact ⟨rfl, rfl⟩
  · have hm : mb t = false := by simpa using hm
    have HM := Lib.hid hm
    clear h hm
    go_enter Try.func24, Try.ntmps24
    go_wp2_with (go_at_call 40; refine (maybe_any _ _).mono ?_; rintro e w' ⟨rfl, rfl⟩; rw [HM.out])
    go_ret2
    exact ⟨rfl, rfl⟩

set_option maxHeartbeats 2000000 in
theorem new_ok (w : World) (t : Nat) (s : Int) (hm : mb (t : Int) = true) (h1 : (t : Int) ≤ s) (h2 : s ≤ 100000) : Calls Try.prog 24 #[.int .i64 (t : Int), .int .i64 s] w
    (fun e w' => ∃ p d, Ret (.tuple #[.pointer (some ⟨p, 0, none⟩), .int .i64 0]) (fun w' => Frm [] w w' ∧ PickAt w' p d t t s 0 (l0 t) ∧ w.heap.size ≤ p ∧ w.heap.size ≤ d) e w') := by
  obtain ⟨t0, t1⟩ := mb_iff.1 hm
  have hb : decide (s < (t : Int)) = false := by simp; omega
  have hb2 : decide (100000 < s) = false := by simp; omega
  have hmk := make_turns t (by omega)
  obtain ⟨X, hX⟩ : ∃ X, X = (w.alloc (.cells (flat (ini t 0)).toArray 63)).alloc (.cells #[.int .i64 s, .int .i64 0, .slice (some ⟨w.heap.size, 0, none⟩) t t] 53) := ⟨_, rfl⟩
  have hFX : Frm [] w X := by rw [hX]; exact ((Frm.refl _ _).alloc _).alloc _
  have hbd : X.heap[w.heap.size]? = some (.cells (flat (ini t 0)).toArray 63 (0, 0)) := by rw [hX]; exact heap_alloc_old _ (heap_alloc_new _ _)
  have hbp : X.heap[w.heap.size + 1]? = some (.cells #[.int .i64 s, .int .i64 0, .slice (some ⟨w.heap.size, 0, none⟩) t t] 53 (0, 0)) := by rw [hX]; exact heap_alloc_at _ (by simp)
  have HM := Lib.hid hm
  have HX := Lib.hid hX
  have HD := Lib.hid hbd
  have HP := Lib.hid hbp
  have kk : X.cell? ⟨w.heap.size + 1, 2, none⟩ = some (.slice (some ⟨w.heap.size, 0, none⟩) t t) := (cell_of_heap hbp).trans rfl
  have kl := lt_of_heap hbp
  clear hm hX hbd hbp
  go_enter Try.func24, Try.ntmps24
  go_wp2_with fail
  refine (maybe_any _ _).mono ?_
  rintro e w' ⟨rfl, rfl⟩
  rw [HM.out]
  go_wp2_with fail
  have hXc : (w.alloc (.cells (flat (ini t 0)).toArray 63)).alloc (.cells #[.int .i64 s, .int .i64 0, .slice (some ⟨w.heap.size, 0, none⟩) t t] 53) = X := HX.out.symm
  rw [hXc]
  clear hmk hXc kk kl
  go_loopw [7, 30] (fun _ i w' => ∃ k : Nat, k ≤ t ∧ i = .int .i64 k ∧ Frm [] w w' ∧ Hid (w'.heap[w.heap.size]? = some (.cells (flat (ini t k)).toArray 63 (0, 0))) ∧ Hid (w'.heap[w.heap.size + 1]? = some (.cells #[.int .i64 s, .int .i64 0, .slice (some ⟨w.heap.size, 0, none⟩) t t] 53 (0, 0)))) (fun _ i _ => t - (intOf i).toNat)
  case atStart => exact ⟨0, by omega, rfl, hFX, HD, HP⟩
  case round =>
    obtain ⟨k, hk, rfl, hF, HG, HQ⟩ := hrel
    by_cases hlt : k < t
    · have hb0 : (0 : Int) ≤ (k : Int) := by omega
      have hb1 : (k : Int) < (t : Int) := by omega
      have hsz : (flat (ini t k)).length = t * 2 := by rw [flat_length, ini_length hk]
      have k4 : wr.cell? ⟨w.heap.size, k * 2, none⟩ = some ((flat (ini t k))[k * 2]'(by omega)) := by rw [cell_of_heap HG.out, List.getElem?_toArray]; exact List.getElem?_eq_getElem _
      have k5 : wr.cell? ⟨w.heap.size, k * 2 + 1, none⟩ = some ((flat (ini t k))[k * 2 + 1]'(by omega)) := by rw [cell_of_heap HG.out, List.getElem?_toArray]; exact List.getElem?_eq_getElem _
      generalize (flat (ini t k))[k * 2]'(by omega) = u1 at k4
      generalize (flat (ini t k))[k * 2 + 1]'(by omega) = u2 at k5
      have k6 : wr.frozen? ⟨w.heap.size, k * 2, none⟩ = false := frozen_of_heap HG.out
      have k7 : wr.frozen? ⟨w.heap.size, k * 2 + 1, none⟩ = false := frozen_of_heap HG.out
      have k8 : wr.cell? ⟨w.heap.size + 1, 2, none⟩ = some (.slice (some ⟨w.heap.size, 0, none⟩) t t) := (cell_of_heap HQ.out).trans rfl
      have hgl := lt_of_heap HG.out
      have hpl := lt_of_heap HQ.out
      have hS := ini_step hlt
      have HS := Lib.hid hS
      clear hS hsz
      go_wp2
      go_roundw
      case rel =>
        refine ⟨k + 1, by omega, by go_num, (hF.setCell _ _ (.inr (Nat.le_refl _))).setCell _ _ (.inr (Nat.le_refl _)), Lib.hid ?_, Lib.hid ?_⟩
        · rw [← HS.out]
          exact heap_setCell_at _ (heap_setCell_at _ HG.out)
        · exact heap_setCell_far _ _ (by simp) (heap_setCell_far _ _ (by simp) HQ.out)
      case measure => simp [intOf]; omega
    · obtain rfl : k = t := by omega
      have k8 : wr.cell? ⟨w.heap.size + 1, 2, none⟩ = some (.slice (some ⟨w.heap.size, 0, none⟩) k k) := (cell_of_heap HQ.out).trans rfl
      have hpl := lt_of_heap HQ.out
      go_wp2
      go_ret2
      have hii : ini k k = l0 k := by unfold ini; simp
      have hg := HG.out
      rw [hii] at hg
      refine ⟨w.heap.size + 1, w.heap.size, rfl, hF, ⟨HQ.out, ⟨⟨_, hg, ?_, fun j u hj => by rw [List.getElem?_toArray]; exact hj⟩, ?_, by omega⟩, by omega, l0_length k, by omega, by omega, by omega, by omega, ?_, by omega, by omega⟩, by omega, by omega⟩
      · simp [flat_length, l0_length]
      · rw [l0_length]; exact Nat.le_refl _
      · intro a ha
        obtain ⟨i, hi, e⟩ := List.getElem_of_mem ha
        obtain ⟨_, rfl⟩ := l0_get (by rw [List.getElem?_eq_getElem hi, e])
        simp

theorem next_nil (w : World) (t : Int) : Calls Try.prog 28 #[.pointer none, .int .i64 t] w (Ret (.tuple #[.int .i64 0, .int .i64 1]) (fun w' => w = w')) := by
  go_enter Try.func28, Try.ntmps28
  go_wp2_with (go_at_call 41; refine (none_nil _).mono ?_; rintro e w' ⟨rfl, rfl⟩)
  go_ret2
  exact ⟨rfl, rfl⟩
theorem next_zero (w : World) (p : Nat) (h : w.cell? ⟨p, 2, none⟩ = some (.slice none 0 0)) (t : Int) : Calls Try.prog 28 #[.pointer (some ⟨p, 0, none⟩), .int .i64 t] w (Ret (.tuple #[.int .i64 0, .int .i64 1]) (fun w' => w = w')) := by
  go_enter Try.func28, Try.ntmps28
  go_wp2_with (go_at_call 41; refine (none_zero _ _ h).mono ?_; rintro e w' ⟨rfl, rfl⟩)
  go_ret2
  exact ⟨rfl, rfl⟩
theorem next_bad {w : World} {p d n c : Nat} {sz pk : Int} {l : List Al} (h : PickAt w p d n c sz pk l) (t : Int) (hi : idx l t < 0) :
    Calls Try.prog 28 #[.pointer (some ⟨p, 0, none⟩), .int .i64 t] w (Ret (.tuple #[.int .i64 0, .int .i64 2]) (fun w' => Frm [] w w')) := by
  have hin := index_pk h t
  generalize idx l t = i at *
  have hb : decide (i < 0) = true := by simpa using hi
  have HI := Lib.hid hin
  clear hin
  go_enter Try.func28, Try.ntmps28
  go_wp2_with (first | (go_at_call 41; refine (none_pk h).mono ?_; rintro e w' ⟨rfl, rfl⟩) | (go_at_call 42; refine HI.out.mono ?_; rintro e w1 ⟨rfl, hF1⟩))
  go_ret2
  exact ⟨rfl, hF1⟩

/-- Which place in the order of ages is picked. -/
def nxI (l : List Al) (sz pk want : Int) : Nat := if urg l sz pk = true then 0 else (idx l want).toNat
def nxT (l : List Al) (sz pk want : Int) : Int := (l.getD (nxI l sz pk want) (0, 0)).1
def nxL (l : List Al) (sz pk want : Int) : List Al := pickL l (nxI l sz pk want) pk
set_option maxHeartbeats 1000000 in
theorem next_ok {w : World} {p d n c : Nat} {sz pk : Int} {l : List Al} (h : PickAt w p d n c sz pk l) (t : Int) (hi : 0 ≤ idx l t) (hpk : pk < 1000000) :
    Calls Try.prog 28 #[.pointer (some ⟨p, 0, none⟩), .int .i64 t] w (Ret (.tuple #[.int .i64 (nxT l sz pk t), .int .i64 0]) (fun w' => Frm [p, d] w w' ∧ PickAt w' p d n c sz (pk + 1) (nxL l sz pk t))) := by
  have hin := index_pk h t
  have hbd := idx_bd l t
  have hpos := h.pos
  have hln := h.len
  obtain ⟨m, rfl⟩ : ∃ m, n = m + 1 := ⟨n - 1, by omega⟩
  have hpick : ∀ (j : Nat), j < m + 1 → ∀ w', Frm [] w w' → Calls Try.prog 46 #[.pointer (some ⟨p, 0, none⟩), .int .i64 (j : Int)] w' (Ret (.int .i64 (l.getD j (0, 0)).1) (fun w'' => Frm [p, d] w' w'' ∧ PickAt w'' p d (m + 1) c sz (pk + 1) (pickL l j pk))) := by
    intro j hj w' hF
    have hx : l[j]? = some (l[j]'(by omega)) := List.getElem?_eq_getElem _
    have e : (l.getD j (0, 0)) = l[j]'(by omega) := by rw [List.getD_eq_getElem?_getD, hx]; rfl
    rw [e]
    exact pick_pk (x1 := (l[j]'(by omega)).1) (x2 := (l[j]'(by omega)).2) (h.frm0 hF) hx hpk
  by_cases hu : urg l sz pk = true
  · have e1 : nxI l sz pk t = 0 := by unfold nxI; rw [if_pos hu]
    unfold nxT nxL
    rw [e1]
    have hp0 := hpick 0 (by omega)
    have hp0' : ∀ w', Frm [] w w' → Calls Try.prog 46 #[.pointer (some ⟨p, 0, none⟩), .int .i64 0] w' (Ret (.int .i64 (l.getD 0 (0, 0)).1) (fun w'' => Frm [p, d] w' w'' ∧ PickAt w'' p d (m + 1) c sz (pk + 1) (pickL l 0 pk))) := hp0
    generalize (l.getD 0 (0, 0)).1 = T at *
    generalize pickL l 0 pk = L at *
    generalize idx l t = i at *
    have hb : decide (i < 0) = false := by simpa using hi
    have HI := Lib.hid hin
    have HU := Lib.hid hu
    have HP := Lib.hid hp0'
    have H := Lib.hid h
    clear hin hu hp0 hp0' hpick h hln e1
    go_enter Try.func28, Try.ntmps28
    go_wp2_with fail
    refine (none_pk H.out).mono ?_
    rintro e w' ⟨rfl, rfl⟩
    go_wp2_with fail
    refine HI.out.mono ?_
    rintro e w1 ⟨rfl, hF1⟩
    go_wp2_with fail
    refine (urgent_pk (H.out.frm0 hF1)).mono ?_
    rintro e w2 ⟨rfl, hF2⟩
    rw [HU.out]
    go_wp2_with fail
    refine (HP.out _ (hF1.trans hF2)).mono ?_
    rintro e w3 ⟨rfl, hF3, hP3⟩
    go_wp2
    go_ret2
    exact ⟨rfl, (hF1.trans hF2).nil.trans hF3, hP3⟩
  · have hu : urg l sz pk = false := by simpa using hu
    obtain ⟨k, hk⟩ := Int.eq_ofNat_of_zero_le hi
    have e1 : nxI l sz pk t = k := by unfold nxI; rw [if_neg (by simp [hu]), hk]; rfl
    unfold nxT nxL
    rw [e1]
    have hp0 := hpick k (by omega)
    generalize (l.getD k (0, 0)).1 = T at *
    generalize pickL l k pk = L at *
    rw [hk] at hin
    have hb : decide ((k : Int) < 0) = false := by simp
    have HI := Lib.hid hin
    have HU := Lib.hid hu
    have HP := Lib.hid hp0
    have H := Lib.hid h
    clear hin hu hp0 hpick h hln e1 hk hi hbd
    go_enter Try.func28, Try.ntmps28
    go_wp2_with fail
    refine (none_pk H.out).mono ?_
    rintro e w' ⟨rfl, rfl⟩
    go_wp2_with fail
    refine HI.out.mono ?_
    rintro e w1 ⟨rfl, hF1⟩
    go_wp2_with fail
    refine (urgent_pk (H.out.frm0 hF1)).mono ?_
    rintro e w2 ⟨rfl, hF2⟩
    rw [HU.out]
    go_wp2_with fail
    refine (HP.out _ (hF1.trans hF2)).mono ?_
    rintro e w3 ⟨rfl, hF3, hP3⟩
    go_wp2
    go_ret2
    exact ⟨rfl, (hF1.trans hF2).nil.trans hF3, hP3⟩

theorem qnext_of {w : World} {v : Value} {t x e : Int} {R : World → Prop} (hc : Calls Try.prog 28 #[v, .int .i64 t] w (Ret (.tuple #[.int .i64 x, .int .i64 e]) R)) :
    Calls Try.prog 29 #[v, .int .i64 t, .int .i64 x, .int .i64 e] w (Ret (.bool true) R) := by
  have HC := Lib.hid hc
  clear hc
  have hee : (e == e) = true := by simp
  have hxx : (x == x) = true := by simp
  go_enter Try.func29, Try.ntmps29
  go_wp2_with fail
  refine HC.out.mono ?_
  rintro e w1 ⟨rfl, hR⟩
  have HR := Lib.hid hR
  clear hR
  go_wp2
  go_ret
  exact ⟨rfl, HR.out⟩
end Go.Proofs.Ytjgnmmlbnkmgfaa
