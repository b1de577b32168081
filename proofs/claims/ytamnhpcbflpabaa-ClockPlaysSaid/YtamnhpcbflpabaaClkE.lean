/- Package clock: alarms as they are given to callers; the alarms that are due are cut off. -/
import Derived.Test.YtamnhpcbflpabaaClkD
namespace Go.Proofs.Ytamnhpcbflpabaa
open Go.ChangeShapes Go.WideShapes Go.ChangeAt Go.RowKit

def zs (n : Nat) : List Value := List.replicate (n * 2) (.int .i64 0)
theorem zs_length (n : Nat) : (zs n).length = n * 2 := by simp [zs]

theorem info_alarm : (Try.prog.info? 47).map (fun i => (i.zero, i.size, i.bytes)) = some (some (.agg #[.int .i64 0, .int .i64 0]), 2, 16) := by kernel_rfl
theorem make_alarms (n : Nat) (h : n ≤ 4096) (w : World) : (Instr.makeSlice 33 (.int .i64 n) (.int .i64 n)).run Try.prog w =
    .ok (.slice (some ⟨w.heap.size, 0, none⟩) n n) (w.alloc (.cells (zs n).toArray 47)) := by
  obtain ⟨i0, hi, hz0, hz1, hz2⟩ := info_parts info_alarm
  have := run_make (P := Try.prog) w 33 47 i0 _ Try.underlying33 hi hz0 .i64 .i64 (n : Int) (n : Int) (by omega) (by omega) (by rw [hz2]; omega) (by omega)
  rw [this, hz1]
  have e : madeCells (Value.agg #[.int .i64 0, .int .i64 0]).cells (Int.toNat (n : Int) * 2) = (zs n).toArray := by
    apply Array.ext
    · simp [madeCells, zs]
    · intro j h1 h2
      have : j % 2 = 0 ∨ j % 2 = 1 := by omega
      rcases this with h | h <;> simp [madeCells, zs, Value.cells, h]
  rw [e]; simp

/-- The first k alarms given, the others zero. -/
def part (l : List Al) (k : Nat) : List Value := flat (l.take k) ++ zs (l.length - k)
theorem part_length (l : List Al) (k : Nat) (hk : k ≤ l.length) : (part l k).length = l.length * 2 := by unfold part; rw [List.length_append, flat_length, zs_length, List.length_take]; omega
theorem part_zero (l : List Al) : part l 0 = zs l.length := by unfold part; simp [flat]
theorem part_all (l : List Al) : part l l.length = flat l := by unfold part; simp [zs]
theorem part_succ {l : List Al} {k : Nat} {x : Al} (hx : l[k]? = some x) : ((part l k).toArray.setIfInBounds (k * 2) (.int .i64 x.1)).setIfInBounds (k * 2 + 1) (.int .i64 x.2) = (part l (k + 1)).toArray := by
  obtain ⟨hk, hx'⟩ := List.getElem?_eq_some_iff.1 hx
  have hz : zs (l.length - k) = .int .i64 0 :: .int .i64 0 :: zs (l.length - (k + 1)) := by
    unfold zs; rw [show (l.length - k) * 2 = (l.length - (k + 1)) * 2 + 1 + 1 by omega]; rfl
  have ht : flat (l.take (k + 1)) = flat (l.take k) ++ [.int .i64 x.1, .int .i64 x.2] := by
    rw [List.take_succ_eq_append_getElem hk, flat_append, hx']; rfl
  have hfl : (flat (l.take k)).length = k * 2 := by rw [flat_length, List.length_take]; omega
  unfold part
  rw [hz, ht]
  simp only [List.setIfInBounds_toArray]
  congr 1
  rw [List.set_append_right _ _ (by omega), hfl, Nat.sub_self]
  rw [List.set_append_right _ _ (by omega), hfl, show k * 2 + 1 - k * 2 = 1 by omega]
  simp

set_option maxHeartbeats 2000000 in
set_option maxRecDepth 100000 in
theorem given_any {w : World} {v : Value} {l : List Al} (hA : Als w v l) (hl : l.length ≤ 4096) :
    Calls Try.prog 32 #[v] w (Ret (.slice (some ⟨w.heap.size, 0, none⟩) l.length l.length) (fun w' => Frm [] w w' ∧ w'.heap[w.heap.size]? = some (.cells (flat l).toArray 47 (0, 0)))) := by
  have hmk := make_alarms l.length hl
  rcases hA with ⟨rfl, rfl⟩ | ⟨d, o, c, rfl, h1, h2, h3, hr⟩
  · have hmk0 : ∀ w : World, (Instr.makeSlice 33 (.int .i64 0) (.int .i64 0)).run Try.prog w = .ok (.slice (some ⟨w.heap.size, 0, none⟩) 0 0) (w.alloc (.cells #[] 47)) := hmk
    clear hmk
    go_enter Try.func32, Try.ntmps32
    go_wp2_with fail
    go_loop [4, 5, 11] (fun _ _ i => i = .int .i64 0) (fun _ _ _ => 0)
    case atStart => exact rfl
    case round =>
      subst hrel
      go_wp2
      go_ret
      exact ⟨rfl, (Frm.refl _ _).alloc _, heap_alloc_new _ _⟩
  · obtain ⟨X, hX⟩ : ∃ X, X = w.alloc (.cells (zs l.length).toArray 47) := ⟨_, rfl⟩
    have hFX : Frm [] w X := by rw [hX]; exact (Frm.refl _ _).alloc _
    have hbx : X.heap[w.heap.size]? = some (.cells (part l 0).toArray 47 (0, 0)) := by rw [hX, part_zero]; exact heap_alloc_new _ _
    have hpa := part_all l
    obtain ⟨n, hn⟩ : ∃ n, n = l.length := ⟨_, rfl⟩
    rw [← hn] at hmk hpa h1 hl ⊢
    have HX := Lib.hid hX
    have HB := Lib.hid hbx
    have HR := Lib.hid hr
    have HN := Lib.hid hn
    have HPA := Lib.hid hpa
    clear hX hbx hr hn hpa
    go_enter Try.func32, Try.ntmps32
    go_wp2_with fail
    rw [HN.out, ← HX.out, ← HN.out]
    clear hmk
    go_loopw [4, 5, 11] (fun _ _ i w' => ∃ k : Nat, k ≤ n ∧ i = .int .i64 k ∧ Frm [] w w' ∧ Hid (w'.heap[w.heap.size]? = some (.cells (part l k).toArray 47 (0, 0)))) (fun _ _ i _ => n - (intOf i).toNat)
    case atStart => exact ⟨0, by omega, rfl, hFX, HB⟩
    case round =>
      obtain ⟨k, hk, rfl, hF, HG⟩ := hrel
      by_cases hlt : k < n
      · have hb0 : (0 : Int) ≤ (k : Int) := by omega
        have hb1 : (k : Int) < (n : Int) := by omega
        have hx : l[k]? = some (l[k]'(by have := HN.out; omega)) := List.getElem?_eq_getElem _
        generalize (l[k]'(by have := HN.out; omega)) = x at hx
        obtain ⟨x1, x2⟩ := x
        have hxc : w.cell? ⟨d, o + k * 2, none⟩ = some (.int .i64 x1) ∧ w.cell? ⟨d, o + k * 2 + 1, none⟩ = some (.int .i64 x2) := Als.cell0 HR.out hx
        have hsz := part_length l k (by have := HN.out; omega)
        have hlen : (part l k).length = n * 2 := by rw [hsz, HN.out]
        have k2 : wr.cell? ⟨d, o + k * 2, none⟩ = some (.int .i64 x1) := by rw [hF.cell h3 (by simp)]; exact hxc.1
        have k3 : wr.cell? ⟨d, o + k * 2 + 1, none⟩ = some (.int .i64 x2) := by rw [hF.cell h3 (by simp)]; exact hxc.2
        have k4 : wr.cell? ⟨w.heap.size, k * 2, none⟩ = some ((part l k)[k * 2]'(by omega)) := by rw [cell_of_heap HG.out, List.getElem?_toArray]; exact List.getElem?_eq_getElem _
        have k5 : wr.cell? ⟨w.heap.size, k * 2 + 1, none⟩ = some ((part l k)[k * 2 + 1]'(by omega)) := by rw [cell_of_heap HG.out, List.getElem?_toArray]; exact List.getElem?_eq_getElem _
        generalize (part l k)[k * 2]'(by omega) = u1 at k4
        generalize (part l k)[k * 2 + 1]'(by omega) = u2 at k5
        have k6 : wr.frozen? ⟨w.heap.size, k * 2, none⟩ = false := frozen_of_heap HG.out
        have k7 : wr.frozen? ⟨w.heap.size, k * 2 + 1, none⟩ = false := frozen_of_heap HG.out
        have hgl := lt_of_heap HG.out
        have hP := part_succ hx
        have HP := Lib.hid hP
        clear hP hx hxc hsz hlen
        go_wp2
        go_roundw
        case rel =>
          refine ⟨k + 1, by omega, by go_num, ?_, ?_⟩
          · exact ((hF.setCell _ _ (.inr (Nat.le_refl _))).setCell _ _ (.inr (Nat.le_refl _))).alloc _
          · refine Lib.hid ?_
            rw [← HP.out]
            exact heap_alloc_old _ (heap_setCell_at _ (heap_setCell_at _ HG.out))
        case measure => simp [intOf]; omega
      · obtain rfl : k = n := by omega
        go_wp2
        go_ret
        exact ⟨rfl, hF, by rw [← HPA.out]; exact HG.out⟩

theorem alarms_clk {w : World} {p : Nat} {now : Int} {v : Value} {l : List Al} (h : ClockAt w p now v l) (hl : l.length ≤ 4096) :
    Calls Try.prog 19 #[.pointer (some ⟨p, 0, none⟩)] w (Ret (.slice (some ⟨w.heap.size, 0, none⟩) l.length l.length) (fun w' => Frm [] w w' ∧ w'.heap[w.heap.size]? = some (.cells (flat l).toArray 47 (0, 0)))) := by
  have h1 := h.c2
  have hA := h.own.als
  go_enter Try.func19, Try.ntmps19
  go_wp2_with fail
  refine (none_clk h).mono ?_
  rintro e w' ⟨rfl, rfl⟩
  go_wp2_with fail
  refine (given_any hA hl).mono ?_
  rintro e w1 ⟨rfl, hF, hG⟩
  have HG := Lib.hid hG
  clear hG
  go_wp2
  go_ret
  exact ⟨rfl, hF, HG.out⟩

/-- Where a clock is cut. -/
def cutAt (now : Int) (l : List Al) : Nat := pos l (0, min (now + 1) 4611686018427387904)

theorem cut_end {w w1 : World} {p d o o2 c N n2 c2 : Nat} {now : Int} {v : Value} {l : List Al} {cs : Array Value} (hF : Frm [] w w1) (hv : v = .slice (some ⟨d, o, none⟩) l.length c)
    (hob : w1.heap[p]? = some (.cells #[.bool true, .int .i64 now, v] 53 (0, 0))) (hne : p ∉ blk v) (hlc : l.length ≤ c) (hcc : c ≤ 9223372036854775807)
    (hd : w1.heap[d]? = some (.cells cs 62 (0, 0))) (hsz : o + c * 2 ≤ cs.size) (hr : ∀ (j : Nat) (u : Value), (flat l)[j]? = some u → cs[o + j]? = some u)
    (hN : N ≤ l.length) (ho : o2 = o + N * 2 ∨ (c = N ∧ o2 = o)) (hn2 : n2 = l.length - N) (hc2 : c2 = c - N) :
    Frm [p] w (w1.setCell ⟨p, 2, none⟩ (.slice (some ⟨d, o2, none⟩) n2 c2)) ∧ ClockAt (w1.setCell ⟨p, 2, none⟩ (.slice (some ⟨d, o2, none⟩) n2 c2)) p now (.slice (some ⟨d, o2, none⟩) n2 c2) (l.drop N) ∧
      Als (w1.setCell ⟨p, 2, none⟩ (.slice (some ⟨d, o2, none⟩) n2 c2)) (.slice (some ⟨d, o, none⟩) N N) (l.take N) := by
  subst hv hn2 hc2
  have hpd : p ≠ d := by simpa [blk] using hne
  have hd' : (w1.setCell ⟨p, 2, none⟩ (.slice (some ⟨d, o2, none⟩) (l.length - N) (c - N))).heap[d]? = some (.cells cs 62 (0, 0)) := heap_setCell_far _ _ hpd hd
  refine ⟨(hF.weak (by simp)).setCell _ _ (.inl (by simp)), ⟨?_, .inr ⟨d, o2, c - N, by rw [List.length_drop], by rw [List.length_drop]; omega, by omega, cs, hd', by omega, fun j u hj => ?_⟩, by simpa [blk] using hpd⟩, ?_⟩
  · have := heap_setCell_at (i := 2) (.slice (some ⟨d, o2, none⟩) (l.length - N) (c - N)) hob
    simpa using this
  · rw [flat_drop, List.getElem?_drop] at hj
    have hlt := (List.getElem?_eq_some_iff.1 hj).1
    rw [flat_length] at hlt
    rcases ho with rfl | ⟨rfl, rfl⟩
    · rw [Nat.add_assoc]; exact hr _ _ hj
    · omega
  · have hlen : (l.take N).length = N := by rw [List.length_take]; omega
    refine .inr ⟨d, o, N, by rw [hlen], by omega, by omega, lt_of_heap hd', fun j u hj => ?_⟩
    rw [cell_of_heap hd']
    rw [flat_take, List.getElem?_take] at hj
    split at hj
    · exact hr _ _ hj
    · cases hj
set_option maxHeartbeats 2000000 in
theorem cut_clk {w : World} {p : Nat} {now : Int} {v : Value} {l : List Al} (hK : ClockAt w p now v l) (hs : Sorted l) (hl : l.length ≤ 4096) (h0 : 0 ≤ now) (hN : now ≤ 4611686018427387904) :
    Calls Try.prog 33 #[.pointer (some ⟨p, 0, none⟩)] w (fun e w' => ∃ v1 v2, Ret v1 (fun w' => Frm [p] w w' ∧ ClockAt w' p now v2 (l.drop (cutAt now l)) ∧ Als w' v1 (l.take (cutAt now l)) ∧ blk v2 = blk v ∧ blk v1 = blk v) e w') := by
  have h1 := hK.c1
  have hple : cutAt now l ≤ l.length := pos_le _ _
  have hpc : ∀ t, t = min (now + 1) 4611686018427387904 → Calls Try.prog 31 #[.pointer (some ⟨p, 0, none⟩), .agg #[.int .i64 0, .int .i64 t]] w (Ret (.int .i64 (cutAt now l)) (fun w' => Frm [] w w')) := by
    intro t ht; subst ht; exact place_clk hK hs hl (0, min (now + 1) 4611686018427387904)
  generalize cutAt now l = N at *
  have HP := Lib.hid hpc
  clear hpc
  have hNb0 : (0 : Int) ≤ (N : Int) := by omega
  have hNb1 : (N : Int) ≤ (l.length : Int) := by omega
  by_cases hc : now < 4611686018427387904
  all_goals
    go_enter Try.func33, Try.ntmps33
    go_wp2_with fail
    refine (HP.out _ (by omega)).mono ?_
    rintro e w1 ⟨rfl, hF⟩
    have h' : ClockAt w1 p now v l := hK.frm0 hF
    have k2 := h'.c2
    have k3 := h'.fz 2
    have k4 := h'.plt
    obtain ⟨hob, hO, hne⟩ := h'
    have HO := Lib.hid hob
    have HH := Lib.hid hK
    clear hob h1 hK
    rcases hO with ⟨rfl, rfl⟩ | ⟨d, o, c, rfl, hlc, hcc, cs, hd, hsz, hr⟩
    · obtain rfl : N = 0 := by simpa using hple
      go_wp2
      go_ret
      refine ⟨.slice none 0 0, .slice none 0 0, rfl, (hF.weak (by simp)).setCell _ _ (.inl (by simp)), ⟨?_, .inl ⟨rfl, rfl⟩, by simp [blk]⟩, .inl ⟨rfl, rfl⟩, rfl, rfl⟩
      have := heap_setCell_at (i := 2) (.slice none 0 0) HO.out
      simpa using this
    · have hcb : (l.length : Int) ≤ (c : Int) := by omega
      have HD := Lib.hid hd
      have HR := Lib.hid hr
      clear hd hr
      by_cases hNc : c = N
      · have e1 : l.length = N := by omega
        subst hNc
        go_wp2
        go_ret
        obtain ⟨g1, g2, g3⟩ := cut_end (N := c) (o2 := o) (n2 := 0) (c2 := 0) hF rfl HO.out hne hlc hcc HD.out hsz HR.out hple (.inr ⟨rfl, rfl⟩) (by omega) (by omega)
        exact ⟨_, .slice (some ⟨d, o, none⟩) 0 0, rfl, g1, g2, g3, rfl, rfl⟩
      · go_wp2
        go_ret
        obtain ⟨g1, g2, g3⟩ := cut_end (N := N) (o2 := o + N * 2) (n2 := l.length - N) (c2 := c - N) hF rfl HO.out hne hlc hcc HD.out hsz HR.out hple (.inl rfl) rfl rfl
        exact ⟨_, .slice (some ⟨d, o + N * 2, none⟩) (l.length - N) (c - N), rfl, g1, g2, g3, rfl, rfl⟩
end Go.Proofs.Ytamnhpcbflpabaa
