/- Package clock: setting and clearing an alarm. -/
import Derived.Test.YtamnhpcbflpabaaClkI
import Derived.Deep.DrawnRows
namespace Go.Proofs.Ytamnhpcbflpabaa
open Go.ChangeShapes Go.WideShapes Go.ChangeAt Go.RowKit

def sErr (l : List Al) (id at' : Int) : Int := if id < 0 ∨ tk at' = false then 2 else if 0 ≤ idx l id then 11 else if l.length = 4096 then 7 else 0
def sL (l : List Al) (id at' : Int) : List Al := if sErr l id at' = 0 then insN l (pos l (id, at')) (id, at') else l

theorem set_nil (w : World) (id at' : Int) : Calls Try.prog 15 #[.pointer none, .int .i64 id, .int .i64 at'] w (Ret (.int .i64 1) (fun w' => w = w')) := by
  go_enter Try.func15, Try.ntmps15
  go_wp2_with (go_at_call 27; refine (none_nil _).mono ?_; rintro e w' ⟨rfl, rfl⟩)
  go_ret
  exact ⟨rfl, rfl⟩
theorem set_zero (w : World) (p : Nat) (hz : w.cell? ⟨p, 0, none⟩ = some (.bool false)) (id at' : Int) : Calls Try.prog 15 #[.pointer (some ⟨p, 0, none⟩), .int .i64 id, .int .i64 at'] w (Ret (.int .i64 1) (fun w' => w = w')) := by
  go_enter Try.func15, Try.ntmps15
  go_wp2_with (go_at_call 27; refine (none_zero _ _ hz).mono ?_; rintro e w' ⟨rfl, rfl⟩)
  go_ret
  exact ⟨rfl, rfl⟩
theorem set_arg {w : World} {p : Nat} {now : Int} {v : Value} {l : List Al} (hK : ClockAt w p now v l) (id at' : Int) (ha : id < 0 ∨ tk at' = false) :
    Calls Try.prog 15 #[.pointer (some ⟨p, 0, none⟩), .int .i64 id, .int .i64 at'] w (Ret (.int .i64 2) (fun w' => w = w')) := by
  by_cases h0 : id < 0
  · have hb : decide (id < 0) = true := by simpa using h0
    clear ha
    go_enter Try.func15, Try.ntmps15
    go_wp2_with (go_at_call 27; refine (none_clk hK).mono ?_; rintro e w' ⟨rfl, rfl⟩)
    go_ret
    exact ⟨rfl, rfl⟩
  · have hb : decide (id < 0) = false := by simpa using h0
    have ht : tk at' = false := ha.resolve_left h0
    have HT := Lib.hid ht
    clear ha ht
    go_enter Try.func15, Try.ntmps15
    go_wp2_with (first | (go_at_call 27; refine (none_clk hK).mono ?_; rintro e w' ⟨rfl, rfl⟩) | (go_at_call 26; refine (istick_any _ _).mono ?_; rintro e w' ⟨rfl, rfl⟩; rw [HT.out]))
    go_ret
    exact ⟨rfl, rfl⟩
set_option maxHeartbeats 1000000 in
theorem set_busy {w : World} {p : Nat} {now : Int} {v : Value} {l : List Al} (hK : ClockAt w p now v l) (hl : l.length ≤ 4096) (id at' : Int) (h0 : ¬ id < 0) (ht : tk at' = true) (hi : 0 ≤ idx l id) :
    Calls Try.prog 15 #[.pointer (some ⟨p, 0, none⟩), .int .i64 id, .int .i64 at'] w (Ret (.int .i64 11) (fun w' => Frm [] w w')) := by
  have hb : decide (id < 0) = false := by simpa using h0
  have hb2 : decide (0 ≤ idx l id) = true := by simpa using hi
  have HT := Lib.hid ht
  clear ht
  go_enter Try.func15, Try.ntmps15
  go_wp2_with (first | (go_at_call 27; refine (none_clk hK).mono ?_; rintro e w' ⟨rfl, rfl⟩) | (go_at_call 26; refine (istick_any _ _).mono ?_; rintro e w' ⟨rfl, rfl⟩; rw [HT.out]) | (go_at_call 29; refine (index_clk hK hl _).mono ?_; rintro e w1 ⟨rfl, hF1⟩))
  go_ret
  exact ⟨rfl, hF1⟩
theorem own_slice {w : World} {v : Value} {l : List Al} (hO : Own w v l) : ∃ a c, v = .slice a l.length c := by
  rcases hO with ⟨rfl, rfl⟩ | ⟨d, o, c, rfl, _⟩
  · exact ⟨none, 0, rfl⟩
  · exact ⟨_, c, rfl⟩
set_option maxHeartbeats 1000000 in
theorem set_full {w : World} {p : Nat} {now : Int} {v : Value} {l : List Al} (hK : ClockAt w p now v l) (hl : l.length = 4096) (id at' : Int) (h0 : ¬ id < 0) (ht : tk at' = true) (hi : idx l id < 0) :
    Calls Try.prog 15 #[.pointer (some ⟨p, 0, none⟩), .int .i64 id, .int .i64 at'] w (Ret (.int .i64 7) (fun w' => Frm [] w w')) := by
  have hb : decide (id < 0) = false := by simpa using h0
  have hb2 : decide (0 ≤ idx l id) = false := by simpa using hi
  obtain ⟨va, vc, hv⟩ := own_slice hK.own
  rw [hl] at hv
  subst hv
  have HT := Lib.hid ht
  have HL := Lib.hid hl
  clear ht hl
  go_enter Try.func15, Try.ntmps15
  go_wp2_with (first | (go_at_call 27; refine (none_clk hK).mono ?_; rintro e w' ⟨rfl, rfl⟩) | (go_at_call 26; refine (istick_any _ _).mono ?_; rintro e w' ⟨rfl, rfl⟩; rw [HT.out]) | (go_at_call 29; refine (index_clk hK (by have := HL.out; omega) _).mono ?_; rintro e w1 ⟨rfl, hF1⟩; have k2 := (hK.frm0 hF1).c2))
  go_ret
  exact ⟨rfl, hF1⟩
theorem set_end {w Z w3 : World} {p : Nat} {now : Int} {vs x : Value} {L : List Al} (hwZ : Frm [] w Z) (hF3 : Frm (blk vs) Z w3) (hP3 : w3.heap[p]? = some (.cells #[.bool true, .int .i64 now, vs] 53 (0, 0))) (hne : p ∉ blk vs)
    (hpZ : p < Z.heap.size) (hO3 : Own w3 x L) (hb3 : ∀ y ∈ blk x, y ∈ blk vs ∨ Z.heap.size ≤ y) :
    Frm (p :: blk vs) w (w3.setCell ⟨p, 2, none⟩ x) ∧ ClockAt (w3.setCell ⟨p, 2, none⟩ x) p now x L ∧ ∀ y ∈ blk x, y ∈ blk vs ∨ w.heap.size ≤ y := by
  have hpx : p ∉ blk x := fun hp => by rcases hb3 p hp with h1 | h1; exact hne h1; omega
  refine ⟨(hwZ.nil.trans (hF3.weak (fun y hy => List.mem_cons_of_mem _ hy))).setCell _ _ (.inl (by simp)), ⟨?_, hO3.frm ((Frm.refl [p] w3).setCell ⟨p, 2, none⟩ x (.inl (by simp))) (fun y hy hyp => hpx (by rw [List.mem_singleton.1 hyp] at hy; exact hy)), hpx⟩, fun y hy => ?_⟩
  · have := heap_setCell_at (i := 2) x hP3
    simpa using this
  · rcases hb3 y hy with h1 | h1
    · exact .inl h1
    · exact .inr (Nat.le_trans hwZ.size h1)
attribute [local go_sem ↓] Go.wp_at_zero Go.wp_at_succ
set_option maxHeartbeats 4000000 in
theorem set_ok {w : World} {p : Nat} {now : Int} {v : Value} {l : List Al} (hK : ClockAt w p now v l) (hs : Sorted l) (hl : l.length < 4096) (id at' : Int) (h0 : ¬ id < 0) (ht : tk at' = true) (hi : idx l id < 0) :
    Calls Try.prog 15 #[.pointer (some ⟨p, 0, none⟩), .int .i64 id, .int .i64 at'] w (fun e w' => ∃ v', Ret (.int .i64 0) (fun w' => Frm (p :: blk v) w w' ∧ ClockAt w' p now v' (insN l (pos l (id, at')) (id, at')) ∧ ∀ x ∈ blk v', x ∈ blk v ∨ w.heap.size ≤ x) e w') := by
  have hb : decide (id < 0) = false := by simpa using h0
  have hb2 : decide (0 ≤ idx l id) = false := by simpa using hi
  obtain ⟨va, vc, hv⟩ := own_slice hK.own
  have hle : ((l.length : Int) == 4096) = false := by simp; omega
  have HT := Lib.hid ht
  have HV := Lib.hid hv
  have HS := Lib.hid hs
  clear ht hv hs
  go_enter Try.func15, Try.ntmps15
  go_wp2_with (first | (go_at_call 27; refine (none_clk hK).mono ?_; rintro e w' ⟨rfl, rfl⟩) | (go_at_call 26; refine (istick_any _ _).mono ?_; rintro e w' ⟨rfl, rfl⟩; rw [HT.out]) | (go_at_call 29; refine (index_clk hK (by omega) _).mono ?_; rintro e w1 ⟨rfl, hF1⟩; have k2 := (hK.frm0 hF1).c2; rw [HV.out] at k2))
  have hK1 : ClockAt w1 p now v l := hK.frm0 hF1
  have hpl := hK1.plt
  have hbl := hK1.blt
  rw [HV.out] at hK1
  clear k2
  obtain ⟨g, hg⟩ : ∃ g, g = w1.heap.size := ⟨_, rfl⟩
  obtain ⟨X, hX⟩ : ∃ X, X = (w1.alloc (.cells #[.int .i64 id, .int .i64 at'] 62)) := ⟨_, rfl⟩
  have hXs : X.heap.size = g + 1 := by rw [hX, hg]; simp
  have hbx : X.heap[g]? = some (.cells #[.int .i64 id, .int .i64 at'] 62 (0, 0)) := by rw [hX, hg]; exact heap_alloc_new _ _
  have hKX : ClockAt X p now (.slice va l.length vc) l := by rw [hX]; exact hK1.alloc _
  have hFX : Frm [] w X := by rw [hX]; exact hF1.alloc _
  rw [← hX]
  rw [← hg]
  have hpg : p < g := by rw [hg]; exact hpl
  have hbg : ∀ x ∈ p :: blk (.slice va l.length vc), x < g := by rw [hg, ← HV.out]; exact hbl
  have HBX := Lib.hid hbx
  have HKX := Lib.hid hKX
  have HBG := Lib.hid hbg
  have HX := Lib.hid hX
  have HG := Lib.hid hg
  have k2 := hKX.c2
  have k3 := hKX.fz 2
  obtain ⟨k4, k5⟩ := cells2 hbx
  clear hX hg hK1 hF1 hbl hpl hbx hKX hbg
  have hnb : ∀ n, g ≤ n → n ∉ blk (.slice va l.length vc) := fun n hn hx => by have := HBG.out n (List.mem_cons_of_mem _ hx); omega
  have HNB := Lib.hid hnb
  clear hnb
  go_region_with (first
    | (go_at_call 31; refine (place_clk (v := .slice va l.length vc) (l := l) (now := now) (by repeat' (first | exact HKX.out | apply ClockAt.drew | apply ClockAt.alloc)) HS.out (by omega) (id, at')).mono ?_; rintro e w2 ⟨rfl, hF2⟩; have hK2 : ClockAt w2 p now (.slice va l.length vc) l := ClockAt.frm0 (by repeat' (first | exact HKX.out | apply ClockAt.drew | apply ClockAt.alloc)) hF2; have k2 := hK2.c2; have k3 := hK2.fz 2; have hB2 := hF2.heap (k := g) (o := .cells #[.int .i64 id, .int .i64 at'] 62) (by first | exact HBX.out | exact heap_alloc_old _ HBX.out) (by simp); have k6 := cells2 hB2; have k7 := lt_of_heap hB2; have k8 := hK2.plt; have HK2 := Lib.hid hK2; have HB2 := Lib.hid hB2; clear hK2 hB2)
    | (go_at_call 30; refine (insert_any (v := .slice va l.length vc) (l := l) (N := pos l (id, at')) (a := (id, at')) (ClockAt.own (p := p) (now := now) (by first | exact HK2.out | exact HK2.out.alloc _)) (by omega) (pos_le _ _) (HNB.out _ (by omega)) (by first | exact heap_alloc_new _ _ | exact hF2.heap (heap_alloc_at _ hXs.symm) (by simp))).mono ?_; rintro e w3 ⟨xa, xn, xc, rfl, hF3, hO3, hb3⟩; have hP3 := hF3.heap (k := p) (o := .cells #[.bool true, .int .i64 now, .slice va l.length vc] 53) (by first | exact HK2.out.obj | exact heap_alloc_old _ HK2.out.obj) HK2.out.ne; have c2 : w3.cell? ⟨p, 2, none⟩ = some (.slice va l.length vc) := (cell_of_heap hP3).trans rfl; have c3 : w3.frozen? ⟨p, 2, none⟩ = false := frozen_of_heap hP3; have c4 := lt_of_heap hP3; have HP3 := Lib.hid hP3; have HO3 := Lib.hid hO3; clear hP3 hO3))
  all_goals
    go_wp2
    go_ret
    obtain ⟨e1, e2, e3⟩ := set_end (by first | exact (hFX.drew.trans hF2).alloc _ | exact (hFX.drew.alloc _).trans hF2) hF3 HP3.out HK2.out.ne (by first | exact k8 | (simp; omega)) HO3.out hb3
    exact ⟨_, rfl, by rw [HV.out]; exact e1, e2, by rw [HV.out]; exact e3⟩

theorem set_any {w : World} {p : Nat} {now : Int} {v : Value} {l : List Al} (hK : ClockAt w p now v l) (hs : Sorted l) (hl : l.length ≤ 4096) (id at' : Int) :
    Calls Try.prog 15 #[.pointer (some ⟨p, 0, none⟩), .int .i64 id, .int .i64 at'] w (fun e w' => ∃ v', Ret (.int .i64 (sErr l id at')) (fun w' => Frm (p :: blk v) w w' ∧ ClockAt w' p now v' (sL l id at') ∧ ∀ x ∈ blk v', x ∈ blk v ∨ w.heap.size ≤ x) e w') := by
  by_cases h1 : id < 0 ∨ tk at' = false
  · have e1 : sErr l id at' = 2 := by unfold sErr; rw [if_pos h1]
    have e2 : sL l id at' = l := by unfold sL; rw [e1]; rfl
    rw [e1, e2]
    exact (set_arg hK id at' h1).mono fun e w' hh => by obtain ⟨he, hw⟩ := hh; subst hw; exact ⟨v, he, Frm.refl _ _, hK, fun x hx => .inl hx⟩
  · have h0 : ¬ id < 0 := fun hh => h1 (.inl hh)
    have ht : tk at' = true := by cases hx : tk at'; exact absurd (.inr hx) h1; rfl
    by_cases h2 : 0 ≤ idx l id
    · have e1 : sErr l id at' = 11 := by unfold sErr; rw [if_neg h1, if_pos h2]
      have e2 : sL l id at' = l := by unfold sL; rw [e1]; rfl
      rw [e1, e2]
      exact (set_busy hK hl id at' h0 ht h2).mono fun e w' hh => ⟨v, hh.1, hh.2.nil, hK.frm0 hh.2, fun x hx => .inl hx⟩
    · by_cases h3 : l.length = 4096
      · have e1 : sErr l id at' = 7 := by unfold sErr; rw [if_neg h1, if_neg h2, if_pos h3]
        have e2 : sL l id at' = l := by unfold sL; rw [e1]; rfl
        rw [e1, e2]
        exact (set_full hK h3 id at' h0 ht (by omega)).mono fun e w' hh => ⟨v, hh.1, hh.2.nil, hK.frm0 hh.2, fun x hx => .inl hx⟩
      · have e1 : sErr l id at' = 0 := by unfold sErr; rw [if_neg h1, if_neg h2, if_neg h3]
        have e2 : sL l id at' = insN l (pos l (id, at')) (id, at') := by unfold sL; rw [e1]; rfl
        rw [e1, e2]
        exact set_ok hK hs (by omega) id at' h0 ht (by omega)
end Go.Proofs.Ytamnhpcbflpabaa
