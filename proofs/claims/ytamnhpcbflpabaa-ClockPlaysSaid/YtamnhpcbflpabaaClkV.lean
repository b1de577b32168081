/- Layer 2: the walk of ClockFulls. -/
import Derived.Test.YtamnhpcbflpabaaClkU
namespace Go.Proofs.Ytamnhpcbflpabaa
open Go.ChangeShapes Go.WideShapes Go.ChangeAt Go.RowKit

/-- Blocks of a clock that this call has made. -/
def New (w0 : World) (D : List Nat) : Prop := ∀ x ∈ D, w0.heap.size ≤ x
theorem New.go {w0 w w' : World} {p : Nat} {D D' : List Nat} (hN : New w0 (p :: D)) (hF0 : Frm [] w0 w) (hF : Frm (p :: D) w w') (hb : ∀ x ∈ D', x ∈ D ∨ w.heap.size ≤ x) : Frm [] w0 w' ∧ New w0 (p :: D') :=
  ⟨hF0.trans_new hF (fun x hx => .inr (hN x hx)), fun x hx => by
    rcases List.mem_cons.1 hx with rfl | hx
    · exact hN _ (by simp)
    · rcases hb x hx with h1 | h1
      · exact hN _ (List.mem_cons_of_mem _ h1)
      · have := hF0.size; omega⟩

set_option maxRecDepth 100000 in
set_option maxHeartbeats 4000000 in
theorem fulls_out (many less : Int) (hm : many < 4094 ∨ 4098 < many ∨ less < 0 ∨ 3 < less) (w : World) :
    Calls Try.prog 5 #[.int .i64 many, .int .i64 less] w (Ret (.bool true) (fun w' => Below w.heap.size w w')) := by
  by_cases h1 : many < 4094
  · have b1 : decide (many < 4094) = true := by simpa using h1
    go_enter Try.func5, Try.ntmps5
    go_wp2_with (go_at_call 11; refine (known_true _).mono ?_; rintro e w' ⟨rfl, hF⟩)
    go_ret
    exact ⟨rfl, hF.below (Nat.le_refl _) (by simp)⟩
  · have b1 : decide (many < 4094) = false := by simpa using h1
    by_cases h2 : 4098 < many
    · have b2 : decide (4098 < many) = true := by simpa using h2
      go_enter Try.func5, Try.ntmps5
      go_wp2_with (go_at_call 11; refine (known_true _).mono ?_; rintro e w' ⟨rfl, hF⟩)
      go_ret
      exact ⟨rfl, hF.below (Nat.le_refl _) (by simp)⟩
    · have b2 : decide (4098 < many) = false := by simpa using h2
      by_cases h3 : less < 0
      · have b3 : decide (less < 0) = true := by simpa using h3
        go_enter Try.func5, Try.ntmps5
        go_wp2_with (go_at_call 11; refine (known_true _).mono ?_; rintro e w' ⟨rfl, hF⟩)
        go_ret
        exact ⟨rfl, hF.below (Nat.le_refl _) (by simp)⟩
      · have b3 : decide (less < 0) = false := by simpa using h3
        have b4 : decide (3 < less) = true := by simp; omega
        go_enter Try.func5, Try.ntmps5
        go_wp2_with (go_at_call 11; refine (known_true _).mono ?_; rintro e w' ⟨rfl, hF⟩)
        go_ret
        exact ⟨rfl, hF.below (Nat.le_refl _) (by simp)⟩

theorem tk0 : tk 0 = true := by decide
theorem tick_is {w : World} {p : Nat} {now n now' : Int} {v : Value} {l want l' : List Al} {m : Nat} (hK : ClockAt w p now v l) (hs : Sorted l) (hl : l.length ≤ 4096) (ht : tk now = true) (hn : 0 ≤ n)
    (hd : dl now n = now') (hw : l.take (cutAt now' l) = want) (hw' : l.drop (cutAt now' l) = l') (hm : want.length = m) :
    Calls Try.prog 16 #[.pointer (some ⟨p, 0, none⟩), .int .i64 n] w (fun e w' => ∃ g v2, Ret (.tuple #[.slice (some ⟨g, 0, none⟩) m m, .int .i64 0])
      (fun w' => Frm [p] w w' ∧ ClockAt w' p now' v2 l' ∧ w'.heap[g]? = some (.cells (flat want).toArray 47 (0, 0)) ∧ w.heap.size ≤ g ∧ blk v2 = blk v) e w') := by
  subst hd hw hw' hm
  exact tick_ok hK hs hl ht n hn
theorem alarms_is {w : World} {p : Nat} {now : Int} {v : Value} {l : List Al} {m : Nat} (hK : ClockAt w p now v l) (hl : l.length ≤ 4096) (hm : l.length = m) :
    Calls Try.prog 19 #[.pointer (some ⟨p, 0, none⟩)] w (Ret (.slice (some ⟨w.heap.size, 0, none⟩) m m) (fun w' => Frm [] w w')) := by
  subst hm
  exact (alarms_clk hK hl).mono fun _ _ hh => ⟨hh.1, hh.2.1⟩
theorem fI_take {q nv : Int} {n : Nat} (h0 : 0 ≤ q) (hv : nv = (n : Int) + 1) :
    (q = 0 → ((nv, 5) :: fH q n).take (cutAt 99999 ((nv, 5) :: fH q n)) = [(nv, 5)] ∧ ((nv, 5) :: fH q n).drop (cutAt 99999 ((nv, 5) :: fH q n)) = fH q n) ∧
    (q ≠ 0 → ((nv, 5) :: fH q n).take (cutAt 99999 ((nv, 5) :: fH q n)) = (nv, 5) :: fH q n ∧ ((nv, 5) :: fH q n).drop (cutAt 99999 ((nv, 5) :: fH q n)) = []) := by
  subst hv
  rw [fI_cut h0]
  refine ⟨fun hq => ?_, fun hq => ?_⟩
  · rw [if_pos hq]; exact ⟨rfl, rfl⟩
  · rw [if_neg hq]
    have hl : (((n : Int) + 1, 5) :: fH q n : List Al).length = n + 1 := by simp [fH_length]
    exact ⟨List.take_of_length_le (by omega), List.drop_of_length_le (by omega)⟩
theorem flat_head (a : Al) (l : List Al) {w : World} {g : Nat} (hG : w.heap[g]? = some (.cells (flat (a :: l)).toArray 47 (0, 0))) : w.cell? ⟨g, 0, none⟩ = some (.int .i64 a.1) ∧ w.cell? ⟨g, 1, none⟩ = some (.int .i64 a.2) :=
  ⟨by rw [cell_of_heap hG, flat_cons]; rfl, by rw [cell_of_heap hG, flat_cons]; rfl⟩
theorem fG_zero (q : Int) : fG q 0 = [] := by unfold fG fM; simp

set_option maxRecDepth 100000 in
set_option maxHeartbeats 8000000 in
theorem fulls_in (m : Nat) (q : Int) (hm0 : 4094 ≤ m) (hm1 : m ≤ 4098) (hq0 : 0 ≤ q) (hq3 : q ≤ 3) (w : World) :
    Calls Try.prog 5 #[.int .i64 m, .int .i64 q] w (Ret (.bool true) (fun w' => Below w.heap.size w w')) := by
  have b1 : decide ((m : Int) < 4094) = false := by simp; omega
  have b2 : decide ((4098 : Int) < (m : Int)) = false := by simp; omega
  have b3 : decide (q < 0) = false := by simp; omega
  have b4 : decide (3 < q) = false := by simp; omega
  go_enter Try.func5, Try.ntmps5
  go_wp2_with fail
  refine (new_ok _ 0 tk0).mono ?_
  rintro e w1 ⟨p, rfl, hF1, hK1, hp⟩
  have hN1 : New w (p :: blk (.slice none 0 0)) := fun x hx => by simp [blk] at hx; omega
  go_wp2_with fail
  go_loopw [7, 8] (fun i _ w' => ∃ (k : Nat) (v : Value), k ≤ m ∧ i = .int .i64 k ∧ Frm [] w w' ∧ New w (p :: blk v) ∧ Hid (ClockAt w' p 0 v (fG q (min k 4096)))) (fun i _ _ => m - (intOf i).toNat)
  case atStart => exact ⟨0, _, by omega, rfl, hF1, hN1, Lib.hid (by rw [Nat.zero_min, fG_zero]; exact hK1)⟩
  case round =>
    obtain ⟨k, v, hk, rfl, hF, hN, HK⟩ := hrel
    clear hK1 hN1 hF1
    by_cases hlt : k < m
    · have hr := mul_rng hq0 hq3 (i := k) (by omega)
      have hr0 := hr.1
      have hr1 := hr.2
      by_cases hk4 : k < 4096
      · have hge : decide ((4096 : Int) ≤ (k : Int)) = false := by simp; omega
        have hmin : min k 4096 = k := by omega
        have hmin2 : min (k + 1) 4096 = k + 1 := by omega
        have hS := fG_step hq0 hq3 hk4
        have hK := HK.out
        rw [hmin] at hK
        have hset := set_is hK (fG_sorted hq0 k) (by rw [fG_length]; omega) _ _ hS.1 hS.2
        have HSET := Lib.hid hset
        have HM2 := Lib.hid hmin2
        clear hmin hmin2 hS hK hset hr
        go_wp2_with fail
        refine HSET.out.mono ?_
        rintro e w2 ⟨v2, rfl, hF2, hK2, hb2⟩
        obtain ⟨g1, g2⟩ := hN.go hF hF2 hb2
        have HK2 := Lib.hid hK2
        clear hK2
        go_wp2
        go_roundw
        case rel => exact ⟨k + 1, v2, by omega, by go_num, g1, g2, Lib.hid (by rw [HM2.out]; exact HK2.out)⟩
        case measure => simp [intOf]; omega
      · have hge : decide ((4096 : Int) ≤ (k : Int)) = true := by simp; omega
        have hmin : min k 4096 = 4096 := by omega
        have hmin2 : min (k + 1) 4096 = 4096 := by omega
        have hS := fG_full hq0 hq3 (k := k) (by omega) (by omega)
        have hK := HK.out
        rw [hmin] at hK
        have hset := set_is hK (fG_sorted hq0 4096) (by rw [fG_length]; omega) _ _ hS.1 hS.2
        have HSET := Lib.hid hset
        have HM2 := Lib.hid hmin2
        clear hmin hmin2 hS hK hset hr
        go_wp2_with fail
        refine HSET.out.mono ?_
        rintro e w2 ⟨v2, rfl, hF2, hK2, hb2⟩
        obtain ⟨g1, g2⟩ := hN.go hF hF2 hb2
        have HK2 := Lib.hid hK2
        clear hK2
        go_wp2
        go_roundw
        case rel => exact ⟨k + 1, v2, by omega, by go_num, g1, g2, Lib.hid (by rw [HM2.out]; exact HK2.out)⟩
        case measure => simp [intOf]; omega
    · obtain rfl : k = m := by omega
      obtain ⟨n, hn⟩ : ∃ n, min k 4096 = n + 1 := ⟨min k 4096 - 1, by omega⟩
      have hn4 : n < 4096 := by omega
      have hK := HK.out
      rw [hn] at hK
      have hcl := clear_is hK (by rw [fG_length]; omega) 0 (fG_clear q n).1 (fG_clear q n).2
      have HCL := Lib.hid hcl
      have HN := Lib.hid hn
      have hlenH := fH_length q n
      have HLH := Lib.hid hlenH
      clear hcl hK hn HK hlt hlenH
      have heq := eql_alarm
      by_cases hk4 : k ≤ 4096
      · have hki : (k : Int) ≤ 4096 := by omega
        have hkj : ¬ (4096 < (k : Int)) := by omega
        obtain ⟨nv, hnv, hnv2⟩ : ∃ nv : Int, nv = (n : Int) + 1 ∧ nv = (k : Int) := ⟨_, rfl, by have := HN.out; omega⟩
        have HV := Lib.hid hnv
        have hset : ∀ (w : World) (v : Value), ClockAt w p 0 v (fH q n) → Calls Try.prog 15 #[.pointer (some ⟨p, 0, none⟩), .int .i64 nv, .int .i64 5] w (Left w p 0 v ((nv, 5) :: fH q n) (.int .i64 0)) := fun w v hK => by
          have e := fH_set hq0 hq3 hn4
          rw [← HV.out] at e
          exact set_is hK (fH_sorted hq0 n) (by rw [HLH.out]; omega) nv 5 e.1 e.2
        have hsI : Sorted ((nv, 5) :: fH q n) := by rw [HV.out]; exact fI_sorted hq0 hq3 hn4
        have hlI : ((nv, 5) :: fH q n).length = n + 1 := by rw [List.length_cons, HLH.out]
        have htI := fI_take (q := q) hq0 HV.out
        have HSET := Lib.hid hset
        have HSI := Lib.hid hsI
        have HLI := Lib.hid hlI
        have HTI := Lib.hid htI
        rw [hnv2] at HSET HSI HLI HTI HV
        clear hset hsI hlI htI hnv hnv2 nv
        go_wp2_with fail
        refine HCL.out.mono ?_
        rintro e w2 ⟨v2, rfl, hF2, hK2, hb2⟩
        obtain ⟨g1, g2⟩ := hN.go hF hF2 hb2
        go_wp2_with fail
        refine (HSET.out _ _ hK2).mono ?_
        rintro e w3 ⟨v3, rfl, hF3, hK3, hb3⟩
        obtain ⟨g3, g4⟩ := g2.go g1 hF3 hb3
        go_wp2_with fail
        refine (next_is hK3 (t := 5) rfl).mono ?_
        rintro e w3 ⟨rfl, rfl⟩
        clear hF2 hb2 hK2 g1 g2 hF3 hb3
        by_cases hq : q = 0
        · have hTD := HTI.out.1 hq
          have hqd : decide (0 < q) = false := by simp; omega
          have hcmp : ((n : Int) == (k : Int) - 1) = true := by have := HN.out; exact beq_iff_eq.2 (by omega)
          have heq2 : ∀ w, (binOp .eql 47 (.agg #[.int .i64 (k : Int), .int .i64 5]) (.agg #[.int .i64 (k : Int), .int .i64 5])).run Try.prog w = .ok (.bool true) w := fun w => (eql_alarm ((k : Int), 5) ((k : Int), 5) w).trans (by simp [alEq])
          have HTD := Lib.hid hTD
          have HQ := Lib.hid hq
          clear hTD hq heq
          go_wp2_with fail
          refine (tick_is (m := 1) hK3 HSI.out (by rw [HLI.out]; omega) tk0 (by decide) dl_99999 HTD.out.1 HTD.out.2 rfl).mono ?_
          rintro e w4 ⟨g, v4, rfl, hF4, hK4, hG4, hg4, hb4⟩
          obtain ⟨x0, x1⟩ := flat_head _ _ hG4
          obtain ⟨g5, g6⟩ := g4.go (D' := blk v4) g3 (hF4.weak (by intro x hx; rw [List.mem_singleton.1 hx]; simp)) (fun x hx => .inl (hb4 ▸ hx))
          clear hG4
          go_wp2_with fail
          refine (alarms_is (m := n) hK4 (by rw [HLH.out]; omega) (HLH.out.trans (by have := HN.out; omega))).mono ?_
          rintro e w5 ⟨rfl, hF5⟩
          go_wp2_with fail
          refine (known_true _).mono ?_
          rintro e w6 ⟨rfl, hF6⟩
          go_wp2
          go_ret
          exact ⟨rfl, ((g5.trans hF5).trans hF6).below (Nat.le_refl _) (by simp)⟩
        · have hTD := HTI.out.2 hq
          have hqd : decide (0 < q) = true := by simp; omega
          have heq2 : ∀ w, (binOp .eql 47 (.agg #[.int .i64 (k : Int), .int .i64 5]) (.agg #[.int .i64 (k : Int), .int .i64 5])).run Try.prog w = .ok (.bool true) w := fun w => (eql_alarm ((k : Int), 5) ((k : Int), 5) w).trans (by simp [alEq])
          have HTD := Lib.hid hTD
          have hkb : (0 : Int) < (k : Int) := by omega
          clear hTD hq heq
          go_wp2_with fail
          refine (tick_is (m := k) hK3 HSI.out (by rw [HLI.out]; omega) tk0 (by decide) dl_99999 HTD.out.1 HTD.out.2 (by rw [HLI.out]; have := HN.out; omega)).mono ?_
          rintro e w4 ⟨g, v4, rfl, hF4, hK4, hG4, hg4, hb4⟩
          obtain ⟨x0, x1⟩ := flat_head _ _ hG4
          obtain ⟨g5, g6⟩ := g4.go (D' := blk v4) g3 (hF4.weak (by intro x hx; rw [List.mem_singleton.1 hx]; simp)) (fun x hx => .inl (hb4 ▸ hx))
          clear hG4
          go_wp2_with fail
          refine (alarms_is (m := 0) hK4 (by simp) rfl).mono ?_
          rintro e w5 ⟨rfl, hF5⟩
          go_wp2_with fail
          refine (known_true _).mono ?_
          rintro e w6 ⟨rfl, hF6⟩
          go_wp2
          go_ret
          exact ⟨rfl, ((g5.trans hF5).trans hF6).below (Nat.le_refl _) (by simp)⟩
      · have hki : (4096 : Int) < (k : Int) := by omega
        obtain ⟨nv, hnv, hnv2⟩ : ∃ nv : Int, nv = (n : Int) + 1 ∧ nv = (4096 : Int) := ⟨_, rfl, by have := HN.out; omega⟩
        have HV := Lib.hid hnv
        have hset : ∀ (w : World) (v : Value), ClockAt w p 0 v (fH q n) → Calls Try.prog 15 #[.pointer (some ⟨p, 0, none⟩), .int .i64 nv, .int .i64 5] w (Left w p 0 v ((nv, 5) :: fH q n) (.int .i64 0)) := fun w v hK => by
          have e := fH_set hq0 hq3 hn4
          rw [← HV.out] at e
          exact set_is hK (fH_sorted hq0 n) (by rw [HLH.out]; omega) nv 5 e.1 e.2
        have hsI : Sorted ((nv, 5) :: fH q n) := by rw [HV.out]; exact fI_sorted hq0 hq3 hn4
        have hlI : ((nv, 5) :: fH q n).length = n + 1 := by rw [List.length_cons, HLH.out]
        have htI := fI_take (q := q) hq0 HV.out
        have HSET := Lib.hid hset
        have HSI := Lib.hid hsI
        have HLI := Lib.hid hlI
        have HTI := Lib.hid htI
        rw [hnv2] at HSET HSI HLI HTI HV
        clear hset hsI hlI htI hnv hnv2 nv
        go_wp2_with fail
        refine HCL.out.mono ?_
        rintro e w2 ⟨v2, rfl, hF2, hK2, hb2⟩
        obtain ⟨g1, g2⟩ := hN.go hF hF2 hb2
        go_wp2_with fail
        refine (HSET.out _ _ hK2).mono ?_
        rintro e w3 ⟨v3, rfl, hF3, hK3, hb3⟩
        obtain ⟨g3, g4⟩ := g2.go g1 hF3 hb3
        go_wp2_with fail
        refine (next_is hK3 (t := 5) rfl).mono ?_
        rintro e w3 ⟨rfl, rfl⟩
        clear hF2 hb2 hK2 g1 g2 hF3 hb3
        by_cases hq : q = 0
        · have hTD := HTI.out.1 hq
          have hqd : decide (0 < q) = false := by simp; omega
          have heq2 : ∀ w, (binOp .eql 47 (.agg #[.int .i64 4096, .int .i64 5]) (.agg #[.int .i64 4096, .int .i64 5])).run Try.prog w = .ok (.bool true) w := fun w => (eql_alarm (4096, 5) (4096, 5) w).trans (by simp [alEq])
          have HTD := Lib.hid hTD
          have HQ := Lib.hid hq
          clear hTD hq heq
          go_wp2_with fail
          refine (tick_is (m := 1) hK3 HSI.out (by rw [HLI.out]; omega) tk0 (by decide) dl_99999 HTD.out.1 HTD.out.2 rfl).mono ?_
          rintro e w4 ⟨g, v4, rfl, hF4, hK4, hG4, hg4, hb4⟩
          obtain ⟨x0, x1⟩ := flat_head _ _ hG4
          obtain ⟨g5, g6⟩ := g4.go (D' := blk v4) g3 (hF4.weak (by intro x hx; rw [List.mem_singleton.1 hx]; simp)) (fun x hx => .inl (hb4 ▸ hx))
          clear hG4
          go_wp2_with fail
          refine (alarms_is (m := 4095) hK4 (by rw [HLH.out]; omega) (HLH.out.trans (by have := HN.out; omega))).mono ?_
          rintro e w5 ⟨rfl, hF5⟩
          go_wp2_with fail
          refine (known_true _).mono ?_
          rintro e w6 ⟨rfl, hF6⟩
          go_wp2
          go_ret
          exact ⟨rfl, ((g5.trans hF5).trans hF6).below (Nat.le_refl _) (by simp)⟩
        · have hTD := HTI.out.2 hq
          have hqd : decide (0 < q) = true := by simp; omega
          have heq2 : ∀ w, (binOp .eql 47 (.agg #[.int .i64 4096, .int .i64 5]) (.agg #[.int .i64 4096, .int .i64 5])).run Try.prog w = .ok (.bool true) w := fun w => (eql_alarm (4096, 5) (4096, 5) w).trans (by simp [alEq])
          have HTD := Lib.hid hTD
          have hkb : (0 : Int) < (k : Int) := by omega
          clear hTD hq heq
          go_wp2_with fail
          refine (tick_is (m := 4096) hK3 HSI.out (by rw [HLI.out]; omega) tk0 (by decide) dl_99999 HTD.out.1 HTD.out.2 (by rw [HLI.out]; have := HN.out; omega)).mono ?_
          rintro e w4 ⟨g, v4, rfl, hF4, hK4, hG4, hg4, hb4⟩
          obtain ⟨x0, x1⟩ := flat_head _ _ hG4
          obtain ⟨g5, g6⟩ := g4.go (D' := blk v4) g3 (hF4.weak (by intro x hx; rw [List.mem_singleton.1 hx]; simp)) (fun x hx => .inl (hb4 ▸ hx))
          clear hG4
          go_wp2_with fail
          refine (alarms_is (m := 0) hK4 (by simp) rfl).mono ?_
          rintro e w5 ⟨rfl, hF5⟩
          go_wp2_with fail
          refine (known_true _).mono ?_
          rintro e w6 ⟨rfl, hF6⟩
          go_wp2
          go_ret
          exact ⟨rfl, ((g5.trans hF5).trans hF6).below (Nat.le_refl _) (by simp)⟩
theorem walk_ClockFulls (many : Int) (_w0 : (Lit.int .i64 many).wf = true) (less : Int) (_w1 : (Lit.int .i64 less).wf = true) (w : World) :
    Calls Try.prog 5 #[.int .i64 many, .int .i64 less] w (Ret (.bool true) (fun w' => Below w.heap.size w w')) := by
  by_cases hm : many < 4094 ∨ 4098 < many ∨ less < 0 ∨ 3 < less
  · exact fulls_out many less hm w
  · obtain ⟨m, rfl⟩ := Int.eq_ofNat_of_zero_le (show 0 ≤ many by omega)
    exact fulls_in m less (by omega) (by omega) (by omega) (by omega) w
end Go.Proofs.Ytamnhpcbflpabaa
