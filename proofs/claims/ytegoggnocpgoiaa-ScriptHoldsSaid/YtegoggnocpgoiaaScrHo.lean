/- Layer 4: the walk of ScriptHolds. -/
import Derived.Test.YtegoggnocpgoiaaScrHm
namespace Go.Proofs.Ytegoggnocpgoiaa
open Go.ChangeShapes Go.WideShapes Go.ChangeAt Go.RowKit

/-- The first k of a slice. -/
theorem cut_to_u8 {a : Option Addr} {n c k : Nat} (hk : k ≤ c) (W : World) : (Instr.sliceAt 22 (.slice a n c) none (some (.int .i64 (k : Int))) none).run Try.prog W = .ok (.slice a k c) W := by
  have h1 : (k : Int) ≤ (c : Int) := by omega
  cases a <;> simp [go_sem, h1, Addr.add]
theorem cut_to_op {a : Option Addr} {n c k : Nat} (hk : k ≤ c) (W : World) : (Instr.sliceAt 31 (.slice a n c) none (some (.int .i64 (k : Int))) none).run Try.prog W = .ok (.slice a k c) W := by
  have h1 : (k : Int) ≤ (c : Int) := by omega
  cases a <;> simp [go_sem, h1, Addr.add]
theorem Li.take {k : IntKind} {w : World} {a : Option Addr} {n c b o : Nat} {l : List Int} (h : Li k w a n c b o l) {i : Nat} (hi : i ≤ n) : Li k w a i c b o (l.take i) := by
  have hc := h.cap
  refine ⟨by rw [List.length_take, h.len]; omega, fun hp => h.ad (by omega), fun j x hx => ?_, by omega⟩
  rw [List.getElem?_take] at hx
  split at hx
  · exact h.cell _ _ hx
  · cases hx

theorem Write_ok {w : World} {a : Option Addr} {n c b o : Nat} {l : List Opr} (hL : Lo w a n c b o l) (hO : ∀ x ∈ l, OpOk x) (hn : n ≤ 5000) {bs : List Int} (hb : wrA l = some bs) (hlen : bs.length ≤ 4096) :
    Calls Try.prog 23 #[.slice a n c] w (fun e w' => ∃ a' c', Ret (.tuple #[.slice a' bs.length c', .int .i64 0]) (fun w' => Frm [] w w' ∧ RowU w.heap.size w' a' bs.length c' bs) e w') := by
  refine (Write_any hL hO hn).mono ?_
  rintro e w1 ⟨hF, hp⟩
  rcases hp with ⟨h1, _⟩ | ⟨b1, h1, h2, _⟩ | ⟨b1, a', c', h1, h2, h3, h4⟩
  · rw [hb] at h1; cases h1
  · rw [hb] at h1; cases h1; omega
  · rw [hb] at h1; cases h1
    subst h3
    exact ⟨a', c', rfl, hF, h4⟩
set_option maxRecDepth 100000 in
set_option maxHeartbeats 12800000 in
theorem holds_walk {w : World} {a : Option Addr} {n c b o : Nat} {l : List Int} (hL : Li .u8 w a n c b o l) (hB : Byt l) (t cut x y : Int) (hn : n ≤ 100) (t0 : 1 ≤ t) (t1 : t ≤ 32) (c0 : 0 ≤ cut) (x0 : 0 ≤ x) (x1 : x ≤ 255) (y0 : 0 ≤ y) (y1 : y ≤ 255) :
    Calls Try.prog 7 #[.slice a n c, .int .i64 t, .int .i64 cut, .int .u8 x, .int .u8 y] w (Ret (.bool true) (fun w' => Frm [] w w')) := by
  have q1 : decide ((100 : Int) < (n : Int)) = false := by simp; omega
  have q2 : decide (t < 1) = false := by simp; omega
  have q3 : decide (32 < t) = false := by simp; omega
  have q4 : decide (cut < 0) = false := by simp; omega
  have hks : (keyB x).size = 2 + x.toNat % 23 := keyB_size x
  have hvs : (valB x).size = x.toNat % 41 := valB_size x
  obtain ⟨β, hb1, hb2⟩ : ∃ β, ((keyB x).toList == (keyB y).toList) = β ∧ (x == y) = β := by
    by_cases e : x = y
    · subst e; exact ⟨true, by simp, by simp⟩
    · have h1 : ¬ keyB x = keyB y := fun h => e (keyB_inj ⟨x0, x1⟩ ⟨y0, y1⟩ h)
      exact ⟨false, by rw [str_eq]; simp [h1], by simpa using e⟩
  have hm : mb t = true := mb_iff.2 ⟨t0, by omega⟩
  have hk1 : ∀ w, Calls Try.prog 17 #[.int .u8 x] w (Ret (.string (keyB x)) (fun w' => Frm [] w w')) := fun w => key_any x x0 x1 w
  have hk2 : ∀ w, Calls Try.prog 17 #[.int .u8 y] w (Ret (.string (keyB y)) (fun w' => Frm [] w w')) := fun w => key_any y y0 y1 w
  have hk3 : ∀ w, Calls Try.prog 19 #[.int .u8 x] w (Ret (.string (valB x)) (fun w' => Frm [] w w')) := fun w => value_any x x0 x1 w
  have hpc := fun {w' : World} (hF : Frm [] w w') => parse_ok (hL.frm0 hF) hB (by omega) t hm
  obtain ⟨P, hP⟩ : ∃ P, prs l t = P := ⟨_, rfl⟩
  obtain ⟨N, hN⟩ : ∃ N, P.length = N := ⟨_, rfl⟩
  have hNn : N ≤ n := by rw [← hN, ← hP]; have := prs_le l t; have := hL.len; omega
  rw [hP, hN] at hpc
  have hpc' : ∀ w', Frm [] w w' → Calls Try.prog 21 #[.slice a n c, .int .i64 t] w' (fun e w'' => ∃ a' c', Ret (.tuple #[.slice a' N c', .int .i64 0]) (fun w'' => Frm [] w' w'' ∧ RowP w'.heap.size w'' a' N c' P) e w'') := fun w' hF => hpc hF
  have r1' : decide (((keyB x).size : Int) < 1) = false := by simp; omega
  have r2 : decide ((24 : Int) < ((keyB x).size : Int)) = false := by simp; omega
  have r3 : decide ((40 : Int) < ((valB x).size : Int)) = false := by simp; omega
  generalize keyB x = KX at *
  generalize keyB y = KY at *
  generalize valB x = VX at *
  have HK1 := Lib.hid hk1
  have HK2 := Lib.hid hk2
  have HK3 := Lib.hid hk3
  have HPC := Lib.hid hpc'
  have HL := Lib.hid hL
  have HB := Lib.hid hB
  have HM := Lib.hid hm
  have HP := Lib.hid hP
  have HN := Lib.hid hN
  have HT0 := Lib.hid t0
  have HT1 := Lib.hid t1
  have HC0 := Lib.hid c0
  clear hk1 hk2 hk3 hpc hpc' hL hB hm hP hN hks hvs t0 t1 c0 x0 x1 y0 y1
  go_enter Try.func7, Try.ntmps7
  go_wp2_with fail
  refine (HK1.out _).mono ?_
  rintro e w1 ⟨rfl, g1⟩
  go_wp2_with fail
  refine (HK3.out _).mono ?_
  rintro e w2 ⟨rfl, hF⟩
  replace g1 := g1.trans hF
  clear hF
  go_wp2_with fail
  refine (HK1.out _).mono ?_
  rintro e w3 ⟨rfl, hF⟩
  replace g1 := g1.trans hF
  clear hF
  go_wp2_with fail
  refine (HK2.out _).mono ?_
  rintro e w4 ⟨rfl, hF⟩
  replace g1 := g1.trans hF
  clear hF
  go_wp2_with fail
  refine (HPC.out _ g1).mono ?_
  rintro e w5 ⟨a', c', rfl, hF, hR⟩
  replace g1 := g1.trans hF
  obtain ⟨b', hlo⟩ := hR.lo
  have HLO := Lib.hid hlo
  have hcap := hlo.cap
  clear hF hR hlo
  go_wp2_with fail
  go_loopw [14, 73] (fun p i w' => ∃ k : Nat, k ≤ N ∧ i = .int .i64 k ∧ p = .int .i64 (pos k l : Nat) ∧ Frm [] w w' ∧ Frm [] w5 w') (fun _ i _ => N - (intOf i).toNat)
  case atStart => exact ⟨0, by omega, rfl, rfl, g1, Frm.refl _ _⟩
  case round =>
    obtain ⟨k, hk, rfl, rfl, hF, hF5⟩ := hrel
    by_cases hlt : k < N
    · have hb0 : (0 : Int) ≤ (k : Int) := by omega
      have hb1 : (k : Int) < (N : Int) := by omega
      obtain ⟨ox, hx, hat⟩ := (HLO.out.frm0 hF5).get hlt
      have hix := ix_op (c := c') HLO.out.ad hlt
      have hxp : (prs l t)[k]? = some ox := by rw [HP.out]; exact hx
      obtain ⟨hne, hox⟩ := pos_some hxp
      have hps := pos_succ k l hne
      have hpt := pos_take t (k + 1) l
      have hle := pos_le (k + 1) l
      have hln := HL.out.len
      have hpn : pos k l < n := by
        rcases Nat.lt_or_ge (pos k l) l.length with h | h
        · omega
        · exact absurd (List.drop_eq_nil_of_le h) hne
      have hdl := HB.out.drop (pos k l)
      have hge := nxN_ge (l.drop (pos k l))
      have hval : ∀ W, Calls Try.prog 15 #[.agg #[.int .i64 ox.k, .int .i64 ox.t, .int .i64 ox.n, .int .i64 ox.v, .string ox.key, .string ox.val, .string ox.old, .int .i64 ox.tk]] W (Ret (.bool true) (fun w' => Frm [] W w')) := by
        intro W
        have h1 := HT0.out
        have h2 := HT1.out
        exact valid_is W ox (by rw [hox]; exact nx_ok _ _) true (by rw [hox, wr_nx hdl h1 (by omega)]; rfl)
      have hth := nx_t hdl HT0.out
      rw [← hox] at hth
      obtain ⟨a2, hcut, hL2⟩ := cut_from HL.out (pos k l) (by omega)
      have hnext : ∀ W, Frm [] w W → Calls Try.prog 22 #[.slice a2 (n - pos k l) (c - pos k l), .int .i64 t] W (Ret (.tuple #[.agg #[.int .i64 ox.k, .int .i64 ox.t, .int .i64 ox.n, .int .i64 ox.v, .string ox.key, .string ox.val, .string ox.old, .int .i64 ox.tk], .int .i64 ((min (nxN (l.drop (pos k l))) (n - pos k l) : Nat) : Int), .int .i64 0]) (fun w' => Frm [] W w')) := by
        intro W hW
        have := next_ok (hL2.frm0 hW) hdl (by omega) (by omega) t HM.out
        rw [← hox] at this
        exact this
      rw [hln] at hps hle
      have hzz : 1 ≤ min (nxN (l.drop (pos k l))) (n - pos k l) ∧ min (nxN (l.drop (pos k l))) (n - pos k l) ≤ n - pos k l := by omega
      rw [HP.out] at hpt
      generalize min (nxN (l.drop (pos k l))) (n - pos k l) = z at *
      have HPS := Lib.hid hps
      have HPT := Lib.hid hpt
      generalize pos k l = p at *
      have HVAL := Lib.hid hval
      have HNEXT := Lib.hid hnext
      have hnn := neq_op ox ox
      rw [opEq_refl] at hnn
      have e0 : decide (ox.t < 0) = false := by simp; omega
      have e1 : decide (t ≤ ox.t) = false := by simp; omega
      have e2 : decide (n ≤ p) = false := by simp; omega
      have e2' : decide ((n : Int) ≤ (p : Int)) = false := by simp; omega
      have e3 : decide ((z : Int) < 1) = false := by simp; omega
      have e4 : decide ((n : Int) - (p : Int) < (z : Int)) = false := by simp; omega
      obtain ⟨s0, s1, s2, s3, s4, s5, s6, s7⟩ := hat
      simp only [Nat.zero_add] at s0 s1 s2 s3 s4 s5 s6 s7 hix
      have hpz : p + z ≤ n := by omega
      clear hx hxp hne hox hps hpt hle hln hdl hge hval hL2 hnext hth
      go_wp2_with fail
      refine (HVAL.out _).mono ?_
      rintro e w6 ⟨rfl, hF6⟩
      have e16 := hF6.heap (heap_alloc_new wr (.cells #[.int .i64 ox.k, .int .i64 ox.t, .int .i64 ox.n, .int .i64 ox.v, .string ox.key, .string ox.val, .string ox.old, .int .i64 ox.tk] 30)) (by simp)
      have hG6 := (hF.alloc (.cells #[.int .i64 ox.k, .int .i64 ox.t, .int .i64 ox.n, .int .i64 ox.v, .string ox.key, .string ox.val, .string ox.old, .int .i64 ox.tk] 30)).trans hF6
      have hG56 := (hF5.alloc (.cells #[.int .i64 ox.k, .int .i64 ox.t, .int .i64 ox.n, .int .i64 ox.v, .string ox.key, .string ox.val, .string ox.old, .int .i64 ox.tk] 30)).trans hF6
      obtain ⟨u0, u1, u2, u3, u4, u5, u6, u7⟩ := OpAt.block e16
      simp only [Nat.zero_add] at u0 u1 u2 u3 u4 u5 u6 u7
      have E16 := Lib.hid e16
      clear e16 hF6 s0 s1 s2 s3 s4 s5 s6 s7
      go_wp2_with fail
      refine (HNEXT.out _ hG6).mono ?_
      rintro e w7 ⟨rfl, hF7⟩
      have e17 := hF7.heap E16.out (by simp)
      have hl17 := lt_of_heap e17
      have hG7 := (hG6.trans hF7).alloc (.cells #[.int .i64 ox.k, .int .i64 ox.t, .int .i64 ox.n, .int .i64 ox.v, .string ox.key, .string ox.val, .string ox.old, .int .i64 ox.tk] 30)
      have hG57 := (hG56.trans hF7).alloc (.cells #[.int .i64 ox.k, .int .i64 ox.t, .int .i64 ox.n, .int .i64 ox.v, .string ox.key, .string ox.val, .string ox.old, .int .i64 ox.tk] 30)
      clear u0 u1 u2 u3 u4 u5 u6 u7 hF7 E16 hG6 hG56
      obtain ⟨u0, u1, u2, u3, u4, u5, u6, u7⟩ := OpAt.block e17
      simp only [Nat.zero_add] at u0 u1 u2 u3 u4 u5 u6 u7
      clear e17
      go_wp2_with fail
      generalize w7.alloc (.cells #[.int .i64 ox.k, .int .i64 ox.t, .int .i64 ox.n, .int .i64 ox.v, .string ox.key, .string ox.val, .string ox.old, .int .i64 ox.tk] 30) = X at hG7 hG57 ⊢
      clear u0 u1 u2 u3 u4 u5 u6 u7 hl17
      have hw1 : IntKind.i64.wrap ((k : Int) + 1) = (k : Int) + 1 := by rw [IntWalk.i64_in _ (by omega)]
      by_cases hc : (k : Int) + 1 = cut
      · have d7 : ((k : Int) + 1 == cut) = true := by simpa using hc
        have hcu : ∀ W : World, (Instr.sliceAt 22 (.slice a n c) none (some (.int .i64 ((p : Int) + (z : Int)))) none).run Try.prog W = .ok (.slice a (p + z) c) W := by
          intro W
          have hcap0 := HL.out.cap
          have := cut_to_u8 (a := a) (n := n) (c := c) (k := p + z) (by omega) W
          rw [Int.natCast_add] at this
          exact this
        have hco : ∀ W : World, (Instr.sliceAt 31 (.slice a' N c') none (some (.int .i64 cut)) none).run Try.prog W = .ok (.slice a' (k + 1) c') W := by
          intro W
          have := cut_to_op (a := a') (n := N) (c := c') (k := k + 1) (by omega) W
          rw [show (((k + 1 : Nat)) : Int) = cut by omega] at this
          exact this
        have hpar : ∀ W, Frm [] X W → Calls Try.prog 9 #[.slice a (p + z) c, .int .i64 t, .int .i64 0, .slice a' (k + 1) c'] W (Ret (.bool true) (fun w' => Frm [] W w')) := by
          intro W hW
          have h1 := (HL.out.frm0 (hG7.trans hW)).take (i := p + z) hpz
          have h2 := (HLO.out.frm0 (hG57.trans hW)).take (i := k + 1) (by omega)
          refine parses_is h1 (HB.out.take _) (by omega) t HM.out ?_ h2
          have := HPT.out
          rw [HPS.out] at this
          exact this
        have HPAR := Lib.hid hpar
        clear hpar hc
        go_region_held3 (fun w' => Frm [] X w')
          ((repeat' (first | assumption | exact Frm.refl _ _ | apply Frm.drew | apply Frm.alloc | (refine Frm.trans ?_ hF1))))
          ((go_at_call 9; refine (HPAR.out _ (by assumption)).mono ?_; rintro e w8 ⟨rfl, hF1⟩))
        go_wp2
        go_roundw
        case rel =>
          have hX8 : Frm [] X w8 := ((Frm.refl _ _).drew).trans hF1
          exact ⟨k + 1, by omega, by go_num, by rw [HPS.out]; go_num, hG7.trans hX8, hG57.trans hX8⟩
        case measure => simp [intOf]; omega
      · have d7 : ((k : Int) + 1 == cut) = false := by simpa using hc
        clear hc
        go_quiet (fail)
        go_wp2
        go_roundw
        case rel => exact ⟨k + 1, by omega, by go_num, by rw [HPS.out]; go_num, hG7.drewN _, hG57.drewN _⟩
        case measure => simp [intOf]; omega
    · obtain rfl : k = N := by omega
      have hpe : pos k l = n := by rw [← HL.out.len]; exact pos_end (t := t) (by rw [HP.out]; have := HN.out; omega)
      rw [hpe]
      have hall : ∀ q ∈ P, ∃ M, Byt M ∧ q = nx M t := by rw [← HP.out]; exact prs_all _ l (Nat.le_refl _) HB.out
      obtain ⟨W, hw1, hw2, hw3⟩ := wrA_read HT0.out (by have := HT1.out; omega) P hall
      have hok : ∀ q ∈ P, OpOk q := fun q hq => by obtain ⟨M, _, rfl⟩ := hall q hq; exact nx_ok _ _
      have hWl := wrA_le hw1
      rw [HN.out] at hWl
      have hwr := Write_ok (HLO.out.frm0 hF5) hok (by omega) hw1 (by omega)
      obtain ⟨wl, hwl⟩ : ∃ wl, W.length = wl := ⟨_, rfl⟩
      rw [hwl] at hwr hWl
      have d8 : ((n : Int) == (n : Int)) = true := by simp
      have HWR := Lib.hid hwr
      have HW2 := Lib.hid hw2
      have HW3 := Lib.hid hw3
      clear hpe hall hok hwr hw1 hw2 hw3 hwl
      go_wp2_with fail
      refine HWR.out.mono ?_
      rintro e w6 ⟨a6, c6, rfl, hF6, hR6⟩
      obtain ⟨b6, hL6⟩ := hR6.li
      have hpp := parses_is hL6 HW3.out (by omega) t HM.out HW2.out (HLO.out.frm0 (hF5.trans hF6))
      have HPP := Lib.hid hpp
      clear hR6 hL6 hpp
      go_wp2_with fail
      refine HPP.out.mono ?_
      rintro e w7 ⟨rfl, hF7⟩
      go_wp2_with fail
      refine (known_true _).mono ?_
      rintro e w8 ⟨rfl, hF8⟩
      go_wp2
      go_ret
      exact ⟨rfl, ((hF.trans hF6).trans hF7).trans hF8⟩

set_option maxRecDepth 100000 in
set_option maxHeartbeats 1000000 in
theorem walk_ScriptHolds (a : Option Addr) (n c : Nat) (zs : List Int) (t : Int) (_wt : (Lit.int .i64 t).wf = true) (cut : Int) (_wc : (Lit.int .i64 cut).wf = true) (x : Int) (wx : (Lit.int .u8 x).wf = true) (y : Int) (wy : (Lit.int .u8 y).wf = true) (w : World) (h : IsRow .u8 w a n c zs) :
    Calls Try.prog 7 #[.slice a n c, .int .i64 t, .int .i64 cut, .int .u8 x, .int .u8 y] w (Ret (.bool true) (fun w' => Below w.heap.size w w')) := by
  obtain ⟨x0, x1⟩ := u8_bd wx
  obtain ⟨y0, y1⟩ := u8_bd wy
  obtain ⟨b, o, hL, hw, _⟩ := li_of_row h
  by_cases hin : n ≤ 100 ∧ 1 ≤ t ∧ t ≤ 32 ∧ 0 ≤ cut
  · exact (holds_walk hL (row_byt hw) t cut x y hin.1 hin.2.1 hin.2.2.1 hin.2.2.2 x0 x1 y0 y1).mono fun _ _ hh => ⟨hh.1, bel hh.2⟩
  · have hws : (decide ((100 : Int) < (n : Int)) = true) ∨ (decide ((100 : Int) < (n : Int)) = false ∧ decide (t < 1) = true) ∨ (decide ((100 : Int) < (n : Int)) = false ∧ decide (t < 1) = false ∧ decide (32 < t) = true) ∨ (decide ((100 : Int) < (n : Int)) = false ∧ decide (t < 1) = false ∧ decide (32 < t) = false ∧ decide (cut < 0) = true) := by
      by_cases g1 : (100 : Int) < (n : Int)
      · exact .inl (decide_eq_true g1)
      · by_cases g2 : t < 1
        · exact .inr (.inl ⟨decide_eq_false g1, decide_eq_true g2⟩)
        · by_cases g3 : 32 < t
          · exact .inr (.inr (.inl ⟨decide_eq_false g1, decide_eq_false g2, decide_eq_true g3⟩))
          · exact .inr (.inr (.inr ⟨decide_eq_false g1, decide_eq_false g2, decide_eq_false g3, decide_eq_true (by omega)⟩))
    clear hin wx wy x0 x1 y0 y1 hL hw h
    rcases hws with b0 | ⟨b0, b1⟩ | ⟨b0, b1, b2⟩ | ⟨b0, b1, b2, b3⟩
    all_goals
      go_enter Try.func7, Try.ntmps7
      go_wp2_with fail
      refine (known_true _).mono ?_
      rintro e w6 ⟨rfl, hF6⟩
      go_wp2
      go_ret
      exact ⟨rfl, bel hF6⟩
end Go.Proofs.Ytegoggnocpgoiaa
