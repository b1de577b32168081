/- Layer 2: the walk of ClockHolds. -/
import Derived.Test.YtamnhpcbflpabaaClkX
import Derived.Test.YtamnhpcbflpabaaArgs
namespace Go.Proofs.Ytamnhpcbflpabaa
open Go.ChangeShapes Go.WideShapes Go.ChangeAt Go.RowKit

theorem ix_int {a : Option Addr} {n c b o k : Nat} (ha : a = some ⟨b, o, none⟩) (hk : k < n) (w : World) : (Instr.indexAt 56 (.slice a n c) (.int .i64 (k : Int))).run Try.prog w = .ok (.pointer (some ⟨b, o + k, none⟩)) w := by
  subst ha
  have h1 : (k : Int) < (n : Int) := by omega
  simp [go_sem, h1]

theorem now_q {w : World} {p : Nat} {now : Int} {v : Value} {l : List Al} (hK : ClockAt w p now v l) (n : Nat) :
    Calls Try.prog 22 #[.pointer (some ⟨p, 0, none⟩)] (w.drewN n) fun e w'' => e = .returned (.int .i64 now) ∧ ∃ m, w'' = w.drewN m :=
  Calls.quiet_of_same ((now_clk (hK.drewN n)).mono fun _ _ hh => ⟨hh.1, hh.2.symm⟩)
theorem row_frm {D : List Nat} {w w' : World} {B : Nat} {v : Value} {n : Nat} {xs : List Value} {t : TypeId} (hO : w.ownsRow B t 2 v n xs) (hf : Frm D w w') (hd : ∀ x ∈ blk v, x ∉ D) : w'.ownsRow B t 2 v n xs := by
  obtain ⟨h0, hh⟩ := hO
  refine ⟨h0, ?_⟩
  rcases hh with hh | ⟨g, cap, cur, rfl, hg, hc, r⟩
  · exact .inl hh
  · exact .inr ⟨g, cap, cur, rfl, hg, hf.heap hc (hd g (by simp [blk])), r⟩
theorem row_blk {w : World} {B : Nat} {v : Value} {n : Nat} {xs : List Value} {t : TypeId} (hO : w.ownsRow B t 2 v n xs) : ∀ x ∈ blk v, B ≤ x ∧ x < w.heap.size := by
  obtain ⟨h0, hh⟩ := hO
  intro x hx
  rcases hh with ⟨rfl, _⟩ | ⟨g, cap, cur, rfl, hg, hc, r⟩
  · cases hx
  · simp [blk] at hx; subst hx; exact ⟨hg, lt_of_heap hc⟩
theorem row_own {v : Value} {k : Nat} (hk : v.ownBlock = some k) : k ∈ blk v := by
  cases v <;> simp [Value.ownBlock] at hk
  rename_i a n c
  cases a with
  | none => simp at hk
  | some a => simp at hk; subst hk; simp [blk]
theorem row_als {w : World} {B : Nat} {v : Value} {l : List Al} {t : TypeId} (hO : w.ownsRow B t 2 v l.length (flat l)) : Als w v l := by
  obtain ⟨h0, hh⟩ := hO
  rcases hh with ⟨hv, hn⟩ | ⟨g, cap, cur, hv, hg, hc, hn, hm, hs, ht⟩
  · exact .inl ⟨hv, List.eq_nil_of_length_eq_zero hn⟩
  · refine .inr ⟨g, 0, cap, hv, hn, by unfold maxLen at hm; omega, lt_of_heap hc, fun j u hj => ?_⟩
    have hlt := some_lt hj
    rw [cell_of_heap hc, Nat.zero_add, ← Array.getElem?_toList]
    rw [← ht, List.getElem?_take, if_pos (by omega)] at hj
    exact hj

set_option maxRecDepth 100000 in
set_option maxHeartbeats 16000000 in
theorem holds_core (now : Int) (ht : tk now = true) (a1 : Option Addr) (n1 c1 b1 o1 : Nat) (xs : List Int) (a2 : Option Addr) (n2 c2 b2 o2 : Nat) (ys : List Int) (w : World)
    (hx : xs.length = n1) (hy : ys.length = n2) (ha1 : 0 < n1 → a1 = some ⟨b1, o1, none⟩ ∧ b1 < w.heap.size) (ha2 : 0 < n2 → a2 = some ⟨b2, o2, none⟩ ∧ b2 < w.heap.size)
    (hr1 : ∀ (i : Nat) (x : Int), xs[i]? = some x → w.cell? ⟨b1, o1 + i, none⟩ = some (.int .i64 x)) (hr2 : ∀ (i : Nat) (x : Int), ys[i]? = some x → w.cell? ⟨b2, o2 + i, none⟩ = some (.int .i64 x))
    (hn1 : n1 ≤ 40) (hn2 : n2 ≤ 20) :
    Calls Try.prog 7 #[.int .i64 now, .slice a1 n1 c1, .slice a2 n2 c2] w (Ret (.bool true) (fun w' => Below w.heap.size w w')) := by
  have d1 : decide ((40 : Int) < (n1 : Int)) = false := by simp; omega
  have d2 : decide ((20 : Int) < (n2 : Int)) = false := by simp; omega
  have HT := Lib.hid ht
  have HX := Lib.hid hx
  have HY := Lib.hid hy
  have HA1 := Lib.hid ha1
  have HA2 := Lib.hid ha2
  have HR1 := Lib.hid hr1
  have HR2 := Lib.hid hr2
  clear ht hx hy ha1 ha2 hr1 hr2
  go_enter Try.func7, Try.ntmps7
  go_wp2_with fail
  refine (new_ok _ now HT.out).mono ?_
  rintro e w1 ⟨p, rfl, hF1, hK1, hp⟩
  have hN1 : New w (p :: blk (.slice none 0 0)) := fun x hx => by simp [blk] at hx; omega
  go_wp2_with fail
  go_loopw [9, 49] (fun c i w' => ∃ (k : Nat) (v : Value) (l : List Al), k ≤ n1 ∧ i = .int .i64 k ∧ c = .int .i64 l.length ∧ Frm [] w w' ∧ New w (p :: blk v) ∧ ClockAt w' p now v l ∧ LInv xs k l) (fun _ i _ => n1 - (intOf i).toNat)
  case atStart => exact ⟨0, _, [], by omega, rfl, rfl, hF1, hN1, hK1, LInv.zero xs⟩
  case round =>
    obtain ⟨k, v, l, hk, rfl, rfl, hF, hN, hK, hI⟩ := hrel
    clear hK1 hN1 hF1
    by_cases hlt : k < n1
    · have hb0 : (0 : Int) ≤ (k : Int) := by omega
      have hb1 : (k : Int) < (n1 : Int) := by omega
      obtain ⟨ha, hbw⟩ := HA1.out (by omega)
      have hxk : xs[k]? = some (xs[k]'(by have := HX.out; omega)) := List.getElem?_eq_getElem _
      generalize (xs[k]'(by have := HX.out; omega)) = x at hxk
      have cx : wr.cell? ⟨b1, o1 + k, none⟩ = some (.int .i64 x) := (hF.cell hbw (by simp)).trans (HR1.out _ _ hxk)
      obtain ⟨s1, s2, s3⟩ := hI.step (by omega) hxk
      have hll := hI.len
      have HXK := Lib.hid hxk
      have hix := ix_int (c := c1) ha hlt
      have HS := Lib.hid hI.sorted
      clear hxk ha
      by_cases htx : tk x = true
      · obtain ⟨s4, s5⟩ := s1 htx
        have hset := set_is hK HS.out (by omega) _ _ s4 rfl
        have HSET := Lib.hid hset
        have HS5 := Lib.hid s5
        clear s1 s2 s4 s5 hset htx
        go_wp2_with fail
        refine HSET.out.mono ?_
        rintro e w2 ⟨v2, rfl, hF2, hK2, hb2⟩
        obtain ⟨g1, g2⟩ := hN.go hF hF2 hb2
        go_wp2
        go_roundw
        case rel => exact ⟨k + 1, v2, _, by omega, by go_num, by rw [HS5.out]; go_num, g1, g2, hK2, s3⟩
        case measure => simp [intOf]; omega
      · obtain ⟨s4, s5⟩ := s2 (by simpa using htx)
        have hset := set_is hK HS.out (by omega) _ _ s4 rfl
        have HSET := Lib.hid hset
        have HS5 := Lib.hid s5
        clear s1 s2 s4 s5 hset htx
        go_wp2_with fail
        refine HSET.out.mono ?_
        rintro e w2 ⟨v2, rfl, hF2, hK2, hb2⟩
        obtain ⟨g1, g2⟩ := hN.go hF hF2 hb2
        go_wp2
        go_roundw
        case rel => exact ⟨k + 1, v2, _, by omega, by go_num, by rw [HS5.out], g1, g2, hK2, s3⟩
        case measure => simp [intOf]; omega
    · obtain rfl : k = n1 := by omega
      have hll := hI.len
      go_wp2_with fail
      refine (copy_clk hK (by omega)).mono ?_
      rintro e w2 ⟨q, vq, rfl, hF2, hQ, hq, hvq⟩
      go_wp2_with fail
      have hKp := hK.frm0 hF2
      have hpl := hK.plt
      have hvb := hK.blt
      have hpq : p ≠ q := by omega
      have hpvq : p ∉ blk vq := fun hh => by have := hvq p hh; omega
      have hpw : w.heap.size ≤ p := hN _ (by simp)
      have hFw : Frm [] w w2 := hF.trans hF2
      obtain ⟨B, hB⟩ : ∃ B, B = w2.heap.size := ⟨_, rfl⟩
      have hBv : ∀ x ∈ p :: blk v, x < B := fun x hx => by have := hvb x hx; have := hF2.size; omega
      have hBq : ∀ x ∈ q :: blk vq, x < B := fun x hx => by have := hQ.blt x hx; omega
      have hsl := hI.sorted
      have hI2 := hI.len
      have hFw0 := hF.size
      have HVB := Lib.hid hvb
      have HQQ := Lib.hid hq
      have HB := Lib.hid hB
      have HBV := Lib.hid hBv
      have HBQ := Lib.hid hBq
      have HQ := Lib.hid hQ
      have HI := Lib.hid hI
      have HVQ := Lib.hid hvq
      have HPV := Lib.hid hpvq
      have HSL := Lib.hid hsl
      clear hK hF hN hF2 hq hvq hQ hI hB hBv hBq hpvq hsl hvb
      obtain ⟨i0, hi, hz0, hz1, hz2⟩ := info_parts info_alarm
      go_loopw [13, 14, 68] (fun sv va i w' => ∃ (j N : Nat) (s : Int) (vc : Value), j ≤ n2 ∧ i = .int .i64 j ∧ sv = .int .i64 s ∧ Frm [p] w2 w' ∧ ClockAt w' p (dl now s) vc (l.drop N) ∧ Hid (blk vc = blk v) ∧
        w'.ownsRow B 47 2 va (l.take N).length (flat (l.take N)) ∧ Pass now l j s N) (fun _ _ i _ => n2 - (intOf i).toNat)
      case atStart => exact ⟨0, 0, 0, v, by omega, rfl, rfl, Frm.refl _ _, by rw [dl_zero HT.out]; exact hKp, Lib.hid rfl, World.ownsRow_nil _ _ _ _, Pass.zero _ _⟩
      case round =>
        obtain ⟨j, N, s, vc, hj, rfl, rfl, hF, hK, HBC, hO, hP⟩ := hrel
        clear hKp
        by_cases hlt2 : j < n2
        · have hb0 : (0 : Int) ≤ (j : Int) := by omega
          have hb1 : (j : Int) < (n2 : Int) := by omega
          obtain ⟨ha, hbw⟩ := HA2.out (by omega)
          have hyj : ys[j]? = some (ys[j]'(by have := HY.out; omega)) := List.getElem?_eq_getElem _
          generalize (ys[j]'(by have := HY.out; omega)) = y at hyj
          have cy : wr.cell? ⟨b2, o2 + j, none⟩ = some (.int .i64 y) := (hF.cell (Nat.lt_of_lt_of_le hbw hFw.size) (by simp; omega)).trans ((hFw.cell hbw (by simp)).trans (HR2.out _ _ hyj))
          have hix := ix_int (c := c2) ha hlt2
          clear ha hyj
          have hend : ∀ {w9 w10 : World}, Frm [p] w2 w9 → Frm [] w9 w10 → Below w.heap.size w w10 := fun h1 h2 => ((hFw.trans_new h1 (by simp; omega)).trans h2).below (Nat.le_refl _) (by simp)
          by_cases hy0 : y < 0
          · have e1 : decide (y < 0) = true := by simpa using hy0
            go_wp2_with fail
            refine (known_true _).mono ?_
            rintro e w9 ⟨rfl, hF9⟩
            go_wp2
            go_ret
            exact ⟨rfl, hend hF hF9⟩
          · have e1 : decide (y < 0) = false := by simpa using hy0
            by_cases hy1 : 1099511627776 < y
            · have e2 : decide (1099511627776 < y) = true := by simpa using hy1
              go_wp2_with fail
              refine (known_true _).mono ?_
              rintro e w9 ⟨rfl, hF9⟩
              go_wp2
              go_ret
              exact ⟨rfl, hend hF hF9⟩
            · have e2 : decide (1099511627776 < y) = false := by simpa using hy1
              clear hend
              have hs0 := hP.s0
              have hs1 := hP.s1
              obtain ⟨q1, q2, q3⟩ := hP.step HSL.out HT.out (show 0 ≤ y by omega) (show y ≤ 1099511627776 by omega)
              have hT := dl_tk (s := s + y) HT.out (by omega)
              have hT0 := dl_tk (s := s) HT.out hs0
              have hTle : dl now s ≤ dl now (s + y) := by rw [← q1]; exact (dl_tick hT0 (by omega)).2.2
              have hTN := (tk_iff.1 hT).2
              have hdr : (l.drop N).drop (cutAt (dl now (s + y)) (l.drop N)) = l.drop (cutAt (dl now (s + y)) l) := by rw [List.drop_drop, q2]
              have htk : l.take (cutAt (dl now (s + y)) l) = l.take N ++ (l.drop N).take (cutAt (dl now (s + y)) (l.drop N)) := by rw [← q2, List.take_add]
              have hsd : Sorted (l.drop N) := sorted_drop HSL.out N
              have hDm : ∀ x ∈ (l.drop N).take (cutAt (dl now (s + y)) (l.drop N)), x ∈ l ∧ x.2 ≤ dl now (s + y) ∧ x.2 < 4611686018427387904 := fun x hx => by
                have hxl : x ∈ l := List.mem_of_mem_drop (List.mem_of_mem_take hx)
                obtain ⟨jj, h1, h2, _⟩ := HI.out.mem x hxl
                exact ⟨hxl, due_mem hsd (by rw [h2]; omega) hx⟩
              have hRm : ∀ x ∈ l.drop (cutAt (dl now (s + y)) l), dl now (s + y) < x.2 ∨ 4611686018427387904 ≤ x.2 := fun x hx => rest_mem HSL.out hx
              have hDl : ((l.drop N).take (cutAt (dl now (s + y)) (l.drop N))).length ≤ 40 := by rw [List.length_take, List.length_drop]; omega
              have hRl : (l.drop (cutAt (dl now (s + y)) l)).length ≤ 40 := by rw [List.length_drop]; omega
              have hAl : (l.take N).length ≤ 40 := by rw [List.length_take]; omega
              have hti := tick_is (m := ((l.drop N).take (cutAt (dl now (s + y)) (l.drop N))).length) hK hsd (by rw [List.length_drop]; omega) hT0 (show 0 ≤ y by omega) q1 rfl hdr rfl
              have hwr : IntKind.i64.wrap (s + y) = s + y := by rw [IntKind.wrap_i64]; omega
              generalize (l.drop N).take (cutAt (dl now (s + y)) (l.drop N)) = D at htk hDm hDl hti
              generalize hR : l.drop (cutAt (dl now (s + y)) l) = R at hRm hRl hti
              generalize hTT : dl now (s + y) = T at q1 q2 q3 hT hTle hTN htk hDm hRm hti hR
              generalize hNN : cutAt T l = N' at q2 q3 htk hR
              have HTI := Lib.hid hti
              have HTK := Lib.hid htk
              have HDM := Lib.hid hDm
              have HRM := Lib.hid hRm
              have HRR := Lib.hid hR
              have HTT := Lib.hid hTT
              have HNN := Lib.hid hNN
              have HQ1 := Lib.hid q1
              have HQ3 := Lib.hid q3
              have HWR := Lib.hid hwr
              have hlow : decide (T < dl now s) = false := by simp; omega
              have hnev : decide (4611686018427387904 < T) = false := by simp; omega
              generalize hT0' : dl now s = T0 at hlow hK hT0 HTI HQ1 hTle
              have HT0 := Lib.hid hT0'
              have HT1 := Lib.hid hT
              clear hti htk hDm hRm hR hTT hNN q1 q2 q3 hwr hT0' hsd hdr hT hT0 hTle hTN
              go_wp2_with fail
              refine (now_clk hK).mono ?_
              rintro e w' ⟨rfl, rfl⟩
              go_wp2_with fail
              refine HTI.out.mono ?_
              rintro e w4 ⟨g, v4, rfl, hF4, hK4, hG4, hg4, hb4⟩
              have hO4 := row_frm hO hF4 (fun x hx hxp => by have h1 := (row_blk hO x hx).1; have h2 := HBV.out p (by simp); rw [List.mem_singleton.1 hxp] at h1; omega)
              have hOb := row_blk hO
              have hA4 := als_given (n := D.length) rfl hG4 (by omega)
              have hF24 := hF.trans hF4
              have hgB : B ≤ g := by have h1 := HB.out; have h2 := hF.size; omega
              have hwp : IntKind.i64.wrap (s + y) = s + y := HWR.out
              clear hK hF4
              go_wp2_with (at_builtin; refine wpList_append_own _ rfl _ _ 33 rfl B 47 i0 _ 2 16 Try.underlying33 hi hz0 hz1 hz2 rfl (by decide) _ _ _ rfl hO4 ⟨g, 0, none⟩ D.length D.length (flat D) rfl (flat_length D) (fun j u hj => by rw [Addr.add_lit, cell_of_heap hG4, Nat.zero_add, List.getElem?_toArray]; exact hj) (flat_one D) (by unfold maxLen; omega) (by omega) (by have h1 := HB.out; have h2 := hF24.size; omega) ?_; intro v5 w5 hO5 hgrow _)
              have hbv4 : ∀ x ∈ p :: blk v4, x < B := fun x hx => HBV.out x (by rw [hb4, HBC.out] at hx; exact hx)
              have hF45 := Frm.grown hgrow (fun k hk => row_own hk)
              have hK5 := hK4.frm hF45 (fun hx => by have h1 := (hOb _ hx).1; have h2 := hbv4 p (by simp); omega) (fun x hx hx2 => by have h1 := (hOb _ hx2).1; have h2 := hbv4 x (List.mem_cons_of_mem _ hx); omega)
              have hG5 := hF45.heap hG4 (fun hx => by have h1 := (hOb _ hx).2; omega)
              have hF25 := hF24.trans_new hF45 (fun x hx => .inr (by have h1 := (hOb _ hx).1; have h2 := HB.out; omega))
              have hO6 : w5.ownsRow B 47 2 v5 (l.take N').length (flat (l.take N')) := by rw [HTK.out, List.length_append, flat_append]; exact hO5
              have HG5 := Lib.hid hG5
              have hg5 := lt_of_heap hG5
              clear hO hO4 hO5 hOb hgrow hF45 hK4 hG4 hA4 hF24 hF hwp hG5
              go_wp2_with fail
              refine (now_clk hK5).mono ?_
              rintro e w' ⟨rfl, rfl⟩
              go_wp2_with fail
              refine (now_clk hK5).mono ?_
              rintro e w' ⟨rfl, rfl⟩
              go_wp2_with fail
              have hDlen : (D.length : Int) ≤ 40 := by omega
              go_loopw [108] (fun i w' => ∃ t : Nat, t ≤ D.length ∧ i = .int .i64 t ∧ Frm [] w5 w') (fun i _ => D.length - (intOf i).toNat)
              case atStart => exact ⟨0, by omega, rfl, Frm.refl _ _⟩
              case round =>
                obtain ⟨t, ht, rfl, hFt⟩ := hrel
                by_cases hlt3 : t < D.length
                · have hb0 : (0 : Int) ≤ (t : Int) := by omega
                  have hb1 : (t : Int) < (D.length : Int) := by omega
                  have hxt : D[t]? = some (D[t]'(by omega)) := List.getElem?_eq_getElem _
                  have hmt := HDM.out _ (List.getElem_mem (show t < D.length by omega))
                  generalize (D[t]'(by omega)) = x at hxt hmt
                  obtain ⟨x1, x2⟩ := x
                  obtain ⟨hmt, hm1, hm2⟩ := hmt
                  obtain ⟨jj, hjk, hj1, hj2, hj3, hj4⟩ := HI.out.mem _ hmt
                  obtain rfl : x1 = (jj : Int) := hj1
                  have hcell : ∀ (j : Nat) (u : Value), (flat D)[j]? = some u → w5.cell? ⟨g, 0 + j, none⟩ = some u := fun j u hj => by rw [cell_of_heap HG5.out, Nat.zero_add, List.getElem?_toArray]; exact hj
                  obtain ⟨k1, k2⟩ := Als.cell0 hcell hxt
                  rw [Nat.zero_add] at k1 k2
                  have k3 := (hFt.cell hg5 (by simp)).trans k1
                  have k4 := (hFt.cell hg5 (by simp)).trans k2
                  obtain ⟨ha1, hbw1⟩ := HA1.out (by omega)
                  have hix1 := ix_int (c := c1) ha1 hjk
                  clear ha1
                  have hKt := (hK5.frm0 hFt).alloc (.cells #[.int .i64 (jj : Int), .int .i64 x2] 47)
                  have hFall : Frm [] w wr := (hFw.trans_new hF25 (by simp; omega)).trans hFt
                  have cat : (wr.alloc (.cells #[.int .i64 (jj : Int), .int .i64 x2] 47)).cell? ⟨b1, o1 + jj, none⟩ = some (.int .i64 x2) := ((hFall.alloc _).cell hbw1 (by simp)).trans (HR1.out _ _ hj2)
                  obtain ⟨k5, k6⟩ := cells2 (heap_alloc_new wr (.cells #[.int .i64 (jj : Int), .int .i64 x2] 47))
                  have f1 : decide (T < x2) = false := decide_eq_false (by omega)
                  have f2 : decide (4611686018427387904 ≤ x2) = false := decide_eq_false (by omega)
                  have f3 : decide ((jj : Int) < 0) = false := decide_eq_false (by omega)
                  have f4 : decide ((k : Int) ≤ (jj : Int)) = false := decide_eq_false (by omega)
                  have f5 : (x2 != x2) = false := by simp
                  have HKT := Lib.hid hKt
                  clear hm1 hm2 hj2 hj3 hj4 hmt hcell k1 k2 hxt hFall hKt
                  go_wp2_with fail
                  go_quiet ((go_at_call 22; with_reducible exact now_q HKT.out _))
                  go_wp2
                  go_roundw
                  case rel => exact ⟨t + 1, by omega, by go_num, (hFt.alloc _).drewN _⟩
                  case measure => simp [intOf]; omega
                · have hFm := hF25.trans (hFt.weak (by simp))
                  have hKm := hK5.frm0 hFt
                  have hOm := row_frm hO6 hFt (by simp)
                  clear hF25 hK5 hO6
                  go_wp2_with fail
                  refine (alarms_clk hKm (by omega)).mono ?_
                  rintro e w6 ⟨rfl, hF6, hG6⟩
                  have hKn := hKm.frm0 hF6
                  have hOn := row_frm hOm hF6 (by simp)
                  have hFn := hFm.trans (hF6.weak (by simp))
                  obtain ⟨g6, hg6⟩ : ∃ g6, g6 = wr.heap.size := ⟨_, rfl⟩
                  rw [← hg6] at hG6 ⊢
                  clear hg6 hKm hOm hFm hF6 hFt
                  have HG6 := Lib.hid hG6
                  have hgl6 := lt_of_heap hG6
                  clear hG6
                  go_wp2_with fail
                  have hRlen : (R.length : Int) ≤ 40 := by omega
                  go_loopw [148] (fun i w' => ∃ t : Nat, t ≤ R.length ∧ i = .int .i64 t ∧ Frm [] w6 w') (fun i _ => R.length - (intOf i).toNat)
                  case atStart => exact ⟨0, by omega, rfl, Frm.refl _ _⟩
                  case round =>
                    obtain ⟨t', ht', rfl, hFt⟩ := hrel
                    by_cases hlt4 : t' < R.length
                    · have hb0 : (0 : Int) ≤ (t' : Int) := by omega
                      have hb1 : (t' : Int) < (R.length : Int) := by omega
                      have hxt : R[t']? = some (R[t']'(by omega)) := List.getElem?_eq_getElem _
                      have hmt := HRM.out _ (List.getElem_mem (show t' < R.length by omega))
                      generalize (R[t']'(by omega)) = x at hxt hmt
                      obtain ⟨x1, x2⟩ := x
                      have hcell : ∀ (j : Nat) (u : Value), (flat R)[j]? = some u → w6.cell? ⟨g6, 0 + j, none⟩ = some u := fun j u hj => by rw [cell_of_heap HG6.out, Nat.zero_add, List.getElem?_toArray]; exact hj
                      obtain ⟨k1, k2⟩ := Als.cell0 hcell hxt
                      rw [Nat.zero_add] at k1 k2
                      have k3 := (hFt.cell hgl6 (by simp)).trans k1
                      have k4 := (hFt.cell hgl6 (by simp)).trans k2
                      have hKt := (hKn.frm0 hFt).alloc (.cells #[.int .i64 x1, .int .i64 x2] 47)
                      obtain ⟨k5, k6⟩ := cells2 (heap_alloc_new wr (.cells #[.int .i64 x1, .int .i64 x2] 47))
                      have HKT := Lib.hid hKt
                      by_cases f0 : T < x2
                      · have f1 : decide (x2 ≤ T) = false := decide_eq_false (by omega)
                        clear hmt hcell k1 k2 hxt hKt f0
                        go_wp2_with fail
                        go_quiet ((go_at_call 22; with_reducible exact now_q HKT.out _))
                        go_wp2
                        go_roundw
                        case rel => exact ⟨t' + 1, by omega, by go_num, (hFt.alloc _).drewN _⟩
                        case measure => simp [intOf]; omega
                      · have f1 : decide (x2 ≤ T) = true := decide_eq_true (by omega)
                        have f2 : decide (x2 < 4611686018427387904) = false := decide_eq_false (by simp only [] at hmt; omega)
                        clear hmt hcell k1 k2 hxt hKt f0
                        go_wp2_with fail
                        go_quiet ((go_at_call 22; with_reducible exact now_q HKT.out _))
                        go_wp2
                        go_roundw
                        case rel => exact ⟨t' + 1, by omega, by go_num, (hFt.alloc _).drewN _⟩
                        case measure => simp [intOf]; omega
                    · have hFz := hFn.trans (hFt.weak (by simp))
                      have hKz := hKn.frm0 hFt
                      have hOz := row_frm hOn hFt (by simp)
                      rw [← HTT.out, ← HRR.out] at hKz
                      clear hFn hKn hOn hFt
                      go_wp2
                      go_roundw
                      case rel => exact ⟨j + 1, N', s + y, v4, by omega, by go_num, rfl, hFz, hKz, Lib.hid (hb4.trans HBC.out), hOz, HQ3.out⟩
                      case measure => simp [intOf]; omega
        · obtain rfl : j = n2 := by omega
          have hll := hI2
          by_cases hj0 : j = 0
          · have e1 : ((j : Int) == 0) = true := by simp; omega
            have hN0 := hP.z hj0
            have hd0 : (l.drop N).length = l.length := by rw [hN0]; rfl
            have HD0 := Lib.hid hd0
            clear hN0 hd0 hj0
            go_wp2_with fail
            refine (alarms_is (m := l.length) hK (by rw [HD0.out]; omega) HD0.out).mono ?_
            rintro e w5 ⟨rfl, hF5⟩
            go_wp2_with fail
            refine (known_true _).mono ?_
            rintro e w6 ⟨rfl, hF6⟩
            go_wp2
            go_ret
            exact ⟨rfl, (((hFw.trans_new hF (by simp; omega)).trans hF5).trans hF6).below (Nat.le_refl _) (by simp)⟩
          · have e1 : ((j : Int) == 0) = false := by simp; omega
            have hNN := hP.eq (by omega)
            obtain ⟨aa, ac, hav⟩ := als_slice (row_als hO)
            have hA := row_als hO
            have hOb := row_blk hO
            obtain ⟨A, hAA⟩ : ∃ A, A = l.take N := ⟨_, rfl⟩
            obtain ⟨R, hRR⟩ : ∃ R, R = l.drop N := ⟨_, rfl⟩
            have hsum : ((A.length : Int) + (R.length : Int) == (l.length : Int)) = true := by
              rw [hAA, hRR, List.length_take, List.length_drop]; have := cut_le (dl now s) l; exact beq_iff_eq.2 (by omega)
            have hRl : R.length ≤ 40 := by rw [hRR, List.length_drop]; omega
            have hAl : A.length ≤ 40 := by rw [hAA, List.length_take]; omega
            rw [← hAA] at hav hA
            rw [← hRR] at hK
            have hs0 := hP.s0
            subst hav
            have hqb : q ∉ blk (.slice aa A.length ac) := fun hx => by have h1 := (hOb _ hx).1; have h2 := HBQ.out q (by simp); omega
            have hQ2 : ClockAt wr q now vq l := HQ.out.frm hF (by simp; exact fun e => hpq e.symm) (fun x hx hxp => HPV.out (by rw [List.mem_singleton.1 hxp] at hx; exact hx))
            have htk := ticks_is hQ2 HSL.out (by omega) HT.out hs0 hA hqb (rfl : dl now s = dl now s) (by rw [← hNN]; exact hAA.symm) rfl
            have hKd : ∀ (w9 : World), Frm (q :: blk vq) wr w9 → ClockAt w9 p (dl now s) vc R := fun w9 h9 => hK.frm h9 (by rw [List.mem_cons]; rintro (h1 | h1); exact hpq h1; exact HPV.out h1) (fun x hx hx2 => by
              rw [HBC.out] at hx
              have h1 := HVB.out x (List.mem_cons_of_mem _ hx)
              have h3 := HQQ.out
              rcases List.mem_cons.1 hx2 with h2 | h2
              · omega
              · have h4 := HVQ.out x h2; omega)
            have hwq : ∀ x ∈ q :: blk vq, w.heap.size ≤ x := fun x hx => by
              have h0 := hFw0
              rcases List.mem_cons.1 hx with h2 | h2
              · have := HQQ.out; omega
              · have := HVQ.out x h2; omega
            have HTK := Lib.hid htk
            have HKD := Lib.hid hKd
            clear hNN hAA hRR htk hA hOb hqb hK hj0 hKd
            generalize dl now s = T at HTK HKD
            go_wp2_with fail
            refine HTK.out.mono ?_
            rintro e w5 ⟨v5, rfl, hF5, hQ5, hb5⟩
            have hK5 := HKD.out _ hF5
            go_wp2_with fail
            refine (now_clk hQ5).mono ?_
            rintro e w' ⟨rfl, rfl⟩
            go_wp2_with fail
            refine (now_clk hK5).mono ?_
            rintro e w' ⟨rfl, rfl⟩
            go_wp2_with fail
            refine (alarms_is (m := R.length) hK5 (by omega) rfl).mono ?_
            rintro e w6 ⟨rfl, hF6⟩
            go_wp2_with fail
            refine (known_true _).mono ?_
            rintro e w7 ⟨rfl, hF7⟩
            go_wp2
            go_ret
            exact ⟨rfl, ((((hFw.trans_new hF (by simp; omega)).trans_new hF5 (fun x hx => .inr (hwq x hx))).trans hF6).trans hF7).below (Nat.le_refl _) (by simp)⟩

theorem rows_ints {w : World} {a : Option Addr} {len cap : Nat} {zs : List Int} (hz : IsRow .i64 w a len cap zs) : ∃ b o, (zs.take len).length = len ∧ (0 < len → a = some ⟨b, o, none⟩ ∧ b < w.heap.size) ∧
    ∀ (i : Nat) (x : Int), (zs.take len)[i]? = some x → w.cell? ⟨b, o + i, none⟩ = some (.int .i64 x) := by
  by_cases h0 : 0 < len
  · obtain ⟨_, hl, _, _, _, b, o, ha, hb, hr⟩ := hz.rd h0
    exact ⟨b, o, hl, fun _ => ⟨ha, hb⟩, hr⟩
  · obtain rfl : len = 0 := by omega
    exact ⟨0, 0, by simp, fun h => by omega, fun i x h => by simp at h⟩

set_option maxRecDepth 100000 in
set_option maxHeartbeats 2000000 in
theorem walk_ClockHolds (now : Int) (_w0 : (Lit.int .i64 now).wf = true) (a1 : Option Addr) (n1 c1 : Nat) (z1 : List Int) (a2 : Option Addr) (n2 c2 : Nat) (z2 : List Int) (w : World) (h1 : IsRow .i64 w a1 n1 c1 z1) (h2 : IsRow .i64 w a2 n2 c2 z2) :
    Calls Try.prog 7 #[.int .i64 now, .slice a1 n1 c1, .slice a2 n2 c2] w (Ret (.bool true) (fun w' => Below w.heap.size w w')) := by
  obtain ⟨b1, o1, hl1, ha1, hr1⟩ := rows_ints h1
  obtain ⟨b2, o2, hl2, ha2, hr2⟩ := rows_ints h2
  generalize z1.take n1 = xs at hl1 hr1
  generalize z2.take n2 = ys at hl2 hr2
  by_cases hn1 : 40 < n1
  · have d1 : decide ((40 : Int) < (n1 : Int)) = true := by simp; omega
    clear h1 h2 ha1 ha2 hr1 hr2 hl1 hl2
    go_enter Try.func7, Try.ntmps7
    go_wp2_with (go_at_call 11; refine (known_true _).mono ?_; rintro e w' ⟨rfl, hF⟩)
    go_ret
    exact ⟨rfl, hF.below (Nat.le_refl _) (by simp)⟩
  · have d1 : decide ((40 : Int) < (n1 : Int)) = false := by simp; omega
    by_cases hn2 : 20 < n2
    · have d2 : decide ((20 : Int) < (n2 : Int)) = true := by simp; omega
      clear h1 h2 ha1 ha2 hr1 hr2 hl1 hl2
      go_enter Try.func7, Try.ntmps7
      go_wp2_with (go_at_call 11; refine (known_true _).mono ?_; rintro e w' ⟨rfl, hF⟩)
      go_ret
      exact ⟨rfl, hF.below (Nat.le_refl _) (by simp)⟩
    · have d2 : decide ((20 : Int) < (n2 : Int)) = false := by simp; omega
      by_cases ht : tk now = true
      · exact holds_core now ht a1 n1 c1 b1 o1 xs a2 n2 c2 b2 o2 ys w hl1 hl2 ha1 ha2 hr1 hr2 (by omega) (by omega)
      · have ht' : tk now = false := by simpa using ht
        clear h1 h2 ha1 ha2 hr1 hr2 hl1 hl2 ht
        have HT := Lib.hid ht'
        clear ht'
        go_enter Try.func7, Try.ntmps7
        go_wp2_with (first | (go_at_call 13; refine (new_bad _ _ HT.out).mono ?_; rintro e w' ⟨rfl, rfl⟩) | (go_at_call 11; refine (known_true _).mono ?_; rintro e w' ⟨rfl, hF⟩))
        go_ret
        exact ⟨rfl, hF.below (Nat.le_refl _) (by simp)⟩
end Go.Proofs.Ytamnhpcbflpabaa
