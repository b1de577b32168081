/- Layer 1: the walk of MemOnces. -/
import Derived.Test.YthmpmpjkkjjbbaaMemP
import Derived.Deep.RegionHeld3
namespace Go.Proofs.Ythmpmpjkkjjbbaa
open Go.ChangeShapes Go.WideShapes Go.ChangeAt Go.RowKit

set_option maxRecDepth 100000 in
set_option maxHeartbeats 6400000 in
theorem walk_MemOnces (aa : Option Addr) (la ca : Nat) (za : List Int) (av : Option Addr) (len cap : Nat) (xs : List Acc) (w : World) (hra : IsRow .u64 w aa la ca za) (has : IsAccs w av len xs) :
    Calls Try.prog 6 #[.slice aa la ca, .slice av len cap] w (Ret (.bool true) (fun w' => Below w.heap.size w w')) := by
  by_cases h1 : la < 1
  · have hb1 : decide ((la : Int) < 1) = true := by simp; omega
    clear hra
    go_enter Try.func6, Try.ntmps6
    go_wp2_with fail
    refine (known_true _).mono ?_
    rintro e w5 ⟨rfl, hF5⟩
    go_wp2
    go_ret
    exact ⟨rfl, hF5.below (Nat.le_refl _) (by simp)⟩

  have hb1 : decide ((la : Int) < 1) = false := by simp; omega
  by_cases h2 : 40 < la
  · have hb2 : decide ((40 : Int) < la) = true := by simp; omega
    clear hra
    go_enter Try.func6, Try.ntmps6
    go_wp2_with fail
    refine (known_true _).mono ?_
    rintro e w5 ⟨rfl, hF5⟩
    go_wp2
    go_ret
    exact ⟨rfl, hF5.below (Nat.le_refl _) (by simp)⟩

  have hb2 : decide ((40 : Int) < la) = false := by simp; omega
  by_cases h3 : 20 < len
  · have hb3 : decide ((20 : Int) < len) = true := by simp; omega
    clear hra
    go_enter Try.func6, Try.ntmps6
    go_wp2_with fail
    refine (known_true _).mono ?_
    rintro e w5 ⟨rfl, hF5⟩
    go_wp2
    go_ret
    exact ⟨rfl, hF5.below (Nat.le_refl _) (by simp)⟩

  have hb3 : decide ((20 : Int) < len) = false := by simp; omega
  obtain ⟨hrda, hlen, hlca, hmxa, hwfa, b0, o0, rfl, hbw, hcla⟩ := hra.rd (by omega)
  clear hra
  generalize za.take la = ws0 at hrda hlen hcla hwfa
  obtain ⟨hal, hacc⟩ := has
  subst hal
  obtain rfl : ws0.length = la := hlen
  have hRA := Lib.hid hrda
  have HACC := Lib.hid hacc
  clear hacc hrda hcla hwfa
  go_enter Try.func6, Try.ntmps6
  go_wp2_with fail
  refine (made_any (xs := ws0) hRA.out (by omega) (by omega)).mono ?_
  rintro e w1 ⟨p, d, c, rfl, hF1, hM, hp, hd⟩
  go_wp2_with fail
  refine (newonce_ok hM).mono ?_
  rintro e w2 ⟨q, rfl, hF2, hO, hq⟩
  have hpl := hM.plt
  have hdl := hM.dlt
  have hqp : q ≠ p := by omega
  have hqd : q ≠ d := by omega
  have hqw : w.heap.size ≤ q := by have := hF1.size; omega
  replace hM := hM.frm hF2 (by simp) (by simp)
  have hF := hF1.trans hF2
  clear hF1 hF2 hpl hdl hq
  have hll : ((ws0.length : Int) != ws0.length) = false := by simp
  go_wp2_with fail
  refine (olen_ok hO hM).mono ?_
  rintro e w3 ⟨rfl, rfl⟩
  have hql := hO.lt
  have hpl := hM.plt
  have hdl := hM.dlt
  have hsz := hF.size
  have hr2 : Rd (w2.alloc (.cells #[.int .i64 0, .int .i64 0, .int .u64 0, .int .u64 0] 30)) (.slice (some ⟨b0, o0, none⟩) ws0.length ca) (u64s ws0) := (hRA.out.frm hF (by simp)).frm ((Frm.refl [] _).alloc _) (by simp)
  have hs8 := heap_alloc_new w2 (.cells #[.int .i64 0, .int .i64 0, .int .u64 0, .int .u64 0] 30)
  have hM3 := hM.alloc (.cells #[.int .i64 0, .int .i64 0, .int .u64 0, .int .u64 0] 30)
  have hO3 : OnceAt (w2.alloc (.cells #[.int .i64 0, .int .i64 0, .int .u64 0, .int .u64 0] 30)) q p ⟨0, 0, 0, 0⟩ := hO.frm ((Frm.refl [] _).alloc _) (by simp)
  have hF3 := hF.alloc (.cells #[.int .i64 0, .int .i64 0, .int .u64 0, .int .u64 0] 30)
  go_wp2_with fail
  generalize w2.alloc (.cells #[.int .i64 0, .int .i64 0, .int .u64 0, .int .u64 0] 30) = w3 at hr2 hs8 hM3 hO3 hF3 ⊢
  obtain ⟨n, hn⟩ : ∃ n, n = ws0.length := ⟨_, rfl⟩
  rw [← hn] at hr2 ⊢
  generalize w2.heap.size = s8 at hs8 hql hpl hdl hsz ⊢
  have hs8q : s8 ≠ q := by omega
  have hs8p : s8 ≠ p := by omega
  have hs8d : s8 ≠ d := by omega
  have hs8w : w.heap.size ≤ s8 := by omega
  have HS8 := Lib.hid hs8
  have HR2 := Lib.hid hr2
  have hn0 : 0 < n ∧ n ≤ 40 := by omega
  have HN := Lib.hid hn
  clear hs8 hr2 hn hM hO hF hll hql hpl hdl hsz
  go_loopw [0, 4, 10, 11, 12, 13, 52, 53, 54, 55, 56, 57, 58, 59, 60, 61, 62, 63, 64, 65, 66, 67, 68, 69, 70, 71, 72, 73, 74, 75, 76, 77, 78, 79, 80, 81, 82, 83, 84, 85, 86, 87, 88, 89, 90, 91, 92, 93, 94, 95, 96, 97, 98] (fun r z _ _ _ _ i _ _ _ _ _ _ _ _ _ _ _ _ _ _ _ _ _ _ _ _ _ _ _ _ _ _ _ _ _ _ _ _ _ _ _ _ _ _ _ _ _ _ _ _ _ _ wr => ∃ (kk b o cc : Nat) (ws : List Int) (a : Acc), kk ≤ xs.length ∧ z = .bool false ∧ i = .int .i64 kk ∧ ws.length = n ∧ r = .slice (some ⟨b, o, none⟩) n cc ∧ Rd wr (.slice (some ⟨b, o, none⟩) n cc) (u64s ws) ∧ b ≠ d ∧ b ≠ q ∧ b ≠ s8 ∧ MemAt wr p d c ws ∧ OnceAt wr q p a ∧ wr.heap[s8]? = some (.cells #[.int .i64 a.k, .int .i64 a.w, .int .u64 a.b, .int .u64 a.a] 30 (0, 0)) ∧ (a.k = 0 → a = ⟨0, 0, 0, 0⟩) ∧ Frm [] w wr) (fun _ _ _ _ _ _ i _ _ _ _ _ _ _ _ _ _ _ _ _ _ _ _ _ _ _ _ _ _ _ _ _ _ _ _ _ _ _ _ _ _ _ _ _ _ _ _ _ _ _ _ _ _ _ => xs.length - (intOf i).toNat)
  case atStart => exact ⟨0, b0, o0, ca, ws0, ⟨0, 0, 0, 0⟩, Nat.zero_le _, rfl, rfl, HN.out.symm, rfl, HR2.out, by omega, by omega, by omega, hM3, hO3, HS8.out, fun _ => rfl, hF3⟩
  case round =>
    obtain ⟨kk, b, o, cc, ws, a, hkk, rfl, rfl, hwl, rfl, hrd, hbd, hbq, hbs, hMr, hOr, hsr, hinv, hFr⟩ := hrel
    have HWL := Lib.hid hwl
    have HRD := Lib.hid hrd
    have HINV := Lib.hid hinv
    have HSR := Lib.hid hsr
    have hsrl := lt_of_heap hsr
    obtain ⟨n0, n1, n2, n3⟩ := cells4 hsr
    clear hwl hrd hinv hsr
    by_cases hlt : kk < xs.length
    · obtain ⟨x, hx⟩ : ∃ x, xs[kk]? = some x := ⟨_, List.getElem?_eq_getElem hlt⟩
      obtain ⟨ba, oa, rfl, hba, hcells⟩ := HACC.out (by omega)
      obtain ⟨c0, c1, c2, c3⟩ := (hcells kk x hx).frm hFr hba (by simp)
      clear hcells hx
      go_wp2_with fail
      refine (refkind_any _ _).mono ?_
      rintro e w3' ⟨rfl, rfl⟩
      by_cases hkb : kindB x.k = true
      · have HK := Lib.hid hkb
        have hk14 : 1 ≤ x.k ∧ x.k ≤ 4 := by have := HK.out; unfold kindB at this; simpa using this
        have hpl := hMr.plt
        have hdl := hMr.dlt
        have hql := hOr.lt
        by_cases ha : a.k = 0
        · have hab : (a.k != 0) = false := by simp [ha]
          obtain rfl := HINV.out ha
          clear ha
          go_wp2_with fail
          refine (refdo_n HWL.out (by omega) (HRD.out.frm ((Frm.refl [] _).alloc _) (by simp)) (by omega) x).mono ?_
          rintro e w4 ⟨b', o', c', rfl, hF4, hrd4, hb4⟩
          have hM4 := (hMr.alloc _).frm hF4 (by simp) (by simp)
          have hO4 := (hOr.frm ((Frm.refl [] _).alloc (.cells #[.int .i64 x.k, .int .i64 x.w, .int .u64 x.b, .int .u64 x.a] 30)) (by simp)).frm hF4 (by simp)
          have hs4 := hF4.heap (heap_alloc_old _ HSR.out) (by simp)
          have hx4 := hF4.heap (heap_alloc_new wr _) (by simp)
          have hF4' := (hFr.alloc _).trans hF4
          have hb4d : b' ≠ d := by simp at hb4; omega
          have hb4q : b' ≠ q := by simp at hb4; omega
          have hb4s : b' ≠ s8 := by simp at hb4; omega
          obtain ⟨y0, y1, y2, y3⟩ := cells4 hx4
          have hx4l := lt_of_heap hx4
          have hx4r : d < wr.heap.size ∧ p < wr.heap.size ∧ q < wr.heap.size ∧ s8 < wr.heap.size := ⟨hdl, hpl, hql, hsrl⟩
          generalize wr.heap.size = s10 at hx4 hx4l hx4r y0 y1 y2 y3 ⊢
          have hs4l := lt_of_heap hs4
          have HRD4 := Lib.hid hrd4
          have HS4 := Lib.hid hs4
          have hw4l : s10 < w4.heap.size := hx4l
          clear hF4 hrd4 hs4 hx4 hpl hdl hql hsrl hMr hOr n0 n1 n2 n3 hFr hb4
          go_wp2_with fail
          refine (makes_once (n := ⟨0, 0, 0, 0⟩) (ws := ws) (OnceAt.frm hO4 ((Frm.refl [] _).alloc _) (by simp)) (hM4.alloc _) hqp hqd x.k x.w x.b x.a hk14.1 hk14.2 _ _ _ _ _ (by show _ = (oRes ⟨0, 0, 0, 0⟩ ws x).b; unfold oRes; rw [if_pos rfl]) (by unfold oErr; rw [if_pos rfl, HWL.out])).mono ?_
          rintro e w5 ⟨rfl, hF5, hM5, hO5⟩
          have hws5 : oWs ⟨0, 0, 0, 0⟩ ws x = mWs ws x := by unfold oWs; rw [if_pos rfl]
          have hac5 : oAcc ⟨0, 0, 0, 0⟩ ws x = mRes ws x := by
            unfold oAcc
            rw [if_pos rfl]
            split
            · rfl
            · rename_i hne
              unfold mRes
              rw [if_neg hne]
          have hM5' : MemAt w5 p d c (mWs ws x) := hws5 ▸ hM5
          have hO5' : OnceAt w5 q p (mRes ws x) := hac5 ▸ hO5
          have hs5 := hF5.heap (heap_alloc_old _ HS4.out) (by simp; omega)
          have hz5 := hF5.heap (heap_alloc_new w4 _) (by simp; omega)
          have hrd5 := (HRD4.out.frm ((Frm.refl [] _).alloc _) (by simp)).frm hF5 (by intro bb hbb; cases hbb; simp; omega)
          have hF5' : Frm [] w w5 := (hF4'.alloc _).trans_new hF5 (by simp; omega)
          generalize w4.heap.size = s12 at hz5 hs4l hw4l hx4l ⊢
          clear hF5 hM5 hO5 hws5 hac5 hM4 hO4 hF4' HRD4 HS4 y0 y1 y2 y3 HRD
          obtain ⟨n0, n1, n2, n3⟩ := cells4 hs5
          obtain ⟨g0, g1, g2, g3⟩ := frozen4 hs5
          obtain ⟨z0, z1, z2, z3⟩ := cells4 hz5
          have HS5 := Lib.hid hs5
          have HRD5 := Lib.hid hrd5
          have hsl := lt_of_heap hs5
          clear hs5 hz5 hrd5
          go_wp2_with fail
          go_region
          have hs6 : ((((w5.setCell ⟨s8, 0, none⟩ (.int .i64 (mRes ws x).k)).setCell ⟨s8, 1, none⟩ (.int .i64 (mRes ws x).w)).setCell ⟨s8, 2, none⟩ (.int .u64 (mRes ws x).b)).setCell ⟨s8, 3, none⟩ (.int .u64 (mRes ws x).a)).drew.heap[s8]? = _ := setCells4 HS5.out (.int .i64 (mRes ws x).k) (.int .i64 (mRes ws x).w) (.int .u64 (mRes ws x).b) (.int .u64 (mRes ws x).a)
          have hF6 : Frm [] w ((((w5.setCell ⟨s8, 0, none⟩ (.int .i64 (mRes ws x).k)).setCell ⟨s8, 1, none⟩ (.int .i64 (mRes ws x).w)).setCell ⟨s8, 2, none⟩ (.int .u64 (mRes ws x).b)).setCell ⟨s8, 3, none⟩ (.int .u64 (mRes ws x).a)).drew := (hF5'.set4 _ _ _ _ _ _ _ _ _ (.inr hs8w)).drew
          have hM6 : MemAt ((((w5.setCell ⟨s8, 0, none⟩ (.int .i64 (mRes ws x).k)).setCell ⟨s8, 1, none⟩ (.int .i64 (mRes ws x).w)).setCell ⟨s8, 2, none⟩ (.int .u64 (mRes ws x).b)).setCell ⟨s8, 3, none⟩ (.int .u64 (mRes ws x).a)).drew p d c (mWs ws x) := (hM5'.setFar4 _ _ _ _ _ _ _ _ _ (by omega) (by omega)).drew
          have hO6 : OnceAt ((((w5.setCell ⟨s8, 0, none⟩ (.int .i64 (mRes ws x).k)).setCell ⟨s8, 1, none⟩ (.int .i64 (mRes ws x).w)).setCell ⟨s8, 2, none⟩ (.int .u64 (mRes ws x).b)).setCell ⟨s8, 3, none⟩ (.int .u64 (mRes ws x).a)).drew q p (mRes ws x) := heap_set4_far _ _ _ _ _ _ _ _ _ (by omega) hO5'
          have hrd6 : Rd ((((w5.setCell ⟨s8, 0, none⟩ (.int .i64 (mRes ws x).k)).setCell ⟨s8, 1, none⟩ (.int .i64 (mRes ws x).w)).setCell ⟨s8, 2, none⟩ (.int .u64 (mRes ws x).b)).setCell ⟨s8, 3, none⟩ (.int .u64 (mRes ws x).a)).drew (.slice (some ⟨b', o', none⟩) n c') (u64s (mWs ws x)) := HRD5.out.frm ((Frm.refl [s8] w5).set4 s8 _ _ _ _ _ _ _ _ (.inl (by simp))).drew (by intro bb hbb; cases hbb; simp; omega)
          generalize ((((w5.setCell ⟨s8, 0, none⟩ (.int .i64 (mRes ws x).k)).setCell ⟨s8, 1, none⟩ (.int .i64 (mRes ws x).w)).setCell ⟨s8, 2, none⟩ (.int .u64 (mRes ws x).b)).setCell ⟨s8, 3, none⟩ (.int .u64 (mRes ws x).a)).drew = w6 at hs6 hF6 hM6 hO6 hrd6 ⊢
          have hwl6 : (mWs ws x).length = n := by rw [mWs_len, HWL.out]
          have hinv6 : (mRes ws x).k = 0 → mRes ws x = ⟨0, 0, 0, 0⟩ := by
            intro h0
            by_cases he : mErr ws.length x.k x.w = 0
            · have : (mRes ws x).k = x.k := by unfold mRes; rw [if_pos he]
              rw [this] at h0; omega
            · unfold mRes; rw [if_neg he]
          have hb6d := hb4d
          have hb6q := hb4q
          have hb6s := hb4s
          clear n0 n1 n2 n3 g0 g1 g2 g3 z0 z1 z2 z3 hM5' hO5' hF5' HS5 HRD5
          have hna := neq_access (mRes ws x) (mRes ws x)
          have hae : accEq (mRes ws x) (mRes ws x) = true := by simp [accEq]
          rw [hae] at hna
          have HM2 := Lib.hid hM6
          have HO2 := Lib.hid hO6
          have HRD2 := Lib.hid hrd6
          have HW2 := Lib.hid hwl6
          have hs8k := fun (w' : World) (hh : w'.heap[s8]? = some (.cells #[.int .i64 (mRes ws x).k, .int .i64 (mRes ws x).w, .int .u64 (mRes ws x).b, .int .u64 (mRes ws x).a] 30 (0, 0))) => cells4 hh
          clear hwl6 hae hM6 hO6 hrd6 c0 c1 c2 c3
          go_wp2_with fail
          go_region_held3 (fun w' => w'.heap[s8]? = some (.cells #[.int .i64 (mRes ws x).k, .int .i64 (mRes ws x).w, .int .u64 (mRes ws x).b, .int .u64 (mRes ws x).a] 30 (0, 0)))
            (first | assumption | exact heap_alloc_old _ (by assumption) | exact Frm.heap hF2 (by assumption) (by simp <;> omega))
            (first
              | (go_at_call 26; refine (oaccess_ok (by first | exact HO2.out | exact OnceAt.drew HO2.out)).mono ?_; rintro e w7 ⟨rfl, hF2⟩; have hG : Frm [] w6 w7 := (by first | exact (Frm.refl [] w6).trans hF2 | exact (Frm.refl [] w6).drew.trans hF2))
              | (go_at_call 16; refine (step_true (words_k (ys := (mWs ws x)) (HM2.out.frm hG (by simp) (by simp)) 0 n (by omega) (by rw [HW2.out]; omega) (HRD2.out.frm hG (by simp)) (by rw [HW2.out]; omega) 0) (by rw [List.drop_zero, List.take_of_length_le (by rw [HW2.out]; omega)]; simp)).mono ?_; rintro e w8 ⟨rfl, hF2⟩; have hH := hG.trans hF2))
          have hM8 := HM2.out.frm hH (by simp) (by simp)
          have hO8 := OnceAt.frm HO2.out hH (by simp)
          have hrd8 := HRD2.out.frm hH (by simp)
          have hs8e := hH.heap hs6 (by simp)
          have hF8 := hF6.trans hH
          have HRD8 := Lib.hid hrd8
          have HS8e := Lib.hid hs8e
          clear hrd8 hs8e hs8k hs6
          go_wp2
          go_roundw
          case rel => exact ⟨kk + 1, b', o', c', (mWs ws x), (mRes ws x), by omega, rfl, by go_num, HW2.out, rfl, HRD8.out, hb6d, hb6q, hb6s, hM8, hO8, HS8e.out, hinv6, hF8⟩
          case measure => simp [intOf]; omega
        · have hab : (a.k != 0) = true := by simp [ha]
          go_wp2_with fail
          refine (makes_once (n := a) (ws := ws) (hOr.frm ((Frm.refl [] _).alloc _) (by simp)) (hMr.alloc _) hqp hqd x.k x.w x.b x.a hk14.1 hk14.2 0 0 0 0 11 (by unfold oRes; rw [if_neg ha]) (by unfold oErr; rw [if_neg ha])).mono ?_
          rintro e w6 ⟨rfl, hF5, hM5, hO5⟩
          have hws5 : oWs a ws x = ws := by unfold oWs; rw [if_neg ha]
          have hac5 : oAcc a ws x = a := by unfold oAcc; rw [if_neg ha]
          have hM6 : MemAt w6 p d c ws := hws5 ▸ hM5
          have hO6 : OnceAt w6 q p a := hac5 ▸ hO5
          have hs6 := hF5.heap (heap_alloc_old _ HSR.out) (by simp; omega)
          have hrd6 := (HRD.out.frm ((Frm.refl [] _).alloc _) (by simp)).frm hF5 (by intro bb hbb; cases hbb; simp; omega)
          have hF6 : Frm [] w w6 := (hFr.alloc _).trans_new hF5 (by simp; omega)
          have hwl6 := HWL.out
          have hinv6 := HINV.out
          have hb6d := hbd
          have hb6q := hbq
          have hb6s := hbs
          have HINV6 := Lib.hid hinv6
          clear hF5 hM5 hO5 hws5 hac5 ha n0 n1 n2 n3 hMr hOr hFr HSR HRD hinv6
          have hinv6 := HINV6
          have hna := neq_access a a
          have hae : accEq a a = true := by simp [accEq]
          rw [hae] at hna
          have HM2 := Lib.hid hM6
          have HO2 := Lib.hid hO6
          have HRD2 := Lib.hid hrd6
          have HW2 := Lib.hid hwl6
          have hs8k := fun (w' : World) (hh : w'.heap[s8]? = some (.cells #[.int .i64 a.k, .int .i64 a.w, .int .u64 a.b, .int .u64 a.a] 30 (0, 0))) => cells4 hh
          clear hwl6 hae hM6 hO6 hrd6 c0 c1 c2 c3
          go_wp2_with fail
          go_region_held3 (fun w' => w'.heap[s8]? = some (.cells #[.int .i64 a.k, .int .i64 a.w, .int .u64 a.b, .int .u64 a.a] 30 (0, 0)))
            (first | assumption | exact heap_alloc_old _ (by assumption) | exact Frm.heap hF2 (by assumption) (by simp <;> omega))
            (first
              | (go_at_call 26; refine (oaccess_ok (by first | exact HO2.out | exact OnceAt.drew HO2.out)).mono ?_; rintro e w7 ⟨rfl, hF2⟩; have hG : Frm [] w6 w7 := (by first | exact (Frm.refl [] w6).trans hF2 | exact (Frm.refl [] w6).drew.trans hF2))
              | (go_at_call 16; refine (step_true (words_k (ys := ws) (HM2.out.frm hG (by simp) (by simp)) 0 n (by omega) (by rw [HW2.out]; omega) (HRD2.out.frm hG (by simp)) (by rw [HW2.out]; omega) 0) (by rw [List.drop_zero, List.take_of_length_le (by rw [HW2.out]; omega)]; simp)).mono ?_; rintro e w8 ⟨rfl, hF2⟩; have hH := hG.trans hF2))
          have hM8 := HM2.out.frm hH (by simp) (by simp)
          have hO8 := OnceAt.frm HO2.out hH (by simp)
          have hrd8 := HRD2.out.frm hH (by simp)
          have hs8e := hH.heap hs6 (by simp)
          have hF8 := hF6.trans hH
          have HRD8 := Lib.hid hrd8
          have HS8e := Lib.hid hs8e
          clear hrd8 hs8e hs8k hs6
          go_wp2
          go_roundw
          case rel => exact ⟨kk + 1, b, o, cc, ws, a, by omega, rfl, by go_num, HW2.out, rfl, HRD8.out, hb6d, hb6q, hb6s, hM8, hO8, HS8e.out, hinv6.out, hF8⟩
          case measure => simp [intOf]; omega
      · have hkb1 : kindB x.k = false := by simpa using hkb
        clear hkb
        go_wp2_with fail
        refine (known_true _).mono ?_
        rintro e w5 ⟨rfl, hF5⟩
        go_wp2
        go_ret
        exact ⟨rfl, ((hFr.alloc _).trans hF5).below (Nat.le_refl _) (by simp)⟩
    · obtain rfl : kk = xs.length := by omega
      go_wp2_with fail
      refine (known_true _).mono ?_
      rintro e w5 ⟨rfl, hF5⟩
      go_wp2
      go_ret
      exact ⟨rfl, (hFr.trans hF5).below (Nat.le_refl _) (by simp)⟩
end Go.Proofs.Ythmpmpjkkjjbbaa
