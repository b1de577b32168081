/- Layer 3: the walk of QueuePicks. -/
import Derived.Test.YtjgnmmlbnkmgfaaQueR
namespace Go.Proofs.Ytjgnmmlbnkmgfaa
open Go.ChangeShapes Go.WideShapes Go.ChangeAt Go.RowKit

theorem age_inv {made : List Int} {T : Nat} {sz : Int} {l : List Al} (h : Inv made T sz l) {x : Int} (h0 : 0 ≤ x) (h1 : x < (T : Int)) : ageOf l made.length x = (made.length : Int) - 1 - lastAt made x made.length := by
  obtain ⟨g0, g1, g2⟩ := idx_ok h h0 h1
  unfold ageOf
  rw [if_neg (by omega), List.getD_eq_getElem?_getD, List.getElem?_eq_getElem g1]
  have := h.at_ _ (List.getElem_mem g1)
  rw [g2] at this
  show (made.length : Int) - 1 - (l[(idx l x).toNat]).2 = _
  rw [this]

/-- A picker and a row of integers lie apart. -/
theorem apart {w : World} {B p d T c m c' : Nat} {s pk : Int} {a' : Option Addr} {lo : List Al} {made : List Int} (hP : PickAt w p d T c s pk lo) (hR : RowI B w a' m c' made) : p ∉ blk (.slice a' m c') ∧ d ∉ blk (.slice a' m c') := by
  obtain ⟨⟨_, hh⟩, _⟩ := hR
  rcases hh with ⟨hv, _⟩ | ⟨g, cap, cur, hv, _, hc, _⟩
  · rw [hv]; simp [blk]
  · rw [hv]
    simp only [blk, List.mem_singleton]
    constructor
    · rintro rfl
      have := hP.obj.symm.trans hc
      simp at this
    · rintro rfl
      obtain ⟨cs, hd, _⟩ := hP.own.blk
      have := hd.symm.trans hc
      simp at this

/-- What is known behind m picks, by whichever picker. -/
structure PS (w0 w : World) (B T p d c : Nat) (s : Int) (m : Nat) (a' : Option Addr) (c' : Nat) (lo : List Al) (made : List Int) : Prop where
  frm : Frm [] w0 w
  sz : B ≤ w.heap.size
  pick : PickAt w p d T c s m lo
  row : RowI B w a' m c' made
  inv : Inv made T s lo
  pw : w0.heap.size ≤ p
  dw : w0.heap.size ≤ d
namespace PS
variable {w0 w w' : World} {B T p d c : Nat} {s : Int} {m : Nat} {a' : Option Addr} {c' : Nat} {lo : List Al} {made : List Int}
theorem len (h : PS w0 w B T p d c s m a' c' lo made) : made.length = m := h.row.2.symm
theorem go (h : PS w0 w B T p d c s m a' c' lo made) (hf : Frm [] w w') : PS w0 w' B T p d c s m a' c' lo made :=
  ⟨h.frm.trans hf, Nat.le_trans h.sz hf.size, h.pick.frm0 hf, h.row.frm0 hf, h.inv, h.pw, h.dw⟩
end PS

set_option maxRecDepth 100000 in
set_option maxHeartbeats 6400000 in
theorem picks_core (T : Nat) (s : Int) (a : Option Addr) (n c b o : Nat) (l : List Int) (at' : Int) (w : World) (hL : Li .i64 w a n c b o l) (hn : n ≤ 60) (h1 : 1 ≤ T) (h8 : T ≤ 8) (hs1 : (T : Int) ≤ s) (hs2 : s ≤ 30) :
    Calls Try.prog 7 #[.int .i64 (T : Int), .int .i64 s, .slice a n c, .int .i64 at'] w (Ret (.bool true) (fun w' => Below w.heap.size w w')) := by
  have d1 : decide ((T : Int) < 1) = false := by simp; omega
  have d2 : decide ((8 : Int) < (T : Int)) = false := by simp; omega
  have d3 : decide (s < (T : Int)) = false := by simp; omega
  have d4 : decide (30 < s) = false := by simp; omega
  have d5 : decide ((60 : Int) < (n : Int)) = false := by simp; omega
  have ht : mb (T : Int) = true := mb_iff.2 ⟨by omega, by omega⟩
  have hnew := new_ok w T s ht hs1 (by omega)
  have HL := Lib.hid hL
  have HN := Lib.hid hnew
  clear hL ht hnew
  go_enter Try.func7, Try.ntmps7
  go_wp2_with fail
  refine HN.out.mono ?_
  rintro e w1 ⟨p, d, rfl, hF1, hP1, hp, hd⟩
  have hpl := hP1.plt
  have hdl := hP1.dlt
  obtain ⟨B, hB⟩ : ∃ B, B = w1.heap.size := ⟨_, rfl⟩
  have hS1 : PS w w1 B T p d T s 0 none 0 (l0 T) [] := ⟨hF1, by omega, hP1, RowI.nil _ _, l0_inv T s hs1, hp, hd⟩
  have hwB : w.heap.size ≤ B := by rw [hB]; exact hF1.size
  have HS1 := Lib.hid hS1
  clear hP1 hF1 hpl hdl hS1 hp hd hB
  go_wp2_with fail
  go_loopw [9, 11, 12, 13, 14, 15, 16, 52] (fun q v _ _ _ _ _ i w' => ∃ (k p d c m : Nat) (a' : Option Addr) (c' : Nat) (lo : List Al) (made : List Int), k ≤ n ∧ m ≤ k ∧ i = .int .i64 k ∧ q = .pointer (some ⟨p, 0, none⟩) ∧ v = .slice a' m c' ∧ Hid (PS w w' B T p d c s m a' c' lo made)) (fun _ _ _ _ _ _ _ i _ => n - (intOf i).toNat)
  case atStart => exact ⟨0, p, d, T, 0, none, 0, _, [], by omega, by omega, rfl, rfl, rfl, HS1⟩
  case round =>
    clear HS1
    obtain ⟨k, p, d, c1, m, a', c', lo, made, hk, hmk, rfl, rfl, rfl, HS⟩ := hrel
    obtain ⟨wo, rfl⟩ : ∃ wo : World, wo = wr := ⟨_, rfl⟩
    by_cases hlt : k < n
    · have hb0 : (0 : Int) ≤ (k : Int) := by omega
      have hb1 : (k : Int) < (n : Int) := by omega
      obtain ⟨x, hx, hg, hc⟩ := (HL.out.frm0 HS.out.frm).get hlt
      have hix := ix_int (c := c) HL.out.ad hlt
      clear hx hg
      -- behind the copy, if there is one: whichever picker goes on
      have hcopy : ∀ w', Frm [] wo w' → Calls Try.prog 27 #[.pointer (some ⟨p, 0, none⟩)] w' (fun e w'' => ∃ q g c2, Ret (.pointer (some ⟨q, 0, none⟩)) (fun w'' => Frm [] w' w'' ∧ PickAt w'' q g T c2 s m lo ∧ w'.heap.size ≤ q ∧ w'.heap.size ≤ g) e w'') := fun w' hF => copy_pk (HS.out.pick.frm0 hF)
      have hi0 := (idx_ok HS.out.inv (x := 0) (by omega) (by omega)).1
      have hold : ∀ w', PickAt w' p d T c1 s m lo → Calls Try.prog 28 #[.pointer (some ⟨p, 0, none⟩), .int .i64 0] w' (Ret (.tuple #[.int .i64 (nxT lo s m 0), .int .i64 0]) (fun w'' => Frm [p, d] w' w'' ∧ PickAt w'' p d T c1 s ((m : Int) + 1) (nxL lo s m 0))) := fun w' hP => next_ok hP 0 hi0 (by omega)
      have HCP := Lib.hid hcopy
      have HOLD := Lib.hid hold
      clear hcopy hold hi0
      have hcases : (((k : Int) == at') = true) ∨ (((k : Int) == at') = false) := by cases ((k : Int) == at') <;> simp
      have hx3 : (decide (x < 0) = true) ∨ (decide (x < 0) = false ∧ decide ((T : Int) ≤ x) = true) ∨ (decide (x < 0) = false ∧ decide ((T : Int) ≤ x) = false) := by
        cases decide (x < 0) <;> cases decide ((T : Int) ≤ x) <;> simp
      rcases hcases with e1 | e1 <;> rcases hx3 with d6 | ⟨d6, d7⟩ | ⟨d6, d7⟩
      all_goals
        go_wp2_with fail
        first
        | (refine (HCP.out _ (Frm.refl _ _)).mono ?_
           rintro e w2 ⟨q, g, c2, rfl, hF2, hQ2, hq, hg⟩
           go_wp2_with fail
           refine (HOLD.out _ (HS.out.pick.frm0 hF2)).mono ?_
           rintro e w3 ⟨rfl, hF3, _⟩
           have hpq : p < wo.heap.size := HS.out.pick.plt
           have hdq : d < wo.heap.size := HS.out.pick.dlt
           have hQ3 : PickAt w3 q g T c2 s m lo := hQ2.frm hF3 (by simp; omega) (by simp; omega)
           have hS3 : PS w w3 B T q g c2 s m a' c' lo made := by
             have hF4 : Frm [] w w3 := (HS.out.frm.trans hF2).trans_new hF3 (fun y hy => by simp at hy; rcases hy with rfl | rfl; exact .inr HS.out.pw; exact .inr HS.out.dw)
             have hap := apart HS.out.pick HS.out.row
             have hrow : RowI B w3 a' m c' made := (HS.out.row.frm0 hF2).frm hF3 (fun y hy hy2 => by simp at hy2; rcases hy2 with rfl | rfl; exact hap.1 hy; exact hap.2 hy)
             exact ⟨hF4, by have := HS.out.sz; have := hF2.size; have := hF3.size; omega, hQ3, hrow, HS.out.inv, by have := HS.out.frm.size; omega, by have := HS.out.frm.size; omega⟩
           have HS3 := Lib.hid hS3
           clear hS3 hQ3 hQ2 hF2 hF3 HS hpq hdq hq hg HCP HOLD
           go_wp2_with fail)
        | (obtain ⟨q, rfl⟩ : ∃ q, q = p := ⟨_, rfl⟩
           obtain ⟨g, rfl⟩ : ∃ g, g = d := ⟨_, rfl⟩
           obtain ⟨w3, rfl⟩ : ∃ w3 : World, w3 = wo := ⟨_, rfl⟩
           obtain ⟨c2, rfl⟩ : ∃ c2, c2 = c1 := ⟨_, rfl⟩
           have HS3 := HS
           clear HS HCP HOLD)
      all_goals
        first
        | (have hbad : x < 0 ∨ (T : Int) ≤ x := by first | (left; simpa using d6) | (right; simpa using d7)
           refine (qnext_of (next_bad HS3.out.pick x (idx_none HS3.out.inv hbad))).mono ?_
           rintro e w4 ⟨rfl, hF4⟩
           have HS4 := Lib.hid (HS3.out.go hF4)
           clear hF4 HS3 hbad
           go_wp2
           go_roundw
           case rel => exact ⟨k + 1, q, g, c2, m, a', c', lo, made, by omega, by omega, by go_num, rfl, rfl, HS4⟩
           case measure => simp [intOf]; omega)
        | (have hx0 : 0 ≤ x := by simp at d6; omega
           have hx1 : x < (T : Int) := by simp at d7; omega
           obtain ⟨b2, hLm⟩ := HS3.out.row.li
           have hml := HS3.out.len
           have hnx := rnext_any hLm (by omega) T h1 (by omega) s (by omega) (by omega) x HS3.out.inv hx0 hx1
           obtain ⟨g0, g1, g2, g3⟩ := HS3.out.inv.next hx0 hx1 hs1
           rw [hml] at g1 g2 g3
           have hn2 := fun w' (hP : PickAt w' q g T c2 s m lo) => next_ok hP x g0 (by omega)
           generalize nxT lo s m x = t at *
           generalize nxL lo s m x = lo2 at *
           have HNX := Lib.hid hnx
           have HN2 := Lib.hid hn2
           have HI2 := Lib.hid g3
           have hA : made.length ≤ 100000 := by omega
           have HML := Lib.hid hml
           clear hLm hnx hn2 g0 g3 hml
           refine HNX.out.mono ?_
           rintro e w4 ⟨rfl, hE4⟩
           rw [hE4] at HS3
           clear hE4 HNX
           go_wp2_with fail
           refine (qnext_of (HN2.out _ HS3.out.pick)).mono ?_
           rintro e w5 ⟨rfl, hF5, hP5⟩
           have hap := apart HS3.out.pick HS3.out.row
           have hR5 : RowI B w5 a' m c' made := HS3.out.row.frm hF5 (fun y hy hy2 => by simp at hy2; rcases hy2 with rfl | rfl; exact hap.1 hy; exact hap.2 hy)
           have hG5 : Frm [] w w5 := HS3.out.frm.trans_new hF5 (fun y hy => by simp at hy; rcases hy with rfl | rfl; exact .inr HS3.out.pw; exact .inr HS3.out.dw)
           have hB5 : B ≤ w5.heap.size := Nat.le_trans HS3.out.sz hF5.size
           have hqw := HS3.out.pw
           have hgw := HS3.out.dw
           have HR5 := Lib.hid hR5
           have HP5 := Lib.hid hP5
           clear hap hR5 hP5 hF5 HN2 HS3
           go_wp2_with (at_builtin; refine wpl_appI rfl (.tmp 88) (.tmp 90) rfl (B := B) (a := a') (n := m) (c := c') (l := made) (by simp [Act.eval]) (by simp [Act.eval]) (HR5.out.frm0 ((Frm.refl _ _).alloc _)) (heap_alloc_new _ _) hA (by simp; omega) ?_; intro a6 c6 w6 hR6 hF6)
           have hap := apart (HP5.out.alloc (.cells #[.int .i64 t] 3)) (HR5.out.frm0 ((Frm.refl _ _).alloc (.cells #[.int .i64 t] 3)))
           have hP6 : PickAt w6 q g T c2 s ((m : Int) + 1) lo2 := (HP5.out.alloc _).frm hF6 hap.1 hap.2
           have hS6 : PS w w6 B T q g c2 s (m + 1) a6 c6 lo2 (made ++ [t]) := ⟨(hG5.alloc _).trans_new hF6 (fun y hy => .inr (by have := (HR5.out.blk y hy).1; omega)), by have := hF6.size; simp at this; omega, hP6, hR6, HI2.out, hqw, hgw⟩
           have hage : ∀ (o : Nat), o < T → ∀ w', Frm [] w6 w' → Calls Try.prog 26 #[.pointer (some ⟨q, 0, none⟩), .int .i64 (o : Int)] w' (Ret (.int .i64 (((m + 1 : Nat) : Int) - 1 - lastAt (made ++ [t]) (o : Int) (m + 1))) (fun w'' => Frm [] w' w'')) := by
             intro o ho w' hF
             refine age_is (hS6.pick.frm0 hF) _ _ ?_
             have := age_inv hS6.inv (x := (o : Int)) (by omega) (by omega)
             rw [hS6.len] at this
             exact this
           have hrag : ∀ (o : Nat) w', Frm [] w6 w' → Calls Try.prog 31 #[.slice a6 (m + 1 : Nat) c6, .int .i64 (o : Int)] w' (Ret (.int .i64 (((m + 1 : Nat) : Int) - 1 - lastAt (made ++ [t]) (o : Int) (m + 1))) (fun w'' => w' = w'')) := by
             intro o w' hF
             obtain ⟨b3, hL3⟩ := (hS6.row.frm0 hF).li
             exact rage_any hL3 (by omega) _
           have HS6 := Lib.hid hS6
           have HAG := Lib.hid hage
           have HRA := Lib.hid hrag
           have HPK := Lib.hid (picks_pk hP6)
           have q1 : ((m : Int) + 1 != (m : Int) + 1) = false := by simp
           clear hP6 hS6 hage hrag hap hR6 hF6 HP5 HR5 hG5 hB5 HI2 HML
           go_wp2_with fail
           refine HPK.out.mono ?_
           rintro e w7 ⟨rfl, hE7⟩
           rw [hE7] at HS6 HAG HRA
           clear hE7 HPK
           go_wp2_with fail
           go_loopw [16] (fun i w' => ∃ j : Nat, j ≤ T ∧ i = .int .i64 j ∧ Frm [] w7 w') (fun i _ => T - (intOf i).toNat)
           case atStart => exact ⟨0, by omega, rfl, Frm.refl _ _⟩
           case round =>
             obtain ⟨j, hj, rfl, hFj⟩ := hrel
             by_cases hlt2 : j < T
             · have hb2 : (0 : Int) ≤ (j : Int) := by omega
               have hb3 : (j : Int) < (T : Int) := by omega
               have c1' := HAG.out j hlt2 _ hFj
               have c2' := HRA.out j
               generalize ((m + 1 : Nat) : Int) - 1 - lastAt (made ++ [t]) (j : Int) (m + 1) = V at c1' c2'
               have q2 : (V != V) = false := by simp
               have C1 := Lib.hid c1'
               have C2 := Lib.hid c2'
               clear c1' c2'
               go_wp2_with fail
               refine C1.out.mono ?_
               rintro e w8 ⟨rfl, hF8⟩
               go_wp2_with fail
               refine (C2.out _ (hFj.trans hF8)).mono ?_
               rintro e w9 ⟨rfl, hE9⟩
               rw [hE9] at hF8
               clear hE9
               go_wp2
               go_roundw
               case rel => exact ⟨j + 1, by omega, by go_num, hFj.trans hF8⟩
               case measure => simp [intOf]; omega
             · have HS9 := Lib.hid (HS6.out.go hFj)
               clear HS6 HAG HRA hFj
               go_wp2
               go_roundw
               case rel => exact ⟨k + 1, q, g, c2, m + 1, a6, c6, lo2, made ++ [t], by omega, by omega, by go_num, rfl, by rfl, HS9⟩
               case measure => simp [intOf]; omega)
    · obtain rfl : k = n := by omega
      have hFw := HS.out.frm
      go_wp2_with (go_at_call 10; refine (known_true _).mono ?_; rintro e w8 ⟨rfl, hF8⟩)
      go_ret
      exact ⟨rfl, (hFw.trans hF8).below (Nat.le_refl _) (by simp)⟩

set_option maxRecDepth 100000 in
set_option maxHeartbeats 3200000 in
theorem walk_QueuePicks (t : Int) (_wt : (Lit.int .i64 t).wf = true) (s : Int) (_ws : (Lit.int .i64 s).wf = true) (a : Option Addr) (n c : Nat) (zs : List Int) (at' : Int) (_wa : (Lit.int .i64 at').wf = true) (w : World) (hR : IsRow .i64 w a n c zs) :
    Calls Try.prog 7 #[.int .i64 t, .int .i64 s, .slice a n c, .int .i64 at'] w (Ret (.bool true) (fun w' => Below w.heap.size w w')) := by
  obtain ⟨b, o, hL, -⟩ := li_of_row hR
  generalize zs.take n = l at hL
  clear hR
  by_cases hgood : 1 ≤ t ∧ t ≤ 8 ∧ t ≤ s ∧ s ≤ 30 ∧ n ≤ 60
  · obtain ⟨h1, h2, h3, h4, h5⟩ := hgood
    obtain ⟨k, rfl⟩ := Int.eq_ofNat_of_zero_le (show 0 ≤ t by omega)
    exact picks_core k s a n c b o l at' w hL h5 (by omega) (by omega) h3 h4
  · clear hL
    have hcond : (decide (t < 1) = true) ∨ (decide (t < 1) = false ∧ decide (8 < t) = true) ∨ (decide (t < 1) = false ∧ decide (8 < t) = false ∧ decide (s < t) = true) ∨ (decide (t < 1) = false ∧ decide (8 < t) = false ∧ decide (s < t) = false ∧ decide (30 < s) = true)
        ∨ (decide (t < 1) = false ∧ decide (8 < t) = false ∧ decide (s < t) = false ∧ decide (30 < s) = false ∧ decide ((60 : Int) < (n : Int)) = true) := by
      simp only [decide_eq_true_eq, decide_eq_false_iff_not]
      omega
    clear hgood
    rcases hcond with d1 | ⟨d1, d2⟩ | ⟨d1, d2, d3⟩ | ⟨d1, d2, d3, d4⟩ | ⟨d1, d2, d3, d4, d5⟩
    all_goals
      go_enter Try.func7, Try.ntmps7
      go_wp2_with (go_at_call 10; refine (known_true _).mono ?_; rintro e w1 ⟨rfl, hF⟩)
      go_ret
      exact ⟨rfl, hF.below (Nat.le_refl _) (by simp)⟩
end Go.Proofs.Ytjgnmmlbnkmgfaa
