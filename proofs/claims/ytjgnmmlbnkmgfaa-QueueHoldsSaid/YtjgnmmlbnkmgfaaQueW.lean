/- Layer 3: the walk of QueueHolds. -/
import Derived.Test.YtjgnmmlbnkmgfaaQueV
namespace Go.Proofs.Ytjgnmmlbnkmgfaa
open Go.ChangeShapes Go.WideShapes Go.ChangeAt Go.RowKit

/-- What is known behind k picks. -/
structure HI (t : Nat) (s : Int) (k : Nat) (l : List Al) (made : List Int) : Prop where
  inv : Inv made t s l
  often : Often made t s
  len : made.length = k
  rng : ∀ x ∈ made, 0 ≤ x ∧ x < (t : Int)
  rot : s = t → Rot l t k ∧ made = rnd t k
theorem HI.zero (t : Nat) (s : Int) (ht : 1 ≤ t) (hs : (t : Int) ≤ s) : HI t s 0 (l0 t) [] :=
  ⟨l0_inv t s hs, Often.nil t s (by omega), rfl, fun x hx => by simp at hx, fun _ => ⟨Rot.zero t, rfl⟩⟩
theorem HI.step {t : Nat} {s : Int} {k : Nat} {l : List Al} {made : List Int} (h : HI t s k l made) (ht : 1 ≤ t) (hs : (t : Int) ≤ s) {x : Int} (h0 : 0 ≤ x) (h1 : x < (t : Int)) :
    0 ≤ idx l x ∧ 0 ≤ nxT l s k x ∧ nxT l s k x < t ∧ HI t s (k + 1) (nxL l s k x) (made ++ [nxT l s k x]) := by
  obtain ⟨inv, often, rfl, rng, rot⟩ := h
  obtain ⟨g0, g1, g2, g3⟩ := inv.next h0 h1 hs
  refine ⟨g0, g1, g2, g3, often.snoc g3, by simp, fun y hy => ?_, fun e => ?_⟩
  · rcases List.mem_append.1 hy with hy | hy
    · exact rng y hy
    · rw [List.mem_singleton] at hy; subst hy; exact ⟨g1, g2⟩
  · subst e
    obtain ⟨r1, r2⟩ := rot rfl
    exact rot_next inv ht r1 r2 x
theorem cnt_cons (y : Int) (l : List Int) (x : Int) : cnt (y :: l) x = cnt l x + if y = x then 1 else 0 := by
  unfold cnt
  rw [List.count_cons]
  by_cases h : y = x <;> simp [h]
theorem sum_cons (y : Int) (l : List Int) : ∀ t : Nat, (cnts (y :: l) t).sum = (cnts l t).sum + if 0 ≤ y ∧ y < (t : Int) then 1 else 0
  | 0 => by rw [if_neg (by omega)]; rfl
  | t + 1 => by
    have ih := sum_cons y l t
    have e : ∀ m : List Int, (cnts m (t + 1)).sum = (cnts m t).sum + cnt m t := by
      intro m; unfold cnts; rw [List.range_succ, List.map_append, List.sum_append]; simp
    rw [e, e, ih, cnt_cons]
    by_cases h1 : 0 ≤ y ∧ y < (t : Int)
    · rw [if_pos h1, if_neg (by omega), if_pos (by omega)]; omega
    · rw [if_neg h1]
      by_cases h2 : y = (t : Int)
      · rw [if_pos h2, if_pos (by omega)]; omega
      · rw [if_neg h2, if_neg (by omega)]; omega
theorem sum_zeros : ∀ t : Nat, (List.replicate t (0 : Int)).sum = 0
  | 0 => rfl
  | t + 1 => by rw [List.replicate_succ, List.sum_cons, sum_zeros t]; rfl
theorem sum_all (t : Nat) : ∀ l : List Int, (∀ x ∈ l, 0 ≤ x ∧ x < (t : Int)) → (cnts l t).sum = l.length
  | [], _ => by
    rw [cnts_nil]
    exact sum_zeros t
  | y :: l, h => by
    rw [sum_cons, sum_all t l (fun x hx => h x (List.mem_cons_of_mem _ hx)), if_pos (h y List.mem_cons_self)]
    simp
theorem take_sum {l : List Int} {j : Nat} {x : Int} (h : l[j]? = some x) : (l.take (j + 1)).sum = (l.take j).sum + x := by
  obtain ⟨hj, rfl⟩ := List.getElem?_eq_some_iff.1 h
  rw [List.take_succ_eq_append_getElem hj, List.sum_append]; simp
theorem take_bd {l : List Int} {B : Int} (h : ∀ x ∈ l, 0 ≤ x ∧ x ≤ B) (hB : 0 ≤ B) : ∀ j : Nat, 0 ≤ (l.take j).sum ∧ (l.take j).sum ≤ j * B
  | 0 => by simp
  | j + 1 => by
    have ih := take_bd h hB j
    by_cases hj : j < l.length
    · have e : l[j]? = some l[j] := List.getElem?_eq_getElem hj
      rw [take_sum e]
      have := h _ (List.getElem_mem hj)
      have e2 : ((j + 1 : Nat) : Int) * B = (j : Int) * B + B := by rw [Int.natCast_add, Int.add_mul]; simp
      omega
    · rw [List.take_of_length_le (by omega)]
      rw [List.take_of_length_le (by omega)] at ih
      have e2 : ((j + 1 : Nat) : Int) * B = (j : Int) * B + B := by rw [Int.natCast_add, Int.add_mul]; simp
      omega

set_option maxRecDepth 100000 in
set_option maxHeartbeats 6400000 in
theorem holds_core (t : Nat) (more : Int) (a : Option Addr) (n c b o : Nat) (l : List Int) (w : World) (hL : Li .u8 w a n c b o l) (hw : ∀ x ∈ l, 0 ≤ x ∧ x ≤ 255) (hn : n ≤ 300) (ht : mb (t : Int) = true) (hm0 : 0 ≤ more) (hm1 : more ≤ 200) :
    Calls Try.prog 9 #[.int .i64 (t : Int), .int .i64 more, .slice a n c] w (Ret (.bool true) (fun w' => Below w.heap.size w w')) := by
  obtain ⟨t0, t1⟩ := mb_iff.1 ht
  have d1 : decide ((t : Int) < 1) = false := by simp; omega
  have d2 : decide ((64 : Int) < (t : Int)) = false := by simp; omega
  have d3 : decide (more < 0) = false := by simp; omega
  have d4 : decide (200 < more) = false := by simp; omega
  have d5 : decide ((300 : Int) < (n : Int)) = false := by simp; omega
  obtain ⟨s, hs⟩ : ∃ s, s = (t : Int) + more := ⟨_, rfl⟩
  have hnew := new_ok w t s ht (by omega) (by omega)
  have hts : (t : Int) ≤ s := by omega
  have hs1 : s ≤ 300 := by omega
  have ht1 : 1 ≤ t := by omega
  have ht2 : t ≤ 64 := by omega
  have HL := Lib.hid hL
  have HW := Lib.hid hw
  have HT := Lib.hid ht
  have HN := Lib.hid hnew
  have HS := Lib.hid hs
  clear hL hw ht hnew hs
  go_enter Try.func9, Try.ntmps9
  go_wp2_with fail
  rw [← HS.out]
  refine HN.out.mono ?_
  rintro e w1 ⟨p, d, rfl, hF1, hP1, hp, hd⟩
  have hpl := hP1.plt
  have hdl := hP1.dlt
  obtain ⟨B, hB⟩ : ∃ B, B = w1.heap.size := ⟨_, rfl⟩
  have hpB : p < B := by omega
  have hdB : d < B := by omega
  have hwB : w.heap.size ≤ B := by rw [hB]; exact hF1.size
  have hB1 : B ≤ w1.heap.size := by omega
  have HP1 := Lib.hid hP1
  clear hP1 hpl hdl hB
  go_wp2_with fail
  go_loopw [10, 12, 13, 14, 57] (fun v _ _ _ i w' => ∃ (k : Nat) (a' : Option Addr) (c' : Nat) (lo : List Al) (made : List Int), k ≤ n ∧ i = .int .i64 k ∧ v = .slice a' k c' ∧ Frm [] w w' ∧ B ≤ w'.heap.size ∧ Hid (PickAt w' p d t t s k lo) ∧ Hid (RowI B w' a' k c' made) ∧ Hid (HI t s k lo made)) (fun _ _ _ _ i _ => n - (intOf i).toNat)
  case atStart => exact ⟨0, none, 0, _, [], by omega, rfl, rfl, hF1, hB1, HP1, Lib.hid (RowI.nil _ _), Lib.hid (HI.zero t s ht1 hts)⟩
  case round =>
    obtain ⟨k, a', c', lo, made, hk, rfl, rfl, hF, hBs, HP, HR, HH⟩ := hrel
    clear HP1 hF1 hB1
    by_cases hlt : k < n
    · have hb0 : (0 : Int) ≤ (k : Int) := by omega
      have hb1 : (k : Int) < (n : Int) := by omega
      obtain ⟨x, hx, hg, hc⟩ := (HL.out.frm0 hF).get hlt
      have hix := ix_u8 (c := c) HL.out.ad hlt
      obtain ⟨x0, x1⟩ := HW.out x (List.mem_of_getElem? hx)
      have hy0 : 0 ≤ x % (t : Int) := Int.emod_nonneg _ (by omega)
      have hy1 : x % (t : Int) < t := Int.emod_lt_of_pos _ (by omega)
      obtain ⟨g0, g1, g2, g3⟩ := HH.out.step ht1 hts hy0 hy1
      have hnx := next_ok HP.out (x % (t : Int)) g0 (by omega)
      generalize nxT lo s k (x % (t : Int)) = T at *
      generalize nxL lo s k (x % (t : Int)) = lo2 at *
      have hml := HH.out.len
      have HNX := Lib.hid hnx
      have HH2 := Lib.hid g3
      have HML := Lib.hid hml
      have e1 : decide (T < 0) = false := by simp; omega
      have e2 : decide ((t : Int) ≤ T) = false := by simp; omega
      clear hx hg g0 g3 hnx hml hy0 hy1
      go_wp2_with fail
      refine HNX.out.mono ?_
      rintro e w2 ⟨rfl, hF2, hP2⟩
      have hR2 : RowI B w2 a' k c' made := HR.out.frm hF2 (fun y hy => by have := (HR.out.blk y hy).1; simp; omega)
      have hF3 : Frm [] w w2 := hF.trans_new hF2 (fun y hy => by simp at hy; rcases hy with rfl | rfl; exact .inr hp; exact .inr hd)
      have hBs2 : B ≤ w2.heap.size := by have := hF2.size; omega
      have HR2 := Lib.hid hR2
      have HP2 := Lib.hid hP2
      have hA : made.length ≤ 100000 := by have := HML.out; omega
      clear hR2 hP2 hF2
      go_wp2_with (at_builtin; refine wpl_appI rfl (.tmp 81) (.tmp 83) rfl (B := B) (a := a') (n := k) (c := c') (l := made) (by simp [Act.eval]) (by simp [Act.eval]) (HR2.out.frm0 ((Frm.refl _ _).alloc _)) (heap_alloc_new _ _) hA (by simp; omega) ?_; intro a2 c2 w4 hR4 hF4)
      have hF5 : Frm [] w w4 := (hF3.alloc _).trans_new hF4 (fun y hy => .inr (by have := (HR2.out.blk y hy).1; omega))
      have hP4 : PickAt w4 p d t t s ((k : Int) + 1) lo2 := (HP2.out.alloc _).frm hF4 (fun hy => by have := (HR2.out.blk _ hy).1; omega) (fun hy => by have := (HR2.out.blk _ hy).1; omega)
      have hBs4 : B ≤ w4.heap.size := by have := hF4.size; simp at this; omega
      have HR4 := Lib.hid hR4
      have HP4 := Lib.hid hP4
      clear hR4 hP4 hF4
      go_wp2
      go_roundw
      case rel => exact ⟨k + 1, a2, c2, lo2, made ++ [T], by omega, by go_num, by rfl, hF5, hBs4, HP4, HR4, HH2⟩
      case measure => simp [intOf]; omega
    · obtain rfl : k = n := by omega
      obtain ⟨b2, hL2⟩ := HR.out.li
      have hml := HH.out.len
      have hck : ck made (t : Int) = 0 := ck_mk HT.out (by omega) HH.out.rng
      have hwin := HH.out.often.win ht1 (by omega) HH.out.rng
      have hwb := (win_bd (l := made) (t := t) ht1).1
      have hwin2 := (win_bd (l := made) (t := t) ht1).2
      have hsum := sum_all t made HH.out.rng
      have hcb : ∀ x ∈ cnts made t, 0 ≤ x ∧ x ≤ 300 := by
        intro x hx
        obtain ⟨i, hi, rfl⟩ := List.getElem_of_mem hx
        have := cnt_bd made (i : Int)
        simp [cnts]
        omega
      have hcl := cnts_length made t
      have hwo := fun w' (hf : Frm [] wr w') => window_ok (hL2.frm0 hf) t hck
      have hf1 := fun w' (hf : Frm [] wr w') (r : Bool) (x : Int) h1 h2 => qfair_ok (hL2.frm0 hf) t x h1 hck r h2
      have hco : ∀ w', Frm [] wr w' → Calls Try.prog 33 #[.slice a' k c', .int .i64 (t : Int)] w' (fun e w'' => ∃ g, Ret (.tuple #[.slice (some ⟨g, 0, none⟩) t t, .int .i64 0]) (fun w'' => Frm [] w' w'' ∧ Li .i64 w'' (some ⟨g, 0, none⟩) t t g 0 (cnts made t)) e w'') :=
        fun w' hf => (counts_ok (hL2.frm0 hf) t hck).mono fun e w'' hh => ⟨w'.heap.size, hh.1, hh.2.1, li_block hcl hh.2.2⟩
      have hrd := fun (e : more = 0) => (HH.out.rot (by have := HS.out; omega)).2
      have hsize := hF.size
      have HL2 := Lib.hid hL2
      have HML := Lib.hid hml
      have HWO := Lib.hid hwo
      have HF1 := Lib.hid hf1
      have HCO := Lib.hid hco
      have HSU := Lib.hid hsum
      have HCB := Lib.hid hcb
      have HCL := Lib.hid hcl
      have HRD := Lib.hid hrd
      generalize win made t = W at *
      generalize cnts made t = C at *
      clear hL2 hml hck hwo hf1 hco hsum hcb hcl hrd HP HR HH
      go_wp2_with fail
      refine (HWO.out _ (Frm.refl _ _)).mono ?_
      rintro e w2 ⟨rfl, hF2⟩
      have e1 : decide (W < 1) = false := by simp; omega
      have e2 : decide (s < W) = false := by simp; omega
      go_wp2_with fail
      refine (HF1.out _ hF2 true s (by omega) (by simpa using hwin)).mono ?_
      rintro e w3 ⟨rfl, hF3⟩
      have hF23 := hF2.trans hF3
      clear hF2 hF3
      go_wp2_with fail
      refine (HF1.out _ hF23 true W (by omega) (by simp)).mono ?_
      rintro e w4 ⟨rfl, hF4⟩
      have hF24 := hF23.trans hF4
      clear hF23 hF4
      have hcs : decide (1 < W) = true ∨ decide (1 < W) = false := by cases decide (1 < W) <;> simp
      rcases hcs with e3 | e3
      all_goals
        first
        | (have hW1 : 1 < W := by simpa using e3
           go_wp2_with fail
           refine (HF1.out _ hF24 false (W - 1) (by omega) (by simp; omega)).mono ?_
           rintro e w5 ⟨rfl, hF5⟩
           have hF25 := hF24.trans hF5
           clear hF24 hF5 hW1
           go_wp2_with fail)
        | (have hF25 := hF24
           clear hF24
           go_wp2_with fail)
        refine (HCO.out _ hF25).mono ?_
        rintro e w6 ⟨g, rfl, hF6, hLc⟩
        have hF26 := hF25.trans hF6
        have HLC := Lib.hid hLc
        clear hLc hF25 hF6
        go_wp2_with fail
        go_loop [17, 19, 143] (fun v _ i => ∃ j : Nat, j ≤ t ∧ i = .int .i64 j ∧ v = .int .i64 (C.take j).sum) (fun _ _ i => t - (intOf i).toNat)
        case atStart => exact ⟨0, by omega, rfl, by simp⟩
        case round =>
          obtain ⟨j, hj, rfl, rfl⟩ := hrel
          have hbd := take_bd HCB.out (by omega) j
          by_cases hlt2 : j < t
          · have hb0 : (0 : Int) ≤ (j : Int) := by omega
            have hb1 : (j : Int) < (t : Int) := by omega
            obtain ⟨x, hx, hgd, hc⟩ := HLC.out.get hlt2
            have hts2 := take_sum hx
            have hxb := HCB.out x (List.mem_of_getElem? hx)
            have hgl := HLC.out.lt (by omega)
            rw [Nat.zero_add] at hc
            have HTS := Lib.hid hts2
            obtain ⟨hx0, hx1⟩ := hxb
            obtain ⟨hb2, hb3⟩ := hbd
            generalize (C.take j).sum = S at *
            have hb4 : S ≤ 20000 := by omega
            clear hx hgd hts2 hb3
            go_wp2
            go_round
            case rel => exact ⟨j + 1, by omega, by go_num, by rw [HTS.out]⟩
            case measure => simp [intOf]; omega
          · obtain rfl : j = t := by omega
            have hfin : (C.take j).sum = k := by rw [List.take_of_length_le (by have := HCL.out; omega), HSU.out, HML.out]
            rw [hfin]
            have HFIN := Lib.hid hfin
            clear hfin hbd
            have q1 : ((j : Int) != (j : Int)) = false := by simp
            have q2 : ((k : Int) != (k : Int)) = false := by simp
            by_cases hmz : 0 < more
            · have q3 : decide (0 < more) = true := by simpa using hmz
              go_wp2_with (go_at_call 10; refine (known_true _).mono ?_; rintro e w8 ⟨rfl, hF8⟩)
              go_ret
              exact ⟨rfl, ((hF.trans hF26).trans hF8).below (Nat.le_refl _) (by simp)⟩
            · have q3 : decide (0 < more) = false := by simpa using hmz
              have hrd := HRD.out (by omega)
              have hL3 := HL2.out.frm0 hF26
              rw [hrd] at hL3
              have HL3 := Lib.hid hL3
              clear hrd hL3
              go_wp2_with fail
              refine (qround_ok _ j k HT.out (by omega) HL3.out).mono ?_
              rintro e w7 ⟨rfl, hF7⟩
              go_wp2_with (go_at_call 10; refine (known_true _).mono ?_; rintro e w8 ⟨rfl, hF8⟩)
              go_ret
              exact ⟨rfl, (((hF.trans hF26).trans hF7).trans hF8).below (Nat.le_refl _) (by simp)⟩

set_option maxRecDepth 100000 in
set_option maxHeartbeats 3200000 in
theorem walk_QueueHolds (t : Int) (_wt : (Lit.int .i64 t).wf = true) (more : Int) (_wm : (Lit.int .i64 more).wf = true) (a : Option Addr) (n c : Nat) (zs : List Int) (w : World) (hR : IsRow .u8 w a n c zs) :
    Calls Try.prog 9 #[.int .i64 t, .int .i64 more, .slice a n c] w (Ret (.bool true) (fun w' => Below w.heap.size w w')) := by
  obtain ⟨b, o, hL, hw⟩ := li_of_row hR
  have hw := u8_bd hw
  generalize zs.take n = l at hL hw
  clear hR
  by_cases hgood : 1 ≤ t ∧ t ≤ 64 ∧ 0 ≤ more ∧ more ≤ 200 ∧ n ≤ 300
  · obtain ⟨h1, h2, h3, h4, h5⟩ := hgood
    obtain ⟨k, rfl⟩ := Int.eq_ofNat_of_zero_le (show 0 ≤ t by omega)
    exact holds_core k more a n c b o l w hL hw h5 (mb_iff.2 ⟨h1, h2⟩) h3 h4
  · clear hL hw
    have hcond : (decide (t < 1) = true) ∨ (decide (t < 1) = false ∧ decide (64 < t) = true) ∨ (decide (t < 1) = false ∧ decide (64 < t) = false ∧ decide (more < 0) = true) ∨ (decide (t < 1) = false ∧ decide (64 < t) = false ∧ decide (more < 0) = false ∧ decide (200 < more) = true)
        ∨ (decide (t < 1) = false ∧ decide (64 < t) = false ∧ decide (more < 0) = false ∧ decide (200 < more) = false ∧ decide ((300 : Int) < (n : Int)) = true) := by
      simp only [decide_eq_true_eq, decide_eq_false_iff_not]
      omega
    clear hgood
    rcases hcond with d1 | ⟨d1, d2⟩ | ⟨d1, d2, d3⟩ | ⟨d1, d2, d3, d4⟩ | ⟨d1, d2, d3, d4, d5⟩
    all_goals
      go_enter Try.func9, Try.ntmps9
      go_wp2_with (go_at_call 10; refine (known_true _).mono ?_; rintro e w1 ⟨rfl, hF⟩)
      go_ret
      exact ⟨rfl, hF.below (Nat.le_refl _) (by simp)⟩
end Go.Proofs.Ytjgnmmlbnkmgfaa
