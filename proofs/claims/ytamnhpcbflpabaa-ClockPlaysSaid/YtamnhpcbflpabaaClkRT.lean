/- The reference's clock: Set sets. -/
import Derived.Test.YtamnhpcbflpabaaClkRS
import Derived.Deep.DrawnRows
namespace Go.Proofs.Ytamnhpcbflpabaa
open Go.ChangeShapes Go.WideShapes Go.ChangeAt Go.RowKit

theorem als_one {w : World} {g : Nat} {id at' : Int} (hG : w.heap[g]? = some (.cells #[.int .i64 id, .int .i64 at'] 47 (0, 0))) : Als w (.slice (some ⟨g, 0, none⟩) 1 1) [(id, at')] :=
  als_given (l := [(id, at')]) rfl hG (by simp)

theorem als_take {w : World} {d o c P : Nat} {l : List Al} (hA : Als w (.slice (some ⟨d, o, none⟩) l.length c) l) (hP : P ≤ l.length) : Als w (.slice (some ⟨d, o, none⟩) P c) (l.take P) := by
  rcases hA with ⟨hv, _⟩ | ⟨d', o', c', hv, q1, q2, q3, q4⟩
  · cases hv
  · cases hv
    have hlen : (l.take P).length = P := by rw [List.length_take]; omega
    refine .inr ⟨d, o, c, by rw [hlen], by omega, q2, q3, fun j u hj => ?_⟩
    rw [flat_take, List.getElem?_take] at hj
    split at hj
    · exact q4 j u hj
    · cases hj
theorem als_drop {w : World} {d o c P o2 n2 c2 : Nat} {l : List Al} (hA : Als w (.slice (some ⟨d, o, none⟩) l.length c) l) (hP : P ≤ l.length) (ho : o2 = o + P * 2 ∨ P = l.length) (hn : n2 = l.length - P) (hc : c2 = c - P) : Als w (.slice (some ⟨d, o2, none⟩) n2 c2) (l.drop P) := by
  rcases hA with ⟨hv, _⟩ | ⟨d', o', c', hv, q1, q2, q3, q4⟩
  · cases hv
  · cases hv
    have hlen : (l.drop P).length = n2 := by rw [List.length_drop, hn]
    refine .inr ⟨d, o2, c2, by rw [hlen], by omega, by omega, q3, fun j u hj => ?_⟩
    have hjl := some_lt hj
    rw [hlen] at hjl
    rcases ho with rfl | rfl
    · rw [flat_drop, List.getElem?_drop] at hj
      rw [Nat.add_assoc]; exact q4 _ u hj
    · omega

theorem rset_end {w w1 w4 : World} {t6 nz nz' zc : Nat} {za : Option Addr} {now : Int} {u0 u1 : Value} {L : List Al} (hF : Frm [] w w1) (h6 : w.heap.size ≤ t6) (h61 : t6 < w1.heap.size) (hS : Frm [t6] w1 w4)
    (hT : w4.heap[t6]? = some (.cells #[u0, u1] 35 (0, 0))) (hR : Row w1.heap.size w4 za nz' zc L) (hn : nz' = nz) :
    ((w4.setCell ⟨t6, 0, none⟩ (.int .i64 now)).setCell ⟨t6, 1, none⟩ (.slice za nz zc)).cell? ⟨t6, 0, none⟩ = some (.int .i64 now) ∧
    ((w4.setCell ⟨t6, 0, none⟩ (.int .i64 now)).setCell ⟨t6, 1, none⟩ (.slice za nz zc)).cell? ⟨t6, 1, none⟩ = some (.slice za nz zc) ∧
    Frm [] w ((w4.setCell ⟨t6, 0, none⟩ (.int .i64 now)).setCell ⟨t6, 1, none⟩ (.slice za nz zc)) ∧ Als ((w4.setCell ⟨t6, 0, none⟩ (.int .i64 now)).setCell ⟨t6, 1, none⟩ (.slice za nz zc)) (.slice za nz zc) L ∧ ∀ x ∈ blk (.slice za nz zc), w.heap.size ≤ x := by
  subst hn
  have hE := setCells2 hT (.int .i64 now) (.slice za nz' zc)
  refine ⟨(cells2 hE).1, (cells2 hE).2, ((hF.trans_new hS (by simp; omega)).setCell _ _ (.inr h6)).setCell _ _ (.inr h6), ?_, fun x hx => by have h1 := (hR.blk x hx).1; have h2 := hF.size; omega⟩
  exact hR.als.frm (((Frm.refl [t6] w4).setCell _ _ (.inl (by simp))).setCell _ _ (.inl (by simp))) (fun x hx hx6 => by have h1 := (hR.blk x hx).1; rw [List.mem_singleton.1 hx6] at h1; omega)

set_option maxRecDepth 100000 in
set_option maxHeartbeats 8000000 in
theorem rset_some {w : World} {now : Int} {d o c : Nat} {l : List Al} (hA : Als w (.slice (some ⟨d, o, none⟩) l.length c) l) (hs : Sorted l) (hl : l.length < 4096) (id at' : Int) (h0 : ¬ id < 0) (ht : tk at' = true) (hh : hasB l id = false) :
    Calls Try.prog 34 #[.agg #[.int .i64 now, .slice (some ⟨d, o, none⟩) l.length c], .int .i64 id, .int .i64 at'] w (RPost w (.slice (some ⟨d, o, none⟩) l.length c) now (insN l (pos l (id, at')) (id, at')) 0) := by
  have e1 : decide (id < 0) = false := by simpa using h0
  have e2 : ((l.length : Int) == 4096) = false := by simp; omega
  have hA2 := fun o1 o2 => (hA.alloc o1).alloc o2
  have hpl := pos_le l (id, at')
  have hpi := fun (i : Nat) (x : Al) (hi : l[i]? = some x) => pos_iff hs (a := (id, at')) hi
  have hins : insN l (pos l (id, at')) (id, at') = [] ++ l.take (pos l (id, at')) ++ [(id, at')] ++ l.drop (pos l (id, at')) := by unfold insN; simp
  rw [hins]
  have hlc : l.length ≤ c ∧ c ≤ 9223372036854775807 ∧ d < w.heap.size := by
    rcases hA with ⟨hv, _⟩ | ⟨d', o', c', hv, q1, q2, q3, _⟩
    · cases hv
    · cases hv; exact ⟨q1, q2, q3⟩
  obtain ⟨hlc1, hlc2, hdl⟩ := hlc
  obtain ⟨P, hP⟩ : ∃ P, P = pos l (id, at') := ⟨_, rfl⟩
  rw [← hP] at hpl hpi ⊢
  obtain ⟨LT, hLT⟩ : ∃ LT, LT = l.take P := ⟨_, rfl⟩
  obtain ⟨LD, hLD⟩ : ∃ LD, LD = l.drop P := ⟨_, rfl⟩
  rw [← hLT, ← hLD]
  have HLTE := Lib.hid hLT
  have HLDE := Lib.hid hLD
  clear hLT hLD
  have HT := Lib.hid ht
  have HH := Lib.hid hh
  have HP := Lib.hid hpi
  clear ht hh hpi hP hins
  go_enter Try.func34, Try.ntmps34
  go_wp2_with fail
  refine (rtick_any _ _).mono ?_
  rintro e w' ⟨rfl, rfl⟩
  rw [HT.out]
  go_wp2_with fail
  refine (has_any (hA2 _ _) (by omega) id).mono ?_
  rintro e w1 ⟨rfl, hF1⟩
  rw [HH.out]
  have hT3 : w1.heap[w.heap.size]? = some (.cells #[.int .i64 now, .slice (some ⟨d, o, none⟩) l.length c] 35 (0, 0)) := hF1.heap (heap_alloc_old _ (heap_alloc_new w _)) (by simp)
  have hT6 : w1.heap[w.heap.size + 1]? = some (.cells #[.int .i64 0, .slice none 0 0] 35 (0, 0)) := hF1.heap (heap_alloc_at _ (by simp)) (by simp)
  have hF : Frm [] w w1 := (((Frm.refl _ w).alloc _).alloc _).trans hF1
  have hA1 := (hA2 _ _).frm hF1 (by simp)
  have hs1 : w.heap.size + 1 < w1.heap.size := lt_of_heap hT6
  obtain ⟨k1, k2, k3, k4⟩ := rclock_cells hT3
  have HT3 := Lib.hid hT3
  have HT6 := Lib.hid hT6
  clear hT3 hT6 hF1 hA2
  have hcell : ∀ (i : Nat) (x : Al), l[i]? = some x → w1.cell? ⟨d, o + i * 2, none⟩ = some (.int .i64 x.1) ∧ w1.cell? ⟨d, o + i * 2 + 1, none⟩ = some (.int .i64 x.2) := by
    obtain ⟨b, o', c', hv, hr⟩ := als_cells hA1
    rcases hv with hv | ⟨_, hv⟩
    · cases hv; exact hr
    · cases hv
  have HC := Lib.hid hcell
  clear hcell
  go_wp2_with fail
  go_loop [8] (fun i => ∃ k : Nat, k ≤ P ∧ i = .int .i64 k) (fun i => l.length - (intOf i).toNat)
  case atStart => exact ⟨0, by omega, rfl⟩
  case round =>
    obtain ⟨k, hk, rfl⟩ := hrel
    have hb0 : (0 : Int) ≤ (k : Int) := by omega
    by_cases hkP : k < P
    · have hb1 : (k : Int) < (l.length : Int) := by omega
      have hbd : decide (k < l.length) = true := by simp; omega
      have hx : l[k]? = some (l[k]'(by omega)) := List.getElem?_eq_getElem _
      generalize (l[k]'(by omega)) = x at hx
      obtain ⟨x1, x2⟩ := x
      obtain ⟨c1, c2⟩ := HC.out k _ hx
      have hlt := (HP.out k _ hx).2 hkP
      rw [ltb_iff] at hlt
      clear hx
      by_cases f0 : x2 < at'
      · have f1 : decide (x2 < at') = true := by simpa using f0
        clear hlt
        go_wp2
        go_round
        case rel => exact ⟨k + 1, by omega, by go_num⟩
        case measure => simp [intOf]; omega
      · have f1 : decide (x2 < at') = false := by simpa using f0
        have f2 : (x2 == at') = true := by simp; simp only [] at hlt; omega
        have f3 : decide (x1 < id) = true := by simp; simp only [] at hlt; omega
        clear hlt f0
        go_wp2
        go_round
        case rel => exact ⟨k + 1, by omega, by go_num⟩
        case measure => simp [intOf]; omega
    · obtain rfl : P = k := by omega
      by_cases hPl : P < l.length
      · have hb1 : (P : Int) < (l.length : Int) := by omega
        have hbd : decide (P < l.length) = true := by simp; omega
        have hx : l[P]? = some (l[P]'(by omega)) := List.getElem?_eq_getElem _
        generalize (l[P]'(by omega)) = x at hx
        obtain ⟨x1, x2⟩ := x
        obtain ⟨c1, c2⟩ := HC.out P _ hx
        have hlt := mt (HP.out P _ hx).1 (by omega)
        rw [ltb_iff] at hlt
        simp only [] at hlt
        have hcP : ¬ c = P := by omega
        have f1 : decide (x2 < at') = false := decide_eq_false (by omega)
        clear hx
        by_cases f0 : x2 = at'
        · have f2 : (x2 == at') = true := by simpa using f0
          have f3 : decide (x1 < id) = false := decide_eq_false (by omega)
          clear hlt f0
          go_wp2_with fail
          have hTk : Als w1 (.slice (some ⟨d, o, none⟩) P c) LT := by rw [HLTE.out]; exact als_take hA1 hpl
          have hDr : Als w1 (.slice (some ⟨d, o + P * 2, none⟩) (l.length - P) (c - P)) LD := by rw [HLDE.out]; exact als_drop hA1 hpl (.inl rfl) (by omega) (by omega)
          have hlT : LT.length = P := by rw [HLTE.out, List.length_take]; omega
          have hlD : LD.length ≤ 4096 := by rw [HLDE.out, List.length_drop]; omega
          have kc := fun w' (hq : Frm [w.heap.size + 1] w1 w') => cells2 (hq.heap HT3.out (by simp))
          have hpos1 : (P : Int) ≤ (c : Int) := by omega
          have hpos2 : (P : Int) ≤ (l.length : Int) := by omega
          have hd6 : d ≠ w.heap.size + 1 := by omega
          have hT6 := HT6.out
          have HLT := Lib.hid hlT
          have HTk := Lib.hid hTk
          have HDr := Lib.hid hDr
          clear hlT hTk hDr HC
          go_region_held3 (fun w' => Frm [w.heap.size + 1] w1 w')
            ((repeat' (first | assumption | exact Frm.refl _ _ | apply Frm.drew | apply Frm.alloc | (refine Frm.setCell ?_ _ _ (.inl (by simp))))))
            (first
              | (refine step_app rfl (.const (.slice none 0 0)) (.tmp 68) rfl (B := w1.heap.size) (a := none) (n := 0) (c := 0) (l := []) (l2 := LT) (sv := .slice (some ⟨d, o, none⟩) P c) (by simp [Act.eval]) (by simp [Act.eval]) (Row.nil _ _) (HTk.out.frm (by assumption) (by simp [blk]; exact hd6)) (by have := HLT.out; simp; omega) (by have hq : Frm [w.heap.size + 1] w1 _ := (by assumption); exact hq.size) ?_; intro xa xc w2 hR1 hG1; have hS1 : Frm [w.heap.size + 1] w1 w2 := Frm.trans (by assumption) (hG1.weak (by simp [blk])); have hT6 := hG1.heap (by first | exact hT6 | exact heap_alloc_old _ hT6) (by simp [blk]); try (have hH := hG1.heap (heap_alloc_new _ _) (by simp [blk])))
              | (refine step_app rfl (.tmp 69) (.tmp 73) rfl (B := w1.heap.size) (a := xa) (n := 0 + LT.length) (c := xc) (l := [] ++ LT) (l2 := [(id, at')]) (by simp [Act.eval]) (by simp [Act.eval]; rfl) (by first | exact hR1 | exact hR1.frm ((Frm.refl [] _).alloc _) (by simp)) (als_one (by first | exact heap_alloc_new _ _ | exact hH)) (by have := HLT.out; simp; omega) (by have hq : Frm [w.heap.size + 1] w1 _ := (by assumption); exact hq.size) ?_; intro ya yc w3 hR2 hG2; have hb1' := hR1.blk; have hS2 : Frm [w.heap.size + 1] w1 w3 := Frm.trans_new (by assumption) hG2 (fun x hx => .inr (hb1' x hx).1); have hT6 := hG2.heap (by first | exact hT6 | exact heap_alloc_old _ hT6) (fun hx => by have := (hb1' _ hx).1; omega))
              | (refine step_app rfl (.tmp 74) (.tmp 78) rfl (B := w1.heap.size) (a := ya) (n := 0 + LT.length + [(id, at')].length) (c := yc) (l := [] ++ LT ++ [(id, at')]) (l2 := LD) (sv := .slice (some ⟨d, o + P * 2, none⟩) (l.length - P) (c - P)) (by simp [Act.eval]) (by simp [Act.eval]) hR2 (HDr.out.frm (by assumption) (by simp [blk]; exact hd6)) (by have := HLT.out; simp; omega) (by have hq : Frm [w.heap.size + 1] w1 _ := (by assumption); exact hq.size) ?_; intro za zc w4 hR3 hG3; have hb2' := hR2.blk; have hS3 : Frm [w.heap.size + 1] w1 w4 := Frm.trans_new (by assumption) hG3 (fun x hx => .inr (hb2' x hx).1); have hT6 := hG3.heap hT6 (fun hx => by have := (hb2' _ hx).1; omega); obtain ⟨t0, t1, tf0, tf1⟩ := rclock_cells hT6; have hsz4 := lt_of_heap hT6))
          all_goals
            go_wp2
            obtain ⟨r0, r1, q1, q2, q3⟩ := rset_end (t6 := w.heap.size + 1) (now := now) (nz := LT.length + 1 + LD.length) hF (by omega) hs1 hS3 hT6 hR3 (by simp)
            generalize ((w4.setCell ⟨w.heap.size + 1, 0, none⟩ (.int .i64 now)).setCell ⟨w.heap.size + 1, 1, none⟩ (.slice za (LT.length + 1 + LD.length) zc)) = W at r0 r1 q1 q2 ⊢
            refine bodyPost_ret (v := .tuple #[.agg #[.int .i64 now, .slice za (LT.length + 1 + LD.length) zc], .int .i64 0]) (by simp [results, Try.results34, go_sem, r0, r1]) rfl ⟨za, _, zc, rfl, q1, by simpa using q2, fun x hx => .inr (q3 x hx)⟩
        · have f2 : (x2 == at') = false := by simpa using f0
          clear hlt f0
          go_wp2_with fail
          have hTk : Als w1 (.slice (some ⟨d, o, none⟩) P c) LT := by rw [HLTE.out]; exact als_take hA1 hpl
          have hDr : Als w1 (.slice (some ⟨d, o + P * 2, none⟩) (l.length - P) (c - P)) LD := by rw [HLDE.out]; exact als_drop hA1 hpl (.inl rfl) (by omega) (by omega)
          have hlT : LT.length = P := by rw [HLTE.out, List.length_take]; omega
          have hlD : LD.length ≤ 4096 := by rw [HLDE.out, List.length_drop]; omega
          have kc := fun w' (hq : Frm [w.heap.size + 1] w1 w') => cells2 (hq.heap HT3.out (by simp))
          have hpos1 : (P : Int) ≤ (c : Int) := by omega
          have hpos2 : (P : Int) ≤ (l.length : Int) := by omega
          have hd6 : d ≠ w.heap.size + 1 := by omega
          have hT6 := HT6.out
          have HLT := Lib.hid hlT
          have HTk := Lib.hid hTk
          have HDr := Lib.hid hDr
          clear hlT hTk hDr HC
          go_region_held3 (fun w' => Frm [w.heap.size + 1] w1 w')
            ((repeat' (first | assumption | exact Frm.refl _ _ | apply Frm.drew | apply Frm.alloc | (refine Frm.setCell ?_ _ _ (.inl (by simp))))))
            (first
              | (refine step_app rfl (.const (.slice none 0 0)) (.tmp 68) rfl (B := w1.heap.size) (a := none) (n := 0) (c := 0) (l := []) (l2 := LT) (sv := .slice (some ⟨d, o, none⟩) P c) (by simp [Act.eval]) (by simp [Act.eval]) (Row.nil _ _) (HTk.out.frm (by assumption) (by simp [blk]; exact hd6)) (by have := HLT.out; simp; omega) (by have hq : Frm [w.heap.size + 1] w1 _ := (by assumption); exact hq.size) ?_; intro xa xc w2 hR1 hG1; have hS1 : Frm [w.heap.size + 1] w1 w2 := Frm.trans (by assumption) (hG1.weak (by simp [blk])); have hT6 := hG1.heap (by first | exact hT6 | exact heap_alloc_old _ hT6) (by simp [blk]); try (have hH := hG1.heap (heap_alloc_new _ _) (by simp [blk])))
              | (refine step_app rfl (.tmp 69) (.tmp 73) rfl (B := w1.heap.size) (a := xa) (n := 0 + LT.length) (c := xc) (l := [] ++ LT) (l2 := [(id, at')]) (by simp [Act.eval]) (by simp [Act.eval]; rfl) (by first | exact hR1 | exact hR1.frm ((Frm.refl [] _).alloc _) (by simp)) (als_one (by first | exact heap_alloc_new _ _ | exact hH)) (by have := HLT.out; simp; omega) (by have hq : Frm [w.heap.size + 1] w1 _ := (by assumption); exact hq.size) ?_; intro ya yc w3 hR2 hG2; have hb1' := hR1.blk; have hS2 : Frm [w.heap.size + 1] w1 w3 := Frm.trans_new (by assumption) hG2 (fun x hx => .inr (hb1' x hx).1); have hT6 := hG2.heap (by first | exact hT6 | exact heap_alloc_old _ hT6) (fun hx => by have := (hb1' _ hx).1; omega))
              | (refine step_app rfl (.tmp 74) (.tmp 78) rfl (B := w1.heap.size) (a := ya) (n := 0 + LT.length + [(id, at')].length) (c := yc) (l := [] ++ LT ++ [(id, at')]) (l2 := LD) (sv := .slice (some ⟨d, o + P * 2, none⟩) (l.length - P) (c - P)) (by simp [Act.eval]) (by simp [Act.eval]) hR2 (HDr.out.frm (by assumption) (by simp [blk]; exact hd6)) (by have := HLT.out; simp; omega) (by have hq : Frm [w.heap.size + 1] w1 _ := (by assumption); exact hq.size) ?_; intro za zc w4 hR3 hG3; have hb2' := hR2.blk; have hS3 : Frm [w.heap.size + 1] w1 w4 := Frm.trans_new (by assumption) hG3 (fun x hx => .inr (hb2' x hx).1); have hT6 := hG3.heap hT6 (fun hx => by have := (hb2' _ hx).1; omega); obtain ⟨t0, t1, tf0, tf1⟩ := rclock_cells hT6; have hsz4 := lt_of_heap hT6))
          all_goals
            go_wp2
            obtain ⟨r0, r1, q1, q2, q3⟩ := rset_end (t6 := w.heap.size + 1) (now := now) (nz := LT.length + 1 + LD.length) hF (by omega) hs1 hS3 hT6 hR3 (by simp)
            generalize ((w4.setCell ⟨w.heap.size + 1, 0, none⟩ (.int .i64 now)).setCell ⟨w.heap.size + 1, 1, none⟩ (.slice za (LT.length + 1 + LD.length) zc)) = W at r0 r1 q1 q2 ⊢
            refine bodyPost_ret (v := .tuple #[.agg #[.int .i64 now, .slice za (LT.length + 1 + LD.length) zc], .int .i64 0]) (by simp [results, Try.results34, go_sem, r0, r1]) rfl ⟨za, _, zc, rfl, q1, by simpa using q2, fun x hx => .inr (q3 x hx)⟩
      · have hbd : decide (P < l.length) = false := by simp; omega
        have hPe : P = l.length := by omega
        by_cases hcP : c = P
        · have HPE := Lib.hid hPe
          clear hPe
          have hcP' := hcP.symm
          clear hcP
          subst hcP'
          go_wp2_with fail
          have hTk : Als w1 (.slice (some ⟨d, o, none⟩) P P) LT := by rw [HLTE.out]; exact als_take hA1 hpl
          have hDr : Als w1 (.slice (some ⟨d, o, none⟩) (0) (0)) LD := by rw [HLDE.out]; exact als_drop hA1 hpl (.inr HPE.out) (by have := HPE.out; omega) (by omega)
          have hlT : LT.length = P := by rw [HLTE.out, List.length_take]; omega
          have hlD : LD.length ≤ 4096 := by rw [HLDE.out, List.length_drop]; omega
          have kc := fun w' (hq : Frm [w.heap.size + 1] w1 w') => cells2 (hq.heap HT3.out (by simp))
          have hpos1 : (P : Int) ≤ (P : Int) := by omega
          have hpos2 : (P : Int) ≤ (l.length : Int) := by omega
          have hd6 : d ≠ w.heap.size + 1 := by omega
          have hT6 := HT6.out
          have HLT := Lib.hid hlT
          have HTk := Lib.hid hTk
          have HDr := Lib.hid hDr
          clear hlT hTk hDr HC
          go_region_held3 (fun w' => Frm [w.heap.size + 1] w1 w')
            ((repeat' (first | assumption | exact Frm.refl _ _ | apply Frm.drew | apply Frm.alloc | (refine Frm.setCell ?_ _ _ (.inl (by simp))))))
            (first
              | (refine step_app rfl (.const (.slice none 0 0)) (.tmp 68) rfl (B := w1.heap.size) (a := none) (n := 0) (c := 0) (l := []) (l2 := LT) (sv := .slice (some ⟨d, o, none⟩) P P) (by simp [Act.eval]) (by simp [Act.eval]) (Row.nil _ _) (HTk.out.frm (by assumption) (by simp [blk]; exact hd6)) (by have := HLT.out; simp; omega) (by have hq : Frm [w.heap.size + 1] w1 _ := (by assumption); exact hq.size) ?_; intro xa xc w2 hR1 hG1; have hS1 : Frm [w.heap.size + 1] w1 w2 := Frm.trans (by assumption) (hG1.weak (by simp [blk])); have hT6 := hG1.heap (by first | exact hT6 | exact heap_alloc_old _ hT6) (by simp [blk]); try (have hH := hG1.heap (heap_alloc_new _ _) (by simp [blk])))
              | (refine step_app rfl (.tmp 69) (.tmp 73) rfl (B := w1.heap.size) (a := xa) (n := 0 + LT.length) (c := xc) (l := [] ++ LT) (l2 := [(id, at')]) (by simp [Act.eval]) (by simp [Act.eval]; rfl) (by first | exact hR1 | exact hR1.frm ((Frm.refl [] _).alloc _) (by simp)) (als_one (by first | exact heap_alloc_new _ _ | exact hH)) (by have := HLT.out; simp; omega) (by have hq : Frm [w.heap.size + 1] w1 _ := (by assumption); exact hq.size) ?_; intro ya yc w3 hR2 hG2; have hb1' := hR1.blk; have hS2 : Frm [w.heap.size + 1] w1 w3 := Frm.trans_new (by assumption) hG2 (fun x hx => .inr (hb1' x hx).1); have hT6 := hG2.heap (by first | exact hT6 | exact heap_alloc_old _ hT6) (fun hx => by have := (hb1' _ hx).1; omega))
              | (refine step_app rfl (.tmp 74) (.tmp 78) rfl (B := w1.heap.size) (a := ya) (n := 0 + LT.length + [(id, at')].length) (c := yc) (l := [] ++ LT ++ [(id, at')]) (l2 := LD) (sv := .slice (some ⟨d, o, none⟩) (0) (0)) (by simp [Act.eval]) (by simp [Act.eval]) hR2 (HDr.out.frm (by assumption) (by simp [blk]; exact hd6)) (by have := HLT.out; simp; omega) (by have hq : Frm [w.heap.size + 1] w1 _ := (by assumption); exact hq.size) ?_; intro za zc w4 hR3 hG3; have hb2' := hR2.blk; have hS3 : Frm [w.heap.size + 1] w1 w4 := Frm.trans_new (by assumption) hG3 (fun x hx => .inr (hb2' x hx).1); have hT6 := hG3.heap hT6 (fun hx => by have := (hb2' _ hx).1; omega); obtain ⟨t0, t1, tf0, tf1⟩ := rclock_cells hT6; have hsz4 := lt_of_heap hT6))
          all_goals
            go_wp2
            obtain ⟨r0, r1, q1, q2, q3⟩ := rset_end (t6 := w.heap.size + 1) (now := now) (nz := LT.length + 1 + LD.length) hF (by omega) hs1 hS3 hT6 hR3 (by simp)
            generalize ((w4.setCell ⟨w.heap.size + 1, 0, none⟩ (.int .i64 now)).setCell ⟨w.heap.size + 1, 1, none⟩ (.slice za (LT.length + 1 + LD.length) zc)) = W at r0 r1 q1 q2 ⊢
            refine bodyPost_ret (v := .tuple #[.agg #[.int .i64 now, .slice za (LT.length + 1 + LD.length) zc], .int .i64 0]) (by simp [results, Try.results34, go_sem, r0, r1]) rfl ⟨za, _, zc, rfl, q1, by simpa using q2, fun x hx => .inr (q3 x hx)⟩
        · have HPE := Lib.hid hPe
          clear hPe
          go_wp2_with fail
          have hTk : Als w1 (.slice (some ⟨d, o, none⟩) P c) LT := by rw [HLTE.out]; exact als_take hA1 hpl
          have hDr : Als w1 (.slice (some ⟨d, o + P * 2, none⟩) (l.length - P) (c - P)) LD := by rw [HLDE.out]; exact als_drop hA1 hpl (.inl rfl) (by omega) (by omega)
          have hlT : LT.length = P := by rw [HLTE.out, List.length_take]; omega
          have hlD : LD.length ≤ 4096 := by rw [HLDE.out, List.length_drop]; omega
          have kc := fun w' (hq : Frm [w.heap.size + 1] w1 w') => cells2 (hq.heap HT3.out (by simp))
          have hpos1 : (P : Int) ≤ (c : Int) := by omega
          have hpos2 : (P : Int) ≤ (l.length : Int) := by omega
          have hd6 : d ≠ w.heap.size + 1 := by omega
          have hT6 := HT6.out
          have HLT := Lib.hid hlT
          have HTk := Lib.hid hTk
          have HDr := Lib.hid hDr
          clear hlT hTk hDr HC
          go_region_held3 (fun w' => Frm [w.heap.size + 1] w1 w')
            ((repeat' (first | assumption | exact Frm.refl _ _ | apply Frm.drew | apply Frm.alloc | (refine Frm.setCell ?_ _ _ (.inl (by simp))))))
            (first
              | (refine step_app rfl (.const (.slice none 0 0)) (.tmp 68) rfl (B := w1.heap.size) (a := none) (n := 0) (c := 0) (l := []) (l2 := LT) (sv := .slice (some ⟨d, o, none⟩) P c) (by simp [Act.eval]) (by simp [Act.eval]) (Row.nil _ _) (HTk.out.frm (by assumption) (by simp [blk]; exact hd6)) (by have := HLT.out; simp; omega) (by have hq : Frm [w.heap.size + 1] w1 _ := (by assumption); exact hq.size) ?_; intro xa xc w2 hR1 hG1; have hS1 : Frm [w.heap.size + 1] w1 w2 := Frm.trans (by assumption) (hG1.weak (by simp [blk])); have hT6 := hG1.heap (by first | exact hT6 | exact heap_alloc_old _ hT6) (by simp [blk]); try (have hH := hG1.heap (heap_alloc_new _ _) (by simp [blk])))
              | (refine step_app rfl (.tmp 69) (.tmp 73) rfl (B := w1.heap.size) (a := xa) (n := 0 + LT.length) (c := xc) (l := [] ++ LT) (l2 := [(id, at')]) (by simp [Act.eval]) (by simp [Act.eval]; rfl) (by first | exact hR1 | exact hR1.frm ((Frm.refl [] _).alloc _) (by simp)) (als_one (by first | exact heap_alloc_new _ _ | exact hH)) (by have := HLT.out; simp; omega) (by have hq : Frm [w.heap.size + 1] w1 _ := (by assumption); exact hq.size) ?_; intro ya yc w3 hR2 hG2; have hb1' := hR1.blk; have hS2 : Frm [w.heap.size + 1] w1 w3 := Frm.trans_new (by assumption) hG2 (fun x hx => .inr (hb1' x hx).1); have hT6 := hG2.heap (by first | exact hT6 | exact heap_alloc_old _ hT6) (fun hx => by have := (hb1' _ hx).1; omega))
              | (refine step_app rfl (.tmp 74) (.tmp 78) rfl (B := w1.heap.size) (a := ya) (n := 0 + LT.length + [(id, at')].length) (c := yc) (l := [] ++ LT ++ [(id, at')]) (l2 := LD) (sv := .slice (some ⟨d, o + P * 2, none⟩) (l.length - P) (c - P)) (by simp [Act.eval]) (by simp [Act.eval]) hR2 (HDr.out.frm (by assumption) (by simp [blk]; exact hd6)) (by have := HLT.out; simp; omega) (by have hq : Frm [w.heap.size + 1] w1 _ := (by assumption); exact hq.size) ?_; intro za zc w4 hR3 hG3; have hb2' := hR2.blk; have hS3 : Frm [w.heap.size + 1] w1 w4 := Frm.trans_new (by assumption) hG3 (fun x hx => .inr (hb2' x hx).1); have hT6 := hG3.heap hT6 (fun hx => by have := (hb2' _ hx).1; omega); obtain ⟨t0, t1, tf0, tf1⟩ := rclock_cells hT6; have hsz4 := lt_of_heap hT6))
          all_goals
            go_wp2
            obtain ⟨r0, r1, q1, q2, q3⟩ := rset_end (t6 := w.heap.size + 1) (now := now) (nz := LT.length + 1 + LD.length) hF (by omega) hs1 hS3 hT6 hR3 (by simp)
            generalize ((w4.setCell ⟨w.heap.size + 1, 0, none⟩ (.int .i64 now)).setCell ⟨w.heap.size + 1, 1, none⟩ (.slice za (LT.length + 1 + LD.length) zc)) = W at r0 r1 q1 q2 ⊢
            refine bodyPost_ret (v := .tuple #[.agg #[.int .i64 now, .slice za (LT.length + 1 + LD.length) zc], .int .i64 0]) (by simp [results, Try.results34, go_sem, r0, r1]) rfl ⟨za, _, zc, rfl, q1, by simpa using q2, fun x hx => .inr (q3 x hx)⟩

end Go.Proofs.Ytamnhpcbflpabaa
