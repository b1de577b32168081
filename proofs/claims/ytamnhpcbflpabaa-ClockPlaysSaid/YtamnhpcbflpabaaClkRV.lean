/- The reference's clock: Clear. -/
import Derived.Test.YtamnhpcbflpabaaClkRU
import Derived.Maps.AppendAt
namespace Go.Proofs.Ytamnhpcbflpabaa
open Go.ChangeShapes Go.WideShapes Go.ChangeAt Go.RowKit

/-- append onto a row, and where the new slice lies. -/
theorem run_app2 {B : Nat} {w : World} {a : Option Addr} {n c : Nat} {l l2 : List Al} {sv : Value} (hR : Row B w a n c l) (hs : Als w sv l2) (hn : l.length + l2.length ≤ 100000) (hB : B ≤ w.heap.size) (ty : TypeId) :
    ∃ a' c' w', (Builtin.append_ #[33, 33] ty #[.slice a n c, sv]).run Try.prog w = .ok (.slice a' (n + l2.length) c') w' ∧ Row B w' a' (n + l2.length) c' (l ++ l2) ∧ Frm (blk (.slice a n c)) w w' ∧
      ∀ x ∈ blk (.slice a' (n + l2.length) c'), x ∈ blk (.slice a n c) ∨ w.heap.size ≤ x := by
  obtain ⟨i0, hi, hz0, hz1, hz2⟩ := info_parts info_alarm
  obtain ⟨hO, rfl⟩ := hR
  rcases hs with ⟨rfl, rfl⟩ | ⟨d, o, cc, rfl, h1, h2, h3, h4⟩
  · obtain ⟨a', c', hv, hnc, hn0⟩ := row_form hO
    have := run_append_none (P := Try.prog) w 33 ty 47 i0 Try.underlying33 hi a l.length c (by cases hv; exact hnc) (by cases hv; exact hn0)
    exact ⟨a, c, w, this, ⟨by simpa using hO, by simp⟩, Frm.refl _ _, fun x hx => .inl hx⟩
  · obtain ⟨v', w', hr, hO2, hg, _, hat⟩ := run_append_own_at (P := Try.prog) w B 33 ty 47 i0 _ 2 16 Try.underlying33 hi hz0 hz1 hz2 rfl (by decide) _ _ _ hO ⟨d, o, none⟩ l2.length cc (flat l2) (flat_length l2)
      (fun j u hj => by rw [Addr.add_lit]; exact h4 j u hj) (flat_one l2) (by unfold maxLen; omega) (by omega) hB
    obtain ⟨a', c', rfl, _, _⟩ := row_form hO2
    refine ⟨a', c', w', hr, ⟨by rw [List.length_append, flat_append]; exact hO2, by simp⟩, Frm.grown hg (fun k hk => row_own hk), fun x hx => ?_⟩
    cases a' with
    | none => cases hx
    | some a'' =>
      simp [blk] at hx
      subst hx
      rcases hat with hat | hat
      · exact .inl (row_own hat.symm)
      · simp [Value.ownBlock] at hat; right; omega
theorem step_app2 {ops : Array Oper} {o : Oper} {x : Act} {w : World} {K : Act → World → Prop} {Q : Exit → Act → World → Prop} {E : Prop} (hgd : o.guard = none) (p q : Operand)
    (ho : o.op = .call { callee := .builtin .append, args := #[p, q], argTypes := #[33, 33] }) {B : Nat} {a : Option Addr} {n c : Nat} {l l2 : List Al} {sv : Value}
    (hd : x.eval p = .slice a n c) (hq : x.eval q = sv) (hR : Row B w a n c l) (hs : Als w sv l2) (hn : l.length + l2.length ≤ 100000) (hB : B ≤ w.heap.size)
    (hK : ∀ a' c' w', Row B w' a' (n + l2.length) c' (l ++ l2) → Frm (blk (.slice a n c)) w w' → (∀ x ∈ blk (.slice a' (n + l2.length) c'), x ∈ blk (.slice a n c) ∨ w.heap.size ≤ x) → K (x.put o.dst (.slice a' (n + l2.length) c')) w') :
    if Region.wanted o (yielded ops x.tmps) = true then Oper.wp Try.prog o x w K Q else E := by
  have hw : Region.wanted o (yielded ops x.tmps) = true := by simp [Region.wanted, hgd]
  rw [if_pos hw]
  obtain ⟨a', c', w', hr, h1, h2, h3⟩ := run_app2 hR hs hn hB o.type
  unfold Oper.wp
  simp [execOp, ho, resolve, invoke, builtin, hd, hq, hr, Result.andThen]
  exact hK _ _ _ h1 h2 h3
theorem wpl_app2 {w : World} {ops : Array Oper} {rest : List Oper} {o : Oper} {x : Act} {Q : Exit → Act → World → Prop} (hgd : o.guard = none) (p q : Operand)
    (ho : o.op = .call { callee := .builtin .append, args := #[p, q], argTypes := #[33, 33] }) {B : Nat} {a : Option Addr} {n c : Nat} {l l2 : List Al} {sv : Value}
    (hd : x.eval p = .slice a n c) (hq : x.eval q = sv) (hR : Row B w a n c l) (hs : Als w sv l2) (hn : l.length + l2.length ≤ 100000) (hB : B ≤ w.heap.size)
    (hK : ∀ a' c' w', Row B w' a' (n + l2.length) c' (l ++ l2) → Frm (blk (.slice a n c)) w w' → (∀ x ∈ blk (.slice a' (n + l2.length) c'), x ∈ blk (.slice a n c) ∨ w.heap.size ≤ x) → wpList Try.prog ops Q rest (x.put o.dst (.slice a' (n + l2.length) c')) w') : wpList Try.prog ops Q (o :: rest) x w := by
  refine wpList_plain hgd fun K hK' => ?_
  obtain ⟨a', c', w', hr, h1, h2, h3⟩ := run_app2 hR hs hn hB o.type
  unfold Oper.wp
  simp [execOp, ho, resolve, invoke, builtin, hd, hq, hr, Result.andThen]
  exact hK' _ _ (hK _ _ _ h1 h2 h3)

def flt (id : Int) (l : List Al) : List Al := l.filter (fun x => x.1 != id)
theorem flt_next {id : Int} {l : List Al} {k : Nat} {x : Al} (hx : l[k]? = some x) : flt id (l.take (k + 1)) = flt id (l.take k) ++ (if (x.1 != id) = true then [x] else []) := by
  obtain ⟨hk, rfl⟩ := List.getElem?_eq_some_iff.1 hx
  unfold flt
  rw [List.take_succ_eq_append_getElem hk, List.filter_append]
  congr 1
  simp [List.filter_cons]
theorem flt_le (id : Int) (l : List Al) (k : Nat) (hl : l.length ≤ 5000) : (flt id (l.take k)).length ≤ 5000 := by
  have h1 := List.length_filter_le (fun x : Al => x.1 != id) (l.take k)
  rw [List.length_take] at h1
  unfold flt; omega

theorem rcl_end {w w1 X wr : World} {t4 t6 n' c' : Nat} {a' : Option Addr} {now : Int} {u0 u1 : Value} {L : List Al} (hF : Frm [] w w1) (hFX : Frm [] w1 X) (hFr : Frm [t6] X wr) (h6 : w.heap.size ≤ t6) (h4 : w.heap.size ≤ t4) (h41 : t4 < X.heap.size)
    (hT : wr.heap[t4]? = some (.cells #[u0, u1] 35 (0, 0))) (hR : Row X.heap.size wr a' n' c' L) :
    ((wr.setCell ⟨t4, 0, none⟩ (.int .i64 now)).setCell ⟨t4, 1, none⟩ (.slice a' n' c')).cell? ⟨t4, 0, none⟩ = some (.int .i64 now) ∧
    ((wr.setCell ⟨t4, 0, none⟩ (.int .i64 now)).setCell ⟨t4, 1, none⟩ (.slice a' n' c')).cell? ⟨t4, 1, none⟩ = some (.slice a' n' c') ∧
    Frm [] w ((wr.setCell ⟨t4, 0, none⟩ (.int .i64 now)).setCell ⟨t4, 1, none⟩ (.slice a' n' c')) ∧ Als ((wr.setCell ⟨t4, 0, none⟩ (.int .i64 now)).setCell ⟨t4, 1, none⟩ (.slice a' n' c')) (.slice a' n' c') L ∧ ∀ x ∈ blk (.slice a' n' c'), w.heap.size ≤ x := by
  have hE := setCells2 hT (.int .i64 now) (.slice a' n' c')
  have h0 := (hF.trans hFX).size
  refine ⟨(cells2 hE).1, (cells2 hE).2, (((hF.trans hFX).trans_new hFr (by simp; omega)).setCell _ _ (.inr h4)).setCell _ _ (.inr h4), ?_, fun x hx => by have h1 := (hR.blk x hx).1; omega⟩
  exact hR.als.frm (((Frm.refl [t4] wr).setCell _ _ (.inl (by simp))).setCell _ _ (.inl (by simp))) (fun x hx hx6 => by have h1 := (hR.blk x hx).1; rw [List.mem_singleton.1 hx6] at h1; omega)

attribute [local go_sem ↓] Go.wp_at_zero Go.wp_at_succ
set_option maxRecDepth 100000 in
set_option maxHeartbeats 8000000 in
theorem rclear_some {w : World} {now : Int} {d o c : Nat} {l : List Al} (hA : Als w (.slice (some ⟨d, o, none⟩) l.length c) l) (hl : l.length ≤ 5000) (id : Int) (hh : hasB l id = true) :
    Calls Try.prog 35 #[.agg #[.int .i64 now, .slice (some ⟨d, o, none⟩) l.length c], .int .i64 id] w (RPost w (.slice (some ⟨d, o, none⟩) l.length c) now (flt id l) 0) := by
  have HH := Lib.hid hh
  have hA2 := fun o1 o2 => (hA.alloc o1).alloc o2
  have hdl : d < w.heap.size := hA.lt d (by simp [blk])
  clear hh
  go_enter Try.func35, Try.ntmps35
  go_wp2_with fail
  refine (has_any (hA2 _ _) hl id).mono ?_
  rintro e w1 ⟨rfl, hF1⟩
  rw [HH.out]
  have hT3 : w1.heap[w.heap.size]? = some (.cells #[.int .i64 now, .slice (some ⟨d, o, none⟩) l.length c] 35 (0, 0)) := hF1.heap (heap_alloc_old _ (heap_alloc_new w _)) (by simp)
  have hT4 : w1.heap[w.heap.size + 1]? = some (.cells #[.int .i64 0, .slice none 0 0] 35 (0, 0)) := hF1.heap (heap_alloc_at _ (by simp)) (by simp)
  have hF : Frm [] w w1 := (((Frm.refl _ w).alloc _).alloc _).trans hF1
  have hA1 := (hA2 _ _).frm hF1 (by simp)
  have hs1 : w.heap.size + 1 < w1.heap.size := lt_of_heap hT4
  obtain ⟨k1, k2, k3, k4⟩ := rclock_cells hT3
  clear hF1 hA2
  go_wp2_with fail
  obtain ⟨X, hX⟩ : ∃ X, X = w1.alloc (.cells #[.int .i64 now, .slice none 0 0] 35) := ⟨_, rfl⟩
  have hFX : Frm [] w1 X := by rw [hX]; exact (Frm.refl _ _).alloc _
  have hXs : X.heap.size = w1.heap.size + 1 := by rw [hX]; simp
  have hX6 : X.heap[w1.heap.size]? = some (.cells #[.int .i64 now, .slice none 0 0] 35 (0, 0)) := by rw [hX]; exact heap_alloc_new _ _
  have hX3 := hFX.heap hT3 (by simp)
  have hX4 := hFX.heap hT4 (by simp)
  have hAX := hA1.frm hFX (by simp)
  have hcell : ∀ (i : Nat) (x : Al), l[i]? = some x → X.cell? ⟨d, o + i * 2, none⟩ = some (.int .i64 x.1) ∧ X.cell? ⟨d, o + i * 2 + 1, none⟩ = some (.int .i64 x.2) := by
    obtain ⟨b, o', c', hv, hr⟩ := als_cells hAX
    rcases hv with hv | ⟨_, hv⟩
    · cases hv; exact hr
    · cases hv
  rw [← hX]
  obtain ⟨t6, ht6⟩ : ∃ t6, t6 = w1.heap.size := ⟨_, rfl⟩
  rw [← ht6] at hX6 hXs ⊢
  have hs1' : w.heap.size + 1 < t6 := by omega
  have hB : t6 < X.heap.size := by omega
  have hdX : d < X.heap.size := by omega
  have HC := Lib.hid hcell
  have HX3 := Lib.hid hX3
  have HX4 := Lib.hid hX4
  have HX6 := Lib.hid hX6
  have HFX := Lib.hid hFX
  have HT6 := Lib.hid ht6
  clear hX hX3 hX4 hX6 hAX hA1 hT3 hT4 hXs hcell k1 k2 k3 k4 hFX ht6
  have hlb : (l.length : Int) ≤ 5000 := by omega
  go_loopw [7] (fun i wr => ∃ (k n' c' : Nat) (a' : Option Addr), k ≤ l.length ∧ i = .int .i64 k ∧ Frm [t6] X wr ∧ Hid (wr.heap[t6]? = some (.cells #[.int .i64 now, .slice a' n' c'] 35 (0, 0))) ∧ Row X.heap.size wr a' n' c' (flt id (l.take k))) (fun i _ => l.length - (intOf i).toNat)
  case atStart => exact ⟨0, 0, 0, none, by omega, rfl, Frm.refl _ _, HX6, Row.nil _ _⟩
  case round =>
    obtain ⟨k, n', c', a', hk, rfl, hFr, HG, hR⟩ := hrel
    obtain ⟨g0, g1, gf0, gf1⟩ := rclock_cells HG.out
    obtain ⟨j0, j1⟩ := cells2 (hFr.heap HX3.out (by simp; omega))
    have hgl := lt_of_heap HG.out
    by_cases hlt : k < l.length
    · have hb0 : (0 : Int) ≤ (k : Int) := by omega
      have hb1 : (k : Int) < (l.length : Int) := by omega
      have hx : l[k]? = some (l[k]'(by omega)) := List.getElem?_eq_getElem _
      generalize (l[k]'(by omega)) = x at hx
      obtain ⟨x1, x2⟩ := x
      obtain ⟨cc1, cc2⟩ := HC.out k _ hx
      have c1 := (hFr.cell hdX (by simp; omega)).trans cc1
      have c2 := (hFr.cell hdX (by simp; omega)).trans cc2
      have hnx := flt_next (id := id) hx
      have hfl := flt_le id l k hl
      clear hx cc1 cc2
      by_cases hid : (x1 != id) = true
      · rw [if_pos hid] at hnx
        have HNX := Lib.hid hnx
        generalize flt id (l.take k) = FL at hR HNX hfl
        have hRb := hR.blk
        have HR := Lib.hid hR
        have HRB := Lib.hid hRb
        clear hnx hR hRb
        go_wp2_with fail
        go_region_law (refine step_app2 rfl (.tmp 32) (.tmp 38) rfl (B := X.heap.size) (a := a') (n := n') (c := c') (l := FL) (l2 := [(x1, x2)]) (by simp [Act.eval]) (by simp [Act.eval]) (by first | exact (HR.out.frm ((Frm.refl [] _).alloc _) (by simp)).frm ((Frm.refl [] _).drew) (by simp) | exact (HR.out.frm ((Frm.refl [] _).drew) (by simp)).frm ((Frm.refl [] _).alloc _) (by simp)) (als_one (heap_alloc_new _ _)) (by simp; omega) (by have := hFr.size; simp; omega) ?_; intro ya yc w3 hR2 hG2 hb2; have hT := hG2.heap (k := t6) (by first | exact heap_alloc_old _ HG.out) (fun hx => by have := (HRB.out _ hx).1; omega); obtain ⟨t0, t1, tf0, tf1⟩ := rclock_cells hT; have htl := lt_of_heap hT)
        all_goals
          go_wp2
          have hFw : Frm [t6] X w3 := Frm.trans_new (b := (wr.alloc (.cells #[.int .i64 x1, .int .i64 x2] 47)).drew) ((hFr.alloc _).drew) hG2 (fun x hx => .inr (HRB.out x hx).1)
          have hRw := hR2.frm ((Frm.refl [t6] w3).setCell ⟨t6, 1, none⟩ (.slice ya (n' + 1) yc) (.inl (by simp))) (fun x hx hx6 => by have h1 := (hR2.blk x hx).1; rw [List.mem_singleton.1 hx6] at h1; omega)
          have hSw := heap_setCell_at (i := 1) (.slice ya (n' + 1) yc) hT
          go_roundw
          case rel => exact ⟨k + 1, n' + 1, yc, ya, by omega, by go_num, hFw.setCell _ _ (.inl (by simp)), Lib.hid (by simpa using hSw), by rw [HNX.out]; exact hRw⟩
          case measure => simp [intOf]; omega
      · have hid : (x1 != id) = false := by simpa using hid
        rw [hid] at hnx
        have HNX := Lib.hid hnx
        clear hnx
        go_wp2
        go_roundw
        case rel => exact ⟨k + 1, n', c', a', by omega, by go_num, hFr, HG, by rw [HNX.out]; simpa using hR⟩
        case measure => simp [intOf]; omega
    · obtain rfl : k = l.length := by omega
      obtain ⟨q0, q1, qf0, qf1⟩ := rclock_cells (hFr.heap HX4.out (by simp; omega))
      have hql := lt_of_heap (hFr.heap HX4.out (by simp; omega))
      have H4 := Lib.hid (hFr.heap HX4.out (by simp; omega))
      rw [List.take_length] at hR
      go_wp2
      obtain ⟨r0, r1, z1, z2, z3⟩ := rcl_end (t4 := w.heap.size + 1) (now := now) hF HFX.out hFr (by omega) (by omega) (by omega) H4.out hR
      generalize ((wr.setCell ⟨w.heap.size + 1, 0, none⟩ (.int .i64 now)).setCell ⟨w.heap.size + 1, 1, none⟩ (.slice a' n' c')) = W at r0 r1 z1 z2 ⊢
      refine bodyPost_ret (v := .tuple #[.agg #[.int .i64 now, .slice a' n' c'], .int .i64 0]) (by simp [results, Try.results35, go_sem, r0, r1]) rfl ⟨a', n', c', rfl, z1, z2, fun x hx => .inr (z3 x hx)⟩

set_option maxHeartbeats 2000000 in
theorem rclear_none {w : World} {now : Int} {a : Option Addr} {n c : Nat} {l : List Al} (hA : Als w (.slice a n c) l) (hl : l.length ≤ 5000) (id : Int) (hh : hasB l id = false) :
    Calls Try.prog 35 #[.agg #[.int .i64 now, .slice a n c], .int .i64 id] w (RPost w (.slice a n c) now l 9) := by
  have HH := Lib.hid hh
  have hA2 := fun o1 o2 => (hA.alloc o1).alloc o2
  clear hh
  go_enter Try.func35, Try.ntmps35
  go_wp2_with fail
  refine (has_any (hA2 _ _) hl id).mono ?_
  rintro e w1 ⟨rfl, hF1⟩
  rw [HH.out]
  have hT3 : w1.heap[w.heap.size]? = some (.cells #[.int .i64 now, .slice a n c] 35 (0, 0)) := hF1.heap (heap_alloc_old _ (heap_alloc_new w _)) (by simp)
  have hT6 : w1.heap[w.heap.size + 1]? = some (.cells #[.int .i64 0, .slice none 0 0] 35 (0, 0)) := hF1.heap (heap_alloc_at _ (by simp)) (by simp)
  have hF : Frm [] w w1 := (((Frm.refl _ w).alloc _).alloc _).trans hF1
  obtain ⟨k1, k2, k3, k4⟩ := rclock_cells hT3
  obtain ⟨k5, k6, k7, k8⟩ := rclock_cells hT6
  have HT6 := Lib.hid hT6
  clear hT3 hT6 hF1
  go_wp2
  have hE := setCells2 HT6.out (.int .i64 now) (.slice a n c)
  have hFE : Frm [] w ((w1.setCell ⟨w.heap.size + 1, 0, none⟩ (.int .i64 now)).setCell ⟨w.heap.size + 1, 1, none⟩ (.slice a n c)) := (hF.setCell _ _ (.inr (by simp))).setCell _ _ (.inr (by simp))
  have hAE : Als ((w1.setCell ⟨w.heap.size + 1, 0, none⟩ (.int .i64 now)).setCell ⟨w.heap.size + 1, 1, none⟩ (.slice a n c)) (.slice a n c) l := hA.frm hFE (by simp)
  generalize ((w1.setCell ⟨w.heap.size + 1, 0, none⟩ (.int .i64 now)).setCell ⟨w.heap.size + 1, 1, none⟩ (.slice a n c)) = w2 at hE hFE hAE ⊢
  obtain ⟨r0, r1⟩ := cells2 hE
  refine bodyPost_ret (v := .tuple #[.agg #[.int .i64 now, .slice a n c], .int .i64 9]) (by simp [results, Try.results35, go_sem, r0, r1]) rfl ⟨a, n, c, rfl, hFE, hAE, fun x hx => .inl hx⟩

/-- No two alarms have one ID. -/
def Uniq (l : List Al) : Prop := l.Pairwise (fun x y => x.1 ≠ y.1)
theorem flt_erase {l : List Al} (hu : Uniq l) (id : Int) : flt id l = l.eraseIdx (idxN l id) := by
  induction l with
  | nil => rfl
  | cons a l ih =>
    unfold Uniq at hu
    rw [List.pairwise_cons] at hu
    by_cases ha : a.1 = id
    · have e1 : idxN (a :: l) id = 0 := by unfold idxN; rw [List.findIdx_cons]; simp [ha]
      rw [e1]
      have e2 : flt id l = l := by
        unfold flt
        rw [List.filter_eq_self]
        intro x hx
        have := hu.1 x hx
        simp; omega
      show flt id (a :: l) = l
      rw [← e2]
      unfold flt
      simp [ha]
    · have hab : (a.1 == id) = false := by simpa using ha
      have e1 : idxN (a :: l) id = idxN l id + 1 := by unfold idxN; rw [List.findIdx_cons, hab]; rfl
      rw [e1, List.eraseIdx_cons_succ, ← ih hu.2]
      unfold flt
      simp [ha]
theorem rclear_any {w : World} {now : Int} {a : Option Addr} {n c : Nat} {l : List Al} (hA : Als w (.slice a n c) l) (hu : Uniq l) (hl : l.length ≤ 5000) (id : Int) :
    Calls Try.prog 35 #[.agg #[.int .i64 now, .slice a n c], .int .i64 id] w (RPost w (.slice a n c) now (cL l id) (cErr l id)) := by
  by_cases h1 : 0 ≤ idx l id
  · have e1 : cErr l id = 0 := by unfold cErr; rw [if_pos h1]
    have e2 : cL l id = flt id l := by unfold cL; rw [if_pos h1, flt_erase hu]
    rw [e1, e2]
    rcases id_als hA with ⟨hv, rfl⟩ | ⟨d, o, c', hv⟩
    · exact absurd h1 (by show ¬ (0 : Int) ≤ -1; omega)
    · cases hv
      exact rclear_some hA hl id (by unfold hasB; simpa using h1)
  · have e1 : cErr l id = 9 := by unfold cErr; rw [if_neg h1]
    have e2 : cL l id = l := by unfold cL; rw [if_neg h1]
    rw [e1, e2]
    exact rclear_none hA hl id (by unfold hasB; simpa using h1)
end Go.Proofs.Ytamnhpcbflpabaa
