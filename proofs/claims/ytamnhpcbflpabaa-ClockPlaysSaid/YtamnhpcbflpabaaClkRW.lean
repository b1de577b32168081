/- The reference's clock: ticks pass. -/
import Derived.Test.YtamnhpcbflpabaaClkRV
namespace Go.Proofs.Ytamnhpcbflpabaa
open Go.ChangeShapes Go.WideShapes Go.ChangeAt Go.RowKit

def isDue (t : Int) (x : Al) : Bool := decide (x.2 ≤ t) && decide (x.2 < 4611686018427387904)
def dueL (t : Int) (l : List Al) : List Al := l.filter (fun x => isDue t x)
def restL (t : Int) (l : List Al) : List Al := l.filter (fun x => !isDue t x)
theorem due_next {t : Int} {l : List Al} {k : Nat} {x : Al} (hx : l[k]? = some x) : dueL t (l.take (k + 1)) = dueL t (l.take k) ++ (if isDue t x = true then [x] else []) ∧ restL t (l.take (k + 1)) = restL t (l.take k) ++ (if isDue t x = true then [] else [x]) := by
  obtain ⟨hk, rfl⟩ := List.getElem?_eq_some_iff.1 hx
  unfold dueL restL
  rw [List.take_succ_eq_append_getElem hk, List.filter_append, List.filter_append]
  constructor
  · congr 1
    by_cases h : isDue t l[k] = true <;> simp [h]
  · congr 1
    by_cases h : isDue t l[k] = true <;> simp [h]
theorem due_len (t : Int) (l : List Al) (k : Nat) (hl : l.length ≤ 5000) : (dueL t (l.take k)).length ≤ 5000 ∧ (restL t (l.take k)).length ≤ 5000 := by
  have h1 := List.length_filter_le (fun x : Al => isDue t x) (l.take k)
  have h2 := List.length_filter_le (fun x : Al => !isDue t x) (l.take k)
  rw [List.length_take] at h1 h2
  unfold dueL restL; omega
/-- In order, these are what is ahead of the cut, and what is behind it. -/
theorem due_cut {l : List Al} (hs : Sorted l) (h0 : ∀ x ∈ l, 0 ≤ x.1) (t : Int) : dueL t l = l.take (cutAt t l) ∧ restL t l = l.drop (cutAt t l) := by
  have ha : ∀ x ∈ l.take (cutAt t l), isDue t x = true := fun x hx => by
    have := due_mem hs (h0 x (List.mem_of_mem_take hx)) hx
    unfold isDue; simp [this.1, this.2]
  have hb : ∀ x ∈ l.drop (cutAt t l), isDue t x = false := fun x hx => by
    have := rest_mem hs hx
    unfold isDue
    rcases this with h | h
    · have : ¬ x.2 ≤ t := by omega
      simp [this]
    · have : ¬ x.2 < 4611686018427387904 := by omega
      simp [this]
  have e : l = l.take (cutAt t l) ++ l.drop (cutAt t l) := (List.take_append_drop _ _).symm
  constructor
  · conv => lhs; rw [e]
    unfold dueL
    rw [List.filter_append, List.filter_eq_self.2 ha, List.filter_eq_nil_iff.2 (fun x hx => by rw [hb x hx]; simp), List.append_nil]
  · conv => lhs; rw [e]
    unfold restL
    rw [List.filter_append, List.filter_eq_nil_iff.2 (fun x hx => by rw [ha x hx]; simp), List.filter_eq_self.2 (fun x hx => by rw [hb x hx]; rfl), List.nil_append]

/-- What Pass returns. -/
def PPost (w : World) (v : Value) (t : Int) (l1 l2 : List Al) (err : Int) (e : Ending) (w' : World) : Prop :=
  ∃ a n c da dn dc, Ret (.tuple #[.agg #[.int .i64 t, .slice a n c], .slice da dn dc, .int .i64 err]) (fun w' => Frm [] w w' ∧ Als w' (.slice a n c) l1 ∧ Als w' (.slice da dn dc) l2 ∧ (∀ x ∈ blk (.slice a n c), x ∈ blk v ∨ w.heap.size ≤ x) ∧ ∀ x ∈ blk (.slice da dn dc), w.heap.size ≤ x) e w'

set_option maxHeartbeats 1000000 in
theorem rpass_arg {w : World} {now : Int} {a : Option Addr} {n c : Nat} {l : List Al} (hA : Als w (.slice a n c) l) (m : Int) (hm : m < 0) :
    Calls Try.prog 36 #[.agg #[.int .i64 now, .slice a n c], .int .i64 m] w (PPost w (.slice a n c) now l [] 2) := by
  have e1 : decide (m < 0) = true := by simpa using hm
  go_enter Try.func36, Try.ntmps36
  go_wp2
  refine bodyPost_ret (v := .tuple #[.agg #[.int .i64 now, .slice a n c], .slice none 0 0, .int .i64 2]) (by simp [results, Try.results36, go_sem]) rfl ⟨a, n, c, none, 0, 0, rfl, ((Frm.refl _ _).alloc _).alloc _, (hA.alloc _).alloc _, .inl ⟨rfl, rfl⟩, fun x hx => .inl hx, fun x hx => by cases hx⟩

theorem pass_due {X wr W w3 : World} {t7 n' c' dn dc : Nat} {a' da : Option Addr} {y c0 c1 : Value} {RL DL : List Al} (hFr : Frm [t7] X wr) (h7 : t7 < X.heap.size) (hG : wr.heap[t7]? = some (.cells #[c0, c1] 35 (0, 0)))
    (hR : Row X.heap.size wr a' n' c' RL) (hD : Row X.heap.size wr da dn dc DL) (hJ : ∀ x ∈ blk (.slice a' n' c'), x ∉ blk (.slice da dn dc)) (hW : Frm [] wr W) (hG2 : Frm (blk (.slice da dn dc)) W w3) (hb2 : ∀ x ∈ blk y, x ∈ blk (.slice da dn dc) ∨ W.heap.size ≤ x) :
    Frm [t7] X w3 ∧ w3.heap[t7]? = some (.cells #[c0, c1] 35 (0, 0)) ∧ Row X.heap.size w3 a' n' c' RL ∧ ∀ x ∈ blk (.slice a' n' c'), x ∉ blk y := by
  refine ⟨(hFr.trans hW.nil).trans_new hG2 (fun x hx => .inr (hD.blk x hx).1), hG2.heap (hW.heap hG (by simp)) (fun hx => by have := (hD.blk _ hx).1; omega), (hR.frm hW (by simp)).frm hG2 hJ, fun x hx hy => ?_⟩
  rcases hb2 x hy with h1 | h1
  · exact hJ x hx h1
  · have h2 := (hR.blk x hx).2; have h3 := hW.size; omega
theorem pass_rest {X wr W w3 : World} {t7 n' c' dn dc yn yc : Nat} {a' da ya : Option Addr} {c0 c1 : Value} {RL DL : List Al} (hFr : Frm [t7] X wr) (h7 : t7 < X.heap.size) (hG : wr.heap[t7]? = some (.cells #[c0, c1] 35 (0, 0)))
    (hR : Row X.heap.size wr a' n' c' RL) (hD : Row X.heap.size wr da dn dc DL) (hJ : ∀ x ∈ blk (.slice a' n' c'), x ∉ blk (.slice da dn dc)) (hW : Frm [] wr W) (hG2 : Frm (blk (.slice a' n' c')) W w3) (hb2 : ∀ x ∈ blk (.slice ya yn yc), x ∈ blk (.slice a' n' c') ∨ W.heap.size ≤ x)
    {RL2 : List Al} (hR2 : Row X.heap.size w3 ya yn yc RL2) :
    Frm [t7] X (w3.setCell ⟨t7, 1, none⟩ (.slice ya yn yc)) ∧ (w3.setCell ⟨t7, 1, none⟩ (.slice ya yn yc)).heap[t7]? = some (.cells #[c0, .slice ya yn yc] 35 (0, 0)) ∧
    Row X.heap.size (w3.setCell ⟨t7, 1, none⟩ (.slice ya yn yc)) ya yn yc RL2 ∧ Row X.heap.size (w3.setCell ⟨t7, 1, none⟩ (.slice ya yn yc)) da dn dc DL ∧ ∀ x ∈ blk (.slice ya yn yc), x ∉ blk (.slice da dn dc) := by
  have hS : Frm [t7] w3 (w3.setCell ⟨t7, 1, none⟩ (.slice ya yn yc)) := (Frm.refl _ _).setCell _ _ (.inl (by simp))
  have hn : ∀ x, X.heap.size ≤ x → x ∉ [t7] := fun x hx hx7 => by rw [List.mem_singleton.1 hx7] at hx; omega
  have hT := hG2.heap (k := t7) (hW.heap hG (by simp)) (fun hx => by have := (hR.blk _ hx).1; omega)
  refine ⟨((hFr.trans hW.nil).trans_new hG2 (fun x hx => .inr (hR.blk x hx).1)).trans hS, ?_, hR2.frm hS (fun x hx => hn x (hR2.blk x hx).1), ((hD.frm hW (by simp)).frm hG2 (fun x hx hx2 => hJ x hx2 hx)).frm hS (fun x hx => hn x (hD.blk x hx).1), fun x hx hy => ?_⟩
  · have := heap_setCell_at (i := 1) (.slice ya yn yc) hT
    simpa using this
  · rcases hb2 x hx with h1 | h1
    · exact hJ x h1 hy
    · have h2 := (hD.blk x hy).2; have h3 := hW.size; omega

attribute [local go_sem ↓] Go.wp_at_zero Go.wp_at_succ
set_option maxRecDepth 100000 in
set_option maxHeartbeats 16000000 in
theorem rpass_some {w : World} {now : Int} {d o c : Nat} {l : List Al} (hA : Als w (.slice (some ⟨d, o, none⟩) l.length c) l) (hl : l.length ≤ 5000) (ht : tk now = true) (m : Int) (hm : 0 ≤ m) :
    Calls Try.prog 36 #[.agg #[.int .i64 now, .slice (some ⟨d, o, none⟩) l.length c], .int .i64 m] w (PPost w (.slice (some ⟨d, o, none⟩) l.length c) (dl now m) (restL (dl now m) l) (dueL (dl now m) l) 0) := by
  have e1 : decide (m < 0) = false := by simpa using hm
  have HT := Lib.hid ht
  have hdl : d < w.heap.size := hA.lt d (by simp [blk])
  obtain ⟨T, hTT⟩ : ∃ T, T = dl now m := ⟨_, rfl⟩
  rw [← hTT]
  have HTT := Lib.hid hTT
  clear ht hTT
  go_enter Try.func36, Try.ntmps36
  go_wp2_with fail
  refine (rdue_any _ _ _ HT.out hm).mono ?_
  rintro e w' ⟨rfl, rfl⟩
  rw [← HTT.out]
  go_wp2_with fail
  obtain ⟨X, hX⟩ : ∃ X, X = ((w.alloc (.cells #[.int .i64 now, .slice (some ⟨d, o, none⟩) l.length c] 35)).alloc (.cells #[.int .i64 0, .slice none 0 0] 35)).alloc (.cells #[.int .i64 T, .slice none 0 0] 35) := ⟨_, rfl⟩
  have hFX : Frm [] w X := by rw [hX]; exact (((Frm.refl _ _).alloc _).alloc _).alloc _
  have hXs : X.heap.size = w.heap.size + 1 + 1 + 1 := by rw [hX]; simp
  have hX3 : X.heap[w.heap.size]? = some (.cells #[.int .i64 now, .slice (some ⟨d, o, none⟩) l.length c] 35 (0, 0)) := by rw [hX]; exact heap_alloc_old _ (heap_alloc_old _ (heap_alloc_new _ _))
  have hX4 : X.heap[w.heap.size + 1]? = some (.cells #[.int .i64 0, .slice none 0 0] 35 (0, 0)) := by rw [hX]; exact heap_alloc_old _ (heap_alloc_at _ (by simp))
  have hX7 : X.heap[w.heap.size + 1 + 1]? = some (.cells #[.int .i64 T, .slice none 0 0] 35 (0, 0)) := by rw [hX]; exact heap_alloc_at _ (by simp)
  have hAX := hA.frm hFX (by simp)
  have hcell : ∀ (i : Nat) (x : Al), l[i]? = some x → X.cell? ⟨d, o + i * 2, none⟩ = some (.int .i64 x.1) ∧ X.cell? ⟨d, o + i * 2 + 1, none⟩ = some (.int .i64 x.2) := by
    obtain ⟨b, o', c', hv, hr⟩ := als_cells hAX
    rcases hv with hv | ⟨_, hv⟩
    · cases hv; exact hr
    · cases hv
  rw [← hX]
  obtain ⟨t7, ht7⟩ : ∃ t7, t7 = w.heap.size + 1 + 1 := ⟨_, rfl⟩
  rw [← ht7] at hX7 hXs ⊢
  have hs1 : w.heap.size + 1 < t7 := by omega
  have hB : t7 < X.heap.size := by omega
  have hdX : d < X.heap.size := by omega
  have HC := Lib.hid hcell
  have HX3 := Lib.hid hX3
  have HX4 := Lib.hid hX4
  have HX7 := Lib.hid hX7
  have HFX := Lib.hid hFX
  have H7 := Lib.hid ht7
  clear hX hX3 hX4 hX7 hAX hXs hcell hFX ht7
  have hlb : (l.length : Int) ≤ 5000 := by omega
  go_loopw [8, 9] (fun s8 i wr => ∃ (k n' c' dn dc : Nat) (a' da : Option Addr), k ≤ l.length ∧ i = .int .i64 k ∧ s8 = .slice da dn dc ∧ Frm [t7] X wr ∧ Hid (wr.heap[t7]? = some (.cells #[.int .i64 T, .slice a' n' c'] 35 (0, 0))) ∧
    Row X.heap.size wr a' n' c' (restL T (l.take k)) ∧ Row X.heap.size wr da dn dc (dueL T (l.take k)) ∧ Hid (∀ x ∈ blk (.slice a' n' c'), x ∉ blk (.slice da dn dc))) (fun _ i _ => l.length - (intOf i).toNat)
  case atStart => exact ⟨0, 0, 0, 0, 0, none, none, by omega, rfl, rfl, Frm.refl _ _, HX7, Row.nil _ _, Row.nil _ _, Lib.hid (fun x hx => by cases hx)⟩
  case round =>
    obtain ⟨k, n', c', dn, dc, a', da, hk, rfl, rfl, hFr, HG, hR, hD, HJ⟩ := hrel
    obtain ⟨g0, g1, gf0, gf1⟩ := rclock_cells HG.out
    obtain ⟨j0, j1⟩ := cells2 (hFr.heap HX3.out (by simp; omega))
    have hgl := lt_of_heap HG.out
    by_cases hlt : k < l.length
    · have hb0 : (0 : Int) ≤ (k : Int) := by omega
      have hb1 : (k : Int) < (l.length : Int) := by omega
      have hx : l[k]? = some (l[k]'(by omega)) := List.getElem?_eq_getElem _
      generalize (l[k]'(by omega)) = x at hx
      obtain ⟨x1, x2⟩ := x
      obtain ⟨cc1, cc2⟩ := HC.out k _ hx
      have c1 := (hFr.cell hdX (by simp; omega)).trans cc1
      have c2 := (hFr.cell hdX (by simp; omega)).trans cc2
      obtain ⟨hn1, hn2⟩ := due_next (t := T) hx
      have hfl := due_len T l k hl
      clear hx cc1 cc2
      by_cases hdue : isDue T (x1, x2) = true
      · rw [if_pos hdue] at hn1 hn2
        have f1 : decide (x2 ≤ T) = true := by unfold isDue at hdue; simp at hdue; simp; exact hdue.1
        have f2 : decide (x2 < 4611686018427387904) = true := by unfold isDue at hdue; simp at hdue; simp; exact hdue.2
        have HN1 := Lib.hid hn1
        have HN2 := Lib.hid hn2
        generalize restL T (l.take k) = RL at hR HN2 hfl
        generalize dueL T (l.take k) = DL at hD HN1 hfl
        have HR := Lib.hid hR
        have HD := Lib.hid hD
        clear hn1 hn2 hdue hR hD
        go_wp2_with fail
        go_quiet (fail)
        go_wp2_with (at_builtin; refine wpl_app2 rfl (.tmp 43) (.tmp 49) rfl (B := X.heap.size) (a := da) (n := dn) (c := dc) (l := DL) (l2 := [(x1, x2)]) rfl rfl ((HD.out.frm ((Frm.refl [] _).drewN _) (by simp)).frm ((Frm.refl [] _).alloc _) (by simp)) (als_one (heap_alloc_new _ _)) (by simp; omega) (by have := hFr.size; simp; omega) ?_; intro ya yc w3 hD2 hG2 hb2)
        obtain ⟨z1, z2, z3, z4⟩ := pass_due hFr hB HG.out HR.out HD.out HJ.out (((Frm.refl [] _).drewN _).alloc _) hG2 hb2
        go_roundw
        case rel => exact ⟨k + 1, n', c', dn + 1, yc, a', ya, by omega, by go_num, rfl, z1, Lib.hid z2, by rw [HN2.out]; simpa using z3, by rw [HN1.out]; exact hD2, Lib.hid z4⟩
        case measure => simp [intOf]; omega
      · have hdue : isDue T (x1, x2) = false := by simpa using hdue
        rw [hdue] at hn1 hn2
        have HN1 := Lib.hid hn1
        have HN2 := Lib.hid hn2
        generalize restL T (l.take k) = RL at hR HN2 hfl
        generalize dueL T (l.take k) = DL at hD HN1 hfl
        have HR := Lib.hid hR
        have HD := Lib.hid hD
        clear hn1 hn2 hR hD
        by_cases f0 : x2 ≤ T
        · have f1 : decide (x2 ≤ T) = true := by simpa using f0
          have f2 : decide (x2 < 4611686018427387904) = false := by unfold isDue at hdue; simp [f0] at hdue; simp; exact hdue
          clear hdue f0
          go_wp2_with fail
          go_quiet (fail)
          have hW0 : Frm [] wr (wr.drewN nq) := (Frm.refl _ _).drewN nq
          generalize wr.drewN nq = wq at hW0 ⊢
          have hFq := hFr.trans hW0.nil
          have HGq := Lib.hid (hW0.heap HG.out (by simp))
          have HRq := Lib.hid (HR.out.frm hW0 (by simp))
          have HDq := Lib.hid (HD.out.frm hW0 (by simp))
          have hql := lt_of_heap HGq.out
          have c1q := (hW0.cell (Nat.lt_of_lt_of_le hdX hFr.size) (by simp)).trans c1
          have c2q := (hW0.cell (Nat.lt_of_lt_of_le hdX hFr.size) (by simp)).trans c2
          obtain ⟨p0, p1, pf0, pf1⟩ := rclock_cells HGq.out
          obtain ⟨v0, v1⟩ := cells2 (hFq.heap HX3.out (by simp; omega))
          clear g0 g1 gf0 gf1 j0 j1 c1 c2 hgl hW0 HR HD HG hFr
          go_wp2_with fail
          go_region_law (refine step_app2 rfl (.tmp 52) (.tmp 58) rfl (B := X.heap.size) (a := a') (n := n') (c := c') (l := RL) (l2 := [(x1, x2)]) (by simp [Act.eval]) (by simp [Act.eval]) (by first | exact (HRq.out.frm ((Frm.refl [] _).alloc _) (by simp)).frm ((Frm.refl [] _).drew) (by simp) | exact (HRq.out.frm ((Frm.refl [] _).drew) (by simp)).frm ((Frm.refl [] _).alloc _) (by simp)) (als_one (heap_alloc_new _ _)) (by simp; omega) (by have := hFq.size; simp; omega) ?_; intro ya yc w3 hR2 hG2 hb2; have hT := hG2.heap (k := t7) (by first | exact heap_alloc_old _ HGq.out) (fun hx => by have := (HRq.out.blk _ hx).1; omega); obtain ⟨t0, t1, tf0, tf1⟩ := rclock_cells hT; have htl := lt_of_heap hT)
          all_goals
            go_wp2
            obtain ⟨z1, z2, z3, z4, z5⟩ := pass_rest (W := (wq.alloc (.cells #[.int .i64 x1, .int .i64 x2] 47)).drew) hFq hB HGq.out HRq.out HDq.out HJ.out (((Frm.refl [] _).alloc _).drew) hG2 hb2 hR2
            go_roundw
            case rel => exact ⟨k + 1, n' + 1, yc, dn, dc, ya, da, by omega, by go_num, rfl, z1, Lib.hid z2, by rw [HN2.out]; exact z3, by rw [HN1.out]; simpa using z4, Lib.hid z5⟩
            case measure => simp [intOf]; omega
        · have f1 : decide (x2 ≤ T) = false := by simpa using f0
          clear hdue f0
          go_wp2_with fail
          go_quiet (fail)
          have hW0 : Frm [] wr (wr.drewN nq) := (Frm.refl _ _).drewN nq
          generalize wr.drewN nq = wq at hW0 ⊢
          have hFq := hFr.trans hW0.nil
          have HGq := Lib.hid (hW0.heap HG.out (by simp))
          have HRq := Lib.hid (HR.out.frm hW0 (by simp))
          have HDq := Lib.hid (HD.out.frm hW0 (by simp))
          have hql := lt_of_heap HGq.out
          have c1q := (hW0.cell (Nat.lt_of_lt_of_le hdX hFr.size) (by simp)).trans c1
          have c2q := (hW0.cell (Nat.lt_of_lt_of_le hdX hFr.size) (by simp)).trans c2
          obtain ⟨p0, p1, pf0, pf1⟩ := rclock_cells HGq.out
          obtain ⟨v0, v1⟩ := cells2 (hFq.heap HX3.out (by simp; omega))
          clear g0 g1 gf0 gf1 j0 j1 c1 c2 hgl hW0 HR HD HG hFr
          go_wp2_with fail
          go_region_law (refine step_app2 rfl (.tmp 52) (.tmp 58) rfl (B := X.heap.size) (a := a') (n := n') (c := c') (l := RL) (l2 := [(x1, x2)]) (by simp [Act.eval]) (by simp [Act.eval]) (by first | exact (HRq.out.frm ((Frm.refl [] _).alloc _) (by simp)).frm ((Frm.refl [] _).drew) (by simp) | exact (HRq.out.frm ((Frm.refl [] _).drew) (by simp)).frm ((Frm.refl [] _).alloc _) (by simp)) (als_one (heap_alloc_new _ _)) (by simp; omega) (by have := hFq.size; simp; omega) ?_; intro ya yc w3 hR2 hG2 hb2; have hT := hG2.heap (k := t7) (by first | exact heap_alloc_old _ HGq.out) (fun hx => by have := (HRq.out.blk _ hx).1; omega); obtain ⟨t0, t1, tf0, tf1⟩ := rclock_cells hT; have htl := lt_of_heap hT)
          all_goals
            go_wp2
            obtain ⟨z1, z2, z3, z4, z5⟩ := pass_rest (W := (wq.alloc (.cells #[.int .i64 x1, .int .i64 x2] 47)).drew) hFq hB HGq.out HRq.out HDq.out HJ.out (((Frm.refl [] _).alloc _).drew) hG2 hb2 hR2
            go_roundw
            case rel => exact ⟨k + 1, n' + 1, yc, dn, dc, ya, da, by omega, by go_num, rfl, z1, Lib.hid z2, by rw [HN2.out]; exact z3, by rw [HN1.out]; simpa using z4, Lib.hid z5⟩
            case measure => simp [intOf]; omega
    · obtain rfl : k = l.length := by omega
      obtain ⟨q0, q1, qf0, qf1⟩ := rclock_cells (hFr.heap HX4.out (by simp; omega))
      have hql := lt_of_heap (hFr.heap HX4.out (by simp; omega))
      have H4 := Lib.hid (hFr.heap HX4.out (by simp; omega))
      rw [List.take_length] at hR hD
      go_wp2
      obtain ⟨r0, r1, z1, z2, z3⟩ := rcl_end (t4 := w.heap.size + 1) (now := T) HFX.out (Frm.refl [] X) hFr (by omega) (by omega) (by omega) H4.out hR
      have hDE : Als ((wr.setCell ⟨w.heap.size + 1, 0, none⟩ (.int .i64 T)).setCell ⟨w.heap.size + 1, 1, none⟩ (.slice a' n' c')) (.slice da dn dc) (dueL T l) :=
        hD.als.frm (((Frm.refl [w.heap.size + 1] wr).setCell _ _ (.inl (by simp))).setCell _ _ (.inl (by simp))) (fun x hx hx6 => by have h1 := (hD.blk x hx).1; rw [List.mem_singleton.1 hx6] at h1; omega)
      have hDb : ∀ x ∈ blk (.slice da dn dc), w.heap.size ≤ x := fun x hx => by have h1 := (hD.blk x hx).1; omega
      generalize ((wr.setCell ⟨w.heap.size + 1, 0, none⟩ (.int .i64 T)).setCell ⟨w.heap.size + 1, 1, none⟩ (.slice a' n' c')) = W at r0 r1 z1 z2 hDE ⊢
      refine bodyPost_ret (v := .tuple #[.agg #[.int .i64 T, .slice a' n' c'], .slice da dn dc, .int .i64 0]) (by simp [results, Try.results36, go_sem, r0, r1]) rfl ⟨a', n', c', da, dn, dc, rfl, z1, z2, hDE, fun x hx => .inr (z3 x hx), hDb⟩
end Go.Proofs.Ytamnhpcbflpabaa
