/- Layer 2: the walk of ClockPlays. -/
import Derived.Test.YtamnhpcbflpabaaClkRY
import Derived.Test.YtamnhpcbflpabaaArgsAct
namespace Go.Proofs.Ytamnhpcbflpabaa
open Go.ChangeShapes Go.WideShapes Go.ChangeAt Go.RowKit

/-- What is true of a clock's tick and alarms. -/
structure PInv (now : Int) (l : List Al) : Prop where
  tick : tk now = true
  sorted : Sorted l
  uniq : Uniq l
  ids : ∀ x ∈ l, 0 ≤ x.1
  len : l.length ≤ 4096
theorem PInv.new {now : Int} (ht : tk now = true) : PInv now [] := ⟨ht, List.Pairwise.nil, List.Pairwise.nil, (fun x hx => by cases hx), by simp⟩
theorem idx_neg {l : List Al} {id : Int} (hi : ¬ 0 ≤ idx l id) : ∀ y ∈ l, y.1 ≠ id := by
  intro y hy e
  have hn : ¬ idxN l id < l.length := fun h => hi (by unfold idx; rw [if_pos h]; omega)
  apply hn
  unfold idxN
  rw [List.findIdx_lt_length]
  exact ⟨y, hy, by simpa using e⟩
theorem PInv.set {now : Int} {l : List Al} (h : PInv now l) (id at' : Int) : PInv now (sL l id at') := by
  unfold sL
  split
  · rename_i he
    have hc : ¬ (id < 0 ∨ tk at' = false) ∧ ¬ 0 ≤ idx l id ∧ ¬ l.length = 4096 := by
      unfold sErr at he
      split at he
      · omega
      · split at he
        · omega
        · split at he
          · omega
          · exact ⟨by assumption, by assumption, by assumption⟩
    obtain ⟨c1, c2, c3⟩ := hc
    have hid := idx_neg c2
    have hlen := h.len
    refine ⟨h.tick, ins_sorted h.sorted hid, ?_, fun x hx => ?_, by rw [insN_length _ _ _ (pos_le _ _)]; omega⟩
    · have hu := h.uniq
      unfold insN Uniq
      rw [List.pairwise_append, List.pairwise_cons]
      refine ⟨List.Pairwise.sublist (List.take_sublist _ _) hu, ⟨fun y hy e => hid y (List.mem_of_mem_drop hy) e.symm, List.Pairwise.sublist (List.drop_sublist _ _) hu⟩, fun x hx y hy => ?_⟩
      rcases List.mem_cons.1 hy with rfl | hy
      · exact hid x (List.mem_of_mem_take hx)
      · have hp : Uniq (l.take (pos l (id, at')) ++ l.drop (pos l (id, at'))) := by rw [List.take_append_drop]; exact hu
        unfold Uniq at hp
        rw [List.pairwise_append] at hp
        exact hp.2.2 x hx y hy
    · rcases mem_ins hx with rfl | hx
      · show 0 ≤ id; omega
      · exact h.ids x hx
  · exact h
theorem PInv.sub {now now' : Int} {l l' : List Al} (h : PInv now l) (ht : tk now' = true) (hs : l'.Sublist l) : PInv now' l' :=
  ⟨ht, List.Pairwise.sublist hs h.sorted, List.Pairwise.sublist hs h.uniq, fun x hx => h.ids x (hs.mem hx), Nat.le_trans hs.length_le h.len⟩
theorem PInv.clear {now : Int} {l : List Al} (h : PInv now l) (id : Int) : PInv now (cL l id) := by
  unfold cL
  split
  · exact h.sub h.tick (List.eraseIdx_sublist _ _)
  · exact h
theorem PInv.pass {now : Int} {l : List Al} (h : PInv now l) {m : Int} (hm : 0 ≤ m) : PInv (dl now m) (l.drop (cutAt (dl now m) l)) := h.sub (dl_tk h.tick hm) (List.drop_sublist _ _)

/-- The clock, and the reference's clock in the variable t7, look alike. -/
structure PS (w0 w : World) (t7 p : Nat) (v : Value) (a : Option Addr) (n c : Nat) (now : Int) (l : List Al) : Prop where
  frm : Frm [] w0 w
  k : ClockAt w p now v l
  g : w.heap[t7]? = some (.cells #[.int .i64 now, .slice a n c] 35 (0, 0))
  als : Als w (.slice a n c) l
  new : New w0 (p :: blk v)
  t7n : w0.heap.size ≤ t7
  t7k : t7 ∉ p :: blk v
  t7a : t7 ∉ blk (.slice a n c)
  j : ∀ x ∈ blk (.slice a n c), x ∉ p :: blk v
  inv : PInv now l
namespace PS
variable {w0 w w' : World} {t7 p n c : Nat} {v : Value} {a : Option Addr} {now : Int} {l : List Al}
theorem go {D : List Nat} (h : PS w0 w t7 p v a n c now l) (hf : Frm D w w') (hD : ∀ x ∈ D, w.heap.size ≤ x) : PS w0 w' t7 p v a n c now l := by
  have hn : ∀ x, x < w.heap.size → x ∉ D := fun x hx hd => by have := hD x hd; omega
  have hb := h.k.blt
  exact ⟨h.frm.trans_new hf (fun x hx => .inr (by have := hD x hx; have := h.frm.size; omega)), h.k.frm hf (hn _ (hb p (by simp))) (fun x hx => hn x (hb x (List.mem_cons_of_mem _ hx))), hf.heap h.g (hn _ (lt_of_heap h.g)), h.als.frm hf (fun x hx => hn x (h.als.lt x hx)), h.new, h.t7n, h.t7k, h.t7a, h.j, h.inv⟩
theorem go0 (h : PS w0 w t7 p v a n c now l) (hf : Frm [] w w') : PS w0 w' t7 p v a n c now l := h.go hf (by simp)
/-- Behind a call of acts, its result stored. -/
theorem act {w2 : World} {v' : Value} {a' : Option Addr} {n' c' : Nat} {now' : Int} {l' : List Al} (h : PS w0 w t7 p v a n c now l) (hF : Frm (p :: blk v) w w2) (hK : ClockAt w2 p now' v' l') (hA : Als w2 (.slice a' n' c') l')
    (hb : ∀ x ∈ blk v', x ∈ blk v ∨ w.heap.size ≤ x) (hr : ∀ x ∈ blk (.slice a' n' c'), x ∈ blk (.slice a n c) ∨ w.heap.size ≤ x) (hj : ∀ x ∈ blk (.slice a' n' c'), x ∉ p :: blk v') (hi : PInv now' l') :
    PS w0 ((w2.setCell ⟨t7, 0, none⟩ (.int .i64 now')).setCell ⟨t7, 1, none⟩ (.slice a' n' c')) t7 p v' a' n' c' now' l' := by
  have h7 := lt_of_heap h.g
  have h7k : t7 ∉ p :: blk v' := fun hx => by
    rcases List.mem_cons.1 hx with h1 | h1
    · exact h.t7k (by rw [h1]; simp)
    · rcases hb _ h1 with h2 | h2
      · exact h.t7k (List.mem_cons_of_mem _ h2)
      · omega
  have h7a : t7 ∉ blk (.slice a' n' c') := fun hx => by
    rcases hr _ hx with h2 | h2
    · exact h.t7a h2
    · omega
  have hg2 := hF.heap h.g h.t7k
  have hS : Frm [t7] w2 ((w2.setCell ⟨t7, 0, none⟩ (.int .i64 now')).setCell ⟨t7, 1, none⟩ (.slice a' n' c')) := ((Frm.refl _ _).setCell _ _ (.inl (by simp))).setCell _ _ (.inl (by simp))
  refine ⟨(h.frm.trans_new hF (fun x hx => .inr (h.new x hx))).trans_new hS (fun x hx => .inr (by rw [List.mem_singleton.1 hx]; exact h.t7n)), hK.frm hS (fun hx => h7k (by rw [← List.mem_singleton.1 hx]; simp)) (fun x hx hx7 => h7k (by rw [← List.mem_singleton.1 hx7]; exact List.mem_cons_of_mem _ hx)), setCells2 hg2 _ _,
    hA.frm hS (fun x hx hx7 => h7a (by rw [← List.mem_singleton.1 hx7]; exact hx)), fun x hx => ?_, h.t7n, h7k, h7a, hj, hi⟩
  rcases List.mem_cons.1 hx with rfl | hx
  · exact h.new _ (by simp)
  · rcases hb x hx with h2 | h2
    · exact h.new x (List.mem_cons_of_mem _ h2)
    · have := h.frm.size; omega
/-- Behind a copy that goes on in its place, whatever happened to the old one. -/
theorem copy {w1 w2 : World} {q : Nat} {v' : Value} (h : PS w0 w t7 p v a n c now l) (hF1 : Frm [] w w1) (hQ : ClockAt w1 q now v' l) (hq : w.heap.size ≤ q) (hb : ∀ x ∈ blk v', w.heap.size ≤ x)
    {w3 : World} (hF2 : Frm (p :: blk v) w1 w2) (hF3 : Frm [p] w2 w3) : PS w0 w3 t7 q v' a n c now l := by
  have hbl := h.k.blt
  have hp := hbl p (by simp)
  have hF23 : Frm (p :: blk v) w1 w3 := hF2.trans (hF3.weak (by intro x hx; rw [List.mem_singleton.1 hx]; simp))
  have h1 := h.go0 hF1
  have hqn : ∀ x ∈ q :: blk v', w.heap.size ≤ x := fun x hx => by
    rcases List.mem_cons.1 hx with rfl | hx
    · exact hq
    · exact hb x hx
  have hsep : ∀ x ∈ q :: blk v', x ∉ p :: blk v := fun x hx hx2 => by have := hqn x hx; have := hbl x hx2; omega
  have h7 := lt_of_heap h.g
  refine ⟨h1.frm.trans_new hF23 (fun x hx => .inr (h.new x hx)), hQ.frm hF23 (hsep q (by simp)) (fun x hx => hsep x (List.mem_cons_of_mem _ hx)), hF23.heap h1.g h.t7k, h1.als.frm hF23 h.j, fun x hx => by have := hqn x hx; have := h.frm.size; omega, h.t7n, fun hx => by have := hqn _ hx; omega, h.t7a, fun x hx hx2 => by have := h.als.lt x hx; have := hqn x hx2; omega, h.inv⟩
end PS

/-- A list of alarms that was given, its ticks changed or not. -/
def Giv (w : World) (g m : Nat) : Prop := ∃ cs : Array Value, w.heap[g]? = some (.cells cs 47 (0, 0)) ∧ ∀ i, i < m → ∃ y : Int, cs[i * 2 + 1]? = some (.int .i64 y)
theorem Giv.set {w : World} {g m : Nat} (h : Giv w g m) (i : Nat) (y : Int) : Giv (w.setCell ⟨g, i * 2 + 1, none⟩ (.int .i64 y)) g m := by
  obtain ⟨cs, hg, hc⟩ := h
  refine ⟨_, heap_setCell_at _ hg, fun j hj => ?_⟩
  obtain ⟨z, hz⟩ := hc j hj
  rw [Array.getElem?_setIfInBounds]
  split
  · rename_i e
    rw [if_pos (by rw [e]; exact (Array.getElem?_eq_some_iff.1 hz).1)]
    exact ⟨y, rfl⟩
  · exact ⟨z, hz⟩
theorem Giv.of {w : World} {g : Nat} {l : List Al} (h : w.heap[g]? = some (.cells (flat l).toArray 47 (0, 0))) : Giv w g l.length :=
  ⟨_, h, fun i hi => ⟨_, by rw [List.getElem?_toArray]; exact flat_get1 (List.getElem?_eq_getElem hi)⟩⟩

theorem ix_act {a : Option Addr} {n c b o k : Nat} (ha : a = some ⟨b, o, none⟩) (hk : k < n) (w : World) : (Instr.indexAt 29 (.slice a n c) (.int .i64 (k : Int))).run Try.prog w = .ok (.pointer (some ⟨b, o + k * 3, none⟩)) w := by
  subst ha
  have h1 : (k : Int) < (n : Int) := by omega
  simp [go_sem, h1]

set_option maxRecDepth 100000 in
set_option maxHeartbeats 16000000 in
theorem plays_core (now : Int) (ht : tk now = true) (a1 : Option Addr) (n1 c1 : Nat) (xs : List ActV) (w : World) (hX : IsActs w a1 n1 xs) (hn1 : n1 ≤ 60) :
    Calls Try.prog 4 #[.int .i64 now, .slice a1 n1 c1] w (Ret (.bool true) (fun w' => Below w.heap.size w w')) := by
  have d1 : decide ((60 : Int) < (n1 : Int)) = false := by simp; omega
  have HT := Lib.hid ht
  have HXA := Lib.hid hX
  clear ht hX
  go_enter Try.func4, Try.ntmps4
  go_wp2_with fail
  refine (new_ok _ now HT.out).mono ?_
  rintro e w1 ⟨p0, rfl, hF1, hK1, hp0⟩
  go_wp2_with fail
  refine (rtick_any _ _).mono ?_
  rintro e w' ⟨rfl, rfl⟩
  rw [HT.out]
  go_wp2_with fail
  have hpl := hK1.plt
  have hPS : PS w (w1.alloc (.cells #[.int .i64 now, .slice none 0 0] 35)) w1.heap.size p0 (.slice none 0 0) none 0 0 now [] :=
    ⟨hF1.alloc _, hK1.alloc _, heap_alloc_new _ _, .inl ⟨rfl, rfl⟩, (fun x hx => by simp [blk] at hx; omega), hF1.size, by simp [blk]; omega, by simp [blk], (fun x hx => by cases hx), PInv.new HT.out⟩
  generalize (w1.alloc (.cells #[.int .i64 now, .slice none 0 0] 35)) = w2 at hPS ⊢
  generalize w1.heap.size = t7 at hPS ⊢
  clear hF1 hK1 hp0 hpl
  go_loopw [5, 46] (fun s5 i wr => ∃ (k p n c : Nat) (v : Value) (a : Option Addr) (now' : Int) (l : List Al), k ≤ n1 ∧ i = .int .i64 k ∧ s5 = .pointer (some ⟨p, 0, none⟩) ∧ PS w wr t7 p v a n c now' l) (fun _ i _ => n1 - (intOf i).toNat)
  case atStart => exact ⟨0, p0, 0, 0, _, none, now, [], by omega, rfl, rfl, hPS⟩
  case round =>
    obtain ⟨k, p, n, c, v, a, now', l, hk, rfl, rfl, hS⟩ := hrel
    clear hPS
    by_cases hlt : k < n1
    · have hb0 : (0 : Int) ≤ (k : Int) := by omega
      have hb1 : (k : Int) < (n1 : Int) := by omega
      obtain ⟨b1, o1, ha, hbw, hr⟩ := HXA.out.2 (by omega)
      have hxk : xs[k]? = some (xs[k]'(by have := HXA.out.1; omega)) := List.getElem?_eq_getElem _
      generalize (xs[k]'(by have := HXA.out.1; omega)) = x at hxk
      obtain ⟨c0, cA, cB⟩ := (hr k x hxk).frm hS.frm hbw (by simp)
      obtain ⟨x0, A, B⟩ := x
      have hix := ix_act (c := c1) ha hlt
      clear ha hr hxk
      have hSa := hS.go0 ((Frm.refl [] _).alloc (.cells #[.int .i64 x0, .int .i64 A, .int .i64 B] 37))
      obtain ⟨g0, g1, gf0, gf1⟩ := rclock_cells hSa.g
      obtain ⟨m0, m1, m2⟩ := cells3' (heap_alloc_new wr (.cells #[.int .i64 x0, .int .i64 A, .int .i64 B] 37))
      have hgl := lt_of_heap hSa.g
      have hlen := hS.inv.len
      have HSA := Lib.hid hSa
      clear hSa
      by_cases hx0 : x0 < 0
      · have e1 : decide (x0 < 0) = true := by simpa using hx0
        clear hx0
        go_wp2_with fail
        refine (copy_clk HSA.out.k HSA.out.inv.len).mono ?_
        rintro e w3 ⟨q, vq, rfl, hF3, hQ3, hq3, hvq3⟩
        have hK3 := HSA.out.k.frm0 hF3
        have hset := set_any hK3 HSA.out.inv.sorted HSA.out.inv.len 1099511627776 0
        go_wp2_with fail
        refine hset.mono ?_
        rintro e w4 ⟨v4, rfl, hF4, hK4, hb4⟩
        have hi4 := HSA.out.inv.set 1099511627776 0
        go_wp2_with fail
        refine (tick_ok hK4 hi4.sorted hi4.len hi4.tick 2305843009213693952 (by decide)).mono ?_
        rintro e w5 ⟨g5, v5, rfl, hF5, hK5, hG5, hg5, hb5⟩
        have hP := HSA.out.copy hF3 hQ3 hq3 hvq3 hF4 hF5
        obtain ⟨h0, h1, hf0, hf1⟩ := rclock_cells hP.g
        clear hF3 hQ3 hq3 hvq3 hK3 hset hF4 hK4 hb4 hi4 hF5 hK5 hG5 hg5 hb5 g0 g1 gf0 gf1 m0 m1 m2 c0 cA cB hgl
        go_wp2_with fail
        refine (looks_any hP.k hP.als hP.inv.len).mono ?_
        rintro e wa ⟨rfl, hFa⟩
        have hPa := hP.go0 hFa
        clear hP hFa
        go_wp2_with fail
        refine (alarms_clk hPa.k hPa.inv.len).mono ?_
        rintro e wb ⟨rfl, hFb, hGb⟩
        have hPb := hPa.go0 hFb
        obtain ⟨g, hg⟩ : ∃ g, g = wa.heap.size := ⟨_, rfl⟩
        rw [← hg] at hGb ⊢
        have hgn : ∀ x ∈ [g], wa.heap.size ≤ x := fun x hx => by rw [List.mem_singleton.1 hx, hg]; exact Nat.le_refl _
        have hGiv := Giv.of hGb
        have HGN := Lib.hid hgn
        clear hg hgn
        go_wp2_with fail
        have hll := hPb.inv.len
        obtain ⟨ML, hML⟩ : ∃ n, n = l.length := ⟨_, rfl⟩
        rw [← hML] at hGiv hll ⊢
        have HML := Lib.hid hML
        clear hGb hML
        go_loopw [85] (fun i wc => ∃ t : Nat, t ≤ ML ∧ i = .int .i64 t ∧ Frm [g] wb wc ∧ Giv wc g ML) (fun i _ => ML - (intOf i).toNat)
        case atStart => exact ⟨0, by omega, rfl, Frm.refl _ _, hGiv⟩
        case round =>
          obtain ⟨t, ht, rfl, hFc, hGc⟩ := hrel
          by_cases hlt2 : t < ML
          · have hb2 : (0 : Int) ≤ (t : Int) := by omega
            have hb3 : (t : Int) < (ML : Int) := by omega
            obtain ⟨cs, hgc, hcs⟩ := id hGc
            obtain ⟨y, hy⟩ := hcs t hlt2
            have u1 : wr.cell? ⟨g, t * 2 + 1, none⟩ = some (.int .i64 y) := (cell_of_heap hgc).trans hy
            have u2 : wr.frozen? ⟨g, t * 2 + 1, none⟩ = false := frozen_of_heap hgc
            have u3 := lt_of_heap hgc
            clear hgc hcs hy
            go_wp2
            go_roundw
            case rel => exact ⟨t + 1, by omega, by go_num, hFc.setCell _ _ (.inl (by simp)), hGc.set _ _⟩
            case measure => simp [intOf]; omega
          · have hPc := PS.go hPa (hFb.nil.trans hFc) HGN.out
            obtain ⟨v0, v1, vf0, vf1⟩ := rclock_cells hPc.g
            clear hPb hFc hGc hGiv
            go_wp2_with fail
            refine (looks_any hPc.k hPc.als hPc.inv.len).mono ?_
            rintro e wd ⟨rfl, hFd⟩
            go_wp2
            go_roundw
            case rel => exact ⟨k + 1, _, _, _, _, _, _, _, by omega, by go_num, rfl, hPc.go0 hFd⟩
            case measure => simp [intOf]; omega
      · have e1 : decide (x0 < 0) = false := by simpa using hx0
        by_cases hx2 : 2 < x0
        · have e2 : decide (2 < x0) = true := by simpa using hx2
          clear hx0 hx2
          go_wp2_with fail
          refine (copy_clk HSA.out.k HSA.out.inv.len).mono ?_
          rintro e w3 ⟨q, vq, rfl, hF3, hQ3, hq3, hvq3⟩
          have hK3 := HSA.out.k.frm0 hF3
          have hset := set_any hK3 HSA.out.inv.sorted HSA.out.inv.len 1099511627776 0
          go_wp2_with fail
          refine hset.mono ?_
          rintro e w4 ⟨v4, rfl, hF4, hK4, hb4⟩
          have hi4 := HSA.out.inv.set 1099511627776 0
          go_wp2_with fail
          refine (tick_ok hK4 hi4.sorted hi4.len hi4.tick 2305843009213693952 (by decide)).mono ?_
          rintro e w5 ⟨g5, v5, rfl, hF5, hK5, hG5, hg5, hb5⟩
          have hP := HSA.out.copy hF3 hQ3 hq3 hvq3 hF4 hF5
          obtain ⟨h0, h1, hf0, hf1⟩ := rclock_cells hP.g
          clear hF3 hQ3 hq3 hvq3 hK3 hset hF4 hK4 hb4 hi4 hF5 hK5 hG5 hg5 hb5 g0 g1 gf0 gf1 m0 m1 m2 c0 cA cB hgl
          go_wp2_with fail
          refine (looks_any hP.k hP.als hP.inv.len).mono ?_
          rintro e wa ⟨rfl, hFa⟩
          have hPa := hP.go0 hFa
          clear hP hFa
          go_wp2_with fail
          refine (alarms_clk hPa.k hPa.inv.len).mono ?_
          rintro e wb ⟨rfl, hFb, hGb⟩
          have hPb := hPa.go0 hFb
          obtain ⟨g, hg⟩ : ∃ g, g = wa.heap.size := ⟨_, rfl⟩
          rw [← hg] at hGb ⊢
          have hgn : ∀ x ∈ [g], wa.heap.size ≤ x := fun x hx => by rw [List.mem_singleton.1 hx, hg]; exact Nat.le_refl _
          have hGiv := Giv.of hGb
          have HGN := Lib.hid hgn
          clear hg hgn
          go_wp2_with fail
          have hll := hPb.inv.len
          obtain ⟨ML, hML⟩ : ∃ n, n = l.length := ⟨_, rfl⟩
          rw [← hML] at hGiv hll ⊢
          have HML := Lib.hid hML
          clear hGb hML
          go_loopw [85] (fun i wc => ∃ t : Nat, t ≤ ML ∧ i = .int .i64 t ∧ Frm [g] wb wc ∧ Giv wc g ML) (fun i _ => ML - (intOf i).toNat)
          case atStart => exact ⟨0, by omega, rfl, Frm.refl _ _, hGiv⟩
          case round =>
            obtain ⟨t, ht, rfl, hFc, hGc⟩ := hrel
            by_cases hlt2 : t < ML
            · have hb2 : (0 : Int) ≤ (t : Int) := by omega
              have hb3 : (t : Int) < (ML : Int) := by omega
              obtain ⟨cs, hgc, hcs⟩ := id hGc
              obtain ⟨y, hy⟩ := hcs t hlt2
              have u1 : wr.cell? ⟨g, t * 2 + 1, none⟩ = some (.int .i64 y) := (cell_of_heap hgc).trans hy
              have u2 : wr.frozen? ⟨g, t * 2 + 1, none⟩ = false := frozen_of_heap hgc
              have u3 := lt_of_heap hgc
              clear hgc hcs hy
              go_wp2
              go_roundw
              case rel => exact ⟨t + 1, by omega, by go_num, hFc.setCell _ _ (.inl (by simp)), hGc.set _ _⟩
              case measure => simp [intOf]; omega
            · have hPc := PS.go hPa (hFb.nil.trans hFc) HGN.out
              obtain ⟨v0, v1, vf0, vf1⟩ := rclock_cells hPc.g
              clear hPb hFc hGc hGiv
              go_wp2_with fail
              refine (looks_any hPc.k hPc.als hPc.inv.len).mono ?_
              rintro e wd ⟨rfl, hFd⟩
              go_wp2
              go_roundw
              case rel => exact ⟨k + 1, _, _, _, _, _, _, _, by omega, by go_num, rfl, hPc.go0 hFd⟩
              case measure => simp [intOf]; omega
        · have hx012 : x0 = 0 ∨ x0 = 1 ∨ x0 = 2 := by omega
          clear e1 hx0 hx2
          rcases hx012 with rfl | rfl | rfl
          · have hcall := acts0 HSA.out.k HSA.out.als HSA.out.inv.sorted HSA.out.inv.len HSA.out.j A B
            have hinv := HSA.out.inv.set A B
            generalize sL l A B = L at hcall hinv
            have HCALL := Lib.hid hcall
            clear hcall
            go_wp2_with fail
            refine HCALL.out.mono ?_
            rintro e w3 ⟨v3, ra, rn, rc, rfl, hF3, hK3, hA3, hb3', hr3, hj3⟩
            have hg3 := hF3.heap HSA.out.g HSA.out.t7k
            obtain ⟨h0, h1, hf0, hf1⟩ := rclock_cells hg3
            have hgl3 := lt_of_heap hg3
            clear hg3 g0 g1 gf0 gf1 m0 m1 m2 c0 cA cB hgl
            go_wp2_with fail
            have hP := (HSA.out.act hF3 hK3 hA3 hb3' hr3 hj3 hinv).go0 ((Frm.refl [] _).alloc (.cells #[.int .i64 now', .slice ra rn rc] 35))
            clear hF3 hK3 hA3 hb3' hr3 hj3 h0 h1 hf0 hf1 hgl3
            refine (looks_any hP.k hP.als hP.inv.len).mono ?_
            rintro e wa ⟨rfl, hFa⟩
            have hPa := hP.go0 hFa
            clear hP hFa
            go_wp2_with fail
            refine (alarms_clk hPa.k hPa.inv.len).mono ?_
            rintro e wb ⟨rfl, hFb, hGb⟩
            have hPb := hPa.go0 hFb
            obtain ⟨g, hg⟩ : ∃ g, g = wa.heap.size := ⟨_, rfl⟩
            rw [← hg] at hGb ⊢
            have hgn : ∀ x ∈ [g], wa.heap.size ≤ x := fun x hx => by rw [List.mem_singleton.1 hx, hg]; exact Nat.le_refl _
            have hGiv := Giv.of hGb
            have HGN := Lib.hid hgn
            clear hg hgn
            go_wp2_with fail
            have hll := hPb.inv.len
            obtain ⟨ML, hML⟩ : ∃ n, n = L.length := ⟨_, rfl⟩
            rw [← hML] at hGiv hll ⊢
            have HML := Lib.hid hML
            clear hGb hML
            go_loopw [85] (fun i wc => ∃ t : Nat, t ≤ ML ∧ i = .int .i64 t ∧ Frm [g] wb wc ∧ Giv wc g ML) (fun i _ => ML - (intOf i).toNat)
            case atStart => exact ⟨0, by omega, rfl, Frm.refl _ _, hGiv⟩
            case round =>
              obtain ⟨t, ht, rfl, hFc, hGc⟩ := hrel
              by_cases hlt2 : t < ML
              · have hb2 : (0 : Int) ≤ (t : Int) := by omega
                have hb3 : (t : Int) < (ML : Int) := by omega
                obtain ⟨cs, hgc, hcs⟩ := id hGc
                obtain ⟨y, hy⟩ := hcs t hlt2
                have u1 : wr.cell? ⟨g, t * 2 + 1, none⟩ = some (.int .i64 y) := (cell_of_heap hgc).trans hy
                have u2 : wr.frozen? ⟨g, t * 2 + 1, none⟩ = false := frozen_of_heap hgc
                have u3 := lt_of_heap hgc
                clear hgc hcs hy
                go_wp2
                go_roundw
                case rel => exact ⟨t + 1, by omega, by go_num, hFc.setCell _ _ (.inl (by simp)), hGc.set _ _⟩
                case measure => simp [intOf]; omega
              · have hPc := PS.go hPa (hFb.nil.trans hFc) HGN.out
                obtain ⟨v0, v1, vf0, vf1⟩ := rclock_cells hPc.g
                clear hPb hFc hGc hGiv
                go_wp2_with fail
                refine (looks_any hPc.k hPc.als hPc.inv.len).mono ?_
                rintro e wd ⟨rfl, hFd⟩
                go_wp2
                go_roundw
                case rel => exact ⟨k + 1, _, _, _, _, _, _, _, by omega, by go_num, rfl, hPc.go0 hFd⟩
                case measure => simp [intOf]; omega
          · have hcall := acts1 HSA.out.k HSA.out.als HSA.out.inv.uniq HSA.out.inv.len HSA.out.j A B
            have hinv := HSA.out.inv.clear A
            generalize cL l A = L at hcall hinv
            have HCALL := Lib.hid hcall
            clear hcall
            go_wp2_with fail
            refine HCALL.out.mono ?_
            rintro e w3 ⟨v3, ra, rn, rc, rfl, hF3, hK3, hA3, hb3', hr3, hj3⟩
            have hg3 := hF3.heap HSA.out.g HSA.out.t7k
            obtain ⟨h0, h1, hf0, hf1⟩ := rclock_cells hg3
            have hgl3 := lt_of_heap hg3
            clear hg3 g0 g1 gf0 gf1 m0 m1 m2 c0 cA cB hgl
            go_wp2_with fail
            have hP := (HSA.out.act hF3 hK3 hA3 hb3' hr3 hj3 hinv).go0 ((Frm.refl [] _).alloc (.cells #[.int .i64 now', .slice ra rn rc] 35))
            clear hF3 hK3 hA3 hb3' hr3 hj3 h0 h1 hf0 hf1 hgl3
            refine (looks_any hP.k hP.als hP.inv.len).mono ?_
            rintro e wa ⟨rfl, hFa⟩
            have hPa := hP.go0 hFa
            clear hP hFa
            go_wp2_with fail
            refine (alarms_clk hPa.k hPa.inv.len).mono ?_
            rintro e wb ⟨rfl, hFb, hGb⟩
            have hPb := hPa.go0 hFb
            obtain ⟨g, hg⟩ : ∃ g, g = wa.heap.size := ⟨_, rfl⟩
            rw [← hg] at hGb ⊢
            have hgn : ∀ x ∈ [g], wa.heap.size ≤ x := fun x hx => by rw [List.mem_singleton.1 hx, hg]; exact Nat.le_refl _
            have hGiv := Giv.of hGb
            have HGN := Lib.hid hgn
            clear hg hgn
            go_wp2_with fail
            have hll := hPb.inv.len
            obtain ⟨ML, hML⟩ : ∃ n, n = L.length := ⟨_, rfl⟩
            rw [← hML] at hGiv hll ⊢
            have HML := Lib.hid hML
            clear hGb hML
            go_loopw [85] (fun i wc => ∃ t : Nat, t ≤ ML ∧ i = .int .i64 t ∧ Frm [g] wb wc ∧ Giv wc g ML) (fun i _ => ML - (intOf i).toNat)
            case atStart => exact ⟨0, by omega, rfl, Frm.refl _ _, hGiv⟩
            case round =>
              obtain ⟨t, ht, rfl, hFc, hGc⟩ := hrel
              by_cases hlt2 : t < ML
              · have hb2 : (0 : Int) ≤ (t : Int) := by omega
                have hb3 : (t : Int) < (ML : Int) := by omega
                obtain ⟨cs, hgc, hcs⟩ := id hGc
                obtain ⟨y, hy⟩ := hcs t hlt2
                have u1 : wr.cell? ⟨g, t * 2 + 1, none⟩ = some (.int .i64 y) := (cell_of_heap hgc).trans hy
                have u2 : wr.frozen? ⟨g, t * 2 + 1, none⟩ = false := frozen_of_heap hgc
                have u3 := lt_of_heap hgc
                clear hgc hcs hy
                go_wp2
                go_roundw
                case rel => exact ⟨t + 1, by omega, by go_num, hFc.setCell _ _ (.inl (by simp)), hGc.set _ _⟩
                case measure => simp [intOf]; omega
              · have hPc := PS.go hPa (hFb.nil.trans hFc) HGN.out
                obtain ⟨v0, v1, vf0, vf1⟩ := rclock_cells hPc.g
                clear hPb hFc hGc hGiv
                go_wp2_with fail
                refine (looks_any hPc.k hPc.als hPc.inv.len).mono ?_
                rintro e wd ⟨rfl, hFd⟩
                go_wp2
                go_roundw
                case rel => exact ⟨k + 1, _, _, _, _, _, _, _, by omega, by go_num, rfl, hPc.go0 hFd⟩
                case measure => simp [intOf]; omega
          · by_cases hA0 : 0 ≤ A
            · have hcall := acts2 HSA.out.k HSA.out.als HSA.out.inv.sorted HSA.out.inv.len HSA.out.inv.ids HSA.out.inv.tick HSA.out.j A B hA0
              have hinv := HSA.out.inv.pass hA0
              generalize dl now' A = T at hcall hinv
              generalize l.drop (cutAt T l) = L at hcall hinv
              have HCALL := Lib.hid hcall
              clear hcall
              go_wp2_with fail
              refine HCALL.out.mono ?_
              rintro e w3 ⟨v3, ra, rn, rc, rfl, hF3, hK3, hA3, hb3', hr3, hj3⟩
              have hg3 := hF3.heap HSA.out.g HSA.out.t7k
              obtain ⟨h0, h1, hf0, hf1⟩ := rclock_cells hg3
              have hgl3 := lt_of_heap hg3
              clear hg3 g0 g1 gf0 gf1 m0 m1 m2 c0 cA cB hgl
              go_wp2_with fail
              have hP := (HSA.out.act hF3 hK3 hA3 hb3' hr3 hj3 hinv).go0 ((Frm.refl [] _).alloc (.cells #[.int .i64 T, .slice ra rn rc] 35))
              clear hF3 hK3 hA3 hb3' hr3 hj3 h0 h1 hf0 hf1 hgl3
              refine (looks_any hP.k hP.als hP.inv.len).mono ?_
              rintro e wa ⟨rfl, hFa⟩
              have hPa := hP.go0 hFa
              clear hP hFa
              go_wp2_with fail
              refine (alarms_clk hPa.k hPa.inv.len).mono ?_
              rintro e wb ⟨rfl, hFb, hGb⟩
              have hPb := hPa.go0 hFb
              obtain ⟨g, hg⟩ : ∃ g, g = wa.heap.size := ⟨_, rfl⟩
              rw [← hg] at hGb ⊢
              have hgn : ∀ x ∈ [g], wa.heap.size ≤ x := fun x hx => by rw [List.mem_singleton.1 hx, hg]; exact Nat.le_refl _
              have hGiv := Giv.of hGb
              have HGN := Lib.hid hgn
              clear hg hgn
              go_wp2_with fail
              have hll := hPb.inv.len
              obtain ⟨ML, hML⟩ : ∃ n, n = L.length := ⟨_, rfl⟩
              rw [← hML] at hGiv hll ⊢
              have HML := Lib.hid hML
              clear hGb hML
              go_loopw [85] (fun i wc => ∃ t : Nat, t ≤ ML ∧ i = .int .i64 t ∧ Frm [g] wb wc ∧ Giv wc g ML) (fun i _ => ML - (intOf i).toNat)
              case atStart => exact ⟨0, by omega, rfl, Frm.refl _ _, hGiv⟩
              case round =>
                obtain ⟨t, ht, rfl, hFc, hGc⟩ := hrel
                by_cases hlt2 : t < ML
                · have hb2 : (0 : Int) ≤ (t : Int) := by omega
                  have hb3 : (t : Int) < (ML : Int) := by omega
                  obtain ⟨cs, hgc, hcs⟩ := id hGc
                  obtain ⟨y, hy⟩ := hcs t hlt2
                  have u1 : wr.cell? ⟨g, t * 2 + 1, none⟩ = some (.int .i64 y) := (cell_of_heap hgc).trans hy
                  have u2 : wr.frozen? ⟨g, t * 2 + 1, none⟩ = false := frozen_of_heap hgc
                  have u3 := lt_of_heap hgc
                  clear hgc hcs hy
                  go_wp2
                  go_roundw
                  case rel => exact ⟨t + 1, by omega, by go_num, hFc.setCell _ _ (.inl (by simp)), hGc.set _ _⟩
                  case measure => simp [intOf]; omega
                · have hPc := PS.go hPa (hFb.nil.trans hFc) HGN.out
                  obtain ⟨v0, v1, vf0, vf1⟩ := rclock_cells hPc.g
                  clear hPb hFc hGc hGiv
                  go_wp2_with fail
                  refine (looks_any hPc.k hPc.als hPc.inv.len).mono ?_
                  rintro e wd ⟨rfl, hFd⟩
                  go_wp2
                  go_roundw
                  case rel => exact ⟨k + 1, _, _, _, _, _, _, _, by omega, by go_num, rfl, hPc.go0 hFd⟩
                  case measure => simp [intOf]; omega
            · have hcall := acts3 HSA.out.k HSA.out.als HSA.out.j A B (by omega)
              have hinv := HSA.out.inv
              have HCALL := Lib.hid hcall
              clear hcall
              go_wp2_with fail
              refine HCALL.out.mono ?_
              rintro e w3 ⟨v3, ra, rn, rc, rfl, hF3, hK3, hA3, hb3', hr3, hj3⟩
              have hg3 := hF3.heap HSA.out.g HSA.out.t7k
              obtain ⟨h0, h1, hf0, hf1⟩ := rclock_cells hg3
              have hgl3 := lt_of_heap hg3
              clear hg3 g0 g1 gf0 gf1 m0 m1 m2 c0 cA cB hgl
              go_wp2_with fail
              have hP := (HSA.out.act hF3 hK3 hA3 hb3' hr3 hj3 hinv).go0 ((Frm.refl [] _).alloc (.cells #[.int .i64 now', .slice ra rn rc] 35))
              clear hF3 hK3 hA3 hb3' hr3 hj3 h0 h1 hf0 hf1 hgl3
              refine (looks_any hP.k hP.als hP.inv.len).mono ?_
              rintro e wa ⟨rfl, hFa⟩
              have hPa := hP.go0 hFa
              clear hP hFa
              go_wp2_with fail
              refine (alarms_clk hPa.k hPa.inv.len).mono ?_
              rintro e wb ⟨rfl, hFb, hGb⟩
              have hPb := hPa.go0 hFb
              obtain ⟨g, hg⟩ : ∃ g, g = wa.heap.size := ⟨_, rfl⟩
              rw [← hg] at hGb ⊢
              have hgn : ∀ x ∈ [g], wa.heap.size ≤ x := fun x hx => by rw [List.mem_singleton.1 hx, hg]; exact Nat.le_refl _
              have hGiv := Giv.of hGb
              have HGN := Lib.hid hgn
              clear hg hgn
              go_wp2_with fail
              have hll := hPb.inv.len
              obtain ⟨ML, hML⟩ : ∃ n, n = l.length := ⟨_, rfl⟩
              rw [← hML] at hGiv hll ⊢
              have HML := Lib.hid hML
              clear hGb hML
              go_loopw [85] (fun i wc => ∃ t : Nat, t ≤ ML ∧ i = .int .i64 t ∧ Frm [g] wb wc ∧ Giv wc g ML) (fun i _ => ML - (intOf i).toNat)
              case atStart => exact ⟨0, by omega, rfl, Frm.refl _ _, hGiv⟩
              case round =>
                obtain ⟨t, ht, rfl, hFc, hGc⟩ := hrel
                by_cases hlt2 : t < ML
                · have hb2 : (0 : Int) ≤ (t : Int) := by omega
                  have hb3 : (t : Int) < (ML : Int) := by omega
                  obtain ⟨cs, hgc, hcs⟩ := id hGc
                  obtain ⟨y, hy⟩ := hcs t hlt2
                  have u1 : wr.cell? ⟨g, t * 2 + 1, none⟩ = some (.int .i64 y) := (cell_of_heap hgc).trans hy
                  have u2 : wr.frozen? ⟨g, t * 2 + 1, none⟩ = false := frozen_of_heap hgc
                  have u3 := lt_of_heap hgc
                  clear hgc hcs hy
                  go_wp2
                  go_roundw
                  case rel => exact ⟨t + 1, by omega, by go_num, hFc.setCell _ _ (.inl (by simp)), hGc.set _ _⟩
                  case measure => simp [intOf]; omega
                · have hPc := PS.go hPa (hFb.nil.trans hFc) HGN.out
                  obtain ⟨v0, v1, vf0, vf1⟩ := rclock_cells hPc.g
                  clear hPb hFc hGc hGiv
                  go_wp2_with fail
                  refine (looks_any hPc.k hPc.als hPc.inv.len).mono ?_
                  rintro e wd ⟨rfl, hFd⟩
                  go_wp2
                  go_roundw
                  case rel => exact ⟨k + 1, _, _, _, _, _, _, _, by omega, by go_num, rfl, hPc.go0 hFd⟩
                  case measure => simp [intOf]; omega
    · obtain rfl : k = n1 := by omega
      go_wp2_with fail
      refine (known_true _).mono ?_
      rintro e w5 ⟨rfl, hF5⟩
      go_wp2
      go_ret
      exact ⟨rfl, (hS.frm.trans hF5).below (Nat.le_refl _) (by simp)⟩

set_option maxHeartbeats 2000000 in
theorem walk_ClockPlays (now : Int) (_w0 : (Lit.int .i64 now).wf = true) (a1 : Option Addr) (n1 c1 : Nat) (xs : List ActV) (w : World) (hX : IsActs w a1 n1 xs) :
    Calls Try.prog 4 #[.int .i64 now, .slice a1 n1 c1] w (Ret (.bool true) (fun w' => Below w.heap.size w w')) := by
  by_cases hn1 : 60 < n1
  · have d1 : decide ((60 : Int) < (n1 : Int)) = true := by simp; omega
    clear hX
    go_enter Try.func4, Try.ntmps4
    go_wp2_with (go_at_call 11; refine (known_true _).mono ?_; rintro e w' ⟨rfl, hF⟩)
    go_ret
    exact ⟨rfl, hF.below (Nat.le_refl _) (by simp)⟩
  · by_cases ht : tk now = true
    · exact plays_core now ht a1 n1 c1 xs w hX (by omega)
    · have d1 : decide ((60 : Int) < (n1 : Int)) = false := by simp; omega
      have ht' : tk now = false := by simpa using ht
      have HT := Lib.hid ht'
      clear hX ht ht'
      go_enter Try.func4, Try.ntmps4
      go_wp2_with (first | (go_at_call 13; refine (new_bad _ _ HT.out).mono ?_; rintro e w' ⟨rfl, rfl⟩) | (go_at_call 9; refine (rtick_any _ _).mono ?_; rintro e w' ⟨rfl, rfl⟩; rw [HT.out]) | (go_at_call 11; refine (known_true _).mono ?_; rintro e w' ⟨rfl, hF⟩))
      go_ret
      exact ⟨rfl, hF.below (Nat.le_refl _) (by simp)⟩
end Go.Proofs.Ytamnhpcbflpabaa
