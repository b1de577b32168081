/- The reference's clock beside a clock: acts, Clear and Pass; looks. -/
import Derived.Test.YtamnhpcbflpabaaClkRX
namespace Go.Proofs.Ytamnhpcbflpabaa
open Go.ChangeShapes Go.WideShapes Go.ChangeAt Go.RowKit

set_option maxRecDepth 100000 in
set_option maxHeartbeats 4000000 in
theorem acts1 {w : World} {p : Nat} {now : Int} {v : Value} {a : Option Addr} {n c : Nat} {l : List Al} (hK : ClockAt w p now v l) (hA : Als w (.slice a n c) l) (hu : Uniq l) (hl : l.length ≤ 4096) (hJ : ∀ x ∈ blk (.slice a n c), x ∉ p :: blk v) (A B : Int) :
    Calls Try.prog 17 #[.pointer (some ⟨p, 0, none⟩), .agg #[.int .i64 now, .slice a n c], .agg #[.int .i64 1, .int .i64 A, .int .i64 B]] w (APost w p v (.slice a n c) now (cL l A)) := by
  have hpl := hK.plt
  have hbl := hK.blt
  have hset := fun (w' : World) (hk : ClockAt w' p now v l) => clear_is hk hl A rfl rfl
  have hrset := fun (w' : World) (ha : Als w' (.slice a n c) l) => rclear_any (now := now) ha hu (by omega) A
  generalize cErr l A = E at hset hrset
  generalize cL l A = L at hset hrset ⊢
  have HSET := Lib.hid hset
  have HRSET := Lib.hid hrset
  clear hset hrset
  go_enter Try.func17, Try.ntmps17
  go_wp2_with fail
  refine (HRSET.out _ (((hA.alloc _).alloc _).alloc _)).mono ?_
  rintro e w1 ⟨ra, rn, rc, rfl, hF1, hA1, hb1⟩
  have hT4 : w1.heap[w.heap.size]? = some (.cells #[.int .i64 now, .slice a n c] 35 (0, 0)) := hF1.heap (heap_alloc_old _ (heap_alloc_old _ (heap_alloc_new w _))) (by simp)
  have hT5 : w1.heap[w.heap.size + 1]? = some (.cells #[.int .i64 1, .int .i64 A, .int .i64 B] 37 (0, 0)) := hF1.heap (heap_alloc_old _ (heap_alloc_at _ (by simp))) (by simp)
  have hT6 : w1.heap[w.heap.size + 2]? = some (.cells #[.int .i64 0, .slice none 0 0] 35 (0, 0)) := hF1.heap (heap_alloc_at _ (by simp)) (by simp)
  go_wp2_with fail
  have hFw1 : Frm [] w w1 := ((((Frm.refl _ w).alloc _).alloc _).alloc _).trans hF1
  have hs1 : w.heap.size + 2 < w1.heap.size := lt_of_heap hT6
  have hr1 := hA1.lt
  have hbr : ∀ x ∈ blk (.slice ra rn rc), x ∈ blk (.slice a n c) ∨ w.heap.size ≤ x := fun x hx => by
    rcases hb1 x hx with h1 | h1
    · exact .inl h1
    · right; simp at h1; omega
  have hb6 : w.heap.size + 2 ∉ blk (.slice ra rn rc) := fun hx => by
    rcases hb1 _ hx with h1 | h1
    · have := hA.lt _ h1; omega
    · simp at h1; omega
  have hrD : ∀ x ∈ blk (.slice ra rn rc), x ∉ (w.heap.size + 2) :: p :: blk v := fun x hx hx2 => by
    rcases List.mem_cons.1 hx2 with rfl | hx2
    · exact hb6 hx
    · rcases hbr x hx with h1 | h1
      · exact hJ x h1 hx2
      · have := hbl x hx2; omega
  obtain ⟨X, hX⟩ : ∃ X, X = w1.alloc (.cells #[.int .i64 now, .slice ra rn rc] 35) := ⟨_, rfl⟩
  have hFX : Frm [] w1 X := by rw [hX]; exact (Frm.refl _ _).alloc _
  have hXs : X.heap.size = w1.heap.size + 1 := by rw [hX]; simp
  have hX8 : X.heap[w1.heap.size]? = some (.cells #[.int .i64 now, .slice ra rn rc] 35 (0, 0)) := by rw [hX]; exact heap_alloc_new _ _
  have hX5 := hFX.heap hT5 (by simp)
  have hX6 := hFX.heap hT6 (by simp)
  have hKX : ClockAt X p now v l := (hK.frm0 hFw1).frm0 hFX
  have hAX : Als X (.slice ra rn rc) L := hA1.frm hFX (by simp)
  have hFwX := hFw1.trans hFX
  rw [← hX]
  obtain ⟨t8, ht8⟩ : ∃ t8, t8 = w1.heap.size := ⟨_, rfl⟩
  rw [← ht8] at hX8 hs1 hXs hr1 ⊢
  have h8D : t8 ∉ (w.heap.size + 2) :: p :: blk v := fun hx => by
    rcases List.mem_cons.1 hx with h1 | h1
    · omega
    · have := hbl _ h1; omega
  have h5D : w.heap.size + 1 ∉ (w.heap.size + 2) :: p :: blk v := fun hx => by
    rcases List.mem_cons.1 hx with h1 | h1
    · omega
    · have := hbl _ h1; omega
  have h6K : w.heap.size + 2 ∉ p :: blk v := fun hx => by have := hbl _ hx; omega
  have k8 := fun w' (hq : Frm ((w.heap.size + 2) :: p :: blk v) X w') => cells2 (hq.heap hX8 h8D)
  have k5 := fun w' (hq : Frm ((w.heap.size + 2) :: p :: blk v) X w') => cells3' (hq.heap hX5 h5D)
  have HX6 := Lib.hid hX6
  have HKX := Lib.hid hKX
  have HAX := Lib.hid hAX
  have HRD := Lib.hid hrD
  have H8 := Lib.hid ht8
  have HXS := Lib.hid hXs
  clear hX hX5 hX6 hX8 hKX hAX hrD ht8 hXs hT4 hT5 hT6 hF1 hFX hA1 h8D h5D
  go_region_held3 (fun w' => Frm ((w.heap.size + 2) :: p :: blk v) X w')
    ((repeat' (first | assumption | exact Frm.refl _ _ | apply Frm.drew | apply Frm.alloc | (refine Frm.setCell ?_ _ _ (.inl (by simp))))))
    ((go_at_call 20; refine (HSET.out _ (by first | exact HKX.out | exact HKX.out.drew)).mono ?_; rintro e w2 ⟨v2, rfl, hF2, hK2, hb2⟩; have hS2 : Frm ((w.heap.size + 2) :: p :: blk v) X w2 := Frm.trans (by assumption) (hF2.weak (fun x hx => List.mem_cons_of_mem _ hx)); have hT := hF2.heap (k := w.heap.size + 2) HX6.out h6K; obtain ⟨t0, t1, tf0, tf1⟩ := rclock_cells hT; have htl := lt_of_heap hT))
  all_goals
    go_wp2
    obtain ⟨r0, r1, z1, z2, z3, z4, z5⟩ := acts_end (t6 := w.heap.size + 2) hFwX (by omega) (by have := HXS.out; omega) hS2 hT hK2 (HAX.out.frm hS2 HRD.out) hbl hb6 (fun x hx => by have h1 := hr1 x hx; have h2 := HXS.out; omega) hb2 hbr hJ
    generalize ((w2.setCell ⟨w.heap.size + 2, 0, none⟩ (.int .i64 now)).setCell ⟨w.heap.size + 2, 1, none⟩ (.slice ra rn rc)) = W at r0 r1 z1 z2 z3 ⊢
    refine bodyPost_ret (v := .tuple #[.agg #[.int .i64 now, .slice ra rn rc], .bool true]) (by simp [results, Try.results17, go_sem, r0, r1]) rfl ⟨v2, ra, rn, rc, rfl, z1, z2, z3, z4, hbr, z5⟩
set_option maxRecDepth 100000 in
set_option maxHeartbeats 4000000 in
theorem acts2 {w : World} {p : Nat} {now : Int} {v : Value} {a : Option Addr} {n c : Nat} {l : List Al} (hK : ClockAt w p now v l) (hA : Als w (.slice a n c) l) (hs : Sorted l) (hl : l.length ≤ 4096) (h0 : ∀ x ∈ l, 0 ≤ x.1) (ht : tk now = true) (hJ : ∀ x ∈ blk (.slice a n c), x ∉ p :: blk v) (A B : Int) (hA0 : 0 ≤ A) :
    Calls Try.prog 17 #[.pointer (some ⟨p, 0, none⟩), .agg #[.int .i64 now, .slice a n c], .agg #[.int .i64 2, .int .i64 A, .int .i64 B]] w (APost w p v (.slice a n c) (dl now A) (l.drop (cutAt (dl now A) l))) := by
  have hpl := hK.plt
  have hbl := hK.blt
  have hset := fun (w' : World) (hk : ClockAt w' p now v l) (wv : Value) (hv : Als w' wv (l.take (cutAt (dl now A) l))) (hp : p ∉ blk wv) => ticks_is hk hs hl ht hA0 hv hp rfl rfl rfl
  have hrset := fun (w' : World) (ha : Als w' (.slice a n c) l) => rpass_any (now := now) ha (by omega) hs h0 ht A hA0
  obtain ⟨T, hT⟩ : ∃ T, T = dl now A := ⟨_, rfl⟩
  rw [← hT] at hset hrset ⊢
  generalize l.drop (cutAt T l) = L at hset hrset ⊢
  generalize l.take (cutAt T l) = LT at hset hrset
  have HSET := Lib.hid hset
  have HRSET := Lib.hid hrset
  clear hset hrset hT
  go_enter Try.func17, Try.ntmps17
  go_wp2_with fail
  refine (HRSET.out _ (((hA.alloc _).alloc _).alloc _)).mono ?_
  rintro e w1 ⟨ra, rn, rc, da, dn, dc, rfl, hF1, hA1, hD1, hb1, hdb⟩
  have hT4 : w1.heap[w.heap.size]? = some (.cells #[.int .i64 now, .slice a n c] 35 (0, 0)) := hF1.heap (heap_alloc_old _ (heap_alloc_old _ (heap_alloc_new w _))) (by simp)
  have hT5 : w1.heap[w.heap.size + 1]? = some (.cells #[.int .i64 2, .int .i64 A, .int .i64 B] 37 (0, 0)) := hF1.heap (heap_alloc_old _ (heap_alloc_at _ (by simp))) (by simp)
  have hT6 : w1.heap[w.heap.size + 2]? = some (.cells #[.int .i64 0, .slice none 0 0] 35 (0, 0)) := hF1.heap (heap_alloc_at _ (by simp)) (by simp)
  go_wp2_with fail
  have hFw1 : Frm [] w w1 := ((((Frm.refl _ w).alloc _).alloc _).alloc _).trans hF1
  have hs1 : w.heap.size + 2 < w1.heap.size := lt_of_heap hT6
  have hr1 := hA1.lt
  have hbr : ∀ x ∈ blk (.slice ra rn rc), x ∈ blk (.slice a n c) ∨ w.heap.size ≤ x := fun x hx => by
    rcases hb1 x hx with h1 | h1
    · exact .inl h1
    · right; simp at h1; omega
  have hb6 : w.heap.size + 2 ∉ blk (.slice ra rn rc) := fun hx => by
    rcases hb1 _ hx with h1 | h1
    · have := hA.lt _ h1; omega
    · simp at h1; omega
  have hrD : ∀ x ∈ blk (.slice ra rn rc), x ∉ (w.heap.size + 2) :: p :: blk v := fun x hx hx2 => by
    rcases List.mem_cons.1 hx2 with rfl | hx2
    · exact hb6 hx
    · rcases hbr x hx with h1 | h1
      · exact hJ x h1 hx2
      · have := hbl x hx2; omega
  obtain ⟨X, hX⟩ : ∃ X, X = w1.alloc (.cells #[.int .i64 T, .slice ra rn rc] 35) := ⟨_, rfl⟩
  have hFX : Frm [] w1 X := by rw [hX]; exact (Frm.refl _ _).alloc _
  have hXs : X.heap.size = w1.heap.size + 1 := by rw [hX]; simp
  have hX8 : X.heap[w1.heap.size]? = some (.cells #[.int .i64 T, .slice ra rn rc] 35 (0, 0)) := by rw [hX]; exact heap_alloc_new _ _
  have hX5 := hFX.heap hT5 (by simp)
  have hX6 := hFX.heap hT6 (by simp)
  have hKX : ClockAt X p now v l := (hK.frm0 hFw1).frm0 hFX
  have hAX : Als X (.slice ra rn rc) L := hA1.frm hFX (by simp)
  have hDX : Als X (.slice da dn dc) LT := hD1.frm hFX (by simp)
  have hDp : p ∉ blk (.slice da dn dc) := fun hx => by have h1 := hdb _ hx; simp at h1; omega
  have HDX := Lib.hid hDX
  have HDP := Lib.hid hDp
  clear hD1 hDX hdb hDp
  have hFwX := hFw1.trans hFX
  rw [← hX]
  obtain ⟨t8, ht8⟩ : ∃ t8, t8 = w1.heap.size := ⟨_, rfl⟩
  rw [← ht8] at hX8 hs1 hXs hr1 ⊢
  have h8D : t8 ∉ (w.heap.size + 2) :: p :: blk v := fun hx => by
    rcases List.mem_cons.1 hx with h1 | h1
    · omega
    · have := hbl _ h1; omega
  have h5D : w.heap.size + 1 ∉ (w.heap.size + 2) :: p :: blk v := fun hx => by
    rcases List.mem_cons.1 hx with h1 | h1
    · omega
    · have := hbl _ h1; omega
  have h6K : w.heap.size + 2 ∉ p :: blk v := fun hx => by have := hbl _ hx; omega
  have k8 := fun w' (hq : Frm ((w.heap.size + 2) :: p :: blk v) X w') => cells2 (hq.heap hX8 h8D)
  have k5 := fun w' (hq : Frm ((w.heap.size + 2) :: p :: blk v) X w') => cells3' (hq.heap hX5 h5D)
  have HX6 := Lib.hid hX6
  have HKX := Lib.hid hKX
  have HAX := Lib.hid hAX
  have HRD := Lib.hid hrD
  have H8 := Lib.hid ht8
  have HXS := Lib.hid hXs
  clear hX hX5 hX6 hX8 hKX hAX hrD ht8 hXs hT4 hT5 hT6 hF1 hFX hA1 h8D h5D
  go_region_held3 (fun w' => Frm ((w.heap.size + 2) :: p :: blk v) X w')
    ((repeat' (first | assumption | exact Frm.refl _ _ | apply Frm.drew | apply Frm.alloc | (refine Frm.setCell ?_ _ _ (.inl (by simp))))))
    ((go_at_call 23; refine (HSET.out _ (by first | exact HKX.out | exact HKX.out.drew) _ (by first | exact HDX.out | exact HDX.out.drewN 1) HDP.out).mono ?_; rintro e w2 ⟨v2, rfl, hF2, hK2, hb2⟩; have hS2 : Frm ((w.heap.size + 2) :: p :: blk v) X w2 := Frm.trans (by assumption) (hF2.weak (fun x hx => List.mem_cons_of_mem _ hx)); have hT := hF2.heap (k := w.heap.size + 2) HX6.out h6K; obtain ⟨t0, t1, tf0, tf1⟩ := rclock_cells hT; have htl := lt_of_heap hT))
  all_goals
    go_wp2
    obtain ⟨r0, r1, z1, z2, z3, z4, z5⟩ := acts_end (now := T) (t6 := w.heap.size + 2) hFwX (by omega) (by have := HXS.out; omega) hS2 hT hK2 (HAX.out.frm hS2 HRD.out) hbl hb6 (fun x hx => by have h1 := hr1 x hx; have h2 := HXS.out; omega) hb2 hbr hJ
    generalize ((w2.setCell ⟨w.heap.size + 2, 0, none⟩ (.int .i64 T)).setCell ⟨w.heap.size + 2, 1, none⟩ (.slice ra rn rc)) = W at r0 r1 z1 z2 z3 ⊢
    refine bodyPost_ret (v := .tuple #[.agg #[.int .i64 T, .slice ra rn rc], .bool true]) (by simp [results, Try.results17, go_sem, r0, r1]) rfl ⟨v2, ra, rn, rc, rfl, z1, z2, z3, z4, hbr, z5⟩
set_option maxRecDepth 100000 in
set_option maxHeartbeats 4000000 in
theorem acts3 {w : World} {p : Nat} {now : Int} {v : Value} {a : Option Addr} {n c : Nat} {l : List Al} (hK : ClockAt w p now v l) (hA : Als w (.slice a n c) l) (hJ : ∀ x ∈ blk (.slice a n c), x ∉ p :: blk v) (A B : Int) (hA0 : A < 0) :
    Calls Try.prog 17 #[.pointer (some ⟨p, 0, none⟩), .agg #[.int .i64 now, .slice a n c], .agg #[.int .i64 2, .int .i64 A, .int .i64 B]] w (APost w p v (.slice a n c) now l) := by
  have hpl := hK.plt
  have hbl := hK.blt
  have hset := fun (w' : World) (hk : ClockAt w' p now v l) (wv : Value) (hv : Als w' wv []) => ticks_err (n := A) (no := 2) hv rfl (tick_bad hk A hA0)
  have hrset := fun (w' : World) (ha : Als w' (.slice a n c) l) => rpass_arg (now := now) ha A hA0
  obtain ⟨T, hT⟩ : ∃ T, T = now := ⟨_, rfl⟩
  obtain ⟨L, hL⟩ : ∃ L, L = l := ⟨_, rfl⟩
  obtain ⟨LT, hLT⟩ : ∃ LT : List Al, LT = [] := ⟨_, rfl⟩
  rw [← hLT] at hset hrset
  have HSET := Lib.hid hset
  have HRSET := Lib.hid hrset
  clear hset hrset hT hL hLT
  go_enter Try.func17, Try.ntmps17
  go_wp2_with fail
  refine (HRSET.out _ (((hA.alloc _).alloc _).alloc _)).mono ?_
  rintro e w1 ⟨ra, rn, rc, da, dn, dc, rfl, hF1, hA1, hD1, hb1, hdb⟩
  have hT4 : w1.heap[w.heap.size]? = some (.cells #[.int .i64 now, .slice a n c] 35 (0, 0)) := hF1.heap (heap_alloc_old _ (heap_alloc_old _ (heap_alloc_new w _))) (by simp)
  have hT5 : w1.heap[w.heap.size + 1]? = some (.cells #[.int .i64 2, .int .i64 A, .int .i64 B] 37 (0, 0)) := hF1.heap (heap_alloc_old _ (heap_alloc_at _ (by simp))) (by simp)
  have hT6 : w1.heap[w.heap.size + 2]? = some (.cells #[.int .i64 0, .slice none 0 0] 35 (0, 0)) := hF1.heap (heap_alloc_at _ (by simp)) (by simp)
  go_wp2_with fail
  have hFw1 : Frm [] w w1 := ((((Frm.refl _ w).alloc _).alloc _).alloc _).trans hF1
  have hs1 : w.heap.size + 2 < w1.heap.size := lt_of_heap hT6
  have hr1 := hA1.lt
  have hbr : ∀ x ∈ blk (.slice ra rn rc), x ∈ blk (.slice a n c) ∨ w.heap.size ≤ x := fun x hx => by
    rcases hb1 x hx with h1 | h1
    · exact .inl h1
    · right; simp at h1; omega
  have hb6 : w.heap.size + 2 ∉ blk (.slice ra rn rc) := fun hx => by
    rcases hb1 _ hx with h1 | h1
    · have := hA.lt _ h1; omega
    · simp at h1; omega
  have hrD : ∀ x ∈ blk (.slice ra rn rc), x ∉ (w.heap.size + 2) :: p :: blk v := fun x hx hx2 => by
    rcases List.mem_cons.1 hx2 with rfl | hx2
    · exact hb6 hx
    · rcases hbr x hx with h1 | h1
      · exact hJ x h1 hx2
      · have := hbl x hx2; omega
  obtain ⟨X, hX⟩ : ∃ X, X = w1.alloc (.cells #[.int .i64 now, .slice ra rn rc] 35) := ⟨_, rfl⟩
  have hFX : Frm [] w1 X := by rw [hX]; exact (Frm.refl _ _).alloc _
  have hXs : X.heap.size = w1.heap.size + 1 := by rw [hX]; simp
  have hX8 : X.heap[w1.heap.size]? = some (.cells #[.int .i64 now, .slice ra rn rc] 35 (0, 0)) := by rw [hX]; exact heap_alloc_new _ _
  have hX5 := hFX.heap hT5 (by simp)
  have hX6 := hFX.heap hT6 (by simp)
  have hKX : ClockAt X p now v l := (hK.frm0 hFw1).frm0 hFX
  have hAX : Als X (.slice ra rn rc) l := hA1.frm hFX (by simp)
  have hDX : Als X (.slice da dn dc) LT := hD1.frm hFX (by simp)
  have hDp : p ∉ blk (.slice da dn dc) := fun hx => by have h1 := hdb _ hx; simp at h1; omega
  have HDX := Lib.hid hDX
  have HDP := Lib.hid hDp
  clear hD1 hDX hdb hDp
  have hFwX := hFw1.trans hFX
  rw [← hX]
  obtain ⟨t8, ht8⟩ : ∃ t8, t8 = w1.heap.size := ⟨_, rfl⟩
  rw [← ht8] at hX8 hs1 hXs hr1 ⊢
  have h8D : t8 ∉ (w.heap.size + 2) :: p :: blk v := fun hx => by
    rcases List.mem_cons.1 hx with h1 | h1
    · omega
    · have := hbl _ h1; omega
  have h5D : w.heap.size + 1 ∉ (w.heap.size + 2) :: p :: blk v := fun hx => by
    rcases List.mem_cons.1 hx with h1 | h1
    · omega
    · have := hbl _ h1; omega
  have h6K : w.heap.size + 2 ∉ p :: blk v := fun hx => by have := hbl _ hx; omega
  have k8 := fun w' (hq : Frm ((w.heap.size + 2) :: p :: blk v) X w') => cells2 (hq.heap hX8 h8D)
  have k5 := fun w' (hq : Frm ((w.heap.size + 2) :: p :: blk v) X w') => cells3' (hq.heap hX5 h5D)
  have HX6 := Lib.hid hX6
  have HKX := Lib.hid hKX
  have HAX := Lib.hid hAX
  have HRD := Lib.hid hrD
  have H8 := Lib.hid ht8
  have HXS := Lib.hid hXs
  clear hX hX5 hX6 hX8 hKX hAX hrD ht8 hXs hT4 hT5 hT6 hF1 hFX hA1 h8D h5D
  go_region_held3 (fun w' => Frm ((w.heap.size + 2) :: p :: blk v) X w')
    ((repeat' (first | assumption | exact Frm.refl _ _ | apply Frm.drew | apply Frm.alloc | (refine Frm.setCell ?_ _ _ (.inl (by simp))))))
    ((go_at_call 23; refine (HSET.out _ (by first | exact HKX.out | exact HKX.out.drew) _ (by first | exact HDX.out | exact HDX.out.drewN 1)).mono ?_; rintro e w2 ⟨rfl, hF2⟩; have hS2 : Frm ((w.heap.size + 2) :: p :: blk v) X w2 := Frm.trans (by assumption) (hF2.nil); have hT := hF2.heap (k := w.heap.size + 2) HX6.out (by simp); have hK2 := ClockAt.frm0 (by first | exact HKX.out | exact HKX.out.drew) hF2; have hb2 : ∀ x ∈ blk v, x ∈ blk v ∨ X.heap.size ≤ x := fun x hx => .inl hx; obtain ⟨t0, t1, tf0, tf1⟩ := rclock_cells hT; have htl := lt_of_heap hT))
  all_goals
    go_wp2
    obtain ⟨r0, r1, z1, z2, z3, z4, z5⟩ := acts_end (now := now) (t6 := w.heap.size + 2) hFwX (by omega) (by have := HXS.out; omega) hS2 hT hK2 (HAX.out.frm hS2 HRD.out) hbl hb6 (fun x hx => by have h1 := hr1 x hx; have h2 := HXS.out; omega) hb2 hbr hJ
    generalize ((w2.setCell ⟨w.heap.size + 2, 0, none⟩ (.int .i64 now)).setCell ⟨w.heap.size + 2, 1, none⟩ (.slice ra rn rc)) = W at r0 r1 z1 z2 z3 ⊢
    refine bodyPost_ret (v := .tuple #[.agg #[.int .i64 now, .slice ra rn rc], .bool true]) (by simp [results, Try.results17, go_sem, r0, r1]) rfl ⟨v, ra, rn, rc, rfl, z1, z2, z3, z4, hbr, z5⟩

set_option maxRecDepth 100000 in
set_option maxHeartbeats 4000000 in
theorem looks_any {w : World} {p : Nat} {now : Int} {v : Value} {a : Option Addr} {n c : Nat} {l : List Al} (hK : ClockAt w p now v l) (hA : Als w (.slice a n c) l) (hl : l.length ≤ 4096) :
    Calls Try.prog 18 #[.pointer (some ⟨p, 0, none⟩), .agg #[.int .i64 now, .slice a n c]] w (Ret (.bool true) (fun w' => Frm [] w w')) := by
  obtain ⟨X, hX⟩ : ∃ X, X = w.alloc (.cells #[.int .i64 now, .slice a n c] 35) := ⟨_, rfl⟩
  have hFX : Frm [] w X := by rw [hX]; exact (Frm.refl _ _).alloc _
  have hX3 : X.heap[w.heap.size]? = some (.cells #[.int .i64 now, .slice a n c] 35 (0, 0)) := by rw [hX]; exact heap_alloc_new _ _
  have hKX := hK.frm0 hFX
  have hAX := hA.frm hFX (by simp)
  have hsm : sameB l l = true := by unfold sameB; simp
  have kc := fun w' (hq : Frm [] X w') => cells2 (hq.heap hX3 (by simp))
  have HX := Lib.hid hX
  have HKX := Lib.hid hKX
  have HAX := Lib.hid hAX
  have HSM := Lib.hid hsm
  obtain ⟨LL, hLL⟩ : ∃ n, n = l.length := ⟨_, rfl⟩
  have HLL := Lib.hid hLL
  have hnx : ∀ w', ClockAt w' p now v l → Calls Try.prog 21 #[.pointer (some ⟨p, 0, none⟩)] w' (Ret (.int .i64 (nxt l)) (fun w'' => w' = w'')) := fun w' hk => next_clk hk
  have hrn : ∀ w', Als w' (.slice a n c) l → Calls Try.prog 37 #[.agg #[.int .i64 now, .slice a n c]] w' (Ret (.int .i64 (nxt l)) (fun w'' => Frm [] w' w'')) := fun w' hk => rnext_any hk
  generalize nxt l = NX at hnx hrn
  have HNX := Lib.hid hnx
  have HRN := Lib.hid hrn
  clear hX hX3 hKX hAX hsm hLL hnx hrn
  go_enter Try.func18, Try.ntmps18
  go_wp2_with fail
  rw [← HX.out]
  go_region_held3 (fun w' => Frm [] X w')
    ((repeat' (first | assumption | exact Frm.refl _ _ | apply Frm.drew | apply Frm.alloc)))
    (first
      | (go_at_call 22; refine (now_clk (now := now) (v := v) (l := l) (HKX.out.frm0 (by assumption))).mono ?_; rintro e w' ⟨rfl, rfl⟩)
      | (go_at_call 21; refine (HNX.out _ (HKX.out.frm0 (by assumption))).mono ?_; rintro e w' ⟨rfl, rfl⟩)
      | (go_at_call 37; refine (HRN.out _ (HAX.out.frm (D := []) (by assumption) (by simp))).mono ?_; rintro e w2 ⟨rfl, hF2⟩; have hS2 : Frm [] X w2 := Frm.trans (by assumption) hF2)
      | (go_at_call 19; refine (alarms_clk (HKX.out.frm0 (by assumption)) hl).mono ?_; rintro e w3 ⟨rfl, hF3, hG3⟩; have hS3 : Frm [] X w3 := Frm.trans (by assumption) hF3; have HG3 := Lib.hid hG3; clear hG3)
      | (go_at_call 25; refine (same_any (als_given (l := l) rfl HG3.out (by omega)) (HAX.out.frm (D := []) (by assumption) (by simp)) (by omega)).mono ?_; rintro e w4 ⟨rfl, hF4⟩; rw [HSM.out]; have hS4 : Frm [] X w4 := Frm.trans (by assumption) hF4))
  all_goals
    go_wp2
    go_ret
    exact ⟨rfl, hFX.trans (by assumption)⟩
end Go.Proofs.Ytamnhpcbflpabaa
