/- The reference's clock beside a clock: acts, looks. -/
import Derived.Test.YtamnhpcbflpabaaClkRW
namespace Go.Proofs.Ytamnhpcbflpabaa
open Go.ChangeShapes Go.WideShapes Go.ChangeAt Go.RowKit

set_option maxHeartbeats 2000000 in
theorem rpass_nil {w : World} {now : Int} (ht : tk now = true) (m : Int) (hm : 0 ≤ m) :
    Calls Try.prog 36 #[.agg #[.int .i64 now, .slice none 0 0], .int .i64 m] w (PPost w (.slice none 0 0) (dl now m) [] [] 0) := by
  have e1 : decide (m < 0) = false := by simpa using hm
  have HT := Lib.hid ht
  obtain ⟨T, hTT⟩ : ∃ T, T = dl now m := ⟨_, rfl⟩
  rw [← hTT]
  have HTT := Lib.hid hTT
  clear ht hTT
  go_enter Try.func36, Try.ntmps36
  go_wp2_with fail
  refine (rdue_any _ _ _ HT.out hm).mono ?_
  rintro e w' ⟨rfl, rfl⟩
  rw [← HTT.out]
  go_wp2_with fail
  go_loop [8, 9] (fun s8 i => s8 = .slice none 0 0 ∧ i = .int .i64 0) (fun _ _ => 0)
  case atStart => exact ⟨rfl, rfl⟩
  case round =>
    obtain ⟨rfl, rfl⟩ := hrel
    go_wp2
    refine bodyPost_ret (v := .tuple #[.agg #[.int .i64 T, .slice none 0 0], .slice none 0 0, .int .i64 0]) (by simp [results, Try.results36, go_sem]) rfl ⟨none, 0, 0, none, 0, 0, rfl, (((Frm.refl _ _).alloc _).alloc _).alloc _, .inl ⟨rfl, rfl⟩, .inl ⟨rfl, rfl⟩, (fun x hx => by cases hx), (fun x hx => by cases hx)⟩
theorem rpass_any {w : World} {now : Int} {a : Option Addr} {n c : Nat} {l : List Al} (hA : Als w (.slice a n c) l) (hl : l.length ≤ 5000) (hs : Sorted l) (h0 : ∀ x ∈ l, 0 ≤ x.1) (ht : tk now = true) (m : Int) (hm : 0 ≤ m) :
    Calls Try.prog 36 #[.agg #[.int .i64 now, .slice a n c], .int .i64 m] w (PPost w (.slice a n c) (dl now m) (l.drop (cutAt (dl now m) l)) (l.take (cutAt (dl now m) l)) 0) := by
  obtain ⟨e1, e2⟩ := due_cut hs h0 (dl now m)
  rw [← e1, ← e2]
  rcases id_als hA with ⟨hv, rfl⟩ | ⟨d, o, c', hv⟩
  · cases hv
    exact rpass_nil ht m hm
  · cases hv
    exact rpass_some hA hl ht m hm

/-- What acts returns, and what it leaves. -/
def APost (w : World) (p : Nat) (v vr : Value) (now : Int) (l : List Al) (e : Ending) (w' : World) : Prop :=
  ∃ v' a n c, Ret (.tuple #[.agg #[.int .i64 now, .slice a n c], .bool true]) (fun w' => Frm (p :: blk v) w w' ∧ ClockAt w' p now v' l ∧ Als w' (.slice a n c) l ∧ (∀ x ∈ blk v', x ∈ blk v ∨ w.heap.size ≤ x) ∧ (∀ x ∈ blk (.slice a n c), x ∈ blk vr ∨ w.heap.size ≤ x) ∧ ∀ x ∈ blk (.slice a n c), x ∉ p :: blk v') e w'
theorem cells3' {w : World} {b : Nat} {x0 x1 x2 : Value} {t : TypeId} (hb : w.heap[b]? = some (.cells #[x0, x1, x2] t (0, 0))) : w.cell? ⟨b, 0, none⟩ = some x0 ∧ w.cell? ⟨b, 1, none⟩ = some x1 ∧ w.cell? ⟨b, 2, none⟩ = some x2 :=
  ⟨by rw [cell_of_heap hb]; rfl, by rw [cell_of_heap hb]; rfl, by rw [cell_of_heap hb]; rfl⟩

theorem acts_end {w X w2 : World} {p t6 rn rc : Nat} {ra : Option Addr} {now : Int} {v v2 vr u0 u1 : Value} {L : List Al} (hFX : Frm [] w X) (h6 : w.heap.size ≤ t6) (h6X : t6 < X.heap.size) (hS : Frm (t6 :: p :: blk v) X w2)
    (hT : w2.heap[t6]? = some (.cells #[u0, u1] 35 (0, 0))) (hK2 : ClockAt w2 p now v2 L) (hA : Als w2 (.slice ra rn rc) L) (hold : ∀ x ∈ p :: blk v, x < w.heap.size) (h6r : t6 ∉ blk (.slice ra rn rc)) (hrX : ∀ x ∈ blk (.slice ra rn rc), x < X.heap.size)
    (hb2 : ∀ x ∈ blk v2, x ∈ blk v ∨ X.heap.size ≤ x) (hbr : ∀ x ∈ blk (.slice ra rn rc), x ∈ blk vr ∨ w.heap.size ≤ x) (hJ : ∀ x ∈ blk vr, x ∉ p :: blk v) :
    ((w2.setCell ⟨t6, 0, none⟩ (.int .i64 now)).setCell ⟨t6, 1, none⟩ (.slice ra rn rc)).cell? ⟨t6, 0, none⟩ = some (.int .i64 now) ∧
    ((w2.setCell ⟨t6, 0, none⟩ (.int .i64 now)).setCell ⟨t6, 1, none⟩ (.slice ra rn rc)).cell? ⟨t6, 1, none⟩ = some (.slice ra rn rc) ∧
    Frm (p :: blk v) w ((w2.setCell ⟨t6, 0, none⟩ (.int .i64 now)).setCell ⟨t6, 1, none⟩ (.slice ra rn rc)) ∧
    ClockAt ((w2.setCell ⟨t6, 0, none⟩ (.int .i64 now)).setCell ⟨t6, 1, none⟩ (.slice ra rn rc)) p now v2 L ∧ Als ((w2.setCell ⟨t6, 0, none⟩ (.int .i64 now)).setCell ⟨t6, 1, none⟩ (.slice ra rn rc)) (.slice ra rn rc) L ∧
    (∀ x ∈ blk v2, x ∈ blk v ∨ w.heap.size ≤ x) ∧ ∀ x ∈ blk (.slice ra rn rc), x ∉ p :: blk v2 := by
  have hE := setCells2 hT (.int .i64 now) (.slice ra rn rc)
  have hp := hold p (by simp)
  have hz := hFX.size
  have hSet : Frm [t6] w2 ((w2.setCell ⟨t6, 0, none⟩ (.int .i64 now)).setCell ⟨t6, 1, none⟩ (.slice ra rn rc)) := ((Frm.refl _ _).setCell _ _ (.inl (by simp))).setCell _ _ (.inl (by simp))
  refine ⟨(cells2 hE).1, (cells2 hE).2, ((hFX.nil.trans_new hS (fun x hx => ?_)).setCell _ _ (.inr h6)).setCell _ _ (.inr h6), hK2.frm hSet (by simp; omega) (fun x hx hx6 => ?_), hA.frm hSet (fun x hx hx6 => h6r (by rw [List.mem_singleton.1 hx6] at hx; exact hx)), fun x hx => ?_, fun x hx hx2 => ?_⟩
  · rcases List.mem_cons.1 hx with rfl | hx
    · exact .inr h6
    · exact .inl hx
  · rw [List.mem_singleton.1 hx6] at hx
    rcases hb2 _ hx with h1 | h1
    · have := hold _ (List.mem_cons_of_mem _ h1); omega
    · omega
  · rcases hb2 x hx with h1 | h1
    · exact .inl h1
    · right; omega
  · have hxX := hrX x hx
    rcases List.mem_cons.1 hx2 with rfl | hx2
    · rcases hbr _ hx with h1 | h1
      · exact hJ _ h1 (by simp)
      · omega
    · rcases hb2 x hx2 with h2 | h2
      · rcases hbr x hx with h1 | h1
        · exact hJ x h1 (List.mem_cons_of_mem _ h2)
        · have := hold x (List.mem_cons_of_mem _ h2); omega
      · omega

set_option maxRecDepth 100000 in
set_option maxHeartbeats 4000000 in
theorem acts0 {w : World} {p : Nat} {now : Int} {v : Value} {a : Option Addr} {n c : Nat} {l : List Al} (hK : ClockAt w p now v l) (hA : Als w (.slice a n c) l) (hs : Sorted l) (hl : l.length ≤ 4096) (hJ : ∀ x ∈ blk (.slice a n c), x ∉ p :: blk v) (A B : Int) :
    Calls Try.prog 17 #[.pointer (some ⟨p, 0, none⟩), .agg #[.int .i64 now, .slice a n c], .agg #[.int .i64 0, .int .i64 A, .int .i64 B]] w (APost w p v (.slice a n c) now (sL l A B)) := by
  have hpl := hK.plt
  have hbl := hK.blt
  have hset := fun (w' : World) (hk : ClockAt w' p now v l) => set_is hk hs hl A B rfl rfl
  have hrset := fun (w' : World) (ha : Als w' (.slice a n c) l) => rset_any (now := now) ha hs hl A B
  generalize sErr l A B = E at hset hrset
  generalize sL l A B = L at hset hrset ⊢
  have HSET := Lib.hid hset
  have HRSET := Lib.hid hrset
  clear hset hrset
  go_enter Try.func17, Try.ntmps17
  go_wp2_with fail
  refine (HRSET.out _ (((hA.alloc _).alloc _).alloc _)).mono ?_
  rintro e w1 ⟨ra, rn, rc, rfl, hF1, hA1, hb1⟩
  have hT4 : w1.heap[w.heap.size]? = some (.cells #[.int .i64 now, .slice a n c] 35 (0, 0)) := hF1.heap (heap_alloc_old _ (heap_alloc_old _ (heap_alloc_new w _))) (by simp)
  have hT5 : w1.heap[w.heap.size + 1]? = some (.cells #[.int .i64 0, .int .i64 A, .int .i64 B] 37 (0, 0)) := hF1.heap (heap_alloc_old _ (heap_alloc_at _ (by simp))) (by simp)
  have hT6 : w1.heap[w.heap.size + 2]? = some (.cells #[.int .i64 0, .slice none 0 0] 35 (0, 0)) := hF1.heap (heap_alloc_at _ (by simp)) (by simp)
  go_wp2_with fail
  have hFw1 : Frm [] w w1 := ((((Frm.refl _ w).alloc _).alloc _).alloc _).trans hF1
  have hs1 : w.heap.size + 2 < w1.heap.size := lt_of_heap hT6
  have hr1 := hA1.lt
  have hbr : ∀ x ∈ blk (.slice ra rn rc), x ∈ blk (.slice a n c) ∨ w.heap.size ≤ x := fun x hx => by
    rcases hb1 x hx with h1 | h1
    · exact .inl h1
    · right; simp at h1; omega
  have hb6 : w.heap.size + 2 ∉ blk (.slice ra rn rc) := fun hx => by
    rcases hb1 _ hx with h1 | h1
    · have := hA.lt _ h1; omega
    · simp at h1; omega
  have hrD : ∀ x ∈ blk (.slice ra rn rc), x ∉ (w.heap.size + 2) :: p :: blk v := fun x hx hx2 => by
    rcases List.mem_cons.1 hx2 with rfl | hx2
    · exact hb6 hx
    · rcases hbr x hx with h1 | h1
      · exact hJ x h1 hx2
      · have := hbl x hx2; omega
  obtain ⟨X, hX⟩ : ∃ X, X = w1.alloc (.cells #[.int .i64 now, .slice ra rn rc] 35) := ⟨_, rfl⟩
  have hFX : Frm [] w1 X := by rw [hX]; exact (Frm.refl _ _).alloc _
  have hXs : X.heap.size = w1.heap.size + 1 := by rw [hX]; simp
  have hX8 : X.heap[w1.heap.size]? = some (.cells #[.int .i64 now, .slice ra rn rc] 35 (0, 0)) := by rw [hX]; exact heap_alloc_new _ _
  have hX5 := hFX.heap hT5 (by simp)
  have hX6 := hFX.heap hT6 (by simp)
  have hKX : ClockAt X p now v l := (hK.frm0 hFw1).frm0 hFX
  have hAX : Als X (.slice ra rn rc) L := hA1.frm hFX (by simp)
  have hFwX := hFw1.trans hFX
  rw [← hX]
  obtain ⟨t8, ht8⟩ : ∃ t8, t8 = w1.heap.size := ⟨_, rfl⟩
  rw [← ht8] at hX8 hs1 hXs hr1 ⊢
  have h8D : t8 ∉ (w.heap.size + 2) :: p :: blk v := fun hx => by
    rcases List.mem_cons.1 hx with h1 | h1
    · omega
    · have := hbl _ h1; omega
  have h5D : w.heap.size + 1 ∉ (w.heap.size + 2) :: p :: blk v := fun hx => by
    rcases List.mem_cons.1 hx with h1 | h1
    · omega
    · have := hbl _ h1; omega
  have h6K : w.heap.size + 2 ∉ p :: blk v := fun hx => by have := hbl _ hx; omega
  have k8 := fun w' (hq : Frm ((w.heap.size + 2) :: p :: blk v) X w') => cells2 (hq.heap hX8 h8D)
  have k5 := fun w' (hq : Frm ((w.heap.size + 2) :: p :: blk v) X w') => cells3' (hq.heap hX5 h5D)
  have HX6 := Lib.hid hX6
  have HKX := Lib.hid hKX
  have HAX := Lib.hid hAX
  have HRD := Lib.hid hrD
  have H8 := Lib.hid ht8
  have HXS := Lib.hid hXs
  clear hX hX5 hX6 hX8 hKX hAX hrD ht8 hXs hT4 hT5 hT6 hF1 hFX hA1 h8D h5D
  go_region_held3 (fun w' => Frm ((w.heap.size + 2) :: p :: blk v) X w')
    ((repeat' (first | assumption | exact Frm.refl _ _ | apply Frm.drew | apply Frm.alloc | (refine Frm.setCell ?_ _ _ (.inl (by simp))))))
    ((go_at_call 15; refine (HSET.out _ (by first | exact HKX.out | exact HKX.out.drew)).mono ?_; rintro e w2 ⟨v2, rfl, hF2, hK2, hb2⟩; have hS2 : Frm ((w.heap.size + 2) :: p :: blk v) X w2 := Frm.trans (by assumption) (hF2.weak (fun x hx => List.mem_cons_of_mem _ hx)); have hT := hF2.heap (k := w.heap.size + 2) HX6.out h6K; obtain ⟨t0, t1, tf0, tf1⟩ := rclock_cells hT; have htl := lt_of_heap hT))
  all_goals
    go_wp2
    obtain ⟨r0, r1, z1, z2, z3, z4, z5⟩ := acts_end (t6 := w.heap.size + 2) hFwX (by omega) (by have := HXS.out; omega) hS2 hT hK2 (HAX.out.frm hS2 HRD.out) hbl hb6 (fun x hx => by have h1 := hr1 x hx; have h2 := HXS.out; omega) hb2 hbr hJ
    generalize ((w2.setCell ⟨w.heap.size + 2, 0, none⟩ (.int .i64 now)).setCell ⟨w.heap.size + 2, 1, none⟩ (.slice ra rn rc)) = W at r0 r1 z1 z2 z3 ⊢
    refine bodyPost_ret (v := .tuple #[.agg #[.int .i64 now, .slice ra rn rc], .bool true]) (by simp [results, Try.results17, go_sem, r0, r1]) rfl ⟨v2, ra, rn, rc, rfl, z1, z2, z3, z4, hbr, z5⟩
end Go.Proofs.Ytamnhpcbflpabaa
