/- Package mem: what its functions do, one contract a function. -/
import Derived.Test.YtieccmmnfnpcoaaBase
namespace Go.Proofs.Ytieccmmnfnpcoaa
open Go.ChangeShapes Go.WideShapes Go.ChangeAt Go.RowKit

/-- What a word is behind an access. -/
def aft (k bf af x : Int) : Int := if k = 2 ∨ k = 4 then af else if k = 3 then (if x = bf then af else x) else x

def u64s (ws : List Int) : List Value := ws.map (Value.int .u64)

/-- An arena at block p with its words in block d. -/
structure MemAt (w : World) (p d c : Nat) (ws : List Int) : Prop where
  obj : w.heap[p]? = some (.cells #[.slice (some ⟨d, 0, none⟩) ws.length c] 115 (0, 0))
  arr : ∃ cs : Array Value, w.heap[d]? = some (.cells cs 28 (0, 0)) ∧ ws.length ≤ cs.size ∧ ∀ (i : Nat) (x : Int), ws[i]? = some x → cs[i]? = some (Value.int .u64 x)
  ne : p ≠ d
  cap : ws.length ≤ c
  pos : 0 < ws.length
  le : ws.length ≤ 65536

namespace MemAt
variable {w w' : World} {p d c : Nat} {ws : List Int}
theorem plt (h : MemAt w p d c ws) : p < w.heap.size := lt_of_heap h.obj
theorem dlt (h : MemAt w p d c ws) : d < w.heap.size := lt_of_heap h.arr.choose_spec.1
theorem cellp (h : MemAt w p d c ws) : w.cell? ⟨p, 0, none⟩ = some (.slice (some ⟨d, 0, none⟩) ws.length c) := by
  rw [cell_of_heap h.obj]; rfl
theorem celld (h : MemAt w p d c ws) {i : Nat} {x : Int} (hx : ws[i]? = some x) : w.cell? ⟨d, i, none⟩ = some (.int .u64 x) := by
  obtain ⟨cs, hc, _, hr⟩ := h.arr
  rw [cell_of_heap hc]; exact hr i x hx
theorem frz (h : MemAt w p d c ws) (i : Nat) : w.frozen? ⟨d, i, none⟩ = false := by
  obtain ⟨cs, hc, _, _⟩ := h.arr
  exact frozen_of_heap hc
theorem frm {D : List Nat} (h : MemAt w p d c ws) (hf : Frm D w w') (hp : p ∉ D) (hd : d ∉ D) : MemAt w' p d c ws :=
  ⟨hf.heap h.obj hp, let ⟨cs, hc, r⟩ := h.arr; ⟨cs, hf.heap hc hd, r⟩, h.ne, h.cap, h.pos, h.le⟩
theorem alloc (h : MemAt w p d c ws) (o : Obj) : MemAt (w.alloc o) p d c ws :=
  h.frm ((Frm.refl [] w).alloc o) (by simp) (by simp)
theorem drewN (h : MemAt w p d c ws) (n : Nat) : MemAt (w.drewN n) p d c ws := h.frm ((Frm.refl [] w).drewN n) (by simp) (by simp)
theorem drew (h : MemAt w p d c ws) : MemAt w.drew p d c ws := h.drewN 1
theorem set (h : MemAt w p d c ws) (i : Nat) (x : Int) : MemAt (w.setCell ⟨d, i, none⟩ (.int .u64 x)) p d c (ws.set i x) := by
  obtain ⟨cs, hc, hl, hr⟩ := h.arr
  refine ⟨by rw [List.length_set]; exact heap_setCell_far _ _ (fun e => h.ne e.symm) h.obj, ⟨_, heap_setCell_at _ hc, by simp [hl], fun j y hj => ?_⟩, h.ne, by simp [h.cap], by simp [h.pos], by simp [h.le]⟩
  rw [List.getElem?_set] at hj
  rw [Array.getElem?_setIfInBounds]
  split
  · rename_i e
    subst e
    rw [if_pos rfl] at hj
    split at hj
    · rw [if_pos (by omega)]; cases hj; rfl
    · cases hj
  · rename_i e
    rw [if_neg e] at hj
    exact hr j y hj
theorem setFar (h : MemAt w p d c ws) (q : Addr) (v : Value) (hp : q.block ≠ p) (hd : q.block ≠ d) : MemAt (w.setCell q v) p d c ws :=
  h.frm ((Frm.refl [q.block] w).setCell q v (.inl (by simp))) (by simpa using hp.symm) (by simpa using hd.symm)
theorem setFar4 (h : MemAt w p d c ws) (q o1 o2 o3 o4 : Nat) (v1 v2 v3 v4 : Value) (hp : q ≠ p) (hd : q ≠ d) :
    MemAt ((((w.setCell ⟨q, o1, none⟩ v1).setCell ⟨q, o2, none⟩ v2).setCell ⟨q, o3, none⟩ v3).setCell ⟨q, o4, none⟩ v4) p d c ws :=
  (((h.setFar ⟨q, o1, none⟩ v1 hp hd).setFar ⟨q, o2, none⟩ v2 hp hd).setFar ⟨q, o3, none⟩ v3 hp hd).setFar ⟨q, o4, none⟩ v4 hp hd
end MemAt

theorem aft_any (w : World) (k wd bf af x : Int) : Calls Try.prog 89 #[.agg #[.int .i64 k, .int .i64 wd, .int .u64 bf, .int .u64 af], .int .u64 x] w
    (Ret (.int .u64 (aft k bf af x)) (fun w' => Frm [] w w')) := by
  go_enter Try.func89, Try.ntmps89
  go_wp2
  all_goals go_ret
  all_goals refine ⟨?_, (Frm.refl _ _).alloc _⟩
  all_goals simp_all [aft]

theorem none_nil (w : World) : Calls Try.prog 53 #[.pointer none] w (Ret (.bool true) (fun w' => w = w')) := by
  go_enter Try.func53, Try.ntmps53
  go_wp2
  go_ret
  exact ⟨rfl, rfl⟩

theorem none_zero (w : World) (p : Nat) (h : w.cell? ⟨p, 0, none⟩ = some (.slice none 0 0)) : Calls Try.prog 53 #[.pointer (some ⟨p, 0, none⟩)] w (Ret (.bool true) (fun w' => w = w')) := by
  go_enter Try.func53, Try.ntmps53
  go_wp2
  go_ret
  exact ⟨rfl, rfl⟩

theorem none_mem {w : World} {p d c : Nat} {ws : List Int} (h : MemAt w p d c ws) : Calls Try.prog 53 #[.pointer (some ⟨p, 0, none⟩)] w (Ret (.bool false) (fun w' => w = w')) := by
  have h1 := h.cellp
  have h2 : ((ws.length : Int) == 0) = false := by have := h.pos; simp; intro e; subst e; simp at this
  go_enter Try.func53, Try.ntmps53
  go_wp2
  go_ret
  exact ⟨rfl, rfl⟩

theorem info_u64 : (Try.prog.info? 28).map (fun i => (i.zero, i.size, i.bytes)) = some (some (.int .u64 0), 1, 8) := by kernel_rfl

theorem make_u64 (n : Nat) (h : n ≤ 2147483647) (w : World) : (Instr.makeSlice 22 (.int .i64 n) (.int .i64 n)).run Try.prog w =
    .ok (.slice (some ⟨w.heap.size, 0, none⟩) n n) (w.alloc (.cells (u64s (List.replicate n 0)).toArray 28)) := by
  obtain ⟨i0, hi, hz0, hz1, hz2⟩ := info_parts info_u64
  have := run_make (P := Try.prog) w 22 28 i0 (.int .u64 0) Try.underlying22 hi hz0 .i64 .i64 (n : Int) (n : Int) (by omega) (by omega) (by rw [hz2]; omega) (by omega)
  rw [this, hz1]
  have e : madeCells (Value.int .u64 0).cells (Int.toNat (n : Int) * 1) = (u64s (List.replicate n 0)).toArray := by
    apply Array.ext
    · simp [madeCells, u64s]
    · intro j h1 h2
      simp [madeCells, u64s, Value.cells, Nat.mod_one]
  rw [e]; simp

theorem new_ok (w : World) (n : Nat) (h1 : 1 ≤ n) (h2 : n ≤ 65536) : Calls Try.prog 51 #[.int .i64 n] w
    (fun e w' => ∃ p d, Ret (.tuple #[.pointer (some ⟨p, 0, none⟩), .int .i64 0]) (fun w' => Frm [] w w' ∧ MemAt w' p d n (List.replicate n 0) ∧ w.heap.size ≤ p ∧ w.heap.size ≤ d) e w') := by
  have hb1 : decide ((n : Int) < 1) = false := by simp; omega
  have hb2 : decide ((65536 : Int) < n) = false := by simp; omega
  have hm := make_u64 n (by omega)
  go_enter Try.func51, Try.ntmps51
  go_wp2
  go_ret2
  refine ⟨w.heap.size + 1, w.heap.size, rfl, ((Frm.refl _ _).alloc _).alloc _, ⟨?_, ⟨_, heap_alloc_old _ (heap_alloc_new _ _), by simp [u64s], ?_⟩, by omega, by simp, by simp; omega, by simpa using h2⟩, by omega, by omega⟩
  · rw [List.length_replicate]; exact heap_alloc_at _ (by simp)
  · intro i x hx
    rw [List.getElem?_toArray, u64s, List.getElem?_map, hx]; rfl

theorem new_bad (w : World) (n : Int) (h1 : n < 1 ∨ 65536 < n) : Calls Try.prog 51 #[.int .i64 n] w
    (Ret (.tuple #[.pointer none, .int .i64 2]) (fun w' => w = w')) := by
  rcases h1 with h1 | h1
  · have hb1 : decide (n < 1) = true := by simp; omega
    go_enter Try.func51, Try.ntmps51
    go_wp2
    go_ret2
    exact ⟨rfl, rfl⟩
  · have hb1 : decide (n < 1) = false := by simp; omega
    have hb2 : decide (65536 < n) = true := by simp; omega
    go_enter Try.func51, Try.ntmps51
    go_wp2
    go_ret2
    exact ⟨rfl, rfl⟩

/-- An access: kind, word, before, after. -/
structure Acc where
  k : Int
  w : Int
  b : Int
  a : Int
def mErr (n : Nat) (k wd : Int) : Int := if k < 1 ∨ 4 < k then 2 else if wd < 0 ∨ (n : Int) ≤ wd then 3 else 0
def mRes (ws : List Int) (a : Acc) : Acc :=
  if mErr ws.length a.k a.w = 0 then ⟨a.k, a.w, ws.getD a.w.toNat 0, aft a.k a.b a.a (ws.getD a.w.toNat 0)⟩ else ⟨0, 0, 0, 0⟩
def mWs (ws : List Int) (a : Acc) : List Int :=
  if mErr ws.length a.k a.w = 0 then ws.set a.w.toNat (aft a.k a.b a.a (ws.getD a.w.toNat 0)) else ws

theorem do_mem {w : World} {p d c : Nat} {ws : List Int} (h : MemAt w p d c ws) (k wd bf af : Int) :
    Calls Try.prog 78 #[.pointer (some ⟨p, 0, none⟩), .agg #[.int .i64 k, .int .i64 wd, .int .u64 bf, .int .u64 af]] w
    (Ret (.tuple #[.agg #[.int .i64 (mRes ws ⟨k, wd, bf, af⟩).k, .int .i64 (mRes ws ⟨k, wd, bf, af⟩).w, .int .u64 (mRes ws ⟨k, wd, bf, af⟩).b, .int .u64 (mRes ws ⟨k, wd, bf, af⟩).a], .int .i64 (mErr ws.length k wd)])
      (fun w' => Frm [d] w w' ∧ MemAt w' p d c (mWs ws ⟨k, wd, bf, af⟩))) := by
  have hp := h.plt
  have hd := h.dlt
  have hcp := h.cellp
  have hne := h.ne
  have hmv : ∀ o1 o2, MemAt ((w.alloc o1).alloc o2) p d c ws := fun o1 o2 => (h.alloc _).alloc _
  by_cases hk : k < 1 ∨ 4 < k
  · have he : mErr ws.length k wd = 2 := by simp [mErr, hk]
    have hr : mRes ws ⟨k, wd, bf, af⟩ = ⟨0, 0, 0, 0⟩ := by simp [mRes, he]
    have hw : mWs ws ⟨k, wd, bf, af⟩ = ws := by simp [mWs, he]
    rw [hr, hw, he]
    clear hr hw he
    by_cases hk1 : k < 1
    · have hb1 : decide (k < 1) = true := by simpa using hk1
      go_enter Try.func78, Try.ntmps78
      go_wp2_with (go_at_call 53; refine (none_mem (hmv _ _)).mono ?_; rintro e w' ⟨rfl, rfl⟩)
      refine bodyPost_ret (v := .tuple #[.agg #[.int .i64 0, .int .i64 0, .int .u64 0, .int .u64 0], .int .i64 2]) (by simp [results, Try.results78, go_sem]) rfl ⟨rfl, ?_, ?_⟩
      · exact ((Frm.refl _ _).alloc _).alloc _
      · exact hmv _ _
    · have hb1 : decide (k < 1) = false := by simpa using hk1
      have hb2 : decide (4 < k) = true := by simp; omega
      go_enter Try.func78, Try.ntmps78
      go_wp2_with (go_at_call 53; refine (none_mem (hmv _ _)).mono ?_; rintro e w' ⟨rfl, rfl⟩)
      refine bodyPost_ret (v := .tuple #[.agg #[.int .i64 0, .int .i64 0, .int .u64 0, .int .u64 0], .int .i64 2]) (by simp [results, Try.results78, go_sem]) rfl ⟨rfl, ?_, ?_⟩
      · exact ((Frm.refl _ _).alloc _).alloc _
      · exact hmv _ _
  · have hb1 : decide (k < 1) = false := by simp; omega
    have hb2 : decide (4 < k) = false := by simp; omega
    by_cases hwd : wd < 0 ∨ (ws.length : Int) ≤ wd
    · have he : mErr ws.length k wd = 3 := by simp [mErr, hk, hwd]
      have hr : mRes ws ⟨k, wd, bf, af⟩ = ⟨0, 0, 0, 0⟩ := by simp [mRes, he]
      have hw : mWs ws ⟨k, wd, bf, af⟩ = ws := by simp [mWs, he]
      rw [hr, hw, he]
      clear hr hw he
      by_cases hw1 : wd < 0
      · have hb3 : decide (wd < 0) = true := by simpa using hw1
        go_enter Try.func78, Try.ntmps78
        go_wp2_with (go_at_call 53; refine (none_mem (hmv _ _)).mono ?_; rintro e w' ⟨rfl, rfl⟩)
        go_quiet (fail)
        go_wp2
        refine bodyPost_ret (v := .tuple #[.agg #[.int .i64 0, .int .i64 0, .int .u64 0, .int .u64 0], .int .i64 3]) (by simp [results, Try.results78, go_sem]) rfl ⟨rfl, ?_, ?_⟩
        · exact (((Frm.refl _ _).alloc _).alloc _).drewN _
        · exact (hmv _ _).drewN _
      · have hb3 : decide (wd < 0) = false := by simpa using hw1
        have hb4 : decide ((ws.length : Int) ≤ wd) = true := by simp; omega
        go_enter Try.func78, Try.ntmps78
        go_wp2_with (go_at_call 53; refine (none_mem (hmv _ _)).mono ?_; rintro e w' ⟨rfl, rfl⟩)
        go_quiet (fail)
        go_wp2
        refine bodyPost_ret (v := .tuple #[.agg #[.int .i64 0, .int .i64 0, .int .u64 0, .int .u64 0], .int .i64 3]) (by simp [results, Try.results78, go_sem]) rfl ⟨rfl, ?_, ?_⟩
        · exact (((Frm.refl _ _).alloc _).alloc _).drewN _
        · exact (hmv _ _).drewN _
    · have hb3 : decide (wd < 0) = false := by simp; omega
      have hb4 : decide ((ws.length : Int) ≤ wd) = false := by simp; omega
      have hlt : wd.toNat < ws.length := by omega
      have he : mErr ws.length k wd = 0 := by simp [mErr, hk, hwd]
      have hr : mRes ws ⟨k, wd, bf, af⟩ = ⟨k, wd, ws.getD wd.toNat 0, aft k bf af (ws.getD wd.toNat 0)⟩ := by simp [mRes, he]
      have hw : mWs ws ⟨k, wd, bf, af⟩ = ws.set wd.toNat (aft k bf af (ws.getD wd.toNat 0)) := by simp [mWs, he]
      rw [hr, hw, he]
      clear hr hw he
      have hx : ws[wd.toNat]? = some (ws.getD wd.toNat 0) := by
        rw [List.getD_eq_getElem?_getD, List.getElem?_eq_getElem hlt]; rfl
      generalize ws.getD wd.toNat 0 = x at hx ⊢
      have hcd := h.celld hx
      have hfr := h.frz wd.toNat
      have hwn : wd < ws.length := by omega
      have hw0 : 0 ≤ wd := by omega
      have hle := h.le
      have HX := Lib.hid hx
      clear hx
      go_enter Try.func78, Try.ntmps78
      go_wp2_with (go_at_call 53; refine (none_mem (hmv _ _)).mono ?_; rintro e w' ⟨rfl, rfl⟩)
      go_quiet (fail)
      go_wp2_with fail
      go_quiet (fail)
      go_wp2_with fail
      refine (aft_any _ _ _ _ _ _).mono ?_
      rintro e w1 ⟨rfl, hF1⟩
      have hM1 : MemAt w1 p d c ws := ((hmv _ _).drewN _).frm hF1 (by simp) (by simp)
      have hB1 : w1.heap[w.heap.size]? = _ := hF1.heap (heap_alloc_old _ (heap_alloc_new _ _)) (by simp)
      have hR1 : w1.heap[w.heap.size + 1]? = _ := hF1.heap (heap_alloc_at _ (by simp)) (by simp)
      have hF : Frm [d] w w1 := (((((Frm.refl _ w).alloc _).alloc _).drewN _).trans hF1.nil)
      obtain ⟨b0, b1, b2, b3⟩ := cells4 hB1
      obtain ⟨r0, r1, r2, r3⟩ := cells4 hR1
      obtain ⟨f0, f1, f2, f3⟩ := frozen4 hR1
      have hcp1 := hM1.cellp
      have hcd1 := hM1.celld HX.out
      have hfr1 := hM1.frz wd.toNat
      clear hcp hcd hfr hmv
      have HB := Lib.hid hB1
      have HR := Lib.hid hR1
      clear hB1 hR1 hF1
      go_wp2_with fail
      go_region
      have hM2 : MemAt (w1.setCell ⟨d, wd.toNat, none⟩ (.int .u64 (aft k bf af x))).drew p d c (ws.set wd.toNat (aft k bf af x)) := (hM1.set wd.toNat (aft k bf af x)).drewN 1
      have hF2 : Frm [d] w (w1.setCell ⟨d, wd.toNat, none⟩ (.int .u64 (aft k bf af x))).drew := (hF.setCell ⟨d, wd.toNat, none⟩ (.int .u64 (aft k bf af x)) (.inl (by simp))).drewN 1
      have hB2 : (w1.setCell ⟨d, wd.toNat, none⟩ (.int .u64 (aft k bf af x))).drew.heap[w.heap.size]? = _ := heap_setCell_far _ _ (Nat.ne_of_lt hd) HB.out
      have hR2 : (w1.setCell ⟨d, wd.toNat, none⟩ (.int .u64 (aft k bf af x))).drew.heap[w.heap.size + 1]? = _ := heap_setCell_far _ _ (by show d ≠ _; omega) HR.out
      generalize (w1.setCell ⟨d, wd.toNat, none⟩ (.int .u64 (aft k bf af x))).drew = w2 at hM2 hF2 hB2 hR2 ⊢
      clear b0 b1 b2 b3 r0 r1 r2 r3 f0 f1 f2 f3 hcp1 hcd1 hfr1 HB HR
      obtain ⟨b0, b1, b2, b3⟩ := cells4 hB2
      obtain ⟨r0, r1, r2, r3⟩ := cells4 hR2
      obtain ⟨f0, f1, f2, f3⟩ := frozen4 hR2
      have HB := Lib.hid hB2
      have HR := Lib.hid hR2
      clear hB2 hR2
      go_wp2
      have hR3 := setCells4 HR.out (.int .i64 k) (.int .i64 wd) (.int .u64 x) (.int .u64 (aft k bf af x))
      have hF3 : Frm [d] w ((((w2.setCell ⟨w.heap.size + 1, 0, none⟩ (.int .i64 k)).setCell ⟨w.heap.size + 1, 1, none⟩ (.int .i64 wd)).setCell ⟨w.heap.size + 1, 2, none⟩ (.int .u64 x)).setCell ⟨w.heap.size + 1, 3, none⟩ (.int .u64 (aft k bf af x))) := by
        repeat' (first | exact hF2 | (refine Frm.setCell ?_ _ _ (.inr (Nat.le_succ _))))
      have hM3 : MemAt ((((w2.setCell ⟨w.heap.size + 1, 0, none⟩ (.int .i64 k)).setCell ⟨w.heap.size + 1, 1, none⟩ (.int .i64 wd)).setCell ⟨w.heap.size + 1, 2, none⟩ (.int .u64 x)).setCell ⟨w.heap.size + 1, 3, none⟩ (.int .u64 (aft k bf af x))) p d c (ws.set wd.toNat (aft k bf af x)) := by
        repeat' (first | exact hM2 | (refine MemAt.setFar ?_ _ _ (by simp; omega) (by simp; omega)))
      generalize ((((w2.setCell ⟨w.heap.size + 1, 0, none⟩ (.int .i64 k)).setCell ⟨w.heap.size + 1, 1, none⟩ (.int .i64 wd)).setCell ⟨w.heap.size + 1, 2, none⟩ (.int .u64 x)).setCell ⟨w.heap.size + 1, 3, none⟩ (.int .u64 (aft k bf af x))) = w3 at hR3 hF3 hM3 ⊢
      clear r0 r1 r2 r3
      obtain ⟨r0, r1, r2, r3⟩ := cells4 hR3
      refine bodyPost_ret (v := .tuple #[.agg #[.int .i64 k, .int .i64 wd, .int .u64 x, .int .u64 (aft k bf af x)], .int .i64 0]) (by simp [results, Try.results78, go_sem, r0, r1, r2, r3]) rfl ⟨rfl, hF3, hM3⟩
end Go.Proofs.Ytieccmmnfnpcoaa
