/- McM, McN, McS in one text (by mkbundle.py). -/
import Derived.Test.YticbbfcachnkiaaGreatDoorBn1
/- Package mem: what its functions do, one contract a function. -/
namespace Go.Proofs.YticbbfcachnkiaaGreatDoor
open Go.ChangeShapes Go.WideShapes Go.ChangeAt Go.RowKit

/-- What a word is behind an access. -/
def aft (k bf af x : Int) : Int := if k = 2 ∨ k = 4 then af else if k = 3 then (if x = bf then af else x) else x

def u64s (ws : List Int) : List Value := ws.map (Value.int .u64)

/-- An arena at block p with its words in block d. -/
structure MemAt (w : World) (p d c : Nat) (ws : List Int) : Prop where
  obj : w.heap[p]? = some (.cells #[.slice (some ⟨d, 0, none⟩) ws.length c] 99 (0, 0))
  arr : ∃ cs : Array Value, w.heap[d]? = some (.cells cs 41 (0, 0)) ∧ ws.length ≤ cs.size ∧ ∀ (i : Nat) (x : Int), ws[i]? = some x → cs[i]? = some (Value.int .u64 x)
  ne : p ≠ d
  cap : ws.length ≤ c
  pos : 0 < ws.length
  le : ws.length ≤ 65536

namespace MemAt
variable {w w' : World} {p d c : Nat} {ws : List Int}
theorem plt (h : MemAt w p d c ws) : p < w.heap.size := lt_of_heap h.obj
theorem dlt (h : MemAt w p d c ws) : d < w.heap.size := lt_of_heap h.arr.choose_spec.1
theorem cellp (h : MemAt w p d c ws) : w.cell? ⟨p, 0, none⟩ = some (.slice (some ⟨d, 0, none⟩) ws.length c) := by
  rw [cell_of_heap h.obj]; rfl
theorem celld (h : MemAt w p d c ws) {i : Nat} {x : Int} (hx : ws[i]? = some x) : w.cell? ⟨d, i, none⟩ = some (.int .u64 x) := by
  obtain ⟨cs, hc, _, hr⟩ := h.arr
  rw [cell_of_heap hc]; exact hr i x hx
theorem frz (h : MemAt w p d c ws) (i : Nat) : w.frozen? ⟨d, i, none⟩ = false := by
  obtain ⟨cs, hc, _, _⟩ := h.arr
  exact frozen_of_heap hc
theorem frm {D : List Nat} (h : MemAt w p d c ws) (hf : Frm D w w') (hp : p ∉ D) (hd : d ∉ D) : MemAt w' p d c ws :=
  ⟨hf.heap h.obj hp, let ⟨cs, hc, r⟩ := h.arr; ⟨cs, hf.heap hc hd, r⟩, h.ne, h.cap, h.pos, h.le⟩
theorem alloc (h : MemAt w p d c ws) (o : Obj) : MemAt (w.alloc o) p d c ws :=
  h.frm ((Frm.refl [] w).alloc o) (by simp) (by simp)
theorem drewN (h : MemAt w p d c ws) (n : Nat) : MemAt (w.drewN n) p d c ws := h.frm ((Frm.refl [] w).drewN n) (by simp) (by simp)
theorem drew (h : MemAt w p d c ws) : MemAt w.drew p d c ws := h.drewN 1
theorem set (h : MemAt w p d c ws) (i : Nat) (x : Int) : MemAt (w.setCell ⟨d, i, none⟩ (.int .u64 x)) p d c (ws.set i x) := by
  obtain ⟨cs, hc, hl, hr⟩ := h.arr
  refine ⟨by rw [List.length_set]; exact heap_setCell_far _ _ (fun e => h.ne e.symm) h.obj, ⟨_, heap_setCell_at _ hc, by simp [hl], fun j y hj => ?_⟩, h.ne, by simp [h.cap], by simp [h.pos], by simp [h.le]⟩
  rw [List.getElem?_set] at hj
  rw [Array.getElem?_setIfInBounds]
  split
  · rename_i e
    subst e
    rw [if_pos rfl] at hj
    split at hj
    · rw [if_pos (by omega)]; cases hj; rfl
    · cases hj
  · rename_i e
    rw [if_neg e] at hj
    exact hr j y hj
theorem setFar (h : MemAt w p d c ws) (q : Addr) (v : Value) (hp : q.block ≠ p) (hd : q.block ≠ d) : MemAt (w.setCell q v) p d c ws :=
  h.frm ((Frm.refl [q.block] w).setCell q v (.inl (by simp))) (by simpa using hp.symm) (by simpa using hd.symm)
theorem setFar4 (h : MemAt w p d c ws) (q o1 o2 o3 o4 : Nat) (v1 v2 v3 v4 : Value) (hp : q ≠ p) (hd : q ≠ d) :
    MemAt ((((w.setCell ⟨q, o1, none⟩ v1).setCell ⟨q, o2, none⟩ v2).setCell ⟨q, o3, none⟩ v3).setCell ⟨q, o4, none⟩ v4) p d c ws :=
  (((h.setFar ⟨q, o1, none⟩ v1 hp hd).setFar ⟨q, o2, none⟩ v2 hp hd).setFar ⟨q, o3, none⟩ v3 hp hd).setFar ⟨q, o4, none⟩ v4 hp hd
end MemAt

theorem aft_any (w : World) (k wd bf af x : Int) : Calls Tryz.prog 145 #[.agg #[.int .i64 k, .int .i64 wd, .int .u64 bf, .int .u64 af], .int .u64 x] w
    (Ret (.int .u64 (aft k bf af x)) (fun w' => Frm [] w w')) := by
  go_enter Tryz.func145, Tryz.ntmps145
  go_wp2
  all_goals go_ret
  all_goals refine ⟨?_, (Frm.refl _ _).alloc _⟩
  all_goals simp_all [aft]

theorem none_nil (w : World) : Calls Tryz.prog 30 #[.pointer none] w (Ret (.bool true) (fun w' => w = w')) := by
  go_enter Tryz.func30, Tryz.ntmps30
  go_wp2
  go_ret
  exact ⟨rfl, rfl⟩

theorem none_zero (w : World) (p : Nat) (h : w.cell? ⟨p, 0, none⟩ = some (.slice none 0 0)) : Calls Tryz.prog 30 #[.pointer (some ⟨p, 0, none⟩)] w (Ret (.bool true) (fun w' => w = w')) := by
  go_enter Tryz.func30, Tryz.ntmps30
  go_wp2
  go_ret
  exact ⟨rfl, rfl⟩

theorem none_mem {w : World} {p d c : Nat} {ws : List Int} (h : MemAt w p d c ws) : Calls Tryz.prog 30 #[.pointer (some ⟨p, 0, none⟩)] w (Ret (.bool false) (fun w' => w = w')) := by
  have h1 := h.cellp
  have h2 : ((ws.length : Int) == 0) = false := by have := h.pos; simp; intro e; subst e; simp at this
  go_enter Tryz.func30, Tryz.ntmps30
  go_wp2
  go_ret
  exact ⟨rfl, rfl⟩

theorem info_u64 : (Tryz.prog.info? 41).map (fun i => (i.zero, i.size, i.bytes)) = some (some (.int .u64 0), 1, 8) := by kernel_rfl

theorem make_u64 (n : Nat) (h : n ≤ 2147483647) (w : World) : (Instr.makeSlice 30 (.int .i64 n) (.int .i64 n)).run Tryz.prog w =
    .ok (.slice (some ⟨w.heap.size, 0, none⟩) n n) (w.alloc (.cells (u64s (List.replicate n 0)).toArray 41)) := by
  obtain ⟨i0, hi, hz0, hz1, hz2⟩ := info_parts info_u64
  have := run_make (P := Tryz.prog) w 30 41 i0 (.int .u64 0) Tryz.underlying30 hi hz0 .i64 .i64 (n : Int) (n : Int) (by omega) (by omega) (by rw [hz2]; omega) (by omega)
  rw [this, hz1]
  have e : madeCells (Value.int .u64 0).cells (Int.toNat (n : Int) * 1) = (u64s (List.replicate n 0)).toArray := by
    apply Array.ext
    · simp [madeCells, u64s]
    · intro j h1 h2
      simp [madeCells, u64s, Value.cells, Nat.mod_one]
  rw [e]; simp

theorem new_ok (w : World) (n : Nat) (h1 : 1 ≤ n) (h2 : n ≤ 65536) : Calls Tryz.prog 29 #[.int .i64 n] w
    (fun e w' => ∃ p d, Ret (.tuple #[.pointer (some ⟨p, 0, none⟩), .int .i64 0]) (fun w' => Frm [] w w' ∧ MemAt w' p d n (List.replicate n 0) ∧ w.heap.size ≤ p ∧ w.heap.size ≤ d) e w') := by
  have hb1 : decide ((n : Int) < 1) = false := by simp; omega
  have hb2 : decide ((65536 : Int) < n) = false := by simp; omega
  have hm := make_u64 n (by omega)
  go_enter Tryz.func29, Tryz.ntmps29
  go_wp2
  go_ret2
  refine ⟨w.heap.size + 1, w.heap.size, rfl, ((Frm.refl _ _).alloc _).alloc _, ⟨?_, ⟨_, heap_alloc_old _ (heap_alloc_new _ _), by simp [u64s], ?_⟩, by omega, by simp, by simp; omega, by simpa using h2⟩, by omega, by omega⟩
  · rw [List.length_replicate]; exact heap_alloc_at _ (by simp)
  · intro i x hx
    rw [List.getElem?_toArray, u64s, List.getElem?_map, hx]; rfl

theorem new_bad (w : World) (n : Int) (h1 : n < 1 ∨ 65536 < n) : Calls Tryz.prog 29 #[.int .i64 n] w
    (Ret (.tuple #[.pointer none, .int .i64 2]) (fun w' => w = w')) := by
  rcases h1 with h1 | h1
  · have hb1 : decide (n < 1) = true := by simp; omega
    go_enter Tryz.func29, Tryz.ntmps29
    go_wp2
    go_ret2
    exact ⟨rfl, rfl⟩
  · have hb1 : decide (n < 1) = false := by simp; omega
    have hb2 : decide (65536 < n) = true := by simp; omega
    go_enter Tryz.func29, Tryz.ntmps29
    go_wp2
    go_ret2
    exact ⟨rfl, rfl⟩

/-- An access: kind, word, before, after. -/
structure Acc where
  k : Int
  w : Int
  b : Int
  a : Int
def mErr (n : Nat) (k wd : Int) : Int := if k < 1 ∨ 4 < k then 2 else if wd < 0 ∨ (n : Int) ≤ wd then 3 else 0
def mRes (ws : List Int) (a : Acc) : Acc :=
  if mErr ws.length a.k a.w = 0 then ⟨a.k, a.w, ws.getD a.w.toNat 0, aft a.k a.b a.a (ws.getD a.w.toNat 0)⟩ else ⟨0, 0, 0, 0⟩
def mWs (ws : List Int) (a : Acc) : List Int :=
  if mErr ws.length a.k a.w = 0 then ws.set a.w.toNat (aft a.k a.b a.a (ws.getD a.w.toNat 0)) else ws

theorem do_mem {w : World} {p d c : Nat} {ws : List Int} (h : MemAt w p d c ws) (k wd bf af : Int) :
    Calls Tryz.prog 143 #[.pointer (some ⟨p, 0, none⟩), .agg #[.int .i64 k, .int .i64 wd, .int .u64 bf, .int .u64 af]] w
    (Ret (.tuple #[.agg #[.int .i64 (mRes ws ⟨k, wd, bf, af⟩).k, .int .i64 (mRes ws ⟨k, wd, bf, af⟩).w, .int .u64 (mRes ws ⟨k, wd, bf, af⟩).b, .int .u64 (mRes ws ⟨k, wd, bf, af⟩).a], .int .i64 (mErr ws.length k wd)])
      (fun w' => Frm [d] w w' ∧ MemAt w' p d c (mWs ws ⟨k, wd, bf, af⟩))) := by
  have hp := h.plt
  have hd := h.dlt
  have hcp := h.cellp
  have hne := h.ne
  have hmv : ∀ o1 o2, MemAt ((w.alloc o1).alloc o2) p d c ws := fun o1 o2 => (h.alloc _).alloc _
  by_cases hk : k < 1 ∨ 4 < k
  · have he : mErr ws.length k wd = 2 := by simp [mErr, hk]
    have hr : mRes ws ⟨k, wd, bf, af⟩ = ⟨0, 0, 0, 0⟩ := by simp [mRes, he]
    have hw : mWs ws ⟨k, wd, bf, af⟩ = ws := by simp [mWs, he]
    rw [hr, hw, he]
    clear hr hw he
    by_cases hk1 : k < 1
    · have hb1 : decide (k < 1) = true := by simpa using hk1
      go_enter Tryz.func143, Tryz.ntmps143
      go_wp2_with (go_at_call 30; refine (none_mem (hmv _ _)).mono ?_; rintro e w' ⟨rfl, rfl⟩)
      refine bodyPost_ret (v := .tuple #[.agg #[.int .i64 0, .int .i64 0, .int .u64 0, .int .u64 0], .int .i64 2]) (by simp [results, Tryz.results143, go_sem]) rfl ⟨rfl, ?_, ?_⟩
      · exact ((Frm.refl _ _).alloc _).alloc _
      · exact hmv _ _
    · have hb1 : decide (k < 1) = false := by simpa using hk1
      have hb2 : decide (4 < k) = true := by simp; omega
      go_enter Tryz.func143, Tryz.ntmps143
      go_wp2_with (go_at_call 30; refine (none_mem (hmv _ _)).mono ?_; rintro e w' ⟨rfl, rfl⟩)
      refine bodyPost_ret (v := .tuple #[.agg #[.int .i64 0, .int .i64 0, .int .u64 0, .int .u64 0], .int .i64 2]) (by simp [results, Tryz.results143, go_sem]) rfl ⟨rfl, ?_, ?_⟩
      · exact ((Frm.refl _ _).alloc _).alloc _
      · exact hmv _ _
  · have hb1 : decide (k < 1) = false := by simp; omega
    have hb2 : decide (4 < k) = false := by simp; omega
    by_cases hwd : wd < 0 ∨ (ws.length : Int) ≤ wd
    · have he : mErr ws.length k wd = 3 := by simp [mErr, hk, hwd]
      have hr : mRes ws ⟨k, wd, bf, af⟩ = ⟨0, 0, 0, 0⟩ := by simp [mRes, he]
      have hw : mWs ws ⟨k, wd, bf, af⟩ = ws := by simp [mWs, he]
      rw [hr, hw, he]
      clear hr hw he
      by_cases hw1 : wd < 0
      · have hb3 : decide (wd < 0) = true := by simpa using hw1
        go_enter Tryz.func143, Tryz.ntmps143
        go_wp2_with (go_at_call 30; refine (none_mem (hmv _ _)).mono ?_; rintro e w' ⟨rfl, rfl⟩)
        go_quiet (fail)
        go_wp2
        refine bodyPost_ret (v := .tuple #[.agg #[.int .i64 0, .int .i64 0, .int .u64 0, .int .u64 0], .int .i64 3]) (by simp [results, Tryz.results143, go_sem]) rfl ⟨rfl, ?_, ?_⟩
        · exact (((Frm.refl _ _).alloc _).alloc _).drewN _
        · exact (hmv _ _).drewN _
      · have hb3 : decide (wd < 0) = false := by simpa using hw1
        have hb4 : decide ((ws.length : Int) ≤ wd) = true := by simp; omega
        go_enter Tryz.func143, Tryz.ntmps143
        go_wp2_with (go_at_call 30; refine (none_mem (hmv _ _)).mono ?_; rintro e w' ⟨rfl, rfl⟩)
        go_quiet (fail)
        go_wp2
        refine bodyPost_ret (v := .tuple #[.agg #[.int .i64 0, .int .i64 0, .int .u64 0, .int .u64 0], .int .i64 3]) (by simp [results, Tryz.results143, go_sem]) rfl ⟨rfl, ?_, ?_⟩
        · exact (((Frm.refl _ _).alloc _).alloc _).drewN _
        · exact (hmv _ _).drewN _
    · have hb3 : decide (wd < 0) = false := by simp; omega
      have hb4 : decide ((ws.length : Int) ≤ wd) = false := by simp; omega
      have hlt : wd.toNat < ws.length := by omega
      have he : mErr ws.length k wd = 0 := by simp [mErr, hk, hwd]
      have hr : mRes ws ⟨k, wd, bf, af⟩ = ⟨k, wd, ws.getD wd.toNat 0, aft k bf af (ws.getD wd.toNat 0)⟩ := by simp [mRes, he]
      have hw : mWs ws ⟨k, wd, bf, af⟩ = ws.set wd.toNat (aft k bf af (ws.getD wd.toNat 0)) := by simp [mWs, he]
      rw [hr, hw, he]
      clear hr hw he
      have hx : ws[wd.toNat]? = some (ws.getD wd.toNat 0) := by
        rw [List.getD_eq_getElem?_getD, List.getElem?_eq_getElem hlt]; rfl
      generalize ws.getD wd.toNat 0 = x at hx ⊢
      have hcd := h.celld hx
      have hfr := h.frz wd.toNat
      have hwn : wd < ws.length := by omega
      have hw0 : 0 ≤ wd := by omega
      have hle := h.le
      have HX := Lib.hid hx
      clear hx
      go_enter Tryz.func143, Tryz.ntmps143
      go_wp2_with (go_at_call 30; refine (none_mem (hmv _ _)).mono ?_; rintro e w' ⟨rfl, rfl⟩)
      go_quiet (fail)
      go_wp2_with fail
      go_quiet (fail)
      go_wp2_with fail
      refine (aft_any _ _ _ _ _ _).mono ?_
      rintro e w1 ⟨rfl, hF1⟩
      have hM1 : MemAt w1 p d c ws := ((hmv _ _).drewN _).frm hF1 (by simp) (by simp)
      have hB1 : w1.heap[w.heap.size]? = _ := hF1.heap (heap_alloc_old _ (heap_alloc_new _ _)) (by simp)
      have hR1 : w1.heap[w.heap.size + 1]? = _ := hF1.heap (heap_alloc_at _ (by simp)) (by simp)
      have hF : Frm [d] w w1 := (((((Frm.refl _ w).alloc _).alloc _).drewN _).trans hF1.nil)
      obtain ⟨b0, b1, b2, b3⟩ := cells4 hB1
      obtain ⟨r0, r1, r2, r3⟩ := cells4 hR1
      obtain ⟨f0, f1, f2, f3⟩ := frozen4 hR1
      have hcp1 := hM1.cellp
      have hcd1 := hM1.celld HX.out
      have hfr1 := hM1.frz wd.toNat
      clear hcp hcd hfr hmv
      have HB := Lib.hid hB1
      have HR := Lib.hid hR1
      clear hB1 hR1 hF1
      go_wp2_with fail
      go_region
      have hM2 : MemAt (w1.setCell ⟨d, wd.toNat, none⟩ (.int .u64 (aft k bf af x))).drew p d c (ws.set wd.toNat (aft k bf af x)) := (hM1.set wd.toNat (aft k bf af x)).drewN 1
      have hF2 : Frm [d] w (w1.setCell ⟨d, wd.toNat, none⟩ (.int .u64 (aft k bf af x))).drew := (hF.setCell ⟨d, wd.toNat, none⟩ (.int .u64 (aft k bf af x)) (.inl (by simp))).drewN 1
      have hB2 : (w1.setCell ⟨d, wd.toNat, none⟩ (.int .u64 (aft k bf af x))).drew.heap[w.heap.size]? = _ := heap_setCell_far _ _ (Nat.ne_of_lt hd) HB.out
      have hR2 : (w1.setCell ⟨d, wd.toNat, none⟩ (.int .u64 (aft k bf af x))).drew.heap[w.heap.size + 1]? = _ := heap_setCell_far _ _ (by show d ≠ _; omega) HR.out
      generalize (w1.setCell ⟨d, wd.toNat, none⟩ (.int .u64 (aft k bf af x))).drew = w2 at hM2 hF2 hB2 hR2 ⊢
      clear b0 b1 b2 b3 r0 r1 r2 r3 f0 f1 f2 f3 hcp1 hcd1 hfr1 HB HR
      obtain ⟨b0, b1, b2, b3⟩ := cells4 hB2
      obtain ⟨r0, r1, r2, r3⟩ := cells4 hR2
      obtain ⟨f0, f1, f2, f3⟩ := frozen4 hR2
      have HB := Lib.hid hB2
      have HR := Lib.hid hR2
      clear hB2 hR2
      go_wp2
      have hR3 := setCells4 HR.out (.int .i64 k) (.int .i64 wd) (.int .u64 x) (.int .u64 (aft k bf af x))
      have hF3 : Frm [d] w ((((w2.setCell ⟨w.heap.size + 1, 0, none⟩ (.int .i64 k)).setCell ⟨w.heap.size + 1, 1, none⟩ (.int .i64 wd)).setCell ⟨w.heap.size + 1, 2, none⟩ (.int .u64 x)).setCell ⟨w.heap.size + 1, 3, none⟩ (.int .u64 (aft k bf af x))) := by
        repeat' (first | exact hF2 | (refine Frm.setCell ?_ _ _ (.inr (Nat.le_succ _))))
      have hM3 : MemAt ((((w2.setCell ⟨w.heap.size + 1, 0, none⟩ (.int .i64 k)).setCell ⟨w.heap.size + 1, 1, none⟩ (.int .i64 wd)).setCell ⟨w.heap.size + 1, 2, none⟩ (.int .u64 x)).setCell ⟨w.heap.size + 1, 3, none⟩ (.int .u64 (aft k bf af x))) p d c (ws.set wd.toNat (aft k bf af x)) := by
        repeat' (first | exact hM2 | (refine MemAt.setFar ?_ _ _ (by simp; omega) (by simp; omega)))
      generalize ((((w2.setCell ⟨w.heap.size + 1, 0, none⟩ (.int .i64 k)).setCell ⟨w.heap.size + 1, 1, none⟩ (.int .i64 wd)).setCell ⟨w.heap.size + 1, 2, none⟩ (.int .u64 x)).setCell ⟨w.heap.size + 1, 3, none⟩ (.int .u64 (aft k bf af x))) = w3 at hR3 hF3 hM3 ⊢
      clear r0 r1 r2 r3
      obtain ⟨r0, r1, r2, r3⟩ := cells4 hR3
      refine bodyPost_ret (v := .tuple #[.agg #[.int .i64 k, .int .i64 wd, .int .u64 x, .int .u64 (aft k bf af x)], .int .i64 0]) (by simp [results, Tryz.results143, go_sem, r0, r1, r2, r3]) rfl ⟨rfl, hF3, hM3⟩
end Go.Proofs.YticbbfcachnkiaaGreatDoor

/- Package mem: the methods over Do. -/
namespace Go.Proofs.YticbbfcachnkiaaGreatDoor
open Go.ChangeShapes Go.WideShapes Go.ChangeAt Go.RowKit

theorem Ret.frm {v : Value} {R R' : World → Prop} {e : Ending} {w : World} (h : Ret v R e w) (hr : R w → R' w) : Ret v R' e w := ⟨h.1, hr h.2⟩

theorem mk_load (w : World) (x : Int) : Calls Tryz.prog 144 #[.int .i64 x] w (Ret (.agg #[.int .i64 1, .int .i64 x, .int .u64 0, .int .u64 0]) (fun w' => Frm [] w w')) := by
  go_enter Tryz.func144, Tryz.ntmps144
  go_wp2
  refine bodyPost_ret (v := .agg #[.int .i64 1, .int .i64 x, .int .u64 0, .int .u64 0]) (by simp [results, Tryz.results144, go_sem]) rfl ⟨rfl, ?_⟩
  repeat' (first | exact Frm.refl _ _ | apply Frm.alloc)

theorem mk_store (w : World) (x v : Int) : Calls Tryz.prog 220 #[.int .i64 x, .int .u64 v] w (Ret (.agg #[.int .i64 2, .int .i64 x, .int .u64 0, .int .u64 v]) (fun w' => Frm [] w w')) := by
  go_enter Tryz.func220, Tryz.ntmps220
  go_wp2
  refine bodyPost_ret (v := .agg #[.int .i64 2, .int .i64 x, .int .u64 0, .int .u64 v]) (by simp [results, Tryz.results220, go_sem]) rfl ⟨rfl, ?_⟩
  repeat' (first | exact Frm.refl _ _ | apply Frm.alloc)

theorem mk_compareAndSwap (w : World) (x o v : Int) : Calls Tryz.prog 219 #[.int .i64 x, .int .u64 o, .int .u64 v] w (Ret (.agg #[.int .i64 3, .int .i64 x, .int .u64 o, .int .u64 v]) (fun w' => Frm [] w w')) := by
  go_enter Tryz.func219, Tryz.ntmps219
  go_wp2
  refine bodyPost_ret (v := .agg #[.int .i64 3, .int .i64 x, .int .u64 o, .int .u64 v]) (by simp [results, Tryz.results219, go_sem]) rfl ⟨rfl, ?_⟩
  repeat' (first | exact Frm.refl _ _ | apply Frm.alloc)

theorem mk_swap (w : World) (x v : Int) : Calls Tryz.prog 221 #[.int .i64 x, .int .u64 v] w (Ret (.agg #[.int .i64 4, .int .i64 x, .int .u64 0, .int .u64 v]) (fun w' => Frm [] w w')) := by
  go_enter Tryz.func221, Tryz.ntmps221
  go_wp2
  refine bodyPost_ret (v := .agg #[.int .i64 4, .int .i64 x, .int .u64 0, .int .u64 v]) (by simp [results, Tryz.results221, go_sem]) rfl ⟨rfl, ?_⟩
  repeat' (first | exact Frm.refl _ _ | apply Frm.alloc)

theorem Load_mem {w : World} {p d c : Nat} {ws : List Int} (h : MemAt w p d c ws) (x : Int) :
    Calls Tryz.prog 142 #[.pointer (some ⟨p, 0, none⟩), .int .i64 x] w (Ret (.tuple #[.int .u64 (mRes ws ⟨1, x, 0, 0⟩).b, .int .i64 (mErr ws.length 1 x)]) (fun w' => Frm [d] w w' ∧ MemAt w' p d c (mWs ws ⟨1, x, 0, 0⟩))) := by
  go_enter Tryz.func142, Tryz.ntmps142
  go_wp2_with fail
  refine (mk_load _ _).mono ?_
  rintro e w1 ⟨rfl, hF1⟩
  have hM1 : MemAt w1 p d c ws := h.frm hF1 (by simp) (by simp)
  go_wp2_with fail
  refine (do_mem hM1 _ _ _ _).mono ?_
  rintro e w2 ⟨rfl, hF2, hM2⟩
  have hF : Frm [d] w w2 := hF1.nil.trans hF2
  clear hF1 hF2 hM1
  go_wp2
  go_ret2
  exact ⟨rfl, by repeat' (first | exact hF | apply Frm.alloc), by repeat' (first | exact hM2 | apply MemAt.alloc)⟩

theorem Store_mem {w : World} {p d c : Nat} {ws : List Int} (h : MemAt w p d c ws) (x v : Int) :
    Calls Tryz.prog 217 #[.pointer (some ⟨p, 0, none⟩), .int .i64 x, .int .u64 v] w (Ret (.int .i64 (mErr ws.length 2 x)) (fun w' => Frm [d] w w' ∧ MemAt w' p d c (mWs ws ⟨2, x, 0, v⟩))) := by
  go_enter Tryz.func217, Tryz.ntmps217
  go_wp2_with fail
  refine (mk_store _ _ _).mono ?_
  rintro e w1 ⟨rfl, hF1⟩
  have hM1 : MemAt w1 p d c ws := h.frm hF1 (by simp) (by simp)
  go_wp2_with fail
  refine (do_mem hM1 _ _ _ _).mono ?_
  rintro e w2 ⟨rfl, hF2, hM2⟩
  have hF : Frm [d] w w2 := hF1.nil.trans hF2
  clear hF1 hF2 hM1
  go_wp2
  go_ret
  exact ⟨rfl, by repeat' (first | exact hF | apply Frm.alloc), by repeat' (first | exact hM2 | apply MemAt.alloc)⟩

theorem CAS_mem {w : World} {p d c : Nat} {ws : List Int} (h : MemAt w p d c ws) (x o v : Int) :
    Calls Tryz.prog 216 #[.pointer (some ⟨p, 0, none⟩), .int .i64 x, .int .u64 o, .int .u64 v] w (Ret (.tuple #[.bool (mErr ws.length 3 x == 0 && (mRes ws ⟨3, x, o, v⟩).b == o), .int .i64 (mErr ws.length 3 x)]) (fun w' => Frm [d] w w' ∧ MemAt w' p d c (mWs ws ⟨3, x, o, v⟩))) := by
  go_enter Tryz.func216, Tryz.ntmps216
  go_wp2_with fail
  refine (mk_compareAndSwap _ _ _ _).mono ?_
  rintro e w1 ⟨rfl, hF1⟩
  have hM1 : MemAt w1 p d c ws := h.frm hF1 (by simp) (by simp)
  go_wp2_with fail
  refine (do_mem hM1 _ _ _ _).mono ?_
  rintro e w2 ⟨rfl, hF2, hM2⟩
  have hF : Frm [d] w w2 := hF1.nil.trans hF2
  clear hF1 hF2 hM1
  by_cases he : mErr ws.length 3 x = 0
  · have he1 : (mErr ws.length 3 x == 0) = true := by simp [he]
    have HE := Lib.hid he
    clear he
    go_wp2
    go_ret2
    exact ⟨by simp [HE.out], by repeat' (first | exact hF | apply Frm.alloc), by repeat' (first | exact hM2 | apply MemAt.alloc)⟩
  · have he1 : (mErr ws.length 3 x == 0) = false := by simp [he]
    go_wp2
    go_ret2
    exact ⟨by simp [he], by repeat' (first | exact hF | apply Frm.alloc), by repeat' (first | exact hM2 | apply MemAt.alloc)⟩

theorem Swap_mem {w : World} {p d c : Nat} {ws : List Int} (h : MemAt w p d c ws) (x v : Int) :
    Calls Tryz.prog 218 #[.pointer (some ⟨p, 0, none⟩), .int .i64 x, .int .u64 v] w (Ret (.tuple #[.int .u64 (mRes ws ⟨4, x, 0, v⟩).b, .int .i64 (mErr ws.length 4 x)]) (fun w' => Frm [d] w w' ∧ MemAt w' p d c (mWs ws ⟨4, x, 0, v⟩))) := by
  go_enter Tryz.func218, Tryz.ntmps218
  go_wp2_with fail
  refine (mk_swap _ _ _).mono ?_
  rintro e w1 ⟨rfl, hF1⟩
  have hM1 : MemAt w1 p d c ws := h.frm hF1 (by simp) (by simp)
  go_wp2_with fail
  refine (do_mem hM1 _ _ _ _).mono ?_
  rintro e w2 ⟨rfl, hF2, hM2⟩
  have hF : Frm [d] w w2 := hF1.nil.trans hF2
  clear hF1 hF2 hM1
  go_wp2
  go_ret2
  exact ⟨rfl, by repeat' (first | exact hF | apply Frm.alloc), by repeat' (first | exact hM2 | apply MemAt.alloc)⟩

end Go.Proofs.YticbbfcachnkiaaGreatDoor

/- Two lists of words compared: ticketlineref01.Same, slices.Equal. -/
namespace Go.Proofs.YticbbfcachnkiaaGreatDoor
open Go.ChangeShapes Go.WideShapes Go.ChangeAt Go.RowKit

theorem same_aux (w : World) (xs ys : List Int) (b1 o1 c1 b2 o2 c2 n : Nat) (hn : n ≤ 2147483647) (hx : xs.length = n) (hy : ys.length = n)
    (r1 : ∀ i x, xs[i]? = some x → w.cell? ⟨b1, o1 + i, none⟩ = some (.int .u64 x)) (r2 : ∀ i x, ys[i]? = some x → w.cell? ⟨b2, o2 + i, none⟩ = some (.int .u64 x)) :
    Calls Tryz.prog 43 #[.slice (some ⟨b1, o1, none⟩) n c1, .slice (some ⟨b2, o2, none⟩) n c2] w (fun e w' => ∃ m, Ret (.bool (decide (xs = ys))) (fun w' => w' = w.drewN m) e w') := by
  have hnn : ((n : Int) != n) = false := by simp
  have R1 := Lib.hid r1
  have R2 := Lib.hid r2
  have HLX := Lib.hid hx
  have HLY := Lib.hid hy
  clear r1 r2 hx hy
  go_enter Tryz.func43, Tryz.ntmps43
  go_wp2
  go_loopw [5] (fun i wr => ∃ k : Nat, k ≤ n ∧ i = .int .i64 k ∧ (∀ j, j < k → xs[j]? = ys[j]?) ∧ ∃ m, wr = w.drewN m) (fun i _ => n - (intOf i).toNat)
  case atStart => exact ⟨0, Nat.zero_le _, rfl, fun j hj => absurd hj (Nat.not_lt_zero j), 0, rfl⟩
  case round =>
    obtain ⟨k, hk, rfl, hpre, m, rfl⟩ := hrel
    have HP := Lib.hid hpre
    clear hpre
    by_cases hlt : k < n
    · obtain ⟨x, hxk⟩ : ∃ x, xs[k]? = some x := ⟨_, List.getElem?_eq_getElem (by rw [HLX.out]; exact hlt)⟩
      obtain ⟨y, hyk⟩ : ∃ y, ys[k]? = some y := ⟨_, List.getElem?_eq_getElem (by rw [HLY.out]; exact hlt)⟩
      have cx := R1.out k x hxk
      have cy := R2.out k y hyk
      have HX := Lib.hid hxk
      have HY := Lib.hid hyk
      clear hxk hyk
      by_cases hxy : x = y
      · subst hxy
        have ht : (x != x) = false := by simp
        go_wp2
        go_quiet (fail)
        go_wp2
        go_roundw
        case rel => exact ⟨k + 1, by omega, by go_num, fun j hj => by
          rcases Nat.lt_succ_iff_lt_or_eq.1 hj with h | h
          · exact HP.out j h
          · rw [h, HX.out, HY.out], _, rfl⟩
        case measure => simp [intOf]; omega
      · have ht : (x != y) = true := by simpa using hxy
        have HN := Lib.hid hxy
        clear hxy
        go_wp2
        go_quiet (fail)
        go_wp2
        go_ret
        refine ⟨_, ?_, World.drewN_drewN _ _ _⟩
        have : xs ≠ ys := fun e => by have := HX.out; rw [e, HY.out] at this; exact HN.out (by injection this with h; exact h.symm)
        simp [this]
    · obtain rfl : k = n := by omega
      go_wp2
      go_ret
      refine ⟨_, ?_, rfl⟩
      have : xs = ys := List.ext_getElem? fun j => by
        rcases Nat.lt_or_ge j k with h | h
        · exact HP.out j h
        · rw [List.getElem?_eq_none (by rw [HLX.out]; exact h), List.getElem?_eq_none (by rw [HLY.out]; exact h)]
      simp [this]

theorem same_any {w : World} {xs ys : List Int} {v1 v2 : Value} (h1 : Rd w v1 (u64s xs)) (h2 : Rd w v2 (u64s ys)) (hx : xs.length ≤ 2147483647) (hy : ys.length ≤ 2147483647) :
    Calls Tryz.prog 43 #[v1, v2] w (fun e w' => ∃ m, Ret (.bool (decide (xs = ys))) (fun w' => w' = w.drewN m) e w') := by
  obtain ⟨a1, c1, rfl, e1⟩ : ∃ a1 c1, v1 = .slice a1 xs.length c1 ∧ (0 < xs.length → ∃ b o, a1 = some ⟨b, o, none⟩ ∧ ∀ i x, xs[i]? = some x → w.cell? ⟨b, o + i, none⟩ = some (.int .u64 x)) := by
    rcases h1 with ⟨hv, hl⟩ | ⟨b, o, c, hv, hl, hb, hr⟩
    · have : xs = [] := by simpa [u64s] using hl
      subst this
      exact ⟨none, 0, hv, fun h => absurd h (by simp)⟩
    · exact ⟨_, c, by simpa [u64s] using hv, fun _ => ⟨b, o, rfl, fun i x hi => hr i _ (by simp [u64s, hi])⟩⟩
  obtain ⟨a2, c2, rfl, e2⟩ : ∃ a2 c2, v2 = .slice a2 ys.length c2 ∧ (0 < ys.length → ∃ b o, a2 = some ⟨b, o, none⟩ ∧ ∀ i x, ys[i]? = some x → w.cell? ⟨b, o + i, none⟩ = some (.int .u64 x)) := by
    rcases h2 with ⟨hv, hl⟩ | ⟨b, o, c, hv, hl, hb, hr⟩
    · have : ys = [] := by simpa [u64s] using hl
      subst this
      exact ⟨none, 0, hv, fun h => absurd h (by simp)⟩
    · exact ⟨_, c, by simpa [u64s] using hv, fun _ => ⟨b, o, rfl, fun i x hi => hr i _ (by simp [u64s, hi])⟩⟩
  clear h1 h2
  by_cases hl : xs.length = ys.length
  · by_cases h0 : 0 < xs.length
    · obtain ⟨b1, o1, rfl, r1⟩ := e1 h0
      obtain ⟨b2, o2, rfl, r2⟩ := e2 (by omega)
      rw [← hl]
      exact same_aux w xs ys b1 o1 c1 b2 o2 c2 xs.length hx rfl hl.symm r1 r2
    · have hx0 : xs = [] := List.length_eq_zero_iff.1 (by omega)
      have hy0 : ys = [] := List.length_eq_zero_iff.1 (by omega)
      subst hx0 hy0
      clear e1 e2
      go_enter Tryz.func43, Tryz.ntmps43
      go_wp2
      refine wp_loop_rounds 1 ?_
      rw [rounds_succ]
      go_wp2
      go_ret
      exact ⟨0, rfl, rfl⟩
  · have hb : ((xs.length : Int) != ys.length) = true := by simp; omega
    have hd : decide (xs = ys) = false := by simp; intro e; exact hl (by rw [e])
    rw [hd]
    clear e1 e2 hl hd
    go_enter Tryz.func43, Tryz.ntmps43
    go_wp2
    go_ret
    exact ⟨0, rfl, rfl⟩

theorem u64s_get {xs : List Int} {i : Nat} {u : Value} (h : (u64s xs)[i]? = some u) : ∃ x, xs[i]? = some x ∧ u = .int .u64 x := by
  rw [u64s, List.getElem?_map] at h
  cases hx : xs[i]? with
  | none => rw [hx] at h; cases h
  | some x => rw [hx] at h; exact ⟨x, rfl, by cases h; rfl⟩

/-- Words that a call has made for itself. -/
def Own (B : Nat) (w : World) (v : Value) (xs : List Int) : Prop := w.ownsRow B 41 1 v xs.length (u64s xs)
theorem Own.rd {B : Nat} {w : World} {v : Value} {xs : List Int} (h : Own B w v xs) : Rd w v (u64s xs) := by
  obtain ⟨_, h⟩ := h
  rcases h with ⟨hv, hn⟩ | ⟨g, cap, cur, hv, hg, hh, hc, hm, hz, ht⟩
  · exact .inl ⟨hv, by rw [List.length_eq_zero_iff.1 hn]; rfl⟩
  · refine .inr ⟨g, 0, cap, by simpa [u64s] using hv, by simpa [u64s] using hc, lt_of_heap hh, fun i u hu => ?_⟩
    rw [cell_of_heap hh, ← Array.getElem?_toList]
    have hi : i < xs.length := by have := (List.getElem?_eq_some_iff.1 hu).1; simpa [u64s] using this
    rw [← ht, List.getElem?_take, if_pos (by omega)] at hu
    rw [Nat.zero_add]; exact hu
theorem Own.from_ {B : Nat} {w : World} {v : Value} {xs : List Int} (h : Own B w v xs) : From B v := by
  obtain ⟨_, h⟩ := h
  rcases h with ⟨hv, hn⟩ | ⟨g, cap, cur, hv, hg, _⟩
  · intro b hb; rw [hv] at hb; cases hb
  · intro b hb; rw [hv] at hb; cases hb; exact hg
theorem Own.frm {B : Nat} {D : List Nat} {w w' : World} {v : Value} {xs : List Int} (h : Own B w v xs) (hf : Frm D w w') (hd : ∀ b, v.ownBlock = some b → b ∉ D) : Own B w' v xs := by
  obtain ⟨h0, h⟩ := h
  refine ⟨h0, ?_⟩
  rcases h with h | ⟨g, cap, cur, hv, hg, hh, r⟩
  · exact .inl h
  · exact .inr ⟨g, cap, cur, hv, hg, hf.heap hh (hd g (by rw [hv]; rfl)), r⟩

theorem clone_any {w : World} {xs : List Int} {b o c n : Nat} (hn : xs.length = n) (hx : xs.length ≤ 2147483647) (r1 : ∀ i x, xs[i]? = some x → w.cell? ⟨b, o + i, none⟩ = some (.int .u64 x)) (hb : b < w.heap.size) :
    Calls Tryz.prog 37 #[.slice (some ⟨b, o, none⟩) n c] w
    (fun e w' => ∃ v, Ret v (fun w' => Frm [] w w' ∧ Own w.heap.size w' v xs ∧ v ≠ .slice none 0 0) e w') := by
  subst hn
  obtain ⟨i0, hi, hz0, hz1, hz2⟩ := info_parts info_u64
  have hown : (w.alloc (.cells #[] 41)).ownsRow w.heap.size 41 1 (.slice (some ⟨w.heap.size, 0, none⟩) 0 0) 0 [] :=
    ⟨by simp, .inr ⟨w.heap.size, 0, #[], rfl, Nat.le_refl _, heap_alloc_new _ _, by omega, by unfold maxLen; omega, by simp, by simp⟩⟩
  have hcell : ∀ j u, (u64s xs)[j]? = some u → (w.alloc (.cells #[] 41)).cell? ((⟨b, o, none⟩ : Addr).add j) = some u := by
    intro j u hu
    obtain ⟨x, hx, rfl⟩ := u64s_get hu
    have ea : (⟨b, o, none⟩ : Addr).add j = ⟨b, o + j, none⟩ := by simp [Addr.add]
    rw [ea]
    rw [World.cell?_alloc_past _ _ _ hb]
    exact r1 j x hx
  have hnil := fun (w : World) => Lib.run_eql_slice_nil (P := Tryz.prog) w 30 41 (some ⟨b, o, none⟩) xs.length c 0 0 Tryz.underlying30
  have R1 := Lib.hid r1
  have HC := Lib.hid hcell
  clear r1 hcell
  go_enter Tryz.func37, Tryz.ntmps37
  go_wp2_with (at_builtin; go_loud (refine wpList_append_own _ rfl _ _ 30 rfl w.heap.size 41 i0 (.int .u64 0) 1 8 Tryz.underlying30 hi hz0 hz1 hz2 rfl (by decide) _ _ _ rfl hown ⟨b, o, none⟩ xs.length c (u64s xs) rfl (by simp [u64s]) HC.out (by intro u hu; obtain ⟨x, _, rfl⟩ := List.mem_map.1 hu; rfl) (by unfold maxLen; omega) (by omega) (by simp) ?_); intro v' w1 hown' hgrow hnl)
  go_ret
  refine ⟨_, rfl, ?_, ?_, ?_⟩
  · exact ((Frm.refl _ _).alloc _).trans_new (Frm.grown hgrow (D := [w.heap.size]) (by intro k hk; cases hk; simp)) (by simp)
  · have : w1.ownsRow w.heap.size 41 1 v' (0 + xs.length) ([] ++ u64s xs) := hown'
    rw [Nat.zero_add, List.nil_append] at this
    exact this
  · intro e; have := (hnl.1 e).1; cases this

theorem Rd_take {w : World} {d : Nat} {ws : List Int} (hr : ∀ i x, ws[i]? = some x → w.cell? ⟨d, i, none⟩ = some (.int .u64 x)) (fr tt : Nat) :
    ∀ i x, ((ws.drop fr).take (tt - fr))[i]? = some x → w.cell? ⟨d, fr + i, none⟩ = some (.int .u64 x) := by
  intro i x hx
  rw [List.getElem?_take] at hx
  split at hx
  · rw [List.getElem?_drop] at hx; exact hr _ _ hx
  · cases hx

theorem words_ok {w : World} {p d c : Nat} {ws : List Int} (hM : MemAt w p d c ws) (fr tt : Nat) (h1 : fr ≤ tt) (h2 : tt ≤ ws.length) :
    Calls Tryz.prog 42 #[.pointer (some ⟨p, 0, none⟩), .int .i64 fr, .int .i64 tt] w
    (fun e w' => ∃ v, Ret (.tuple #[v, .int .i64 0]) (fun w' => Frm [] w w' ∧ Own w.heap.size w' v ((ws.drop fr).take (tt - fr))) e w') := by
  have hcp := hM.cellp
  have hle := hM.le
  have hcap := hM.cap
  have hb1 : decide ((fr : Int) < 0) = false := by simp
  have hb2 : decide ((tt : Int) < fr) = false := by simp; omega
  have hb3 : decide ((ws.length : Int) < tt) = false := by simp; omega
  go_enter Tryz.func42, Tryz.ntmps42
  go_wp2_with (go_at_call 30; refine (none_mem hM).mono ?_; rintro e w' ⟨rfl, rfl⟩)
  · refine (clone_any (xs := (ws.drop fr).take (tt - fr)) (by simp; omega) (by simp; omega) (fun i x hx => by rw [List.getElem?_eq_none (by simp; omega)] at hx; cases hx) hM.dlt).mono ?_
    rintro e w1 ⟨v, rfl, hF, hO, _⟩
    go_wp2
    go_ret2
    exact ⟨_, rfl, hF, hO⟩
  · refine (clone_any (xs := (ws.drop fr).take (tt - fr)) (by simp; omega) (by simp; omega) (Rd_take (fun i x hx => hM.celld hx) fr tt) hM.dlt).mono ?_
    rintro e w1 ⟨v, rfl, hF, hO, _⟩
    go_wp2
    go_ret2
    exact ⟨_, rfl, hF, hO⟩
theorem words_bad {w : World} {p d c : Nat} {ws : List Int} (hM : MemAt w p d c ws) (fr tt : Int) (hh : fr < 0 ∨ tt < fr ∨ ws.length < tt) :
    Calls Tryz.prog 42 #[.pointer (some ⟨p, 0, none⟩), .int .i64 fr, .int .i64 tt] w
    (Ret (.tuple #[.slice none 0 0, .int .i64 3]) (fun w' => w = w')) := by
  have hcp := hM.cellp
  by_cases k1 : fr < 0
  · have hb1 : decide (fr < 0) = true := by simpa using k1
    go_enter Tryz.func42, Tryz.ntmps42
    go_wp2_with (go_at_call 30; refine (none_mem hM).mono ?_; rintro e w' ⟨rfl, rfl⟩)
    go_ret2
    exact ⟨rfl, rfl⟩
  · have hb1 : decide (fr < 0) = false := by simpa using k1
    by_cases k2 : tt < fr
    · have hb2 : decide (tt < fr) = true := by simpa using k2
      go_enter Tryz.func42, Tryz.ntmps42
      go_wp2_with (go_at_call 30; refine (none_mem hM).mono ?_; rintro e w' ⟨rfl, rfl⟩)
      go_ret2
      exact ⟨rfl, rfl⟩
    · have hb2 : decide (tt < fr) = false := by simpa using k2
      have hb3 : decide ((ws.length : Int) < tt) = true := by simp; omega
      go_enter Tryz.func42, Tryz.ntmps42
      go_wp2_with (go_at_call 30; refine (none_mem hM).mono ?_; rintro e w' ⟨rfl, rfl⟩)
      go_ret2
      exact ⟨rfl, rfl⟩

theorem copy_ok {w : World} {p d c : Nat} {ws : List Int} (hM : MemAt w p d c ws) :
    Calls Tryz.prog 15 #[.pointer (some ⟨p, 0, none⟩)] w
    (fun e w' => ∃ p' d' c', Ret (.pointer (some ⟨p', 0, none⟩)) (fun w' => Frm [] w w' ∧ MemAt w' p' d' c' ws ∧ w.heap.size ≤ p' ∧ w.heap.size ≤ d') e w') := by
  have hcp := hM.cellp
  have hle := hM.le
  go_enter Tryz.func15, Tryz.ntmps15
  go_wp2_with (go_at_call 30; refine (none_mem hM).mono ?_; rintro e w' ⟨rfl, rfl⟩)
  refine (clone_any (xs := ws) rfl (by omega) (fun i x hx => by rw [Nat.zero_add]; exact hM.celld hx) hM.dlt).mono ?_
  rintro e w1 ⟨v, rfl, hF, hO, hv⟩
  obtain ⟨h0, hO | ⟨g, cap, cur, rfl, hg, hh, hcap, hmax, hsz, htk⟩⟩ := hO
  · exact absurd hO.1 hv
  have HH := Lib.hid hh
  have HT := Lib.hid htk
  have HZ := Lib.hid hsz
  clear hv hh htk hsz h0
  go_wp2
  go_ret
  refine ⟨_, g, cap, rfl, hF.alloc _, ⟨heap_alloc_new _ _, ⟨cur, heap_alloc_old _ HH.out, by have := HZ.out; omega, ?_⟩, ?_, hcap, hM.pos, hM.le⟩, by simpa using hF.size, hg⟩
  · intro i x hx
    have hi : i < ws.length := (List.getElem?_eq_some_iff.1 hx).1
    have : (u64s ws)[i]? = some (Value.int .u64 x) := by rw [u64s, List.getElem?_map, hx]; rfl
    rw [← HT.out, List.getElem?_take, if_pos (by omega)] at this
    rw [← Array.getElem?_toList]; exact this
  · have := lt_of_heap HH.out; omega

theorem none_mem_q {w : World} {p d c : Nat} {ws : List Int} (hM : MemAt w p d c ws) (n : Nat) :
    Calls Tryz.prog 30 #[.pointer (some ⟨p, 0, none⟩)] (w.drewN n) fun e w'' => e = .returned (.bool false) ∧ ∃ m, w'' = w.drewN m :=
  Calls.quiet_of_same ((none_mem (hM.drewN n)).mono fun _ _ hh => ⟨hh.1, hh.2.symm⟩)
end Go.Proofs.YticbbfcachnkiaaGreatDoor
