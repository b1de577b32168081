/- Stage 12: the step of a machine. -/
import Derived.Test.YtieccmmnfnpcoaaThT
namespace Go.Proofs.Ytieccmmnfnpcoaa
open Go.ChangeShapes Go.WideShapes Go.ChangeAt Go.RowKit
set_option linter.unusedVariables false
/-- One cell of an element is put down. -/
theorem Gr.put1 {T : TypeId} {s B : Nat} {w : World} {a : Option Addr} {n c : Nat} {f : Nat → List Value} (h : Gr T s B w a n c f) {g i j : Nat} (ha : a = some ⟨g, 0, none⟩) (hi : i < n) (hj : j < s) (v : Value) :
    Gr T s B (w.setCell ⟨g, i * s + j, none⟩ v) a n c (upd f i ((f i).set j v)) := by
  obtain ⟨h1, h2, ⟨rfl, _⟩ | ⟨g', cs, rfl, hB, hh, hs, hq⟩⟩ := h
  · cases ha
  · cases ha
    refine ⟨fun k hk => ?_, h2, .inr ⟨g, _, rfl, hB, heap_setCell_at v hh, by simpa using hs, fun k hk m u hu => ?_⟩⟩
    · by_cases e : k = i
      · subst e; rw [upd_eq, List.length_set]; exact h1 k hk
      · rw [upd_ne _ _ e]; exact h1 k hk
    · rw [Array.getElem?_setIfInBounds]
      by_cases e : k = i
      · subst e
        rw [upd_eq, List.getElem?_set] at hu
        by_cases em : j = m
        · subst em
          rw [if_pos rfl] at hu
          have hlen := h1 k hk
          rw [if_pos (by omega)] at hu
          have hcs : k * s + j < cs.size := by have := hq k hk j _ (List.getElem?_eq_getElem (by omega)); exact (Array.getElem?_eq_some_iff.1 this).1
          rw [if_pos rfl, if_pos hcs]; exact hu
        · rw [if_neg em] at hu
          rw [if_neg (by omega)]; exact hq k hk m u hu
      · rw [upd_ne _ _ e] at hu
        have hm : m < s := by have := (List.getElem?_eq_some_iff.1 hu).1; have := h1 k hk; omega
        rw [if_neg ?_]
        · exact hq k hk m u hu
        · intro ee
          rcases Nat.lt_or_gt_of_ne e with e | e
          · have := Nat.mul_le_mul_right s (show k + 1 ≤ i by omega); rw [Nat.add_mul, Nat.one_mul] at this; omega
          · have := Nat.mul_le_mul_right s (show i + 1 ≤ k by omega); rw [Nat.add_mul, Nat.one_mul] at this; omega
theorem MbAt.tne {w : World} {X : Mb} (h : MbAt w X) {b : Nat} {cs : Array Value} {t : TypeId} (hb : w.heap[b]? = some (.cells cs t (0, 0))) (ht : t ≠ 121) : b ∉ bkG X.ta := fun hx => h.row.ne hb ht b hx rfl
theorem MbAt.put {w : World} {X : Mb} (h : MbAt w X) {i : Nat} {t t' : Tv} (ht : X.tv[i]? = some t) {g j : Nat} {v : Value} (hg : X.ta = some ⟨g, 0, none⟩) (hj : j < 3) (hc : t'.cells = t.cells.set j v) :
    MbAt (w.setCell ⟨g, i * 3 + j, none⟩ v) { X with tv := X.tv.set i t' } := by
  have hi : i < X.tv.length := (List.getElem?_eq_some_iff.1 ht).1
  have hF : Frm [g] w (w.setCell ⟨g, i * 3 + j, none⟩ v) := (Frm.refl [g] w).setCell _ _ (.inl (by simp))
  have hgb : ∀ x, x ∉ bkG X.ta → x ∉ [g] := fun x hx => by rw [hg] at hx; simpa [bkG] using hx
  obtain ⟨ds, hds, _⟩ := h.mem.arr
  have hm := h.mem.frm hF (hgb _ (h.tne h.mem.obj (by decide))) (hgb _ (h.tne hds (by decide)))
  refine ⟨by rw [List.length_set]; exact hF.heap h.obj (hgb _ (h.tne h.obj (by decide))), hm, ?_, by rw [List.length_set]; exact h.le⟩
  have := h.row.put1 hg hi hj v
  rw [List.length_set]
  refine this.congr fun k hk => ?_
  unfold tvF
  by_cases e : k = i
  · subst e
    rw [upd_eq, List.getD_eq_getElem?_getD, List.getElem?_set, if_pos rfl, if_pos hi, List.getD_eq_getElem?_getD, ht]; exact hc
  · rw [upd_ne _ _ e, List.getD_eq_getElem?_getD, List.getElem?_set, if_neg (by omega), List.getD_eq_getElem?_getD]
theorem setCells7 {w : World} {b : Nat} {x0 x1 x2 x3 x4 x5 x6 : Value} {t : TypeId} {f : Nat × Nat} (h : w.heap[b]? = some (.cells #[x0, x1, x2, x3, x4, x5, x6] t f)) (y0 y1 y2 y3 y4 y5 y6 : Value) :
    (((((((w.setCell ⟨b, 0, none⟩ y0).setCell ⟨b, 1, none⟩ y1).setCell ⟨b, 2, none⟩ y2).setCell ⟨b, 3, none⟩ y3).setCell ⟨b, 4, none⟩ y4).setCell ⟨b, 5, none⟩ y5).setCell ⟨b, 6, none⟩ y6).heap[b]? = some (.cells #[y0, y1, y2, y3, y4, y5, y6] t f) := by
  have := heap_setCell_at (i := 6) y6 (heap_setCell_at (i := 5) y5 (heap_setCell_at (i := 4) y4 (heap_setCell_at (i := 3) y3 (heap_setCell_at (i := 2) y2 (heap_setCell_at (i := 1) y1 (heap_setCell_at (i := 0) y0 h))))))
  simpa using this
theorem Frm.set7 {D : List Nat} {a b : World} (h : Frm D a b) (p : Nat) (v0 v1 v2 v3 v4 v5 v6 : Value) (hp : p ∈ D ∨ a.heap.size ≤ p) :
    Frm D a (((((((b.setCell ⟨p, 0, none⟩ v0).setCell ⟨p, 1, none⟩ v1).setCell ⟨p, 2, none⟩ v2).setCell ⟨p, 3, none⟩ v3).setCell ⟨p, 4, none⟩ v4).setCell ⟨p, 5, none⟩ v5).setCell ⟨p, 6, none⟩ v6) :=
  ((((((h.setCell ⟨p, 0, none⟩ v0 hp).setCell ⟨p, 1, none⟩ v1 hp).setCell ⟨p, 2, none⟩ v2 hp).setCell ⟨p, 3, none⟩ v3 hp).setCell ⟨p, 4, none⟩ v4 hp).setCell ⟨p, 5, none⟩ v5 hp).setCell ⟨p, 6, none⟩ v6 hp
theorem cells7 {w : World} {b : Nat} {x0 x1 x2 x3 x4 x5 x6 : Value} {t : TypeId} (h : w.heap[b]? = some (.cells #[x0, x1, x2, x3, x4, x5, x6] t (0, 0))) :
    w.cell? ⟨b, 0, none⟩ = some x0 ∧ w.cell? ⟨b, 1, none⟩ = some x1 ∧ w.cell? ⟨b, 2, none⟩ = some x2 ∧ w.cell? ⟨b, 3, none⟩ = some x3 ∧ w.cell? ⟨b, 4, none⟩ = some x4 ∧ w.cell? ⟨b, 5, none⟩ = some x5 ∧ w.cell? ⟨b, 6, none⟩ = some x6 := by
  refine ⟨?_, ?_, ?_, ?_, ?_, ?_, ?_⟩ <;> rw [cell_of_heap h] <;> rfl
theorem frozen7 {w : World} {b : Nat} {cs : Array Value} {t : TypeId} (h : w.heap[b]? = some (.cells cs t (0, 0))) :
    w.frozen? ⟨b, 0, none⟩ = false ∧ w.frozen? ⟨b, 1, none⟩ = false ∧ w.frozen? ⟨b, 2, none⟩ = false ∧ w.frozen? ⟨b, 3, none⟩ = false ∧ w.frozen? ⟨b, 4, none⟩ = false ∧ w.frozen? ⟨b, 5, none⟩ = false ∧ w.frozen? ⟨b, 6, none⟩ = false :=
  ⟨frozen_of_heap h, frozen_of_heap h, frozen_of_heap h, frozen_of_heap h, frozen_of_heap h, frozen_of_heap h, frozen_of_heap h⟩
/-- What was done, as a value. -/
def didV (i : Int) (a : Acc) (wt en : Bool) : Value := .agg #[.int .i64 i, .int .i64 a.k, .int .i64 a.w, .int .u64 a.b, .int .u64 a.a, .bool wt, .bool en]
structure Stp (w : World) (X : Mb) (t : Tv) (wt : Bool) (e : Int) (did : Acc) (ws' : List Int) (B : List Nat) (S : World → Prop) : Prop where
  hB : ∀ x ∈ B, x < w.heap.size ∧ x ≠ X.q ∧ x ≠ X.p ∧ x ≠ X.d ∧ x ∉ bkG X.ta
  HS : ∀ w1 q1, Frm [] w w1 → Mm true w1 X.p X.d X.c q1 acc0 X.ws → w.heap.size ≤ q1 → Calls Try.prog 73 #[.iface t.T (.pointer (some ⟨t.a, 0, none⟩)), .iface 134 (.pointer (some ⟨q1, 0, none⟩))] w1
    (Ret (.tuple #[.bool wt, .int .i64 e]) (fun w' => Frm (X.d :: q1 :: B) w1 w' ∧ Mm true w' X.p X.d X.c q1 did ws' ∧ S w'))
  hl : ws'.length = X.ws.length
  Hst : ∀ D w1 w2, S w1 → Frm D w1 w2 → (∀ x ∈ D, (x ∈ bkG X.ta ∨ w.heap.size ≤ x) ∧ NI w1 x) → S w2
section
variable {w : World} {X : Mb}
set_option maxRecDepth 100000 in
set_option maxHeartbeats 4000000 in
theorem mstep_err (h : MbAt w X) {i : Nat} {t : Tv} (ht : X.tv[i]? = some t) {wt : Bool} {e : Int} {did : Acc} {ws' : List Int} {B : List Nat} {S : World → Prop} (hS : Stp w X t wt e did ws' B S) (he : e ≠ 0) :
    Calls Try.prog 60 #[.pointer (some ⟨X.q, 0, none⟩), .int .i64 (i : Int)] w (Ret (.tuple #[didV 0 acc0 false false, .int .i64 e]) (fun w' => Frm (X.d :: B) w w' ∧ MbAt w' { X with ws := ws' } ∧ S w')) := by
  have hi : i < X.tv.length := (List.getElem?_eq_some_iff.1 ht).1
  have hb : (e != 0) = true := by simp [he]
  obtain ⟨X0, hX0⟩ : ∃ X0, X0 = w.alloc (.cells #[.int .i64 0, .int .i64 0, .int .i64 0, .int .u64 0, .int .u64 0, .bool false, .bool false] 64) := ⟨_, rfl⟩
  have hF0 : Frm [] w X0 := by rw [hX0]; exact (Frm.refl _ _).alloc _
  have hR0 : X0.heap[w.heap.size]? = some (.cells #[.int .i64 0, .int .i64 0, .int .i64 0, .int .u64 0, .int .u64 0, .bool false, .bool false] 64 (0, 0)) := by rw [hX0]; exact heap_alloc_new _ _
  have hA := h.frm0 hF0
  have h0 := h.c0
  have hql := h.lt
  have hpl := h.mem.plt
  have hdl := h.mem.dlt
  have H0 := Lib.hid (newonce_ok hA.mem)
  have HA := Lib.hid hA
  have HF0 := Lib.hid hF0
  have HR0 := Lib.hid hR0
  have HS := Lib.hid hS
  have HT := Lib.hid ht
  have HE := Lib.hid he
  clear hA hF0 hR0 hS ht h he
  go_enter Try.func60, Try.ntmps60
  go_wp2_with fail
  rw [← hX0]
  clear hX0
  refine H0.out.mono ?_
  rintro e1 w1 ⟨q1, rfl, hF1, hO1, hq1⟩
  have hA1 := HA.out.frm0 hF1
  have hF01 := HF0.out.trans hF1
  have hs0 := HF0.out.size
  have hs1 := hF1.size
  have H1 := Lib.hid (HS.out.HS w1 q1 hF01 (Mm.ofOnce hA1.mem hO1 (by omega) (by omega)) (by omega))
  obtain ⟨g, hg, hgl, hz, k0, k1, k2⟩ := hA1.thr HT.out
  have hBB := HS.out.hB
  obtain ⟨ds, hds, _⟩ := hA1.mem.arr
  have hqn : X.q ∉ X.d :: q1 :: B := by
    simp only [List.mem_cons, not_or]
    refine ⟨fun e => ?_, by omega, fun hx => (hBB _ hx).2.1 rfl⟩
    have hh := hA1.obj
    rw [e] at hh
    have := hh.symm.trans hds
    simp only [Option.some.injEq, Obj.cells.injEq] at this
    exact absurd this.2.1 (by decide)
  have htn : ∀ x ∈ bkG X.ta, x ∉ X.d :: q1 :: B := fun x hx => by
    simp only [List.mem_cons, not_or]
    exact ⟨hA1.row.ne hds (by decide) x hx, hA1.row.ne hO1 (by decide) x hx, fun hx2 => (hBB _ hx2).2.2.2.2 hx⟩
  have hrn : w.heap.size ∉ X.d :: q1 :: B := by
    simp only [List.mem_cons, not_or]
    exact ⟨by omega, by have := lt_of_heap HR0.out; omega, fun hx => by have := (hBB _ hx).1; omega⟩
  have h1 := hA1.c1
  rw [hg] at h1
  have hix := ix_run (b := g) (c := X.tc) hi
  have hR1 := hF1.heap HR0.out (by simp)
  have HR1 := Lib.hid hR1
  have HA1 := Lib.hid hA1
  have HF01 := Lib.hid hF01
  have HG := Lib.hid hg
  have HN := Lib.hid (And.intro hqn (And.intro htn hrn))
  clear h0 hA1 hF1 hO1 hR1 hF01 hg H0 HF0 HA HR0 hqn htn hrn hBB hds
  go_wp2_with fail
  refine H1.out.mono ?_
  rintro e2 w2 ⟨rfl, hF2, hM2, hS2⟩
  obtain ⟨hqn, htn, hrn⟩ := HN.out
  have hs2 := hF2.size
  have hR2 := hF2.heap HR1.out hrn
  have hA2 : MbAt w2 { X with ws := ws' } := ⟨hF2.heap HA1.out.obj hqn, hM2.mem, HA1.out.row.frm hF2 htn, HA1.out.le⟩
  have hFw : Frm (X.d :: B) w w2 := HF01.out.nil.trans_new hF2 (by
    intro x hx
    simp only [List.mem_cons] at hx ⊢
    rcases hx with h | h | h
    · exact .inl (.inl h)
    · exact .inr (by omega)
    · exact .inl (.inr h))
  have HR2 := Lib.hid hR2
  have HA2 := Lib.hid hA2
  have HS2 := Lib.hid hS2
  have HFw := Lib.hid hFw
  obtain ⟨r0, r1, r2, r3, r4, r5, r6⟩ := cells7 hR2
  obtain ⟨f0, f1, f2, f3, f4, f5, f6⟩ := frozen7 hR2
  have hrl := lt_of_heap hR2
  clear hF2 hM2 hS2 hR2 hA2 hFw H1 k0 k1 k2 h1 hz
  go_wp2
  have hRz := setCells7 HR2.out (.int .i64 0) (.int .i64 0) (.int .i64 0) (.int .u64 0) (.int .u64 0) (.bool false) (.bool false)
  have hFz := (Frm.refl [w.heap.size] w2).set7 w.heap.size (.int .i64 0) (.int .i64 0) (.int .i64 0) (.int .u64 0) (.int .u64 0) (.bool false) (.bool false) (.inl (by simp))
  generalize (((((((w2.setCell ⟨w.heap.size, 0, none⟩ (.int .i64 0)).setCell ⟨w.heap.size, 1, none⟩ (.int .i64 0)).setCell ⟨w.heap.size, 2, none⟩ (.int .i64 0)).setCell ⟨w.heap.size, 3, none⟩ (.int .u64 0)).setCell ⟨w.heap.size, 4, none⟩ (.int .u64 0)).setCell ⟨w.heap.size, 5, none⟩ (.bool false)).setCell ⟨w.heap.size, 6, none⟩ (.bool false)) = wz at hRz hFz ⊢
  clear r0 r1 r2 r3 r4 r5 r6
  obtain ⟨r0, r1, r2, r3, r4, r5, r6⟩ := cells7 hRz
  have hni : NI w2 w.heap.size := ni_of HR2.out (by decide)
  have hne : ∀ {b : Nat} {cs : Array Value} {t : TypeId}, w2.heap[b]? = some (.cells cs t (0, 0)) → t ≠ 64 → b ∉ [w.heap.size] := fun hb ht he => by
    simp only [List.mem_singleton] at he
    subst he
    have := hb.symm.trans HR2.out
    simp only [Option.some.injEq, Obj.cells.injEq] at this
    exact ht this.2.1
  obtain ⟨ds, hds, _⟩ := HA2.out.mem.arr
  refine bodyPost_ret (v := .tuple #[didV 0 acc0 false false, .int .i64 e]) (by simp [results, Try.results60, go_sem, r0, r1, r2, r3, r4, r5, r6, didV, acc0]) rfl ⟨rfl, HFw.out.trans_new hFz (by simp), ?_, HS.out.Hst _ _ _ HS2.out hFz (fun x hx => ⟨.inr (by simp at hx; omega), by simp at hx; subst hx; exact hni⟩)⟩
  exact HA2.out.frm hFz (hne HA2.out.obj (by decide)) (hne HA2.out.mem.obj (by decide)) (hne hds (by decide)) (fun x hx hx2 => by simp at hx2; exact HA2.out.row.ne HR2.out (by decide) x hx hx2)
set_option maxRecDepth 100000 in
set_option maxHeartbeats 4000000 in
theorem mstep_ok (h : MbAt w X) {i : Nat} {t : Tv} (ht : X.tv[i]? = some t) {wt : Bool} {did : Acc} {ws' : List Int} {B : List Nat} {S : World → Prop} (hS : Stp w X t wt 0 did ws' B S) {en : Bool} (hst : t.st < 1000000000) (hlk : t.lk < 1000000000)
    (HEn : ∀ w1, S w1 → Calls Try.prog 61 #[.iface t.T (.pointer (some ⟨t.a, 0, none⟩))] w1 (Ret (.bool en) (fun w' => Frm [] w1 w'))) :
    Calls Try.prog 60 #[.pointer (some ⟨X.q, 0, none⟩), .int .i64 (i : Int)] w (Ret (.tuple #[didV i did wt en, .int .i64 0]) (fun w' => Frm (X.d :: (bkG X.ta ++ B)) w w' ∧ MbAt w' { X with ws := ws', tv := X.tv.set i { t with st := t.st + 1, lk := if wt then t.lk + 1 else t.lk } } ∧ S w')) := by
  have hi : i < X.tv.length := (List.getElem?_eq_some_iff.1 ht).1
  obtain ⟨X0, hX0⟩ : ∃ X0, X0 = w.alloc (.cells #[.int .i64 0, .int .i64 0, .int .i64 0, .int .u64 0, .int .u64 0, .bool false, .bool false] 64) := ⟨_, rfl⟩
  have hF0 : Frm [] w X0 := by rw [hX0]; exact (Frm.refl _ _).alloc _
  have hR0 : X0.heap[w.heap.size]? = some (.cells #[.int .i64 0, .int .i64 0, .int .i64 0, .int .u64 0, .int .u64 0, .bool false, .bool false] 64 (0, 0)) := by rw [hX0]; exact heap_alloc_new _ _
  have hA := h.frm0 hF0
  have h0 := h.c0
  have hql := h.lt
  have hpl := h.mem.plt
  have hdl := h.mem.dlt
  have H0 := Lib.hid (newonce_ok hA.mem)
  have HA := Lib.hid hA
  have HF0 := Lib.hid hF0
  have HR0 := Lib.hid hR0
  have HS := Lib.hid hS
  have HT := Lib.hid ht
  have HEN := Lib.hid HEn
  clear hA hF0 hR0 hS ht h HEn
  go_enter Try.func60, Try.ntmps60
  go_wp2_with fail
  rw [← hX0]
  clear hX0
  refine H0.out.mono ?_
  rintro e1 w1 ⟨q1, rfl, hF1, hO1, hq1⟩
  have hA1 := HA.out.frm0 hF1
  have hF01 := HF0.out.trans hF1
  have hs0 := HF0.out.size
  have hs1 := hF1.size
  have H1 := Lib.hid (HS.out.HS w1 q1 hF01 (Mm.ofOnce hA1.mem hO1 (by omega) (by omega)) (by omega))
  obtain ⟨g, hg, hgl, hz, k0, k1, k2⟩ := hA1.thr HT.out
  have hBB := HS.out.hB
  obtain ⟨ds, hds, _⟩ := hA1.mem.arr
  have hqn : X.q ∉ X.d :: q1 :: B := by
    simp only [List.mem_cons, not_or]
    refine ⟨fun e => ?_, by omega, fun hx => (hBB _ hx).2.1 rfl⟩
    have hh := hA1.obj
    rw [e] at hh
    have := hh.symm.trans hds
    simp only [Option.some.injEq, Obj.cells.injEq] at this
    exact absurd this.2.1 (by decide)
  have htn : ∀ x ∈ bkG X.ta, x ∉ X.d :: q1 :: B := fun x hx => by
    simp only [List.mem_cons, not_or]
    exact ⟨hA1.row.ne hds (by decide) x hx, hA1.row.ne hO1 (by decide) x hx, fun hx2 => (hBB _ hx2).2.2.2.2 hx⟩
  have hrn : w.heap.size ∉ X.d :: q1 :: B := by
    simp only [List.mem_cons, not_or]
    exact ⟨by omega, by have := lt_of_heap HR0.out; omega, fun hx => by have := (hBB _ hx).1; omega⟩
  have h1 := hA1.c1
  rw [hg] at h1
  have hix := ix_run (b := g) (c := X.tc) hi
  have hR1 := hF1.heap HR0.out (by simp)
  have HR1 := Lib.hid hR1
  have HA1 := Lib.hid hA1
  have HF01 := Lib.hid hF01
  have HG := Lib.hid hg
  have HN := Lib.hid (And.intro hqn (And.intro htn hrn))
  clear h0 hA1 hF1 hO1 hR1 hF01 hg H0 HF0 HA HR0 hqn htn hrn hBB hds
  go_wp2_with fail
  refine H1.out.mono ?_
  rintro e2 w2 ⟨rfl, hF2, hM2, hS2⟩
  obtain ⟨hqn, htn, hrn⟩ := HN.out
  have hs2 := hF2.size
  have hR2 := hF2.heap HR1.out hrn
  have hA2 : MbAt w2 { X with ws := ws' } := ⟨hF2.heap HA1.out.obj hqn, hM2.mem, HA1.out.row.frm hF2 htn, HA1.out.le⟩
  have hFw : Frm (X.d :: (bkG X.ta ++ B)) w w2 := HF01.out.nil.trans_new hF2 (by
    intro x hx
    simp only [List.mem_cons, List.mem_append] at hx ⊢
    rcases hx with h | h | h
    · exact .inl (.inl h)
    · exact .inr (by omega)
    · exact .inl (.inr (.inr h)))
  have hO2 := (hM2.once rfl).1
  obtain ⟨g', hg', hgl2, hz2, k0', k1', k2'⟩ := hA2.thr (i := i) HT.out
  obtain rfl : g' = g := by have := hg'.symm.trans HG.out; simpa using this
  have hA3 := hA2.put (i := i) (t := t) (t' := { t with st := t.st + 1 }) (j := 1) (v := .int .i64 ((t.st + 1 : Nat) : Int)) HT.out HG.out (by omega) rfl
  have hF3 : Frm [g'] w2 (w2.setCell ⟨g', i * 3 + 1, none⟩ (.int .i64 ((t.st + 1 : Nat) : Int))) := (Frm.refl _ w2).setCell _ _ (.inl (by simp))
  have hgn : g' ≠ w.heap.size := by
    intro e
    have := hA2.row.ne hR2 (by decide) w.heap.size (by rw [show ({ X with ws := ws' } : Mb).ta = _ from HG.out]; simp [bkG, e])
    exact this rfl
  have hgni : NI w2 g' := by
    obtain ⟨_, _, ⟨hh, _⟩ | ⟨g2, cs, hg2, _, hb, _⟩⟩ := hA2.row
    · rw [show ({ X with ws := ws' } : Mb).ta = _ from HG.out] at hh; cases hh
    · rw [show ({ X with ws := ws' } : Mb).ta = _ from HG.out] at hg2; cases hg2; exact ni_of hb (by decide)
  have hgq : g' ≠ q1 := by
    intro e
    exact hA2.row.ne hO2 (by decide) q1 (by rw [show ({ X with ws := ws' } : Mb).ta = _ from HG.out]; simp [bkG, e]) rfl
  have hgB : g' ∈ bkG X.ta := by rw [HG.out]; simp [bkG]
  have hS3 := HS.out.Hst _ _ _ hS2 hF3 (fun x hx => by simp at hx; subst hx; exact ⟨.inl hgB, hgni⟩)
  have hR3 := hF3.heap hR2 (by simpa using hgn.symm)
  have hO3 := hO2.frm hF3 (by simpa using hgq.symm)
  have hFw3 := hFw.trans (hF3.weak (D' := X.d :: (bkG X.ta ++ B)) (by intro x hx; simp at hx; subst hx; simp [hgB]))
  have hsti : ((t.st : Int) + 1) < 2000000000 := by omega
  have HG2 := Lib.hid (And.intro hgn (And.intro hgq hgB))
  have HR3 := Lib.hid hR3
  have HA3 := Lib.hid hA3
  have HS3 := Lib.hid hS3
  have HO3 := Lib.hid hO3
  have HFw := Lib.hid hFw3
  clear hF2 hM2 hS2 hR2 hA2 hFw H1 k0 k1 k2 h1 hz hO2 hF3 hR3 hA3 hS3 hO3 hFw3 hg' hgn hgq hgB hgni hqn htn hrn
  have hcast : ((t.st + 1 : Nat) : Int) = (t.st : Int) + 1 := by omega
  have hcast2 : ((t.lk + 1 : Nat) : Int) = (t.lk : Int) + 1 := by omega
  rw [hcast] at HA3 HS3 HR3 HO3 HFw
  clear hcast
  cases wt with
  | false =>
    have HR4 := HR3
    have HA4 := HA3
    have HS4 := HS3
    have HO4 := HO3
    have HFw4 := HFw
    clear HR3 HA3 HS3 HO3 HFw hcast2
    go_wp2_with fail
    refine (oaccess_ok HO4.out).mono ?_
    rintro e3 w5 ⟨rfl, hF5⟩
    have hA5 := HA4.out.frm0 hF5
    have hS5 := HS.out.Hst [] _ _ HS4.out hF5 (by simp)
    have hR5 := hF5.heap HR4.out (by simp)
    have HFw5 := Lib.hid (HFw4.out.trans hF5.nil)
    have HD := Lib.hid (mDone_at hA5 (i := i) (t := { t with st := t.st + 1 }) (by show (X.tv.set i _)[i]? = _; rw [List.getElem?_set, if_pos rfl, if_pos hi]) (HEN.out _ hS5))
    have HA5 := Lib.hid hA5
    have HS5 := Lib.hid hS5
    have HR5 := Lib.hid hR5
    clear hF5 hA5 hS5 hR5 HA4 HS4 HR4 HFw4 HO4 k0' k1' k2' hz2
    go_wp2_with fail
    refine HD.out.mono ?_
    rintro e3 w6 ⟨rfl, hF6⟩
    have hA6 := HA5.out.frm0 hF6
    have hS6 := HS.out.Hst [] _ _ HS5.out hF6 (by simp)
    have hR6 := hF6.heap HR5.out (by simp)
    have HFw6 := Lib.hid (HFw5.out.trans hF6.nil)
    have HA6 := Lib.hid hA6
    have HS6 := Lib.hid hS6
    have HR6 := Lib.hid hR6
    obtain ⟨r0, r1, r2, r3, r4, r5, r6⟩ := cells7 hR6
    obtain ⟨f0, f1, f2, f3, f4, f5, f6⟩ := frozen7 hR6
    have hrl := lt_of_heap hR6
    clear hF6 hA6 hS6 hR6 HA5 HS5 HR5 HFw5 hst hlk hsti
    go_wp2
    have hRz := setCells7 HR6.out (.int .i64 i) (.int .i64 did.k) (.int .i64 did.w) (.int .u64 did.b) (.int .u64 did.a) (.bool false) (.bool en)
    have hFz := (Frm.refl [w.heap.size] w6).set7 w.heap.size (.int .i64 i) (.int .i64 did.k) (.int .i64 did.w) (.int .u64 did.b) (.int .u64 did.a) (.bool false) (.bool en) (.inl (by simp))
    generalize (((((((w6.setCell ⟨w.heap.size, 0, none⟩ (.int .i64 i)).setCell ⟨w.heap.size, 1, none⟩ (.int .i64 did.k)).setCell ⟨w.heap.size, 2, none⟩ (.int .i64 did.w)).setCell ⟨w.heap.size, 3, none⟩ (.int .u64 did.b)).setCell ⟨w.heap.size, 4, none⟩ (.int .u64 did.a)).setCell ⟨w.heap.size, 5, none⟩ (.bool false)).setCell ⟨w.heap.size, 6, none⟩ (.bool en)) = wz at hRz hFz ⊢
    clear r0 r1 r2 r3 r4 r5 r6
    obtain ⟨r0, r1, r2, r3, r4, r5, r6⟩ := cells7 hRz
    have hni : NI w6 w.heap.size := ni_of HR6.out (by decide)
    have hne : ∀ {b : Nat} {cs : Array Value} {t : TypeId}, w6.heap[b]? = some (.cells cs t (0, 0)) → t ≠ 64 → b ∉ [w.heap.size] := fun hb ht he => by
      simp only [List.mem_singleton] at he
      subst he
      have := hb.symm.trans HR6.out
      simp only [Option.some.injEq, Obj.cells.injEq] at this
      exact ht this.2.1
    obtain ⟨ds, hds, _⟩ := HA6.out.mem.arr
    refine bodyPost_ret (v := .tuple #[didV i did false en, .int .i64 0]) (by simp [results, Try.results60, go_sem, r0, r1, r2, r3, r4, r5, r6, didV]) rfl ⟨rfl, HFw6.out.trans_new hFz (by simp), ?_, HS.out.Hst _ _ _ HS6.out hFz (fun x hx => ⟨.inr (by simp at hx; omega), by simp at hx; subst hx; exact hni⟩)⟩
    exact HA6.out.frm hFz (hne HA6.out.obj (by decide)) (hne HA6.out.mem.obj (by decide)) (hne hds (by decide)) (fun x hx hx2 => by simp at hx2; exact HA6.out.row.ne HR6.out (by decide) x hx hx2)
  | true =>
    have hA4 := HA3.out.put (i := i) (t := { t with st := t.st + 1 }) (t' := { t with st := t.st + 1, lk := t.lk + 1 }) (j := 2) (v := .int .i64 ((t.lk + 1 : Nat) : Int)) (by show (X.tv.set i _)[i]? = _; rw [List.getElem?_set, if_pos rfl, if_pos hi]) HG.out (by omega) rfl
    have hF4 : Frm [g'] (w2.setCell ⟨g', i * 3 + 1, none⟩ (.int .i64 ((t.st : Int) + 1))) ((w2.setCell ⟨g', i * 3 + 1, none⟩ (.int .i64 ((t.st : Int) + 1))).setCell ⟨g', i * 3 + 2, none⟩ (.int .i64 ((t.lk + 1 : Nat) : Int))) := (Frm.refl _ _).setCell _ _ (.inl (by simp))
    obtain ⟨hgn, hgq, hgB⟩ := HG2.out
    have hgni : NI (w2.setCell ⟨g', i * 3 + 1, none⟩ (.int .i64 ((t.st : Int) + 1))) g' := by
      obtain ⟨_, _, ⟨hh, _⟩ | ⟨g2, cs, hg2, _, hb, _⟩⟩ := HA3.out.row
      · rw [show X.ta = _ from HG.out] at hh; cases hh
      · rw [show X.ta = _ from HG.out] at hg2; cases hg2; exact ni_of hb (by decide)
    have hS4 := HS.out.Hst _ _ _ HS3.out hF4 (fun x hx => by simp at hx; subst hx; exact ⟨.inl hgB, hgni⟩)
    have hR4 := hF4.heap HR3.out (by simpa using hgn.symm)
    have hO4 := HO3.out.frm hF4 (by simpa using hgq.symm)
    have hFw4 := HFw.out.trans (hF4.weak (D' := X.d :: (bkG X.ta ++ B)) (by intro x hx; simp at hx; subst hx; simp [hgB]))
    rw [hcast2] at hA4 hS4 hR4 hO4 hFw4
    rw [List.set_set] at hA4
    have HR4 := Lib.hid hR4
    have HA4 := Lib.hid hA4
    have HS4 := Lib.hid hS4
    have HO4 := Lib.hid hO4
    have HFw4 := Lib.hid hFw4
    clear hA4 hF4 hgni hS4 hR4 hO4 hFw4 hcast2 hgn hgq hgB
    clear HR3 HA3 HS3 HO3 HFw
    go_wp2_with fail
    refine (oaccess_ok HO4.out).mono ?_
    rintro e3 w5 ⟨rfl, hF5⟩
    have hA5 := HA4.out.frm0 hF5
    have hS5 := HS.out.Hst [] _ _ HS4.out hF5 (by simp)
    have hR5 := hF5.heap HR4.out (by simp)
    have HFw5 := Lib.hid (HFw4.out.trans hF5.nil)
    have HD := Lib.hid (mDone_at hA5 (i := i) (t := { t with st := t.st + 1, lk := t.lk + 1 }) (by show (X.tv.set i _)[i]? = _; rw [List.getElem?_set, if_pos rfl, if_pos hi]) (HEN.out _ hS5))
    have HA5 := Lib.hid hA5
    have HS5 := Lib.hid hS5
    have HR5 := Lib.hid hR5
    clear hF5 hA5 hS5 hR5 HA4 HS4 HR4 HFw4 HO4 k0' k1' k2' hz2
    go_wp2_with fail
    refine HD.out.mono ?_
    rintro e3 w6 ⟨rfl, hF6⟩
    have hA6 := HA5.out.frm0 hF6
    have hS6 := HS.out.Hst [] _ _ HS5.out hF6 (by simp)
    have hR6 := hF6.heap HR5.out (by simp)
    have HFw6 := Lib.hid (HFw5.out.trans hF6.nil)
    have HA6 := Lib.hid hA6
    have HS6 := Lib.hid hS6
    have HR6 := Lib.hid hR6
    obtain ⟨r0, r1, r2, r3, r4, r5, r6⟩ := cells7 hR6
    obtain ⟨f0, f1, f2, f3, f4, f5, f6⟩ := frozen7 hR6
    have hrl := lt_of_heap hR6
    clear hF6 hA6 hS6 hR6 HA5 HS5 HR5 HFw5 hst hlk hsti
    go_wp2
    have hRz := setCells7 HR6.out (.int .i64 i) (.int .i64 did.k) (.int .i64 did.w) (.int .u64 did.b) (.int .u64 did.a) (.bool true) (.bool en)
    have hFz := (Frm.refl [w.heap.size] w6).set7 w.heap.size (.int .i64 i) (.int .i64 did.k) (.int .i64 did.w) (.int .u64 did.b) (.int .u64 did.a) (.bool true) (.bool en) (.inl (by simp))
    generalize (((((((w6.setCell ⟨w.heap.size, 0, none⟩ (.int .i64 i)).setCell ⟨w.heap.size, 1, none⟩ (.int .i64 did.k)).setCell ⟨w.heap.size, 2, none⟩ (.int .i64 did.w)).setCell ⟨w.heap.size, 3, none⟩ (.int .u64 did.b)).setCell ⟨w.heap.size, 4, none⟩ (.int .u64 did.a)).setCell ⟨w.heap.size, 5, none⟩ (.bool true)).setCell ⟨w.heap.size, 6, none⟩ (.bool en)) = wz at hRz hFz ⊢
    clear r0 r1 r2 r3 r4 r5 r6
    obtain ⟨r0, r1, r2, r3, r4, r5, r6⟩ := cells7 hRz
    have hni : NI w6 w.heap.size := ni_of HR6.out (by decide)
    have hne : ∀ {b : Nat} {cs : Array Value} {t : TypeId}, w6.heap[b]? = some (.cells cs t (0, 0)) → t ≠ 64 → b ∉ [w.heap.size] := fun hb ht he => by
      simp only [List.mem_singleton] at he
      subst he
      have := hb.symm.trans HR6.out
      simp only [Option.some.injEq, Obj.cells.injEq] at this
      exact ht this.2.1
    obtain ⟨ds, hds, _⟩ := HA6.out.mem.arr
    refine bodyPost_ret (v := .tuple #[didV i did true en, .int .i64 0]) (by simp [results, Try.results60, go_sem, r0, r1, r2, r3, r4, r5, r6, didV]) rfl ⟨rfl, HFw6.out.trans_new hFz (by simp), ?_, HS.out.Hst _ _ _ HS6.out hFz (fun x hx => ⟨.inr (by simp at hx; omega), by simp at hx; subst hx; exact hni⟩)⟩
    exact HA6.out.frm hFz (hne HA6.out.obj (by decide)) (hne HA6.out.mem.obj (by decide)) (hne hds (by decide)) (fun x hx hx2 => by simp at hx2; exact HA6.out.row.ne HR6.out (by decide) x hx hx2)
end
end Go.Proofs.Ytieccmmnfnpcoaa
