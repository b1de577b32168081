/- The law's scene: does, parks, last. -/
import Derived.Test.YtjhidkjhfgbaeaaGreatDoorLuX
import Derived.Test.YtjhidkjhfgbaeaaGreatDoorLuT
namespace Go.Proofs.YtjhidkjhfgbaeaaGreatDoor
open Go.ChangeShapes Go.WideShapes Go.ChangeAt Go.RowKit
set_option linter.unusedVariables false
set_option linter.unusedSimpArgs false
/-- An arena with a latch at its word 0, and the nodes of T threads from the word 3 on. -/
structure Scn (T : Nat) (w : World) (B np p d cc : Nat) (ws : List Int) : Prop where
  mem : MemAt w p d cc ws
  nd : Nd w np 3 T
  laid : Laid w
  bnd : Bnd ws
  lo : 2 ≤ B ∧ B ≤ d ∧ B ≤ p ∧ B ≤ np ∧ np ≠ d ∧ B ≤ w.heap.size
  len : ws.length = 3 + 6 * T
/-- A move that is parked: it lies in blocks from B0 on. -/
structure Pk (T B B0 : Nat) (w : World) (q qe ql : Nat) (a : Option Addr) (n c : Nat) (m : Mv) (g : Gs) : Prop where
  mv : MvAt w q T qe ql a n c m
  wk : WkA B w a n c m
  en : PgR w qe false 3 T 0 (2 * m.t) g.se g.oe g.ee
  le : PgR w ql true 3 T 0 (2 * m.t) g.sl g.ol g.el
  ok : MOk T m
  lo : ∀ z ∈ q :: qe :: ql :: blk (.slice a n c), B0 ≤ z
  wkl : m.wk.length ≤ 100
section
variable {w w' : World} {T B B0 np p d cc q qe ql n c : Nat} {a : Option Addr} {ws ws' : List Int} {m m' : Mv} {g g' : Gs}
theorem Scn.frm0 (h : Scn T w B np p d cc ws) (hf : Frm [] w w') : Scn T w' B np p d cc ws :=
  ⟨h.mem.frm hf (by simp) (by simp), h.nd.frm hf, h.laid.frm0 hf, h.bnd, by have := h.lo; have := hf.size; omega, h.len⟩
theorem Scn.lt (h : Scn T w B np p d cc ws) : np < w.heap.size ∧ p < w.heap.size ∧ d < w.heap.size := ⟨h.nd.lt, h.mem.plt, h.mem.dlt⟩
theorem Pk.frm {D : List Nat} (h : Pk T B B0 w q qe ql a n c m g) (hf : Frm D w w') (hd : ∀ z ∈ q :: qe :: ql :: blk (.slice a n c), z ∉ D) : Pk T B B0 w' q qe ql a n c m g :=
  ⟨h.mv.frm hf (hd _ (by simp)), h.wk.frm hf (fun x hx => hd _ (by simp [hx])), h.en.frm hf (hd _ (by simp)), h.le.frm hf (hd _ (by simp)), h.ok, h.lo, h.wkl⟩
theorem Pk.lt (h : Pk T B B0 w q qe ql a n c m g) : ∀ z ∈ q :: qe :: ql :: blk (.slice a n c), z < w.heap.size := by
  intro z hz
  simp only [List.mem_cons] at hz
  rcases hz with rfl | rfl | rfl | hz
  · exact h.mv.lt
  · exact h.en.lt
  · exact h.le.lt
  · obtain ⟨h1, cs, h2⟩ := h.wk.own z hz
    exact lt_of_heap h2
/-- A move at its first step lies with the arena. -/
theorem Scn.run (h : Scn T w B np p d cc ws) {t : Nat} (ht : t < T) {k md : Int} (hk : k = 0 ∨ k = 1 ∨ k = 2) (hmd : k ≠ 1 → md = 1 ∨ md = 2 ∨ md = 3) (hf : Frm [] w w') (hm : MvAt w' q T qe ql none 0 0 (Mv.new t k md)) (he : PgR w' qe false 3 T 0 (2 * t) 1 0 false) (hl : PgR w' ql true 3 T 0 (2 * t) 1 0 false)
    (h1 : w.heap.size ≤ q) (h2 : w.heap.size ≤ qe) (h3 : w.heap.size ≤ ql) : RunAt w' p d cc B q T qe ql none 0 0 t 0 ws (Mv.new t k md) Gs.new w' := by
  have hlo := h.lo
  have hs := hf.size
  refine ⟨⟨none, 0, 0, ⟨h.mem.frm hf (by simp) (by simp), hm, ⟨⟨0, 0, Li.nil _ _ _, fun x hx => by cases hx⟩, (fun x hx => by cases hx), fun _ => Row.nil _ _ _ _⟩, he, hl⟩, fun x hx => by cases hx⟩, Frm.refl _ _, Mv.new_ok ht k md hk hmd, h.bnd, rfl, Nat.le_refl _, h.laid.frm0 hf, ?_, fun x hx => by cases hx⟩
  omega
/-- What a run leaves of the arena. -/
theorem Scn.after {w0' : World} (h : Scn T w B np p d cc ws) {t N : Nat} (hf : Frm [] w w0') (hw : RunAt w0' p d cc B q T qe ql none 0 0 t N ws' m' g' w') (h1 : w.heap.size ≤ q) (h2 : w.heap.size ≤ qe) (h3 : w.heap.size ≤ ql) (hlen : ws'.length = ws.length) :
    Frm [d] w w' ∧ Scn T w' B np p d cc ws' := by
  obtain ⟨a1, n1, c1, hA, -⟩ := hw.ex
  have hlo := h.lo
  obtain ⟨l1, l2, l3⟩ := h.lt
  have hF : Frm [d] w w' := hf.nil.trans_new hw.frm (fun x hx => by
    simp only [List.mem_cons, blk_none, List.not_mem_nil, or_false] at hx
    rcases hx with h | h | h | h
    · exact .inl (by simp [h])
    · exact .inr (by omega)
    · exact .inr (by omega)
    · exact .inr (by omega))
  refine ⟨hF, hA.mem, h.nd.frmD hF (by simp; omega), hw.laid, hw.bnd, ?_, by rw [hlen]; exact h.len⟩
  have := hF.size
  omega
end
theorem endsO_len {T : Nat} : ∀ (f i : Nat) (ws : List Int) (m : Mv) (g : Gs) (r : Nat) (m' : Mv) (g' : Gs) (ws' : List Int), T ≤ 64 → m.t < T → Bnd ws → MOk T m → endsO T f i ws m g = some (r, m', g', ws') → ws'.length = ws.length := by
  intro f
  induction f with
  | zero => intro i ws m g r m' g' ws' _ _ _ _ h; simp [endsO] at h; rw [h.2.2.2]
  | succ f ih =>
    intro i ws m g r m' g' ws' hT ht hb hok h
    simp only [endsO] at h
    split at h
    · rename_i m2 g2 ws2 wait no hS
      have hM := mstpO_ok hb hS
      obtain ⟨k1, k2, k3⟩ := hM.keep hT ht hb hok
      split at h
      · simp at h; rw [← h.2.2.2]; exact hM.len
      · split at h
        · simp at h; rw [← h.2.2.2]; exact hM.len
        · rw [← hM.len]; exact ih _ _ _ _ _ _ _ _ hT (k3 ▸ ht) k2 k1 h
    · cases h
theorem waitsO_len {T : Nat} : ∀ (f : Nat) (ws : List Int) (m : Mv) (g : Gs) (r : Bool) (m' : Mv) (g' : Gs) (ws' : List Int), T ≤ 64 → m.t < T → Bnd ws → MOk T m → waitsO T f ws m g = some (r, m', g', ws') → ws'.length = ws.length := by
  intro f
  induction f with
  | zero => intro ws m g r m' g' ws' _ _ _ _ h; simp [waitsO] at h; rw [h.2.2.2]
  | succ f ih =>
    intro ws m g r m' g' ws' hT ht hb hok h
    simp only [waitsO] at h
    split at h
    · rename_i m2 g2 ws2 wait no hS
      have hM := mstpO_ok hb hS
      obtain ⟨k1, k2, k3⟩ := hM.keep hT ht hb hok
      split at h
      · simp at h; rw [← h.2.2.2]; exact hM.len
      · split at h
        · simp at h; rw [← h.2.2.2]; exact hM.len
        · rw [← hM.len]; exact ih _ _ _ _ _ _ _ hT (k3 ▸ ht) k2 k1 h
    · cases h
section
variable {w : World} {T B np p d cc : Nat} {ws ws' : List Int} {m' : Mv} {g' : Gs}
set_option maxRecDepth 100000 in
set_option maxHeartbeats 1000000 in
theorem does_any (h : Scn T w B np p d cc ws) (t : Nat) (ht : t < T) (k md : Int) (hk : k = 1 ∨ k = 2 ∨ k = 3) (hmd : k = 2 ∨ md = 1 ∨ md = 2 ∨ md = 3) (steps res : Int) {r : Nat}
    (hE : endsO T 30 1 ws (Mv.new t (k - 1) (if k = 2 then 0 else md)) Gs.new = some (r, m', g', ws')) (hr : 0 < r) (hst : steps = 0 ∨ steps = r) (hres : m'.res = res) :
    Calls Tryz.prog 41 #[.agg #[.pointer (some ⟨p, 0, none⟩), .pointer (some ⟨np, 0, none⟩)], .int .i64 (t : Int), .int .i64 k, .int .i64 md, .int .i64 steps, .int .u64 res] w
      (Ret (.bool true) (fun w' => Frm [d] w w' ∧ Scn T w' B np p d cc ws')) := by
  have hT := h.nd.t64
  have hmd' : k - 1 ≠ 1 → (if k = 2 then 0 else md) = 1 ∨ (if k = 2 then 0 else md) = 2 ∨ (if k = 2 then 0 else md) = 3 := by
    intro hne
    rw [if_neg (by omega)]
    omega
  have hlen := endsO_len 30 1 ws _ Gs.new r m' g' ws' hT (show (Mv.new t (k - 1) (if k = 2 then 0 else md)).t < T from ht) h.bnd (Mv.new_ok ht _ _ (by omega) hmd') hE
  obtain ⟨X, hX⟩ : ∃ X, X = w.alloc (.cells #[.pointer (some ⟨p, 0, none⟩), .pointer (some ⟨np, 0, none⟩)] 73) := ⟨_, rfl⟩
  have hFX : Frm [] w X := by rw [hX]; exact (Frm.refl _ _).alloc _
  have hb0 : X.heap[w.heap.size]? = some (.cells #[.pointer (some ⟨p, 0, none⟩), .pointer (some ⟨np, 0, none⟩)] 73 (0, 0)) := by rw [hX]; exact heap_alloc_new _ _
  have HS := Lib.hid (h.frm0 hFX)
  have HS0 := Lib.hid h
  have HB := Lib.hid (lbegin (h.frm0 hFX).nd t ht k md hk hmd)
  have HFX := Lib.hid hFX
  have HB0 := Lib.hid hb0
  have HE := Lib.hid hE
  have HL := Lib.hid hlen
  obtain ⟨c0, c1⟩ := cells2L hb0
  have hXl := lt_of_heap hb0
  have HMD := Lib.hid hmd'
  clear h hFX hb0 hE hlen hmd'
  go_enter Tryz.func41, Tryz.ntmps41
  go_wp2_with fail
  rw [← hX]
  clear hX
  go_wp2_with fail
  refine HB.out.mono ?_
  rintro e w1 ⟨q, qe, ql, rfl, hF1, hMv, hPe, hPl, hq, hqe, hql⟩
  have HF1 := Lib.hid hF1
  have HR := Lib.hid (HS.out.run ht (by omega) HMD.out hF1 hMv hPe hPl hq hqe hql)
  have hbx := hF1.heap HB0.out (by simp)
  have HBX := Lib.hid hbx
  obtain ⟨d0, d1⟩ := cells2L hbx
  have hX1 := lt_of_heap hbx
  clear hF1 hMv hPe hPl hbx c0 c1
  go_wp2_with fail
  refine (ends_any HR.out 30 (by decide) (by decide) HE.out).mono ?_
  rintro e w2 ⟨rfl, hR2⟩
  obtain ⟨a1, n1, c1, hA1, -⟩ := hR2.ex
  have HRes := Lib.hid (Result_mv hA1.mv)
  have HR2 := Lib.hid hR2
  have hgt : decide (0 < (r : Int)) = true := by simpa using hr
  have HX := Lib.hid hq
  have HY := Lib.hid hqe
  have HZ := Lib.hid hql
  subst hres
  clear hR2 hA1 d0 d1 hq hqe hql
  rcases hst with rfl | rfl
  · go_wp2_with fail
    refine HRes.out.mono ?_
    rintro e w3 ⟨rfl, rfl⟩
    go_wp2
    go_ret
    have := HS.out.after HF1.out HR2.out HX.out HY.out HZ.out HL.out
    exact ⟨by simp, HFX.out.nil.trans this.1, this.2⟩
  · have hz : ((r : Int) == 0) = false := by simp; omega
    go_wp2_with fail
    refine HRes.out.mono ?_
    rintro e w3 ⟨rfl, rfl⟩
    go_wp2
    go_ret
    have := HS.out.after HF1.out HR2.out HX.out HY.out HZ.out HL.out
    exact ⟨by simp, HFX.out.nil.trans this.1, this.2⟩
set_option maxRecDepth 100000 in
set_option maxHeartbeats 1000000 in
theorem parks_any (h : Scn T w B np p d cc ws) (t : Nat) (ht : t < T) (k md : Int) (hk : k = 1 ∨ k = 2 ∨ k = 3) (hmd : k = 2 ∨ md = 1 ∨ md = 2 ∨ md = 3)
    (hE : waitsO T 30 ws (Mv.new t (k - 1) (if k = 2 then 0 else md)) Gs.new = some (true, m', g', ws')) :
    Calls Tryz.prog 42 #[.agg #[.pointer (some ⟨p, 0, none⟩), .pointer (some ⟨np, 0, none⟩)], .int .i64 (t : Int), .int .i64 k, .int .i64 md] w
      (fun e w' => ∃ q qe ql a n c, Ret (.pointer (some ⟨q, 0, none⟩)) (fun w' => Frm [d] w w' ∧ Scn T w' B np p d cc ws' ∧ Pk T B w.heap.size w' q qe ql a n c m' g') e w') := by
  have hT := h.nd.t64
  have hmd' : k - 1 ≠ 1 → (if k = 2 then 0 else md) = 1 ∨ (if k = 2 then 0 else md) = 2 ∨ (if k = 2 then 0 else md) = 3 := by
    intro hne
    rw [if_neg (by omega)]
    omega
  have hlen := waitsO_len 30 ws _ Gs.new true m' g' ws' hT (show (Mv.new t (k - 1) (if k = 2 then 0 else md)).t < T from ht) h.bnd (Mv.new_ok ht _ _ (by omega) hmd') hE
  obtain ⟨X, hX⟩ : ∃ X, X = w.alloc (.cells #[.pointer (some ⟨p, 0, none⟩), .pointer (some ⟨np, 0, none⟩)] 73) := ⟨_, rfl⟩
  have hFX : Frm [] w X := by rw [hX]; exact (Frm.refl _ _).alloc _
  have hb0 : X.heap[w.heap.size]? = some (.cells #[.pointer (some ⟨p, 0, none⟩), .pointer (some ⟨np, 0, none⟩)] 73 (0, 0)) := by rw [hX]; exact heap_alloc_new _ _
  have HS := Lib.hid (h.frm0 hFX)
  have HS0 := Lib.hid h
  have HB := Lib.hid (lbegin (h.frm0 hFX).nd t ht k md hk hmd)
  have HFX := Lib.hid hFX
  have HB0 := Lib.hid hb0
  have HE := Lib.hid hE
  have HL := Lib.hid hlen
  obtain ⟨c0, c1⟩ := cells2L hb0
  have hXl := lt_of_heap hb0
  have HMD := Lib.hid hmd'
  clear h hFX hb0 hE hlen hmd'
  go_enter Tryz.func42, Tryz.ntmps42
  go_wp2_with fail
  rw [← hX]
  clear hX
  go_wp2_with fail
  refine HB.out.mono ?_
  rintro e w1 ⟨q, qe, ql, rfl, hF1, hMv, hPe, hPl, hq, hqe, hql⟩
  have HF1 := Lib.hid hF1
  have HR := Lib.hid (HS.out.run ht (by omega) HMD.out hF1 hMv hPe hPl hq hqe hql)
  have hbx := hF1.heap HB0.out (by simp)
  have HBX := Lib.hid hbx
  obtain ⟨d0, d1⟩ := cells2L hbx
  have hX1 := lt_of_heap hbx
  clear hF1 hMv hPe hPl hbx c0 c1
  go_wp2_with fail
  refine (waits_any HR.out (by decide) HE.out).mono ?_
  rintro e w2 ⟨rfl, hR2⟩
  have HR2 := Lib.hid hR2
  have HX := Lib.hid hq
  have HY := Lib.hid hqe
  have HZ := Lib.hid hql
  clear hR2 d0 d1 hq hqe hql
  go_wp2
  go_ret
  obtain ⟨a1, n1, c1, hA1, hx1⟩ := HR2.out.ex
  have := HS.out.after HF1.out HR2.out HX.out HY.out HZ.out HL.out
  have hs1 := HFX.out.size
  have hs2 := HF1.out.size
  refine ⟨q, qe, ql, a1, n1, c1, rfl, HFX.out.nil.trans this.1, this.2, hA1.mv, hA1.wk, hA1.en, hA1.le, HR2.out.ok, ?_, by have := HR2.out.wkl; omega⟩
  have k1 := HX.out
  have k2 := HY.out
  have k3 := HZ.out
  intro z hz
  simp only [List.mem_cons] at hz
  rcases hz with rfl | rfl | rfl | hz
  · omega
  · omega
  · omega
  · rcases hx1 z hz with h | h
    · cases h
    · omega
set_option maxRecDepth 100000 in
set_option maxHeartbeats 1000000 in
theorem last_any {B0 q qe ql n c : Nat} {a : Option Addr} {m : Mv} {g : Gs} (h : Scn T w B np p d cc ws) (hP : Pk T B B0 w q qe ql a n c m g) (hB0 : B ≤ B0) (hnp : np < B0)
    (hS : mstpO T ws m g = some (m', g', ws', false, 0)) (hz : m'.nx = 0) (hres : m'.res = 1) :
    Calls Tryz.prog 43 #[.agg #[.pointer (some ⟨p, 0, none⟩), .pointer (some ⟨np, 0, none⟩)], .pointer (some ⟨q, 0, none⟩)] w
      (Ret (.bool true) (fun w' => Frm (d :: q :: qe :: ql :: blk (.slice a n c)) w w' ∧ Scn T w' B np p d cc ws')) := by
  have hT := h.nd.t64
  obtain ⟨X, hX⟩ : ∃ X, X = w.alloc (.cells #[.pointer (some ⟨p, 0, none⟩), .pointer (some ⟨np, 0, none⟩)] 73) := ⟨_, rfl⟩
  have hFX : Frm [] w X := by rw [hX]; exact (Frm.refl _ _).alloc _
  have hb0 : X.heap[w.heap.size]? = some (.cells #[.pointer (some ⟨p, 0, none⟩), .pointer (some ⟨np, 0, none⟩)] 73 (0, 0)) := by rw [hX]; exact heap_alloc_new _ _
  have HS := Lib.hid (h.frm0 hFX)
  have hlo := (h.frm0 hFX).lo
  have hplo := hP.lo
  have hR : RunAt X p d cc B q T qe ql a n c m.t 100 ws m g X := by
    have hq := hplo q (by simp)
    have hqe := hplo qe (by simp)
    have hql := hplo ql (by simp)
    have hp2 := hP.frm hFX (by simp)
    exact ⟨⟨a, n, c, ⟨(h.frm0 hFX).mem, hp2.mv, hp2.wk, hp2.en, hp2.le⟩, fun x hx => .inl hx⟩, Frm.refl _ _, hP.ok, h.bnd, rfl, hP.wkl, (h.frm0 hFX).laid, by omega, fun x hx => by have := hplo x (by simp [hx]); omega⟩
  have HSt := Lib.hid (hR.step (by decide) (mstpO_ok h.bnd hS))
  have HFX := Lib.hid hFX
  have HLen := Lib.hid (show ws'.length = ws.length from (mstpO_ok h.bnd hS).len)
  have HPL := Lib.hid hplo
  obtain ⟨c0, c1⟩ := cells2L hb0
  have hXl := lt_of_heap hb0
  clear h hFX hb0 hS hR hP hplo
  go_enter Tryz.func43, Tryz.ntmps43
  go_wp2_with fail
  rw [← hX]
  clear hX
  go_wp2_with fail
  refine HSt.out.mono ?_
  rintro e w1 ⟨rfl, hR1⟩
  obtain ⟨a1, n1, c1, hA1, -⟩ := hR1.ex
  have HD := Lib.hid (Done_mv hA1.mv)
  have HRes := Lib.hid (Result_mv hA1.mv)
  have HR1 := Lib.hid hR1
  have hzb : (m'.nx == 0) = true := by simpa using hz
  clear hR1 hA1
  go_wp2_with fail
  refine HD.out.mono ?_
  rintro e w2 ⟨rfl, rfl⟩
  go_wp2_with fail
  refine HRes.out.mono ?_
  rintro e w3 ⟨rfl, rfl⟩
  go_wp2
  go_ret
  obtain ⟨a1, n1, c1, hA1, -⟩ := HR1.out.ex
  have hF := HFX.out.nil.trans HR1.out.frm
  refine ⟨rfl, hF, hA1.mem, HS.out.nd.frmD HR1.out.frm ?_, HR1.out.laid, HR1.out.bnd, ?_, by rw [HLen.out]; exact HS.out.len⟩
  · intro hx
    simp only [List.mem_cons] at hx
    rcases hx with hx | hx
    · omega
    · have := HPL.out np (by simpa using hx); omega
  · have := HR1.out.frm.size
    omega
end
end Go.Proofs.YtjhidkjhfgbaeaaGreatDoor
