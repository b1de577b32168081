/- LatchBatches: the first loop (by gen_lwe.py). -/
import Derived.Test.YtjhidkjhfgbaeaaGreatDoorLwF
namespace Go.Proofs.YtjhidkjhfgbaeaaGreatDoor
open Go.ChangeShapes Go.WideShapes Go.ChangeAt Go.RowKit
set_option linter.unusedVariables false
set_option linter.unusedSimpArgs false
theorem info_mvp : (Tryz.prog.info? 52).map (fun i => (i.zero, i.size, i.bytes)) = some (some (.pointer none), 1, 8) := by kernel_rfl
/-- What lies when k threads are parked. -/
structure Bat (w0 w : World) (T k np p d cc : Nat) (q : List Int) (f : Nat → Int) (a1 : Option Addr) (c1 : Nat) (a2 : Option Addr) (c2 : Nat) (en : Nat → Pm) (lo : Nat → Nat) : Prop where
  frm : Frm [] w0 w
  s : Scn T w w0.heap.size np p d cc (rng (3 + 6 * T) f)
  pb : PB T k q f
  r : Row .i64 54 (lo 0) w a1 k c1 (q.take k)
  v : Gr 52 1 (lo 0) w a2 k c2 (fun i => pmV (en i))
  pk : ∀ i, i < k → PkE T w0.heap.size (lo i) w (en i)
  m : ∀ i, i < k → (en i).m.nx = 14 ∧ (en i).m.t = i + 1
  up : ∀ i, i < k → ∀ z ∈ (en i).bl, z < lo (i + 1)
  mo : ∀ i j, i ≤ j → lo i ≤ lo j
  l0 : np < lo 0 ∧ d < lo 0 ∧ p < lo 0 ∧ w0.heap.size ≤ lo 0
  lk : lo k ≤ w.heap.size
theorem gr_low {T : TypeId} {s B B' : Nat} {w : World} {a : Option Addr} {n c : Nat} {f : Nat → List Value} (h : Gr T s B w a n c f) (hb : B' ≤ B) : Gr T s B' w a n c f := by
  obtain ⟨h1, h2, h3⟩ := h
  refine ⟨h1, h2, ?_⟩
  rcases h3 with h3 | ⟨g, cs, ha, hB, r⟩
  · exact .inl h3
  · exact .inr ⟨g, cs, ha, Nat.le_trans hb hB, r⟩
section
variable {w0 w w' : World} {T k np p d cc c1 c2 : Nat} {q : List Int} {f f' : Nat → Int} {a1 a2 : Option Addr} {en : Nat → Pm} {lo : Nat → Nat}
theorem Bat.frm0 (h : Bat w0 w T k np p d cc q f a1 c1 a2 c2 en lo) (hf : Frm [] w w') : Bat w0 w' T k np p d cc q f a1 c1 a2 c2 en lo :=
  ⟨h.frm.trans hf, h.s.frm0 hf, h.pb, h.r.frm hf (by simp), h.v.frm0 hf, fun i hi => (h.pk i hi).frm hf (by simp), h.m, h.up, h.mo, h.l0, Nat.le_trans h.lk hf.size⟩
/-- The arena alone has changed. -/
theorem Bat.rows (h : Bat w0 w T k np p d cc q f a1 c1 a2 c2 en lo) (hf : Frm [d] w w') : Frm [] w0 w' ∧ Row .i64 54 (lo 0) w' a1 k c1 (q.take k) ∧ Gr 52 1 (lo 0) w' a2 k c2 (fun i => pmV (en i)) ∧ ∀ i, i < k → PkE T w0.heap.size (lo i) w' (en i) := by
  have hlo := h.s.lo
  have h0 := h.l0
  refine ⟨h.frm.trans_new hf (fun x hx => .inr (by simp at hx; omega)), h.r.frm hf (fun x hx hd => ?_), h.v.frm hf (fun x hx hd => ?_), fun i hi => (h.pk i hi).frm hf (fun z hz hd => ?_)⟩
  · have := (h.r.blk x hx).1
    obtain rfl := List.mem_singleton.1 hd
    omega
  · have := (h.v.from_ x hx).1
    obtain rfl := List.mem_singleton.1 hd
    omega
  · obtain rfl := List.mem_singleton.1 hd
    have h1 := (h.pk i hi).lo z hz
    have h2 := h.mo 0 i (Nat.zero_le _)
    omega
/-- One more is parked, and both rows have grown. -/
theorem Bat.next {wa wb wc wd we wf : World} {x : Pm} {u : Int} {a1' a2' : Option Addr} {c1' c2' : Nat} (h : Bat w0 w T k np p d cc q f a1 c1 a2 c2 en lo) (hu : q[k]? = some u)
    (hfa : Frm [] w wa) (hfb : Frm [d] wa wb) (hsb : Scn T wb w0.heap.size np p d cc (rng (3 + 6 * T) f')) (hpb : PB T (k + 1) q f') (hx : PkE T w0.heap.size wa.heap.size wb x) (hm : x.m.nx = 14 ∧ x.m.t = k + 1)
    (hfc : Frm [] wb wc) (hfd : Frm (blk (.slice a1 k c1)) wc wd) (hrd : Row .i64 54 (lo 0) wd a1' (k + 1) c1' (q.take k ++ [u]))
    (hfe : Frm [] wd we) (hff : Frm (bkG a2) we wf) (hgf : Gr 52 1 (lo 0) wf a2' (k + 1) c2' (upd (fun i => pmV (en i)) k (pmV x))) :
    ∃ en' lo', Bat w0 wf T (k + 1) np p d cc q f' a1' c1' a2' c2' en' lo' := by
  obtain ⟨g1, g2, g3, g4⟩ := (h.frm0 hfa).rows hfb
  have hlo := h.s.lo
  have h0 := h.l0
  have hb1 : ∀ y ∈ blk (.slice a1 k c1), lo 0 ≤ y := fun y hy => (g2.blk y hy).1
  have hb2 : ∀ y ∈ bkG a2, lo 0 ≤ y := fun y hy => (g3.from_ y hy).1
  have hty1 : ∀ y ∈ blk (.slice a1 k c1), ∃ cs, wc.heap[y]? = some (.cells cs 54 (0, 0)) := fun y hy => row_bty (g2.frm hfc (by simp)) y hy
  have hty2 : ∀ y ∈ bkG a2, ∃ cs, we.heap[y]? = some (.cells cs 52 (0, 0)) := by
    have hg : Gr 52 1 (lo 0) wd a2 k c2 (fun i => pmV (en i)) := (g3.frm0 hfc).frm hfd (fun y hy hd => by
      obtain ⟨cs, hc⟩ := hty1 y hd
      obtain ⟨cs2, hc2⟩ := gr_bty (g3.frm0 hfc) y hy
      have := hc.symm.trans hc2; simp at this)
    exact fun y hy => gr_bty (hg.frm0 hfe) y hy
  have hpk : ∀ (B0 : Nat) (z : Pm), PkE T w0.heap.size B0 wb z → PkE T w0.heap.size B0 wf z := fun B0 z hz => by
    have hzc : PkE T w0.heap.size B0 wc z := hz.frm hfc (by simp)
    have hzd : PkE T w0.heap.size B0 wd z := hzc.frm hfd (fun y hy hd => by
      obtain ⟨cs, hc⟩ := hty1 y hd
      exact pk_ne_ty hzc hc (by decide) (by decide) (by decide) (by decide) hy)
    have hze : PkE T w0.heap.size B0 we z := hzd.frm hfe (by simp)
    exact hze.frm hff (fun y hy hd => by
      obtain ⟨cs, hc⟩ := hty2 y hd
      exact pk_ne_ty hze hc (by decide) (by decide) (by decide) (by decide) hy)
  have hF : Frm [] w0 wf := (((g1.trans hfc).trans_new hfd (fun y hy => .inr (by have := hb1 y hy; omega))).trans hfe).trans_new hff (fun y hy => .inr (by have := hb2 y hy; omega))
  have n1 : ∀ y, y < lo 0 → y ∉ blk (.slice a1 k c1) := fun y hy hd => by have := hb1 y hd; omega
  have n2 : ∀ y, y < lo 0 → y ∉ bkG a2 := fun y hy hd => by have := hb2 y hd; omega
  have hS : Scn T wf w0.heap.size np p d cc (rng (3 + 6 * T) f') := by
    refine ⟨(((hsb.mem.frm hfc (by simp) (by simp)).frm hfd (n1 p h0.2.2.1) (n1 d h0.2.1)).frm hfe (by simp) (by simp)).frm hff (n2 p h0.2.2.1) (n2 d h0.2.1), (((hsb.nd.frm hfc).frmD hfd (n1 np h0.1)).frm hfe).frmD hff (n2 np h0.1),
      ((((hsb.laid.frm0 hfc).frm hfd (fun y hy => by have := hb1 y hy; omega)).frm0 hfe).frm hff (fun y hy => by have := hb2 y hy; omega)), hsb.bnd, ?_, hsb.len⟩
    have := hF.size; omega
  have sab := hfb.size
  have sbf : wb.heap.size ≤ wf.heap.size := by have := hfc.size; have := hfd.size; have := hfe.size; have := hff.size; omega
  have swa := hfa.size
  have hlk := h.lk
  have hqk : q.take (k + 1) = q.take k ++ [u] := by rw [List.take_add_one, hu]; rfl
  have hle : ∀ i, i ≤ k → (if i ≤ k then lo i else wb.heap.size) = lo i := fun i hi => if_pos hi
  have hgt : ∀ i, k < i → (if i ≤ k then lo i else wb.heap.size) = wb.heap.size := fun i hi => if_neg (by omega)
  refine ⟨upd en k x, fun i => if i ≤ k then lo i else wb.heap.size, hF, hS, hpb, ?_, ?_, ?_, ?_, ?_, ?_, ?_, ?_⟩
  · rw [hqk]
    have hw : Row .i64 54 (lo 0) wf a1' (k + 1) c1' (q.take k ++ [u]) := (hrd.frm hfe (by simp)).frm hff (fun y hy hd => by
      obtain ⟨cs, hc⟩ := row_bty (hrd.frm hfe (by simp)) y hy
      obtain ⟨cs2, hc2⟩ := hty2 y hd
      have := hc.symm.trans hc2; simp at this)
    exact hw
  · exact hgf.congr (fun i hi => by
      by_cases e : i = k
      · subst e; rw [upd_eq, upd_eq]
      · rw [upd_ne _ _ e, upd_ne _ _ e])
  · intro i hi
    show PkE T w0.heap.size (if i ≤ k then lo i else wb.heap.size) wf (upd en k x i)
    by_cases e : i = k
    · subst e
      rw [upd_eq, hle i (Nat.le_refl _)]
      have := hpk _ _ hx
      exact ⟨this.mv, this.wk, this.en, this.le, this.ok, fun z hz => by have := this.lo z hz; omega, this.wkl⟩
    · rw [upd_ne _ _ e, hle i (by omega)]
      exact hpk _ _ (g4 i (by omega))
  · intro i hi
    by_cases e : i = k
    · subst e; rw [upd_eq]; exact hm
    · rw [upd_ne _ _ e]; exact h.m i (by omega)
  · intro i hi z hz
    show z < (if i + 1 ≤ k then lo (i + 1) else wb.heap.size)
    by_cases e : i = k
    · subst e
      rw [upd_eq] at hz
      rw [hgt _ (by omega)]
      exact hx.lt z hz
    · rw [upd_ne _ _ e] at hz
      rw [hle _ (by omega)]
      exact h.up i (by omega) z hz
  · intro i j hij
    show (if i ≤ k then lo i else wb.heap.size) ≤ (if j ≤ k then lo j else wb.heap.size)
    by_cases hj : j ≤ k
    · rw [if_pos hj, if_pos (by omega)]; exact h.mo i j hij
    · rw [if_neg hj]
      split
      · have := h.mo i k (by assumption); omega
      · exact Nat.le_refl _
  · show np < (if 0 ≤ k then lo 0 else _) ∧ d < (if 0 ≤ k then lo 0 else _) ∧ p < (if 0 ≤ k then lo 0 else _) ∧ w0.heap.size ≤ (if 0 ≤ k then lo 0 else _)
    rw [if_pos (Nat.zero_le _)]; exact h0
  · show (if k + 1 ≤ k then lo (k + 1) else wb.heap.size) ≤ wf.heap.size
    rw [if_neg (by omega)]; exact sbf
end
end Go.Proofs.YtjhidkjhfgbaeaaGreatDoor
