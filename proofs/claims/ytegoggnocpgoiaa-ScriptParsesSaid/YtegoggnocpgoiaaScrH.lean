/- Package script: the shortest bytes of an operation: plain definitions. -/
import Derived.Test.YtegoggnocpgoiaaScrG
namespace Go.Proofs.Ytegoggnocpgoiaa
open Go.ChangeShapes Go.WideShapes Go.ChangeAt Go.RowKit

/-- What a verb needs of an operation, as bytes. -/
def sbp (o : Opr) : List Int :=
  if vc o.v = 1 then [kn o.key] else if vc o.v = 2 then [kn o.key, vn o.val] else if vc o.v = 3 then [kn o.key, vn o.old, vn o.val] else if vc o.v = 4 then [kn o.key, (o.n - 1) % 256] else []
def sbq (x : Int) (o : Opr) : List Int := [x, (o.tk * 8 + o.v - 1) % 256] ++ sbp o
def sb (o : Opr) : List Int :=
  if o.k = 1 then [o.t * 8 % 256, (o.n - 1) % 256] else if o.k = 2 then [3, o.n % 256] else if o.k = 4 then [4, (o.n - 1) % 256] else if o.k = 3 then sbq ((o.t * 8 + 5) % 256) o else []
theorem sbp_length (o : Opr) : (sbp o).length = vlen o.v := by
  unfold sbp vlen
  rcases vc_cases o.v with h | h | h | h | h <;> rw [h] <;> simp
theorem sb_le (o : Opr) : (sb o).length ≤ 5 := by
  have := vlen_le o.v
  have := sbp_length o
  unfold sb sbq
  repeat' split
  all_goals simp; try omega
theorem sbp_byt (o : Opr) : Byt (sbp o) := by
  have h1 := kn_bd o.key
  have h2 := vn_bd o.val
  have h3 := vn_bd o.old
  unfold sbp Byt
  rcases vc_cases o.v with h | h | h | h | h <;> rw [h] <;> simp <;> omega
theorem sb_byt (o : Opr) : Byt (sb o) := by
  have hp := sbp_byt o
  unfold sb sbq
  repeat' split
  · intro x hx; simp at hx; omega
  · intro x hx; simp at hx; omega
  · intro x hx; simp at hx; omega
  · refine Byt.append ?_ hp
    intro x hx; simp at hx; omega
  · intro x hx; simp at hx

/-- The shortest bytes, if the operation can be one of a script. -/
def wr (o : Opr) : Option (List Int) := if sb o ≠ [] ∧ opEq (nx (sb o) 64) o = true then some (sb o) else none
theorem wr_some {o : Opr} {l : List Int} (h : wr o = some l) : l = sb o ∧ sb o ≠ [] ∧ nx (sb o) 64 = o := by
  unfold wr at h
  split at h
  · rename_i hh; cases h; exact ⟨rfl, hh.1, opEq_iff.1 hh.2⟩
  · cases h
theorem wr_of {o : Opr} (h0 : sb o ≠ []) (h : nx (sb o) 64 = o) : wr o = some (sb o) := by
  unfold wr; rw [if_pos ⟨h0, opEq_iff.2 h⟩]
theorem wr_none {o : Opr} (h : nx (sb o) 64 ≠ o) : wr o = none := by
  unfold wr; rw [if_neg (fun hh => h (opEq_iff.1 hh.2))]
theorem wr_nil {o : Opr} (h : sb o = []) : wr o = none := by
  unfold wr; rw [if_neg (fun hh => hh.1 h)]

/-- What is read of an operation, in terms of its parts. -/
theorem nx_k {l : List Int} {t : Int} : (nx l t).k = 1 ∨ (nx l t).k = 2 ∨ (nx l t).k = 3 ∨ (nx l t).k = 4 := by
  unfold nx rq; repeat' split
  all_goals simp
theorem rq_parts (th q : Int) (l : List Int) (hl : Byt l) (o : Opr) (hv : o.v = q % 8 + 1) (hq : 0 ≤ q) (ho : o = rq th q l) (tl : List Int) : rq th q (sbp o ++ tl) = o := by
  have hp : ∀ i, 0 ≤ l.getD i 0 ∧ l.getD i 0 ≤ 255 := hl.getD
  have hk : ∀ i, kn (keyB (l.getD i 0)) = l.getD i 0 := fun i => kn_key (hp i)
  have hvv : ∀ i, valB (vn (valB (l.getD i 0))) = valB (l.getD i 0) := fun i => vn_val (hp i)
  have h1 := hp 1
  rcases vc_cases (q % 8 + 1) with h | h | h | h | h
  · subst ho
    unfold sbp
    rw [hv, h]
    unfold rq; simp [h]
  · have e : o.key = keyB (l.getD 0 0) := by rw [ho]; unfold rq; simp [h]
    have : sbp o = [l.getD 0 0] := by unfold sbp; rw [hv, h, e, hk]; rfl
    rw [this, ho]
    unfold rq; simp [h]
  · have e : o.key = keyB (l.getD 0 0) := by rw [ho]; unfold rq; simp [h]
    have e2 : o.val = valB (l.getD 1 0) := by rw [ho]; unfold rq; simp [h]
    have : sbp o = [l.getD 0 0, vn (valB (l.getD 1 0))] := by unfold sbp; rw [hv, h, e, e2, hk]; rfl
    rw [this, ho]
    have := hvv 1
    unfold rq; simp [h] at this ⊢; exact this
  · have e : o.key = keyB (l.getD 0 0) := by rw [ho]; unfold rq; simp [h]
    have e2 : o.val = valB (l.getD 2 0) := by rw [ho]; unfold rq; simp [h]
    have e3 : o.old = valB (l.getD 1 0) := by rw [ho]; unfold rq; simp [h]
    have : sbp o = [l.getD 0 0, vn (valB (l.getD 1 0)), vn (valB (l.getD 2 0))] := by unfold sbp; rw [hv, h, e, e2, e3, hk]; rfl
    rw [this, ho]
    have a1 := hvv 1
    have a2 := hvv 2
    unfold rq; simp [h] at a1 a2 ⊢; exact ⟨a2, a1⟩
  · have e : o.key = keyB (l.getD 0 0) := by rw [ho]; unfold rq; simp [h]
    have e2 : o.n = l.getD 1 0 % 32 + 1 := by rw [ho]; unfold rq; simp [h]
    have : sbp o = [l.getD 0 0, (l.getD 1 0 % 32 + 1 - 1) % 256] := by unfold sbp; rw [hv, h, e, e2, hk]; rfl
    rw [this, ho]
    unfold rq; simp [h] at h1 ⊢
    try omega
/-- What is read is written, and read again. -/
theorem nx_sb {l : List Int} {t : Int} (hl : Byt l) (t0 : 1 ≤ t) (t1 : t ≤ 64) : sb (nx l t) ≠ [] ∧ nx (sb (nx l t)) 64 = nx l t := by
  have h0 := hl.getD 0
  have h1 := hl.getD 1
  have hd2 := hl.drop 2
  obtain ⟨th, hth⟩ : ∃ th, l.getD 0 0 / 8 % t = th := ⟨_, rfl⟩
  have ht0 : 0 ≤ th := by rw [← hth]; exact Int.emod_nonneg _ (by omega)
  have ht1 : th ≤ 31 := by
    rw [← hth]
    have := Int.emod_lt_of_pos (l.getD 0 0 / 8) (show 0 < t by omega)
    have h2 : l.getD 0 0 / 8 % t ≤ l.getD 0 0 / 8 := by
      by_cases h : l.getD 0 0 / 8 < t
      · rw [Int.emod_eq_of_lt (by omega) h]; omega
      · omega
    omega
  by_cases h5 : 5 ≤ l.getD 0 0 % 8
  · obtain ⟨e, _⟩ := nx_start (t := t) h5
    rw [e, hth]
    generalize l.getD 1 0 = q at h1
    obtain ⟨o, ho⟩ : ∃ o, o = rq th q (l.drop 2) := ⟨_, rfl⟩
    have ek : o.k = 3 := by rw [ho]; rfl
    have et : o.t = th := by rw [ho]; rfl
    have ev : o.v = q % 8 + 1 := by rw [ho]; rfl
    have etk : o.tk = q / 8 := by rw [ho]; rfl
    have hs : sb o = [th * 8 + 5, q] ++ sbp o := by
      unfold sb sbq
      rw [if_neg (by omega), if_neg (by omega), if_neg (by omega), if_pos ek, et, ev, etk]
      rw [show (th * 8 + 5) % 256 = th * 8 + 5 by omega, show (q / 8 * 8 + (q % 8 + 1) - 1) % 256 = q by omega]
    rw [← ho, hs]
    refine ⟨by simp, ?_⟩
    have g0 : ([th * 8 + 5, q] ++ sbp o).getD 0 0 = th * 8 + 5 := rfl
    have g1 : ([th * 8 + 5, q] ++ sbp o).getD 1 0 = q := rfl
    have g2 : ([th * 8 + 5, q] ++ sbp o).drop 2 = sbp o := rfl
    rw [(nx_start (t := 64) (by rw [g0]; omega)).1, g0, g1, g2, show (th * 8 + 5) / 8 % 64 = th by omega]
    have := rq_parts th q (l.drop 2) hd2 o ev h1.1 ho []
    simpa using this
  · by_cases h4 : l.getD 0 0 % 8 = 4
    · obtain ⟨e, _⟩ := nx_round (t := t) h4
      rw [e]
      have hs : sb ⟨4, 0, l.getD 1 0 % 8 + 1, 0, noB, noB, noB, 0⟩ = [4, l.getD 1 0 % 8] := by
        unfold sb; simp; omega
      rw [hs]
      refine ⟨by simp, ?_⟩
      rw [(nx_round (t := 64) (by rfl)).1]
      simp
    · by_cases h3 : l.getD 0 0 % 8 = 3
      · obtain ⟨e, _⟩ := nx_tick (t := t) h3
        rw [e]
        have hs : sb ⟨2, 0, l.getD 1 0, 0, noB, noB, noB, 0⟩ = [3, l.getD 1 0] := by
          unfold sb; simp; simp at h1; omega
        rw [hs]
        refine ⟨by simp, ?_⟩
        rw [(nx_tick (t := 64) (by rfl)).1]
        simp
      · obtain ⟨e, _⟩ := nx_pick (t := t) h0.1 (by omega)
        rw [e, hth]
        have hs : sb ⟨1, th, l.getD 1 0 % 16 + 1, 0, noB, noB, noB, 0⟩ = [th * 8, l.getD 1 0 % 16] := by
          unfold sb; simp; omega
        rw [hs]
        refine ⟨by simp, ?_⟩
        rw [(nx_pick (t := 64) (by simp; omega) (by simp)).1]
        simp; omega
theorem wr_nx {l : List Int} {t : Int} (hl : Byt l) (t0 : 1 ≤ t) (t1 : t ≤ 64) : wr (nx l t) = some (sb (nx l t)) := wr_of (nx_sb hl t0 t1).1 (nx_sb hl t0 t1).2
#print axioms wr_nx
end Go.Proofs.Ytegoggnocpgoiaa
