/- Layer 4: what ScriptHolds says, as plain facts. -/
import Derived.Test.YtegoggnocpgoiaaScrY
namespace Go.Proofs.Ytegoggnocpgoiaa
open Go.ChangeShapes Go.WideShapes Go.ChangeAt Go.RowKit

theorem getD_take {l : List Int} {m i : Nat} (h : i < m) : (l.take m).getD i 0 = l.getD i 0 := by
  rw [List.getD_eq_getElem?_getD, List.getD_eq_getElem?_getD, List.getElem?_take, if_pos h]
theorem rq_cong {th q : Int} {l m : List Int} (h : ∀ j, j < vlen (q % 8 + 1) → l.getD j 0 = m.getD j 0) : rq th q l = rq th q m := by
  rcases vc_cases (q % 8 + 1) with hv | hv | hv | hv | hv
  · unfold rq; rw [hv]; rfl
  · have e : vlen (q % 8 + 1) = 1 := by unfold vlen; rw [hv]; rfl
    have h0 := h 0 (by omega)
    unfold rq; rw [hv, h0]; rfl
  · have e : vlen (q % 8 + 1) = 2 := by unfold vlen; rw [hv]; rfl
    have h0 := h 0 (by omega)
    have h1 := h 1 (by omega)
    unfold rq; rw [hv, h0, h1]; rfl
  · have e : vlen (q % 8 + 1) = 3 := by unfold vlen; rw [hv]; rfl
    have h0 := h 0 (by omega)
    have h1 := h 1 (by omega)
    have h2 := h 2 (by omega)
    unfold rq; rw [hv, h0, h1, h2]
  · have e : vlen (q % 8 + 1) = 2 := by unfold vlen; rw [hv]; rfl
    have h0 := h 0 (by omega)
    have h1 := h 1 (by omega)
    unfold rq; rw [hv, h0, h1]; rfl
/-- What is read depends on the bytes that are read alone. -/
theorem nx_cong {l m : List Int} {t : Int} (h0 : l.getD 0 0 = m.getD 0 0) (h1 : l.getD 1 0 = m.getD 1 0) (h : ∀ j, j < nxN l → l.getD j 0 = m.getD j 0) : nx l t = nx m t ∧ nxN l = nxN m := by
  have hn : nxN l = nxN m := by unfold nxN; rw [h0, h1]
  refine ⟨?_, hn⟩
  unfold nx
  rw [h0, h1]
  split
  · rename_i h5
    apply rq_cong
    intro j hj
    rw [getD_drop, getD_drop]
    apply h
    rw [hn]
    unfold nxN
    rw [if_pos h5]; omega
  · rfl
theorem nx_take {l : List Int} {t : Int} {m : Nat} (h : nxN l ≤ m ∨ l.length ≤ m) : nx (l.take m) t = nx l t ∧ nxN (l.take m) = nxN l := by
  rcases h with h | h
  · have h2 := nxN_ge l
    have := nx_cong (l := l) (m := l.take m) (t := t) (getD_take (by omega)).symm (getD_take (by omega)).symm (fun j hj => (getD_take (by omega)).symm)
    exact ⟨this.1.symm, this.2.symm⟩
  · rw [List.take_of_length_le h]; exact ⟨rfl, rfl⟩

/-- Where the first k operations end. -/
def pos : Nat → List Int → Nat
  | 0, _ => 0
  | k + 1, l => if l = [] then 0 else min (nxN l) l.length + pos k (l.drop (min (nxN l) l.length))
theorem drop_min (l : List Int) (z : Nat) : l.drop (min z l.length) = l.drop z := by
  by_cases h : z ≤ l.length
  · rw [Nat.min_eq_left h]
  · rw [Nat.min_eq_right (by omega), List.drop_length, List.drop_eq_nil_of_le (by omega)]
theorem pos_le : ∀ (k : Nat) (l : List Int), pos k l ≤ l.length
  | 0, l => Nat.zero_le _
  | k + 1, l => by
    unfold pos
    split
    · omega
    · have := pos_le k (l.drop (min (nxN l) l.length))
      rw [List.length_drop] at this
      omega
theorem pos_drop (t : Int) : ∀ (k : Nat) (l : List Int), (prs l t).drop k = prs (l.drop (pos k l)) t
  | 0, l => rfl
  | k + 1, l => by
    unfold pos
    by_cases e : l = []
    · subst e; rfl
    · rw [if_neg e, prs_cons e, List.drop_succ_cons, ← List.drop_drop, drop_min]
      exact pos_drop t k _
theorem pos_take (t : Int) : ∀ (k : Nat) (l : List Int), prs (l.take (pos k l)) t = (prs l t).take k
  | 0, l => by simp [pos, prs_nil]
  | k + 1, l => by
    unfold pos
    by_cases e : l = []
    · subst e; rfl
    · rw [if_neg e, prs_cons e, List.take_succ_cons]
      have hl : 0 < l.length := List.length_pos_iff.2 e
      have h2 := nxN_ge l
      have hne : l.take (min (nxN l) l.length + pos k (l.drop (min (nxN l) l.length))) ≠ [] := by
        intro h
        have := congrArg List.length h
        rw [List.length_take, List.length_nil] at this
        omega
      have hnt := nx_take (l := l) (t := t) (m := min (nxN l) l.length + pos k (l.drop (min (nxN l) l.length))) (by omega)
      rw [prs_cons hne, hnt.1, hnt.2]
      congr 1
      rw [← pos_take t k (l.drop (nxN l)), drop_min, List.drop_take]
      by_cases h : nxN l ≤ l.length
      · rw [Nat.min_eq_left h, Nat.add_sub_cancel_left]
      · have hd : l.drop (nxN l) = [] := List.drop_eq_nil_of_le (by omega)
        rw [hd]; simp
theorem pos_succ : ∀ (k : Nat) (l : List Int) , l.drop (pos k l) ≠ [] → pos (k + 1) l = pos k l + min (nxN (l.drop (pos k l))) (l.length - pos k l)
  | 0, l, h => by
    simp only [pos] at h ⊢
    rw [if_neg (by simpa using h)]
    simp
  | k + 1, l, h => by
    by_cases e : l = []
    · subst e; simp at h
    · have hh : pos (k + 1) l = min (nxN l) l.length + pos k (l.drop (min (nxN l) l.length)) := by rw [pos, if_neg e]
      have h3 : l.drop (pos (k + 1) l) = (l.drop (min (nxN l) l.length)).drop (pos k (l.drop (min (nxN l) l.length))) := by rw [hh, List.drop_drop]
      have ih := pos_succ k (l.drop (min (nxN l) l.length)) (by rw [← h3]; exact h)
      rw [h3]
      conv => lhs; rw [pos, if_neg e]
      rw [ih, hh, List.length_drop]
      omega
theorem pos_some {k : Nat} {l : List Int} {t : Int} {x : Opr} (hx : (prs l t)[k]? = some x) : l.drop (pos k l) ≠ [] ∧ x = nx (l.drop (pos k l)) t := by
  have h1 := pos_drop t k l
  have hk := (List.getElem?_eq_some_iff.1 hx).1
  have hne : l.drop (pos k l) ≠ [] := by
    intro e
    rw [e, prs_nil] at h1
    have := congrArg List.length h1
    rw [List.length_drop] at this
    simp at this; omega
  refine ⟨hne, ?_⟩
  rw [prs_cons hne] at h1
  have h2 := congrArg (fun z => z[0]?) h1
  simp only [List.getElem?_drop, Nat.add_zero] at h2
  rw [hx] at h2
  simpa using h2
theorem pos_end {l : List Int} {t : Int} {k : Nat} (hk : (prs l t).length ≤ k) : pos k l = l.length := by
  have h1 := pos_drop t k l
  rw [List.drop_eq_nil_of_le hk] at h1
  have hle := pos_le k l
  by_cases e : l.drop (pos k l) = []
  · have := congrArg List.length e
    rw [List.length_drop] at this
    simp at this; omega
  · rw [prs_cons e] at h1; cases h1

theorem nx_t {l : List Int} {t : Int} (hl : Byt l) (t0 : 1 ≤ t) : 0 ≤ (nx l t).t ∧ (nx l t).t < t := by
  have h0 := hl.getD 0
  have h1 : 0 ≤ l.getD 0 0 / 8 % t := Int.emod_nonneg _ (by omega)
  have h2 := Int.emod_lt_of_pos (l.getD 0 0 / 8) (show 0 < t by omega)
  unfold nx rq
  repeat' split
  all_goals simp at *
  all_goals omega

/-- What is written of what was read is read again, whatever is behind. -/
theorem nx_sb2 {l : List Int} {t : Int} (hl : Byt l) (t0 : 1 ≤ t) (t1 : t ≤ 64) (R : List Int) : nx (sb (nx l t) ++ R) t = nx l t ∧ nxN (sb (nx l t) ++ R) = (sb (nx l t)).length := by
  have h0 := hl.getD 0
  have h1 := hl.getD 1
  have hd2 := hl.drop 2
  obtain ⟨th, hth⟩ : ∃ th, l.getD 0 0 / 8 % t = th := ⟨_, rfl⟩
  have ht0 : 0 ≤ th := by rw [← hth]; exact Int.emod_nonneg _ (by omega)
  have htt : th < t := by rw [← hth]; exact Int.emod_lt_of_pos _ (by omega)
  have hmod : th % t = th := Int.emod_eq_of_lt ht0 htt
  have ht1 : th ≤ 31 := by
    rw [← hth]
    have := Int.emod_lt_of_pos (l.getD 0 0 / 8) (show 0 < t by omega)
    have h2 : l.getD 0 0 / 8 % t ≤ l.getD 0 0 / 8 := by
      by_cases h : l.getD 0 0 / 8 < t
      · rw [Int.emod_eq_of_lt (by omega) h]; omega
      · omega
    omega
  by_cases h5 : 5 ≤ l.getD 0 0 % 8
  · obtain ⟨e, _⟩ := nx_start (t := t) h5
    rw [e, hth]
    generalize l.getD 1 0 = q at h1
    obtain ⟨o, ho⟩ : ∃ o, o = rq th q (l.drop 2) := ⟨_, rfl⟩
    have ek : o.k = 3 := by rw [ho]; rfl
    have et : o.t = th := by rw [ho]; rfl
    have ev : o.v = q % 8 + 1 := by rw [ho]; rfl
    have etk : o.tk = q / 8 := by rw [ho]; rfl
    have hs : sb o = [th * 8 + 5, q] ++ sbp o := by
      unfold sb sbq
      rw [if_neg (by omega), if_neg (by omega), if_neg (by omega), if_pos ek, et, ev, etk]
      rw [show (th * 8 + 5) % 256 = th * 8 + 5 by omega, show (q / 8 * 8 + (q % 8 + 1) - 1) % 256 = q by omega]
    rw [← ho, hs]
    have g0 : ([th * 8 + 5, q] ++ sbp o ++ R).getD 0 0 = th * 8 + 5 := rfl
    have g1 : ([th * 8 + 5, q] ++ sbp o ++ R).getD 1 0 = q := rfl
    have g2 : ([th * 8 + 5, q] ++ sbp o ++ R).drop 2 = sbp o ++ R := rfl
    obtain ⟨n1, n2⟩ := nx_start (l := [th * 8 + 5, q] ++ sbp o ++ R) (t := t) (by rw [g0]; omega)
    rw [n1, n2, g0, g1, g2, show (th * 8 + 5) / 8 = th by omega, hmod]
    refine ⟨rq_parts th q (l.drop 2) hd2 o ev h1.1 ho R, ?_⟩
    rw [List.length_append, sbp_length, ev]; rfl
  · by_cases h4 : l.getD 0 0 % 8 = 4
    · obtain ⟨e, _⟩ := nx_round (t := t) h4
      rw [e]
      have hs : sb ⟨4, 0, l.getD 1 0 % 8 + 1, 0, noB, noB, noB, 0⟩ = [4, l.getD 1 0 % 8] := by
        unfold sb; simp; omega
      rw [hs]
      obtain ⟨n1, n2⟩ := nx_round (l := [4, l.getD 1 0 % 8] ++ R) (t := t) (by rfl)
      rw [n1, n2]
      refine ⟨?_, rfl⟩
      simp
    · by_cases h3 : l.getD 0 0 % 8 = 3
      · obtain ⟨e, _⟩ := nx_tick (t := t) h3
        rw [e]
        have hs : sb ⟨2, 0, l.getD 1 0, 0, noB, noB, noB, 0⟩ = [3, l.getD 1 0] := by
          unfold sb; simp; simp at h1; omega
        rw [hs]
        obtain ⟨n1, n2⟩ := nx_tick (l := [3, l.getD 1 0] ++ R) (t := t) (by rfl)
        rw [n1, n2]
        refine ⟨?_, rfl⟩
        simp
      · obtain ⟨e, _⟩ := nx_pick (t := t) h0.1 (by omega)
        rw [e, hth]
        have hs : sb ⟨1, th, l.getD 1 0 % 16 + 1, 0, noB, noB, noB, 0⟩ = [th * 8, l.getD 1 0 % 16] := by
          unfold sb; simp; omega
        rw [hs]
        obtain ⟨n1, n2⟩ := nx_pick (l := [th * 8, l.getD 1 0 % 16] ++ R) (t := t) (by simp; omega) (by simp)
        rw [n1, n2]
        refine ⟨?_, rfl⟩
        have e8 : th * 8 / 8 = th := by omega
        simp [e8, hmod]
theorem prs_all {t : Int} : ∀ (n : Nat) (l : List Int), l.length ≤ n → Byt l → ∀ x ∈ prs l t, ∃ M, Byt M ∧ x = nx M t
  | 0, l, h, _ => by
    obtain rfl : l = [] := List.eq_nil_of_length_eq_zero (by omega)
    intro x hx; cases hx
  | n + 1, l, h, hB => by
    by_cases e : l = []
    · subst e; intro x hx; cases hx
    · have hl : 0 < l.length := List.length_pos_iff.2 e
      have h2 := nxN_ge l
      intro x hx
      rw [prs_cons e] at hx
      rcases List.mem_cons.1 hx with rfl | hx
      · exact ⟨l, hB, rfl⟩
      · exact prs_all n (l.drop (nxN l)) (by rw [List.length_drop]; omega) (hB.drop _) x hx
theorem wrA_read {t : Int} (t0 : 1 ≤ t) (t1 : t ≤ 64) : ∀ (l : List Opr), (∀ x ∈ l, ∃ M, Byt M ∧ x = nx M t) → ∃ W, wrA l = some W ∧ prs W t = l ∧ Byt W
  | [], _ => ⟨[], rfl, rfl, fun x hx => by cases hx⟩
  | x :: l, h => by
    obtain ⟨M, hM, hx⟩ := h x (by simp)
    obtain ⟨W, h1, h2, h3⟩ := wrA_read t0 t1 l (fun y hy => h y (by simp [hy]))
    have hw := wr_nx (t := t) hM t0 t1
    rw [← hx] at hw
    have hs := nx_sb2 (t := t) hM t0 t1 W
    have hne := (nx_sb (t := t) hM t0 t1).1
    rw [← hx] at hs hne
    refine ⟨sb x ++ W, by unfold wrA; rw [hw, h1]; rfl, ?_, (sb_byt x).append h3⟩
    have hne2 : sb x ++ W ≠ [] := by simp [hne]
    rw [prs_cons hne2, hs.1, hs.2, List.drop_left, h2]
#print axioms wrA_read
#print axioms pos_take
end Go.Proofs.Ytegoggnocpgoiaa
