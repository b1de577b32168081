/- The reference's Bytes, as plain facts. -/
import Derived.Test.YtegoggnocpgoiaaScrLe
import Derived.Test.YtegoggnocpgoiaaScrHm
namespace Go.Proofs.Ytegoggnocpgoiaa
open Go.ChangeShapes Go.WideShapes Go.ChangeAt Go.RowKit

/-- The thread that a first byte says, of 64. -/
def tho (x p : Int) : Int := if thB (hd x p).k = true then x / 8 else 0
/-- Whether two bytes say an operation, but for what is behind them. -/
def mt (o : Opr) (x p : Nat) : Bool := decide ((hd x p).k = o.k ∧ tho x p = o.t ∧ (hd x p).v = o.v ∧ (hd x p).tk = o.tk ∧ ((hd x p).k = 3 ∨ (hd x p).n = o.n))
theorem mt_iff {o : Opr} {x p : Nat} : mt o x p = true ↔ ((hd x p).k = o.k ∧ tho x p = o.t ∧ (hd x p).v = o.v ∧ (hd x p).tk = o.tk ∧ ((hd x p).k = 3 ∨ (hd x p).n = o.n)) := by unfold mt; simp
theorem hd_k1 {x p : Int} (_h0 : 0 ≤ x) (h : (hd x p).k = 1) : x % 8 < 3 ∧ hd x p = ⟨1, 0, p % 16 + 1, 0, noB, noB, noB, 0⟩ := by
  by_cases h3 : x % 8 = 3
  · rw [hd_tick h3] at h; simp at h
  · by_cases h4 : x % 8 = 4
    · rw [hd_round h4] at h; simp at h
    · by_cases h5 : 5 ≤ x % 8
      · rw [hd_start h5] at h; simp at h
      · exact ⟨by omega, hd_pick (by omega)⟩
theorem hd_k2 {x p : Int} (_h0 : 0 ≤ x) (h : (hd x p).k = 2) : x % 8 = 3 ∧ hd x p = ⟨2, 0, p, 0, noB, noB, noB, 0⟩ := by
  by_cases h3 : x % 8 = 3
  · exact ⟨h3, hd_tick h3⟩
  · by_cases h4 : x % 8 = 4
    · rw [hd_round h4] at h; simp at h
    · by_cases h5 : 5 ≤ x % 8
      · rw [hd_start h5] at h; simp at h
      · rw [hd_pick (by omega)] at h; simp at h
theorem hd_k4 {x p : Int} (_h0 : 0 ≤ x) (h : (hd x p).k = 4) : x % 8 = 4 ∧ hd x p = ⟨4, 0, p % 8 + 1, 0, noB, noB, noB, 0⟩ := by
  by_cases h3 : x % 8 = 3
  · rw [hd_tick h3] at h; simp at h
  · by_cases h4 : x % 8 = 4
    · exact ⟨h4, hd_round h4⟩
    · by_cases h5 : 5 ≤ x % 8
      · rw [hd_start h5] at h; simp at h
      · rw [hd_pick (by omega)] at h; simp at h
theorem hd_k3 {x p : Int} (_h0 : 0 ≤ x) (h : (hd x p).k = 3) : 5 ≤ x % 8 ∧ hd x p = ⟨3, 0, 0, p % 8 + 1, noB, noB, noB, p / 8⟩ := by
  by_cases h3 : x % 8 = 3
  · rw [hd_tick h3] at h; simp at h
  · by_cases h4 : x % 8 = 4
    · rw [hd_round h4] at h; simp at h
    · by_cases h5 : 5 ≤ x % 8
      · exact ⟨h5, hd_start h5⟩
      · rw [hd_pick (by omega)] at h; simp at h
theorem hd_kx (x p q : Int) : (hd x p).k = (hd x q).k := by unfold hd; repeat' split
                                                            all_goals rfl
theorem mt_break {o : Opr} {x p : Nat} (h : ¬ (hd x p).k = o.k) (q : Nat) : mt o x q = false := by
  cases hm : mt o x q with
  | false => rfl
  | true => exact absurd ((hd_kx x p q).trans (mt_iff.1 hm).1) h

/-- The first two of the shortest bytes are the least that say the operation. -/
theorem sb_first {o : Opr} (h0 : sb o ≠ []) (h : nx (sb o) 64 = o) : ∃ x0 p0 : Nat, x0 < 256 ∧ p0 < 256 ∧ sb o = [(x0 : Int), (p0 : Int)] ++ (if o.k = 3 then sbp o else []) ∧ mt o x0 p0 = true ∧ ∀ x p : Nat, x < 256 → p < 256 → mt o x p = true → x0 ≤ x ∧ (x0 = x → p0 ≤ p) := by
  have hby := sb_byt o
  by_cases h1 : o.k = 1
  · have hs : sb o = [o.t * 8 % 256, (o.n - 1) % 256] := by unfold sb; rw [if_pos h1]
    rw [hs] at h
    have hlt : (([o.t * 8 % 256, (o.n - 1) % 256] : List Int).getD 0 0) % 8 < 3 := by show o.t * 8 % 256 % 8 < 3; omega
    have hn := (nx_pick (t := 64) (l := [o.t * 8 % 256, (o.n - 1) % 256]) (by simp; omega) hlt).1
    rw [h] at hn
    have et := congrArg Opr.t hn
    have en := congrArg Opr.n hn
    have ev := congrArg Opr.v hn
    have ek := congrArg Opr.tk hn
    simp at et en ev ek
    have t31 : 0 ≤ o.t ∧ o.t ≤ 31 := by omega
    have n16 : 1 ≤ o.n ∧ o.n ≤ 16 := by omega
    refine ⟨(o.t * 8).toNat, (o.n - 1).toNat, by omega, by omega, ?_, ?_, ?_⟩
    · rw [hs, if_neg (by omega)]
      rw [show o.t * 8 % 256 = ((o.t * 8).toNat : Int) by omega, show (o.n - 1) % 256 = ((o.n - 1).toNat : Int) by omega]; rfl
    · rw [mt_iff]
      have hp := hd_pick (x := ((o.t * 8).toNat : Int)) (p := ((o.n - 1).toNat : Int)) (by omega)
      rw [hp]
      refine ⟨h1.symm, ?_, by simp [ev], by simp [ek], .inr (by simp; omega)⟩
      unfold tho; rw [hp, if_pos (show thB 1 = true from rfl)]; omega
    · intro x p hx hp hm
      obtain ⟨m1, m2, m3, m4, m5⟩ := mt_iff.1 hm
      obtain ⟨k1, k2⟩ := hd_k1 (x := x) (p := p) (by omega) (m1.trans h1)
      unfold tho at m2
      rw [k2] at m2 m5
      rw [if_pos (show thB 1 = true from rfl)] at m2
      simp at m5
      omega
  · by_cases h2 : o.k = 2
    · have hs : sb o = [3, o.n % 256] := by unfold sb; rw [if_neg h1, if_pos h2]
      rw [hs] at h
      have hn := (nx_tick (t := 64) (l := [3, o.n % 256]) (by rfl)).1
      rw [h] at hn
      have et := congrArg Opr.t hn
      have en := congrArg Opr.n hn
      have ev := congrArg Opr.v hn
      have ek := congrArg Opr.tk hn
      simp at et en ev ek
      have n255 : 0 ≤ o.n ∧ o.n ≤ 255 := by omega
      refine ⟨3, o.n.toNat, by omega, by omega, ?_, ?_, ?_⟩
      · rw [hs, if_neg (by omega), show o.n % 256 = (o.n.toNat : Int) by omega]; rfl
      · rw [mt_iff]
        have hp := hd_tick (x := ((3 : Nat) : Int)) (p := (o.n.toNat : Int)) (by rfl)
        rw [hp]
        refine ⟨h2.symm, ?_, by simp [ev], by simp [ek], .inr (by simp; omega)⟩
        unfold tho; rw [hp, if_neg (show ¬ thB 2 = true by decide)]; omega
      · intro x p hx hp hm
        obtain ⟨m1, m2, m3, m4, m5⟩ := mt_iff.1 hm
        obtain ⟨k1, k2⟩ := hd_k2 (x := x) (p := p) (by omega) (m1.trans h2)
        rw [k2] at m5
        simp at m5
        omega
    · by_cases h4 : o.k = 4
      · have hs : sb o = [4, (o.n - 1) % 256] := by unfold sb; rw [if_neg h1, if_neg h2, if_pos h4]
        rw [hs] at h
        have hn := (nx_round (t := 64) (l := [4, (o.n - 1) % 256]) (by rfl)).1
        rw [h] at hn
        have et := congrArg Opr.t hn
        have en := congrArg Opr.n hn
        have ev := congrArg Opr.v hn
        have ek := congrArg Opr.tk hn
        simp at et en ev ek
        have n8 : 1 ≤ o.n ∧ o.n ≤ 8 := by omega
        refine ⟨4, (o.n - 1).toNat, by omega, by omega, ?_, ?_, ?_⟩
        · rw [hs, if_neg (by omega), show (o.n - 1) % 256 = ((o.n - 1).toNat : Int) by omega]; rfl
        · rw [mt_iff]
          have hp := hd_round (x := ((4 : Nat) : Int)) (p := ((o.n - 1).toNat : Int)) (by rfl)
          rw [hp]
          refine ⟨h4.symm, ?_, by simp [ev], by simp [ek], .inr (by simp; omega)⟩
          unfold tho; rw [hp, if_neg (show ¬ thB 4 = true by decide)]; omega
        · intro x p hx hp hm
          obtain ⟨m1, m2, m3, m4, m5⟩ := mt_iff.1 hm
          obtain ⟨k1, k2⟩ := hd_k4 (x := x) (p := p) (by omega) (m1.trans h4)
          rw [k2] at m5
          simp at m5
          omega
      · by_cases h3 : o.k = 3
        · have hs : sb o = [(o.t * 8 + 5) % 256, (o.tk * 8 + o.v - 1) % 256] ++ sbp o := by unfold sb sbq; rw [if_neg h1, if_neg h2, if_neg h4, if_pos h3]
          rw [hs] at h
          have g0 : ([(o.t * 8 + 5) % 256, (o.tk * 8 + o.v - 1) % 256] ++ sbp o).getD 0 0 = (o.t * 8 + 5) % 256 := rfl
          have g1 : ([(o.t * 8 + 5) % 256, (o.tk * 8 + o.v - 1) % 256] ++ sbp o).getD 1 0 = (o.tk * 8 + o.v - 1) % 256 := rfl
          have hn := (nx_start (t := 64) (l := [(o.t * 8 + 5) % 256, (o.tk * 8 + o.v - 1) % 256] ++ sbp o) (by rw [g0]; omega)).1
          rw [h, g0, g1] at hn
          have et : o.t = (o.t * 8 + 5) % 256 / 8 % 64 := congrArg Opr.t hn
          have ev : o.v = (o.tk * 8 + o.v - 1) % 256 % 8 + 1 := congrArg Opr.v hn
          have ek : o.tk = (o.tk * 8 + o.v - 1) % 256 / 8 := congrArg Opr.tk hn
          have t31 : 0 ≤ o.t ∧ o.t ≤ 31 := by omega
          have v8 : 1 ≤ o.v ∧ o.v ≤ 8 := by omega
          have k31 : 0 ≤ o.tk ∧ o.tk ≤ 31 := by omega
          refine ⟨(o.t * 8 + 5).toNat, (o.tk * 8 + o.v - 1).toNat, by omega, by omega, ?_, ?_, ?_⟩
          · rw [hs, if_pos h3, show (o.t * 8 + 5) % 256 = ((o.t * 8 + 5).toNat : Int) by omega, show (o.tk * 8 + o.v - 1) % 256 = ((o.tk * 8 + o.v - 1).toNat : Int) by omega]
          · rw [mt_iff]
            have hp := hd_start (x := ((o.t * 8 + 5).toNat : Int)) (p := ((o.tk * 8 + o.v - 1).toNat : Int)) (by omega)
            rw [hp]
            refine ⟨h3.symm, ?_, by simp; omega, by simp; omega, .inl rfl⟩
            unfold tho; rw [hp, if_pos (show thB 3 = true from rfl)]; omega
          · intro x p hx hp hm
            obtain ⟨m1, m2, m3, m4, m5⟩ := mt_iff.1 hm
            obtain ⟨k1, k2⟩ := hd_k3 (x := x) (p := p) (by omega) (m1.trans h3)
            unfold tho at m2
            rw [k2] at m2 m3 m4
            rw [if_pos (show thB 3 = true from rfl)] at m2
            simp at m3 m4
            omega
        · have hs : sb o = [] := by unfold sb; rw [if_neg h1, if_neg h2, if_neg h4, if_neg h3]
          exact absurd hs h0

/-- The least bytes of what a request needs are those that are written. -/
def ls (o : Opr) (p : Int) : Int := ((lst o p).getD 0 : Nat)
def lp (o : Opr) : List Int := if vc o.v = 1 then [ls o 107] else if vc o.v = 2 then [ls o 107, ls o 118] else if vc o.v = 3 then [ls o 107, ls o 111, ls o 118] else if vc o.v = 4 then [ls o 107, ls o 110] else []
/-- Whether all are found. -/
def lf (o : Opr) : Bool := if vc o.v = 1 then (lst o 107).isSome else if vc o.v = 2 then (lst o 107).isSome && (lst o 118).isSome else if vc o.v = 3 then (lst o 107).isSome && (lst o 111).isSome && (lst o 118).isSome else if vc o.v = 4 then (lst o 107).isSome && (lst o 110).isSome else true
theorem ls_bd (o : Opr) (p : Int) : 0 ≤ ls o p ∧ ls o p ≤ 255 := by
  unfold ls
  cases h : lst o p with
  | none => simp
  | some k => have := (lst_some h).1; simp; omega
theorem lst_key {o : Opr} {y : Int} (hy : 0 ≤ y ∧ y ≤ 255) (h : o.key = keyB y) : lst o 107 = some y.toNat := by
  have e : ((y.toNat : Nat) : Int) = y := by omega
  refine lst_hit (by omega) (fun j hj => ?_) ?_
  · unfold pB; rw [if_pos rfl, h]
    simp only [decide_eq_false_iff_not]
    intro he
    have := keyB_inj (x := (j : Int)) (y := y) (by omega) hy he
    omega
  · unfold pB; rw [if_pos rfl, h, e]; simp
theorem lst_vn {o : Opr} {p : Int} {s : ByteArray} (hp : ∀ n : Nat, pB o p n = decide (valB (n : Int) = s)) (h : valB (vn s) = s) : lst o p = some (vn s).toNat := by
  have hb := vn_bd s
  have hex : ∃ j : Nat, j < 256 ∧ valB (j : Int) = s := ⟨(vn s).toNat, by omega, by rw [show (((vn s).toNat : Nat) : Int) = vn s by omega]; exact h⟩
  cases hl : lst o p with
  | none =>
    obtain ⟨j, hj, hv⟩ := hex
    unfold lst at hl
    have := List.find?_range_eq_none.1 hl j hj
    rw [hp] at this
    simp [hv] at this
  | some k =>
    obtain ⟨h1, h2, h3⟩ := lst_some hl
    have := vn_hit (s := s) h1 (fun j hj => by have := h3 j hj; rw [hp] at this; simpa using this) (by rw [hp] at h2; simpa using h2)
    rw [this]; simp
theorem lp_sbp {o : Opr} (h3 : o.k = 3) (h : nx (sb o) 64 = o) : lf o = true ∧ lp o = sbp o := by
  have hs : sb o = [(o.t * 8 + 5) % 256, (o.tk * 8 + o.v - 1) % 256] ++ sbp o := by unfold sb sbq; rw [if_neg (by omega), if_neg (by omega), if_neg (by omega), if_pos h3]
  rw [hs] at h
  have g0 : ([(o.t * 8 + 5) % 256, (o.tk * 8 + o.v - 1) % 256] ++ sbp o).getD 0 0 = (o.t * 8 + 5) % 256 := rfl
  have g1 : ([(o.t * 8 + 5) % 256, (o.tk * 8 + o.v - 1) % 256] ++ sbp o).getD 1 0 = (o.tk * 8 + o.v - 1) % 256 := rfl
  have g2 : ([(o.t * 8 + 5) % 256, (o.tk * 8 + o.v - 1) % 256] ++ sbp o).drop 2 = sbp o := rfl
  have hn := (nx_start (t := 64) (l := [(o.t * 8 + 5) % 256, (o.tk * 8 + o.v - 1) % 256] ++ sbp o) (by rw [g0]; omega)).1
  rw [h, g0, g1, g2] at hn
  generalize (o.tk * 8 + o.v - 1) % 256 = q at hn
  generalize (o.t * 8 + 5) % 256 / 8 % 64 = th at hn
  have ev : o.v = q % 8 + 1 := congrArg Opr.v hn
  have hv1 : ∀ n : Nat, pB o 118 n = decide (valB (n : Int) = o.val) := fun n => by unfold pB; rw [if_neg (by decide), if_neg (by decide), if_pos rfl]
  have ho1 : ∀ n : Nat, pB o 111 n = decide (valB (n : Int) = o.old) := fun n => by unfold pB; rw [if_neg (by decide), if_pos rfl]
  have hkb := kn_bd o.key
  rcases vc_cases o.v with hv | hv | hv | hv | hv
  · unfold lf lp sbp; rw [hv]; exact ⟨rfl, rfl⟩
  · have hsb : sbp o = [kn o.key] := by unfold sbp; rw [hv]; rfl
    rw [hsb] at hn
    have ek : o.key = keyB (kn o.key) := by
      have := congrArg Opr.key hn
      unfold rq at this
      rw [← ev, hv] at this
      exact this
    have e1 := lst_key hkb ek
    unfold lf lp sbp ls; rw [hv, e1]
    refine ⟨rfl, ?_⟩
    simp; omega
  · have hsb : sbp o = [kn o.key, vn o.val] := by unfold sbp; rw [hv]; rfl
    rw [hsb] at hn
    have ek : o.key = keyB (kn o.key) := by
      have := congrArg Opr.key hn
      unfold rq at this
      rw [← ev, hv] at this
      exact this
    have el : o.val = valB (vn o.val) := by
      have := congrArg Opr.val hn
      unfold rq at this
      rw [← ev, hv] at this
      exact this
    have e1 := lst_key hkb ek
    have e2 := lst_vn hv1 el.symm
    have b2 := vn_bd o.val
    unfold lf lp sbp ls; rw [hv, e1, e2]
    refine ⟨rfl, ?_⟩
    simp; omega
  · have hsb : sbp o = [kn o.key, vn o.old, vn o.val] := by unfold sbp; rw [hv]; rfl
    rw [hsb] at hn
    have ek : o.key = keyB (kn o.key) := by
      have := congrArg Opr.key hn
      unfold rq at this
      rw [← ev, hv] at this
      exact this
    have el : o.val = valB (vn o.val) := by
      have := congrArg Opr.val hn
      unfold rq at this
      rw [← ev, hv] at this
      exact this
    have eo : o.old = valB (vn o.old) := by
      have := congrArg Opr.old hn
      unfold rq at this
      rw [← ev, hv] at this
      exact this
    have e1 := lst_key hkb ek
    have e2 := lst_vn hv1 el.symm
    have e3 := lst_vn ho1 eo.symm
    have b2 := vn_bd o.val
    have b3 := vn_bd o.old
    unfold lf lp sbp ls; rw [hv, e1, e2, e3]
    refine ⟨rfl, ?_⟩
    simp; omega
  · have hsb : sbp o = [kn o.key, (o.n - 1) % 256] := by unfold sbp; rw [hv]; rfl
    rw [hsb] at hn
    have ek : o.key = keyB (kn o.key) := by
      have := congrArg Opr.key hn
      unfold rq at this
      rw [← ev, hv] at this
      exact this
    have en : o.n = (o.n - 1) % 256 % 32 + 1 := by
      have := congrArg Opr.n hn
      unfold rq at this
      rw [← ev, hv] at this
      exact this
    have e1 := lst_key hkb ek
    have e2 : lst o 110 = some (o.n - 1).toNat := by
      have hpn : ∀ n : Nat, pB o 110 n = decide ((n : Int) % 32 + 1 = o.n) := fun n => by unfold pB; rw [if_neg (by decide), if_neg (by decide), if_neg (by decide)]
      refine lst_hit (by omega) (fun j hj => ?_) ?_
      · rw [hpn]; simp only [decide_eq_false_iff_not]; omega
      · rw [hpn]; simp only [decide_eq_true_eq]; omega
    unfold lf lp sbp ls; rw [hv, e1, e2]
    refine ⟨rfl, ?_⟩
    simp; omega
/-- All the bytes that the reference finds. -/
def lA (o : Opr) : List Int := if o.k = 3 then lp o else []
theorem first_is {o : Opr} {x p : Nat} (hx : x < 256) (hp : p < 256) (hm : mt o x p = true) (h1 : ∀ x' p' : Nat, x' < x → p' < 256 → mt o x' p' = false) (h2 : ∀ p' : Nat, p' < p → mt o x p' = false) (h : (wr o).isSome = true) : [(x : Int), (p : Int)] ++ lA o = sb o ∧ wrL o = sb o ∧ nx (sb o) 64 = o := by
  cases hw : wr o with
  | none => rw [hw] at h; cases h
  | some l =>
    obtain ⟨rfl, s0, s1⟩ := wr_some hw
    obtain ⟨x0, p0, b1, b2, e, hm0, hmin⟩ := sb_first s0 s1
    obtain ⟨g1, g2⟩ := hmin x p hx hp hm
    have hxx : x0 = x := by
      by_cases hh : x0 < x
      · have := h1 x0 p0 hh b2; rw [hm0] at this; cases this
      · omega
    subst hxx
    have hpp : p0 = p := by
      have := g2 rfl
      by_cases hh : p0 < p
      · have := h2 p0 hh; rw [hm0] at this; cases this
      · omega
    subst hpp
    refine ⟨?_, by unfold wrL; rw [hw]; rfl, s1⟩
    rw [e]
    unfold lA
    by_cases h3 : o.k = 3
    · rw [if_pos h3, if_pos h3, (lp_sbp h3 s1).2]
    · rw [if_neg h3, if_neg h3]
theorem lA_byt (o : Opr) : Byt (lA o) := by
  have b1 := ls_bd o 107
  have b2 := ls_bd o 111
  have b3 := ls_bd o 118
  have b4 := ls_bd o 110
  unfold lA lp Byt
  repeat' split
  all_goals simp
  all_goals omega
theorem lA_le (o : Opr) : (lA o).length ≤ 3 := by
  unfold lA lp
  repeat' split
  all_goals simp
/-- What the reference answers once it has found two bytes, and all that is behind them. -/
theorem bytes_end {o : Opr} {x p : Nat} (hx : x < 256) (hp : p < 256) (hm : mt o x p = true) (h1 : ∀ x' p' : Nat, x' < x → p' < 256 → mt o x' p' = false) (h2 : ∀ p' : Nat, p' < p → mt o x p' = false) :
    (opEq (nx ([(x : Int), (p : Int)] ++ lA o) 64) o && (nxN ([(x : Int), (p : Int)] ++ lA o) == ([(x : Int), (p : Int)] ++ lA o).length)) = (wr o).isSome ∧ ((wr o).isSome = true → [(x : Int), (p : Int)] ++ lA o = wrL o) := by
  have hby : Byt ([(x : Int), (p : Int)] ++ lA o) := by
    refine Byt.append ?_ (lA_byt o)
    intro y hy; simp at hy; omega
  have hfi := first_is hx hp hm h1 h2
  cases hw : (wr o).isSome with
  | true =>
    obtain ⟨e1, e2, e3⟩ := hfi hw
    rw [e1, e2]
    have hs2 := nx_sb2 (l := sb o) (t := 64) (sb_byt o) (by omega) (by omega) []
    rw [e3] at hs2
    simp only [List.append_nil] at hs2
    rw [e3, hs2.2]
    exact ⟨by rw [opEq_refl]; simp, fun _ => rfl⟩
  | false =>
    refine ⟨?_, fun h => by cases h⟩
    cases ho : opEq (nx ([(x : Int), (p : Int)] ++ lA o) 64) o with
    | false => rfl
    | true =>
      have e := opEq_iff.1 ho
      have := wr_nx (t := 64) hby (by omega) (by omega)
      rw [e] at this
      rw [this] at hw
      cases hw
theorem bytes_part {o : Opr} (h3 : o.k = 3) (hf : lf o = false) : (wr o).isSome = false := by
  cases hw : wr o with
  | none => rfl
  | some l =>
    obtain ⟨rfl, s0, s1⟩ := wr_some hw
    rw [(lp_sbp h3 s1).1] at hf; cases hf
theorem bytes_none {o : Opr} (h : ∀ x p : Nat, x < 256 → p < 256 → mt o x p = false) : (wr o).isSome = false := by
  cases hw : wr o with
  | none => rfl
  | some l =>
    obtain ⟨rfl, s0, s1⟩ := wr_some hw
    obtain ⟨x0, p0, b1, b2, _, hm0, _⟩ := sb_first s0 s1
    have := h x0 p0 b1 b2
    rw [hm0] at this; cases this
#print axioms bytes_end
end Go.Proofs.Ytegoggnocpgoiaa
