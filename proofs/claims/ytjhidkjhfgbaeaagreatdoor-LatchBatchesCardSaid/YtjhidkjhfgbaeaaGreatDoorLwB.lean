/- A thread parks; the latch is handed on (no program in it). -/
import Derived.Test.YtjhidkjhfgbaeaaGreatDoorLwA
namespace Go.Proofs.YtjhidkjhfgbaeaaGreatDoor
set_option linter.unusedVariables false
set_option linter.unusedSimpArgs false
/-- The state in which a thread has put itself into the queue. -/
def prk (s : LS) (t : Nat) : LS := { s with fi := if s.fi = -1 then 2 * (t : Int) + 1 else s.fi, la := 2 * (t : Int) + 1 }
/-- The words behind that. -/
def parkF (s : LS) (t : Nat) (md : Int) (f : Nat → Int) : Nat → Int :=
  let a := up1 (up1 (up1 f (nxW 3 (2 * t)) 0) (wtW 3 (2 * t)) 1) 0 (((2 * t : Nat) : Int) + 1)
  let b := up1 (up1 (up1 a (mdW 3 (2 * t + 1)) md) (nxW 3 (2 * t + 1)) 0) (wtW 3 (2 * t + 1)) 1
  let c := if s.la = -1 then b else up1 b (nxW 3 s.la.toNat) (2 * (t : Int) + 2)
  up1 (up1 (up1 c 1 s.sh) 2 (prk s t).w1) 0 0
section
variable {T L t : Nat} {f : Nat → Int} {s : LS} {md : Int}
/-- What the two words say is found out. -/
theorem rdr {m : Mv} {g : Gs} (hT : T ≤ 64) (hL : L = 3 + 6 * T) (hn : m.nx = 2) (hm : s.may T = true) (h1 : f 1 = s.sh) (h2 : f 2 = s.w1) (hd : ({ m with s0 := s.sh, s1 := s.w1, s := s, nx := 3 } : Mv).decide.nx ≠ 0) :
    Stps T L 2 f m g f ({ m with s0 := s.sh, s1 := s.w1, s := s, nx := 3 } : Mv).decide g := by
  have hf := (may_gd hT hm).fit hT
  have l1 : 1 < L := by omega
  have l2 : 2 < L := by omega
  refine ⟨f, { m with s0 := s.sh, nx := 3 }, g, ?_, by show (3 : Int) ≠ 0; decide, f, _, g, ?_, hd, rfl, rfl, rfl⟩
  · simp [mstpO, hn, rng_get _ l1, h1]
  · have e := rdB_w1 hT hm
    have e2 := rd_w1 hf
    simp [mstpO, rng_get _ l2, h2, e, e2]
theorem decide_get {m : Mv} (hk : m.k = 0) : m.decide = m.get := by unfold Mv.decide; rw [if_pos hk]
/-- A move to get the latch, on its way. -/
def pM (t : Nat) (md : Int) (s0 : Nat) (nx s1 : Int) (ss : LS) (wt : Bool) : Mv := ⟨t, 0, md, nx, s0, s1, ss, 0, [], false, wt⟩
def gE : Gs := ⟨4, 0, true, 1, 0, false⟩
theorem get_no (hof : s.of t = 0) (hgo : ¬ (s.fi = -1 ∧ s.wa = -1 ∧ s.goes md false = true)) : (pM t md s.sh 3 s.w1 s false).decide = pM t md s.sh 4 s.w1 s true := by
  rw [decide_get rfl]
  show (if s.of (t : Int) ≠ 0 then _ else if s.fi = -1 ∧ s.wa = -1 ∧ s.goes md false = true then _ else _) = _
  rw [if_neg (by simpa using hof), if_neg hgo]
  rfl
theorem pM_last (nx : Int) (h : s.la = -1 ∨ s.la ≠ -1) : (pM t md s.sh nx s.w1 s true).standLast = (pM t md s.sh 0 s.w1 (prk s t) true).finish := rfl
/-- A thread parks. -/
theorem park_run (hT : T ≤ 64) (hL : L = 3 + 6 * T) (ht : t < T) (hm : s.may T = true) (h0 : f 0 = 0) (h1 : f 1 = s.sh) (h2 : f 2 = s.w1) (hof : s.of t = 0) (hgo : ¬ (s.fi = -1 ∧ s.wa = -1 ∧ s.goes md false = true)) :
    ∃ c, c ≤ 13 ∧ ∀ k, ∃ g', waitsO T (c + (k + 1)) (rng L f) (Mv.new t 0 md) Gs.new = some (true, pM t md s.sh 14 (prk s t).w1 (prk s t) true, g', rng L (parkF s t md f)) := by
  obtain ⟨a, ha⟩ : ∃ a, a = up1 (up1 (up1 f (nxW 3 (2 * t)) 0) (wtW 3 (2 * t)) 1) 0 (((2 * t : Nat) : Int) + 1) := ⟨_, rfl⟩
  have A : Stps T L 3 f (Mv.new t 0 md) Gs.new a (pM t md 0 2 0 ⟨0, 0, 0, 0, 0, 0, 0⟩ false) gE := by
    rw [ha]
    exact acq (T := T) (L := L) (f := f) (m := Mv.new t 0 md) (g := Gs.new) rfl rfl rfl rfl h0 ht hL
  have hfit := may_fi hm
  have a1 : a 1 = s.sh := by rw [ha, up1_far _ _ (by decide), up1_far _ _ (by unfold wtW; omega), up1_far _ _ (by unfold nxW; omega), h1]
  have a2 : a 2 = s.w1 := by rw [ha, up1_far _ _ (by decide), up1_far _ _ (by unfold wtW; omega), up1_far _ _ (by unfold nxW; omega), h2]
  have a0 : a 0 = ((2 * t : Nat) : Int) + 1 := by rw [ha, up1_at]
  have an : a (nxW 3 (2 * t)) = 0 := by rw [ha, up1_far _ _ (by unfold nxW; omega), up1_far _ _ (by unfold wtW nxW; omega), up1_at]
  -- what happens
  have B : Stps T L 2 a (pM t md 0 2 0 ⟨0, 0, 0, 0, 0, 0, 0⟩ false) gE a (pM t md s.sh 4 s.w1 s true) gE := by
    have hd := get_no (md := md) hof hgo
    have := rdr (T := T) (L := L) (f := a) (m := pM t md 0 2 0 ⟨0, 0, 0, 0, 0, 0, 0⟩ false) (g := gE) hT hL rfl hm a1 a2 (by
      show (pM t md s.sh 3 s.w1 s false).decide.nx ≠ 0
      rw [hd]; show (4 : Int) ≠ 0; decide)
    have e : ({ (pM t md 0 2 0 ⟨0, 0, 0, 0, 0, 0, 0⟩ false) with s0 := s.sh, s1 := s.w1, s := s, nx := 3 } : Mv).decide = pM t md s.sh 4 s.w1 s true := hd
    rw [e] at this
    exact this
  -- the node's words
  obtain ⟨b1, hb1⟩ : ∃ b, b = up1 a (mdW 3 (2 * t + 1)) md := ⟨_, rfl⟩
  obtain ⟨b2, hb2⟩ : ∃ b, b = up1 b1 (nxW 3 (2 * t + 1)) 0 := ⟨_, rfl⟩
  obtain ⟨b3, hb3⟩ : ∃ b, b = up1 b2 (wtW 3 (2 * t + 1)) 1 := ⟨_, rfl⟩
  have e4 : Stps T L 1 a (pM t md s.sh 4 s.w1 s true) gE b1 (pM t md s.sh 5 s.w1 s true) gE := by
    refine Stps.one ?_ (by show (5 : Int) ≠ 0; decide)
    have hw : wrO (pM t md s.sh 4 s.w1 s true) = some (mdW 3 (2 * t + 1), md) := rfl
    rw [s_stc 4 rfl (by decide) hw (by unfold mdW; omega), hb1]
    rfl
  have e5 : Stps T L 1 b1 (pM t md s.sh 5 s.w1 s true) gE b2 (pM t md s.sh 6 s.w1 s true) gE := by
    refine Stps.one ?_ (by show (6 : Int) ≠ 0; decide)
    have hw : wrO (pM t md s.sh 5 s.w1 s true) = some (nxW 3 (2 * t + 1), 0) := rfl
    rw [s_stc 5 rfl (by decide) hw (by unfold nxW; omega), hb2]
    rfl
  have far3 : ∀ j, j ≤ 2 → b3 j = a j := fun j hj => by
    rw [hb3, hb2, hb1, up1_far _ _ (by unfold wtW; omega), up1_far _ _ (by unfold nxW; omega), up1_far _ _ (by unfold mdW; omega)]
  have hw6 : wrO (pM t md s.sh 6 s.w1 s true) = some (wtW 3 (2 * t + 1), 1) := rfl
  have hst6 : (pM t md s.sh 6 s.w1 s true).stored = (pM t md s.sh 6 s.w1 s true).park := rfl
  have e6 : mstpO T (rng L b2) (pM t md s.sh 6 s.w1 s true) gE = some ((pM t md s.sh 6 s.w1 s true).park, gE, rng L b3, false, 0) := by
    rw [s_stc 6 rfl (by decide) hw6 (by unfold wtW; omega), hb3, hst6]
  obtain ⟨fc, hfc⟩ : ∃ c : Nat → Int, c = if s.la = -1 then b3 else up1 b3 (nxW 3 s.la.toNat) (2 * (t : Int) + 2) := ⟨_, rfl⟩
  have farc : ∀ j, j ≤ 2 → fc j = a j := fun j hj => by
    rw [hfc]; split
    · exact far3 j hj
    · rw [up1_far _ _ (by unfold nxW; omega)]; exact far3 j hj
  obtain ⟨mF, hmF⟩ : ∃ x, x = (pM t md s.sh 0 s.w1 (prk s t) true).finish := ⟨_, rfl⟩
  have hfin : mF.nx ≠ 0 := by rw [hmF]; have := Mv.fin_in (pM t md s.sh 0 s.w1 (prk s t) true); show Mv.fin _ ≠ 0; omega
  -- the thread stands last
  obtain ⟨c7, hc7, E7⟩ : ∃ c, c ≤ 2 ∧ Stps T L c b2 (pM t md s.sh 6 s.w1 s true) gE fc mF gE := by
    by_cases hla : s.la = -1
    · have hp : (pM t md s.sh 6 s.w1 s true).park = mF := by
        show (if (0 : Int) = 2 then _ else if s.la = -1 then _ else _) = _
        rw [if_neg (by decide), if_pos hla, hmF]
        rfl
      rw [hfc, if_pos hla]
      exact ⟨1, by omega, Stps.one (by rw [e6, hp]) hfin⟩
    · have hp : (pM t md s.sh 6 s.w1 s true).park = pM t md s.sh 7 s.w1 s true := by
        show (if (0 : Int) = 2 then _ else if s.la = -1 then _ else _) = _
        rw [if_neg (by decide), if_neg hla]
        rfl
      rw [hfc, if_neg hla]
      have hl := hfit.resolve_left (fun h => hla h.2)
      have hla2 := isL_le hl.2
      have hw7 : wrO (pM t md s.sh 7 s.w1 s true) = some (nxW 3 s.la.toNat, 2 * (t : Int) + 2) := by
        have e : (pM t md s.sh 7 s.w1 s true).nd + 1 = 2 * (t : Int) + 2 := by unfold Mv.nd; show 2 * (t : Int) + 1 + 1 = _; omega
        unfold wrO
        rw [if_neg (by show (7 : Int) ≠ 4; decide), if_neg (by show (7 : Int) ≠ 5; decide), if_neg (by show (7 : Int) ≠ 6; decide), if_pos (show (pM t md s.sh 7 s.w1 s true).nx = 7 from rfl), if_pos (show (0 : Int) ≤ (pM t md s.sh 7 s.w1 s true).s.la from hla2.1), e]
        rfl
      have e7 : mstpO T (rng L b3) (pM t md s.sh 7 s.w1 s true) gE = some (mF, gE, rng L (up1 b3 (nxW 3 s.la.toNat) (2 * (t : Int) + 2)), false, 0) := by
        rw [s_stc 7 rfl (by decide) hw7 (by unfold nxW; omega), hmF]
        rfl
      exact ⟨2, by omega, b3, _, gE, by rw [e6, hp], by show (7 : Int) ≠ 0; decide, _, _, gE, e7, hfin, rfl, rfl, rfl⟩
  -- the state is stored
  obtain ⟨c8, hc8, E8⟩ := fin_run (T := T) (L := L) (f := fc) (m := mF) (g := gE) hL (by rw [hmF]; rfl) (by rw [farc 1 (by decide), a1, hmF]; rfl) (by rw [farc 2 (by decide), a2, hmF]; rfl) (by rw [hmF]; intro y hy; cases hy)
  obtain ⟨fd, hfd⟩ : ∃ d, d = up1 (up1 fc 1 s.sh) 2 (prk s t).w1 := ⟨_, rfl⟩
  have E8' : Stps T L c8 fc mF gE fd (pM t md s.sh 13 (prk s t).w1 (prk s t) true) gE := by
    rw [hfd]
    rw [hmF] at E8 ⊢
    exact E8
  have hc8' : c8 ≤ 2 := by rw [hmF] at hc8; exact hc8
  have far8 : ∀ j, 3 ≤ j ∨ j = 0 → fd j = fc j := fun j hj => by rw [hfd, up1_far _ _ (by omega), up1_far _ _ (by omega)]
  have ola : s.la ≠ -1 → (isL T s.la = true) := fun h => (hfit.resolve_left (fun e => h e.2)).2
  have hnx : fd (nxW 3 (2 * t)) = 0 := by
    rw [far8 _ (by unfold nxW; omega), hfc]
    have hb : b3 (nxW 3 (2 * t)) = 0 := by
      rw [hb3, hb2, hb1, up1_far _ _ (by unfold wtW nxW; omega), up1_far _ _ (by unfold nxW; omega), up1_far _ _ (by unfold mdW nxW; omega), an]
    split
    · exact hb
    · rename_i hne
      have := ola hne
      rw [up1_far _ _ (by unfold nxW; simp [isL] at this; omega)]; exact hb
  have hg0 : fd 0 = ((2 * t : Nat) : Int) + 1 := by rw [far8 _ (by omega), farc 0 (by omega), a0]
  have E9 : Stps T L 2 fd (pM t md s.sh 13 (prk s t).w1 (prk s t) true) gE (up1 fd 0 0) (pM t md s.sh 14 (prk s t).w1 (prk s t) true) { gE with sl := 3, el := true } :=
    rel_w (T := T) (L := L) (f := fd) (m := pM t md s.sh 13 (prk s t).w1 (prk s t) true) (g := gE) rfl rfl rfl hnx hg0 ht hL rfl
  -- the thread waits
  have hwt : up1 fd 0 0 (wtW 3 (2 * t + 1)) = 1 := by
    rw [up1_far _ _ (by unfold wtW; omega), far8 _ (by unfold wtW; omega), hfc]
    have hb : b3 (wtW 3 (2 * t + 1)) = 1 := by rw [hb3, up1_at]
    split
    · exact hb
    · rw [up1_far _ _ (by unfold wtW nxW; omega)]; exact hb
  have E := A.trans (B.trans (e4.trans (e5.trans (E7.trans (E8'.trans E9)))))
  refine ⟨3 + (2 + (1 + (1 + (c7 + (c8 + 2))))), by omega, fun k => ⟨{ gE with sl := 3, el := true }, ?_⟩⟩
  rw [E.waits]
  have hl : wtW 3 (2 * t + 1) < L := by unfold wtW; omega
  have hM : mstpO T (rng L (up1 fd 0 0)) (pM t md s.sh 14 (prk s t).w1 (prk s t) true) { gE with sl := 3, el := true } = some (pM t md s.sh 14 (prk s t).w1 (prk s t) true, { gE with sl := 3, el := true }, rng L (up1 fd 0 0), true, 0) := by
    unfold mstpO
    rw [if_neg (by show (14 : Int) ≠ 1; decide), if_neg (by show (14 : Int) ≠ 13; decide), if_pos (show (pM t md s.sh 14 (prk s t).w1 (prk s t) true).nx = 14 from rfl)]
    have e : (rng L (up1 fd 0 0))[wtW 3 (2 * (pM t md s.sh 14 (prk s t).w1 (prk s t) true).t + 1)]? = some 1 := by
      show (rng L (up1 fd 0 0))[wtW 3 (2 * t + 1)]? = some 1
      rw [rng_get _ hl, hwt]
    rw [e]
    rfl
  simp only [waitsO, hM]
  rw [if_neg (by rintro (h | h); exact h rfl; exact absurd h (by show (14 : Int) ≠ 0; decide)), if_pos trivial]
  have hp : parkF s t md f = up1 fd 0 0 := by
    unfold parkF
    rw [hfd, hfc, hb3, hb2, hb1, ha]
  rw [hp]
end
end Go.Proofs.YtjhidkjhfgbaeaaGreatDoor
