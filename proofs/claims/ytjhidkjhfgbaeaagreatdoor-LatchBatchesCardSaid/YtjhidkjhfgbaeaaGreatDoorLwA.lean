/- Runs of moves over words as functions (no program in it): the guard is got and given back, the words stored, the nodes woken. -/
import Derived.Test.YtjhidkjhfgbaeaaGreatDoorLuW
namespace Go.Proofs.YtjhidkjhfgbaeaaGreatDoor
set_option linter.unusedVariables false
set_option linter.unusedSimpArgs false
/-- Words by a function. -/
def rng (L : Nat) (f : Nat → Int) : List Int := (List.range L).map f
def up1 (f : Nat → Int) (i : Nat) (v : Int) : Nat → Int := fun j => if j = i then v else f j
theorem rng_len (L : Nat) (f : Nat → Int) : (rng L f).length = L := by simp [rng]
theorem rng_get {L i : Nat} (f : Nat → Int) (h : i < L) : (rng L f)[i]? = some (f i) := by simp [rng, h]
theorem rng_set (L : Nat) (f : Nat → Int) (i : Nat) (v : Int) : (rng L f).set i v = rng L (up1 f i v) := by
  apply List.ext_getElem?
  intro j
  rw [List.getElem?_set]
  by_cases hj : i = j
  · subst hj
    rw [if_pos rfl, rng_len]
    by_cases hl : i < L
    · rw [if_pos hl, rng_get _ hl]; simp [up1]
    · rw [if_neg hl, List.getElem?_eq_none (by rw [rng_len]; omega)]
  · rw [if_neg hj]
    by_cases hl : j < L
    · rw [rng_get _ hl, rng_get _ hl]; simp [up1, Ne.symm hj]
    · rw [List.getElem?_eq_none (by rw [rng_len]; omega), List.getElem?_eq_none (by rw [rng_len]; omega)]
theorem up1_at (f : Nat → Int) (i : Nat) (v : Int) : up1 f i v i = v := by simp [up1]
theorem up1_far (f : Nat → Int) {i j : Nat} (v : Int) (h : j ≠ i) : up1 f i v j = f j := by simp [up1, h]
theorem up1_same (f : Nat → Int) (i : Nat) (v : Int) (h : f i = v) : up1 f i v = f := by
  funext j; unfold up1; split
  · rename_i e; rw [e, h]
  · rfl
/-- Some steps, none of which waits, has an error, or ends the move. -/
def Stps (T L : Nat) : Nat → (Nat → Int) → Mv → Gs → (Nat → Int) → Mv → Gs → Prop
  | 0, f, m, g, f', m', g' => f = f' ∧ m = m' ∧ g = g'
  | n + 1, f, m, g, f', m', g' => ∃ f1 m1 g1, mstpO T (rng L f) m g = some (m1, g1, rng L f1, false, 0) ∧ m1.nx ≠ 0 ∧ Stps T L n f1 m1 g1 f' m' g'
section
variable {T L n k : Nat} {f f1 f2 : Nat → Int} {m m1 m2 : Mv} {g g1 g2 : Gs}
theorem Stps.nil : Stps T L 0 f m g f m g := ⟨rfl, rfl, rfl⟩
theorem Stps.one (h : mstpO T (rng L f) m g = some (m1, g1, rng L f1, false, 0)) (hn : m1.nx ≠ 0) : Stps T L 1 f m g f1 m1 g1 := ⟨f1, m1, g1, h, hn, rfl, rfl, rfl⟩
theorem Stps.trans {n : Nat} (h : Stps T L n f m g f1 m1 g1) (h' : Stps T L k f1 m1 g1 f2 m2 g2) : Stps T L (n + k) f m g f2 m2 g2 := by
  induction n generalizing f m g with
  | zero => obtain ⟨rfl, rfl, rfl⟩ := h; rw [Nat.zero_add]; exact h'
  | succ n ih =>
    obtain ⟨a, b, c, h1, h2, h3⟩ := h
    rw [Nat.add_right_comm]
    exact ⟨a, b, c, h1, h2, ih h3⟩
theorem Stps.waits {n : Nat} (h : Stps T L n f m g f1 m1 g1) : waitsO T (n + k) (rng L f) m g = waitsO T k (rng L f1) m1 g1 := by
  induction n generalizing f m g with
  | zero => obtain ⟨rfl, rfl, rfl⟩ := h; rw [Nat.zero_add]
  | succ n ih =>
    obtain ⟨a, b, c, h1, h2, h3⟩ := h
    rw [Nat.add_right_comm]
    show waitsO T ((n + k) + 1) (rng L f) m g = _
    simp only [waitsO, h1]
    rw [if_neg (by rintro (h | h); exact h rfl; exact h2 h), if_neg (by decide)]
    exact ih h3
theorem Stps.ends {n i : Nat} (h : Stps T L n f m g f1 m1 g1) : endsO T (n + k) i (rng L f) m g = endsO T k (i + n) (rng L f1) m1 g1 := by
  induction n generalizing f m g i with
  | zero => obtain ⟨rfl, rfl, rfl⟩ := h; rw [Nat.zero_add, Nat.add_zero]
  | succ n ih =>
    obtain ⟨a, b, c, h1, h2, h3⟩ := h
    rw [Nat.add_right_comm]
    show endsO T ((n + k) + 1) i (rng L f) m g = _
    simp only [endsO, h1]
    rw [if_neg (by rintro (h | h); exact absurd h (by decide); exact h rfl), if_neg h2, ih h3]
    congr 1
    omega
/-- The guard is got, where nobody has it. -/
theorem acq (h : m.nx = 1) (he : g.ee = false) (hs : g.se = 1) (ho : g.oe = 0) (h0 : f 0 = 0) (ht : m.t < T) (hL : L = 3 + 6 * T) :
    Stps T L 3 f m g (up1 (up1 (up1 f (nxW 3 (2 * m.t)) 0) (wtW 3 (2 * m.t)) 1) 0 (((2 * m.t : Nat) : Int) + 1)) { m with nx := 2 } { g with se := 4, oe := 0, ee := true } := by
  have l1 : nxW 3 (2 * m.t) < L := by unfold nxW; omega
  have l2 : wtW 3 (2 * m.t) < L := by unfold wtW; omega
  have l0 : 0 < L := by omega
  refine ⟨up1 f (nxW 3 (2 * m.t)) 0, m, { g with se := 2 }, ?_, by omega, up1 (up1 f (nxW 3 (2 * m.t)) 0) (wtW 3 (2 * m.t)) 1, m, { g with se := 3 }, ?_, by omega, _, _, _, ?_, by show (2 : Int) ≠ 0; decide, rfl, rfl, rfl⟩
  · simp [mstpO, h, he, stpO, hs, rng_len, l1, rng_set]
  · simp [mstpO, h, he, stpO, rng_len, l2, rng_set]
  · have e0 : up1 (up1 f (nxW 3 (2 * m.t)) 0) (wtW 3 (2 * m.t)) 1 0 = 0 := by
      rw [up1_far _ _ (by unfold wtW; omega), up1_far _ _ (by unfold nxW; omega), h0]
    simp [mstpO, h, he, stpO, rng_get _ l0, e0, rng_set]
/-- The guard is given back, where nobody waits for it; the thread waits then. -/
theorem rel_w (h : m.nx = 13) (he : g.el = false) (hs : g.sl = 1) (hn : f (nxW 3 (2 * m.t)) = 0) (h0 : f 0 = ((2 * m.t : Nat) : Int) + 1) (ht : m.t < T) (hL : L = 3 + 6 * T) (hw : m.wt = true) :
    Stps T L 2 f m g (up1 f 0 0) { m with nx := 14 } { g with sl := 3, el := true } := by
  have l1 : nxW 3 (2 * m.t) < L := by unfold nxW; omega
  have l0 : 0 < L := by omega
  refine ⟨f, m, { g with sl := 2 }, ?_, by omega, _, _, _, ?_, by show (14 : Int) ≠ 0; decide, rfl, rfl, rfl⟩
  · simp [mstpO, h, he, stpO, hs, rng_get _ l1, hn]
  · simp [mstpO, h, he, stpO, rng_get _ l0, h0, rng_set, hw]
/-- The guard is given back, and the move ends. -/
theorem rel_e (h : m.nx = 13) (he : g.el = false) (hs : g.sl = 1) (hn : f (nxW 3 (2 * m.t)) = 0) (h0 : f 0 = ((2 * m.t : Nat) : Int) + 1) (ht : m.t < T) (hL : L = 3 + 6 * T) (hw : m.wt = false) (i : Nat) :
    endsO T (2 + k) i (rng L f) m g = some (i + 1, { m with nx := 0 }, { g with sl := 3, el := true }, rng L (up1 f 0 0)) := by
  have l1 : nxW 3 (2 * m.t) < L := by unfold nxW; omega
  have l0 : 0 < L := by omega
  have hS : Stps T L 1 f m g f m { g with sl := 2 } := by
    refine Stps.one ?_ (by omega)
    simp [mstpO, h, he, stpO, hs, rng_get _ l1, hn]
  rw [show 2 + k = 1 + (k + 1) by omega, hS.ends]
  have hl : mstpO T (rng L f) m { g with sl := 2 } = some ({ m with nx := 0 }, { g with sl := 3, el := true }, rng L (up1 f 0 0), false, 0) := by
    simp [mstpO, h, he, stpO, rng_get _ l0, h0, rng_set, hw]
  simp only [endsO, hl]
  rw [if_neg (by rintro (h | h); exact absurd h (by decide); exact h rfl)]
  exact if_pos trivial
/-- The words behind the wakings. -/
def wakeF (f : Nat → Int) : List Int → Nat → Int
  | [] => f
  | k :: r => wakeF (up1 f (wtW 3 k.toNat) 0) r
theorem s_st {x : Nat} {v : Int} (hn : m.nx ≠ 1 ∧ m.nx ≠ 13 ∧ m.nx ≠ 14 ∧ m.nx ≠ 2 ∧ m.nx ≠ 3 ∧ m.nx ≠ 8 ∧ m.nx ≠ 9) (hw : wrO m = some (x, v)) (hx : x < L) : mstpO T (rng L f) m g = some (m.stored, g, rng L (up1 f x v), false, 0) := by
  obtain ⟨h1, h2, h3, h4, h5, h6, h7⟩ := hn
  unfold mstpO
  rw [if_neg h1, if_neg h2, if_neg h3, if_neg h4, if_neg h5, if_neg h6, if_neg h7, hw]
  simp only []
  rw [if_pos (by rw [rng_len]; exact hx), rng_set]
theorem s_stc {x : Nat} {v : Int} (c : Int) (hn : m.nx = c) (hc : c ≠ 1 ∧ c ≠ 13 ∧ c ≠ 14 ∧ c ≠ 2 ∧ c ≠ 3 ∧ c ≠ 8 ∧ c ≠ 9) (hw : wrO m = some (x, v)) (hx : x < L) : mstpO T (rng L f) m g = some (m.stored, g, rng L (up1 f x v), false, 0) := by
  subst hn; exact s_st hc hw hx
theorem wake_run (hL : L = 3 + 6 * T) : ∀ (l : List Int) (f : Nat → Int) (m : Mv), m.wk = l → m.s0 = m.s.sh → m.s1 = m.s.w1 → m.nx = m.fin → (∀ y ∈ l, 0 ≤ y ∧ y < 2 * (T : Int)) →
    Stps T L l.length f m g (wakeF f l) { m with nx := 13, wk := [] } g
  | [], f, m, hw, h0, h1, hn, _ => by
    have : m.nx = 13 := by rw [hn]; unfold Mv.fin; rw [if_neg (by simpa using h0), if_neg (by simpa using h1), if_pos hw]
    refine ⟨rfl, ?_, rfl⟩
    cases m
    simp only [Mv.mk.injEq] at *
    exact ⟨trivial, trivial, trivial, this, trivial, trivial, trivial, trivial, hw, trivial, trivial⟩
  | y :: l, f, m, hw, h0, h1, hn, hb => by
    have h12 : m.nx = 12 := by rw [hn]; unfold Mv.fin; rw [if_neg (by simpa using h0), if_neg (by simpa using h1), if_neg (by rw [hw]; simp)]
    obtain ⟨b0, b1⟩ := hb y (by simp)
    have hs : m.stored = { m with wk := l }.finish := by
      unfold Mv.stored
      rw [if_neg (by omega), if_neg (by omega), if_neg (by omega), if_neg (by omega), if_neg (by omega), if_neg (by omega), hw]
      rfl
    have hwr : wrO m = some (wtW 3 y.toNat, 0) := by simp [wrO, h12, hw, b0]
    have hx : wtW 3 y.toNat < L := by unfold wtW; omega
    refine ⟨up1 f (wtW 3 y.toNat) 0, m.stored, g, s_st ⟨by omega, by omega, by omega, by omega, by omega, by omega, by omega⟩ hwr hx, ?_, ?_⟩
    · rw [hs]; have := Mv.fin_in { m with wk := l }; show Mv.fin _ ≠ 0; omega
    · have := wake_run hL l (up1 f (wtW 3 y.toNat) 0) m.stored (by rw [hs]; rfl) (by rw [hs]; exact h0) (by rw [hs]; exact h1) (by rw [hs]; rfl) (fun z hz => hb z (by simp [hz]))
      have e : { m.stored with nx := 13, wk := [] } = { m with nx := 13, wk := [] } := by rw [hs]; rfl
      rw [e] at this
      exact this
/-- The words are stored, the nodes woken. -/
theorem fin_run (hL : L = 3 + 6 * T) (hn : m.nx = m.fin) (h1 : f 1 = m.s0) (h2 : f 2 = m.s1) (hb : ∀ y ∈ m.wk, 0 ≤ y ∧ y < 2 * (T : Int)) :
    ∃ c, c ≤ 2 + m.wk.length ∧ Stps T L c f m g (wakeF (up1 (up1 f 1 m.s.sh) 2 m.s.w1) m.wk) { m with nx := 13, s0 := m.s.sh, s1 := m.s.w1, wk := [] } g := by
  -- the second word
  have snd : ∀ (f : Nat → Int) (m : Mv), m.nx = m.fin → m.s0 = m.s.sh → f 2 = m.s1 → (∀ y ∈ m.wk, 0 ≤ y ∧ y < 2 * (T : Int)) →
      ∃ c, c ≤ 1 + m.wk.length ∧ Stps T L c f m g (wakeF (up1 f 2 m.s.w1) m.wk) { m with nx := 13, s1 := m.s.w1, wk := [] } g := by
    intro f m hn h0 h2 hb
    by_cases e1 : m.s1 = m.s.w1
    · refine ⟨m.wk.length, by omega, ?_⟩
      rw [up1_same f 2 _ (h2.trans e1)]
      have := wake_run (g := g) hL m.wk f m rfl h0 e1 hn hb
      have e : { m with nx := 13, s1 := m.s.w1, wk := [] } = { m with nx := 13, wk := [] } := by rw [← e1]
      rw [e]; exact this
    · have h11 : m.nx = 11 := by rw [hn]; simp [Mv.fin, h0, e1]
      have hs : m.stored = { m with s1 := m.s.w1 }.finish := by unfold Mv.stored; simp [h11]
      have hwr : wrO m = some (2, m.s.w1) := by simp [wrO, h11]
      refine ⟨m.wk.length + 1, by omega, up1 f 2 m.s.w1, m.stored, g, s_st ⟨by omega, by omega, by omega, by omega, by omega, by omega, by omega⟩ hwr (by omega), ?_, ?_⟩
      · rw [hs]; have := Mv.fin_in { m with s1 := m.s.w1 }; show Mv.fin _ ≠ 0; omega
      · have := wake_run (g := g) hL m.wk (up1 f 2 m.s.w1) m.stored (by rw [hs]; rfl) (by rw [hs]; exact h0) (by rw [hs]; rfl) (by rw [hs]; rfl) hb
        have e : { m.stored with nx := 13, wk := [] } = { m with nx := 13, s1 := m.s.w1, wk := [] } := by rw [hs]; rfl
        rw [e] at this
        exact this
  by_cases e0 : m.s0 = m.s.sh
  · obtain ⟨c, hc, hS⟩ := snd f m hn e0 h2 hb
    refine ⟨c, by omega, ?_⟩
    rw [up1_same f 1 _ (by rw [h1, e0])]
    have e : { m with nx := 13, s0 := m.s.sh, s1 := m.s.w1, wk := [] } = { m with nx := 13, s1 := m.s.w1, wk := [] } := by rw [← e0]
    rw [e]; exact hS
  · have h10 : m.nx = 10 := by rw [hn]; simp [Mv.fin, e0]
    have hs : m.stored = { m with s0 := m.s.sh }.finish := by unfold Mv.stored; simp [h10]
    have hwr : wrO m = some (1, (m.s.sh : Int)) := by simp [wrO, h10]
    obtain ⟨c, hc, hS⟩ := snd (up1 f 1 m.s.sh) m.stored (by rw [hs]; rfl) (by rw [hs]; rfl) (by rw [hs, up1_far _ _ (by decide)]; exact h2) (by rw [hs]; exact hb)
    have e : { m.stored with nx := 13, s1 := m.stored.s.w1, wk := [] } = { m with nx := 13, s0 := m.s.sh, s1 := m.s.w1, wk := [] } := by rw [hs]; rfl
    have e2 : m.stored.wk = m.wk := by rw [hs]; rfl
    have e3 : m.stored.s = m.s := by rw [hs]; rfl
    rw [e, e2, e3] at hS
    rw [e2] at hc
    refine ⟨c + 1, by omega, up1 f 1 m.s.sh, m.stored, g, s_st ⟨by omega, by omega, by omega, by omega, by omega, by omega, by omega⟩ hwr (by omega), ?_, hS⟩
    rw [hs]; have := Mv.fin_in { m with s0 := m.s.sh }; show Mv.fin _ ≠ 0; omega
end
/-- Both words of a state say it. -/
theorem w1_nat {s : LS} (h : s.Fit) : ((s.w1.toNat : Nat) : Int) = s.w1 ∧ s.w1 < 281474976710656 := by
  obtain ⟨_, hu, he, hw, hg, hf, hl⟩ := h
  unfold LS.w1
  omega
theorem rd_w1 {s : LS} (h : s.Fit) : rdLS s.sh s.w1.toNat = s := by
  obtain ⟨hx, _⟩ := w1_nat h
  obtain ⟨_, hu, he, hw, hg, hf, hl⟩ := h
  unfold LS.w1 at hx
  have key : ∀ x : Nat, x = s.w1.toNat → rdLS s.sh x = s := by
    intro x e
    have hx' : (x : Int) = (s.up + 1) + (s.ex + 1) * 256 + (s.wa + 1) * 65536 + (s.fi + 1) * 16777216 + (s.la + 1) * 4294967296 + s.gr * 1099511627776 := by rw [e]; exact hx
    have e0 : nmI x 0 = s.up + 1 := by show ((x / 2 ^ 0 % 256 : Nat) : Int) = _; simp only [Nat.pow_zero, Nat.div_one]; omega
    have e1 : nmI x 1 = s.ex + 1 := by show ((x / 2 ^ 8 % 256 : Nat) : Int) = _; simp only [show (2 : Nat) ^ 8 = 256 from rfl]; omega
    have e2 : nmI x 2 = s.wa + 1 := by show ((x / 2 ^ 16 % 256 : Nat) : Int) = _; simp only [show (2 : Nat) ^ 16 = 65536 from rfl]; omega
    have e3 : nmI x 3 = s.fi + 1 := by show ((x / 2 ^ 24 % 256 : Nat) : Int) = _; simp only [show (2 : Nat) ^ 24 = 16777216 from rfl]; omega
    have e4 : nmI x 4 = s.la + 1 := by show ((x / 2 ^ 32 % 256 : Nat) : Int) = _; simp only [show (2 : Nat) ^ 32 = 4294967296 from rfl]; omega
    have e5 : nmI x 5 = s.gr := by show ((x / 2 ^ 40 % 256 : Nat) : Int) = _; simp only [show (2 : Nat) ^ 40 = 1099511627776 from rfl]; omega
    unfold rdLS
    rw [e0, e1, e2, e3, e4, e5]
    cases s
    simp
  exact key _ rfl
theorem rdB_w1 {s : LS} {T : Nat} (hT : T ≤ 64) (h : s.may T = true) : rdB T s.sh s.w1.toNat = true := by
  have hf := (may_gd hT h).fit hT
  have hx := w1_nat hf
  unfold rdB
  rw [rd_w1 hf, h, Bool.and_true, decide_eq_true_eq]
  omega
end Go.Proofs.YtjhidkjhfgbaeaaGreatDoor
