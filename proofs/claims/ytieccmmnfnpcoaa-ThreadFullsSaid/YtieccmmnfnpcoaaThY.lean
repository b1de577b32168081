/- Stage 12: a machine as data, and where it lies; what it does, by what the data do. -/
import Derived.Test.YtieccmmnfnpcoaaThX
namespace Go.Proofs.Ytieccmmnfnpcoaa
open Go.ChangeShapes Go.WideShapes Go.ChangeAt Go.RowKit
set_option linter.unusedVariables false
/-! What a step does to the words. -/
theorem mm_back (ws : List Int) (a : Acc) (ha : a.k ≠ 0 ∨ a = acc0) : ((mRes ws a).k = 0 ∧ mWs ws a = ws) ∨ ((mRes ws a).k ≠ 0 ∧ ∃ n : Nat, (mRes ws a).w = n ∧ n < ws.length ∧ (mWs ws a).length = ws.length ∧ (mWs ws a).set n (mRes ws a).b = ws) := by
  unfold mRes mWs
  by_cases he : mErr ws.length a.k a.w = 0
  · rw [if_pos he, if_pos he]
    right
    have hk : a.k ≠ 0 := by
      rcases ha with h | h
      · exact h
      · subst h; unfold mErr acc0 at he; simp at he
    have hw : 0 ≤ a.w ∧ a.w < ws.length := by
      unfold mErr at he
      split at he
      · cases he
      · split at he
        · cases he
        · omega
    refine ⟨hk, a.w.toNat, by simp; omega, by omega, by simp, ?_⟩
    rw [List.set_set]
    apply List.ext_getElem?; intro j; rw [List.getElem?_set]; split
    · rename_i e; subst e; rw [if_pos (by omega), List.getD_eq_getElem?_getD, List.getElem?_eq_getElem (by omega)]; rfl
    · rfl
  · rw [if_neg he, if_neg he]
    exact .inl ⟨rfl, rfl⟩
theorem iacc_k (y : Ins) (g : List Int) : (iacc y g).k ≠ 0 ∨ iacc y g = acc0 := by
  unfold iacc
  split
  · left; simp
  · split
    · left; simp
    · split
      · left; simp
      · split
        · left; simp
        · right; rfl
theorem cstep_back (ws : List Int) (x : Cd) (y : Ins) : ((cstep ws x y).did.k = 0 ∧ (cstep ws x y).ws = ws) ∨ ((cstep ws x y).did.k ≠ 0 ∧ ∃ n : Nat, (cstep ws x y).did.w = n ∧ n < ws.length ∧ (cstep ws x y).ws.length = ws.length ∧ (cstep ws x y).ws.set n (cstep ws x y).did.b = ws) := by
  unfold cstep; split
  · exact .inl ⟨rfl, rfl⟩
  · have hb := mm_back ws (iacc y x.g) (iacc_k y x.g)
    split
    · rename_i h5
      have ha : iacc y x.g = ⟨1, y.w, 0, 0⟩ := by unfold iacc; rw [if_pos (.inr h5.1)]
      rw [ha] at hb ⊢
      rw [mWs_load] at hb
      exact hb
    · exact hb
theorem nxt_back (P : Rp) (ws : List Int) (ok : ROk P) (hen : P.en = false) : ((nxt P ws).did.k = 0 ∧ (nxt P ws).ws = ws) ∨ ((nxt P ws).did.k ≠ 0 ∧ ∃ n : Nat, (nxt P ws).did.w = n ∧ n < ws.length ∧ (nxt P ws).ws.length = ws.length ∧ (nxt P ws).ws.set n (nxt P ws).did.b = ws) := by
  obtain ⟨l, t, y, hL, hy, hw⟩ := nxt_way P ws ok hen
  have hb := cstep_back ws ⟨l, P.g, P.pc, 0⟩ y
  rcases hw with ⟨e, he, hc, hN⟩ | ⟨did, hc, hN⟩ | ⟨g, nx, r, ws', did, hc, hg, hnx, hr, hN⟩
  · rw [hN]; exact .inl ⟨rfl, rfl⟩
  · rw [hc] at hb; rw [hN]; exact hb
  · rw [hc] at hb; rw [hN]; exact hb
theorem nxt_len (P : Rp) (ws : List Int) (ok : ROk P) (hen : P.en = false) : (nxt P ws).ws.length = ws.length := by
  rcases nxt_back P ws ok hen with ⟨_, h⟩ | ⟨_, n, _, _, h, _⟩
  · rw [h]
  · exact h
theorem nxt_err (P : Rp) (ws : List Int) (ok : ROk P) (hen : P.en = false) (he : (nxt P ws).e ≠ 0) : (nxt P ws).P = P ∧ (nxt P ws).ws = ws ∧ (nxt P ws).wt = false := by
  obtain ⟨l, t, y, hL, hy, ⟨e, he', hc, hN⟩ | ⟨did, hc, hN⟩ | ⟨g, nx, r, ws', did, hc, hg, hnx, hr, hN⟩⟩ := nxt_way P ws ok hen
  · rw [hN]; exact ⟨rfl, rfl, rfl⟩
  · rw [hN] at he; exact absurd rfl he
  · rw [hN] at he; exact absurd rfl he

/-! The data. -/
structure Td where
  P : Rp
  st : Nat
  lk : Nat
structure Md where
  ws : List Int
  ts : List Td
structure Dd where
  i : Int
  a : Acc
  wt : Bool
  en : Bool
def dd0 : Dd := ⟨0, acc0, false, false⟩
def Dd.val (d : Dd) : Value := didV d.i d.a d.wt d.en
/-- A step of a thread that is there and has not ended. -/
def Md.go (M : Md) (i : Nat) (t : Td) : Md × Dd × Int :=
  if (nxt t.P M.ws).e ≠ 0 then (M, dd0, (nxt t.P M.ws).e)
  else (⟨(nxt t.P M.ws).ws, M.ts.set i ⟨(nxt t.P M.ws).P, t.st + 1, if (nxt t.P M.ws).wt then t.lk + 1 else t.lk⟩⟩, ⟨i, (nxt t.P M.ws).did, (nxt t.P M.ws).wt, (nxt t.P M.ws).P.en⟩, 0)
structure Ti where
  ch : Bool
  q : Nat
  t : Td
def Ti.tv (x : Ti) : Tv := ⟨tPg x.ch, x.q, x.t.st, x.t.lk⟩
structure MachAt (w : World) (F : List Nat) (X : Mb) (ts : List Ti) : Prop where
  b : MbAt w X
  tv : X.tv = ts.map Ti.tv
  pg : ∃ Bf : Nat → List Nat, (∀ (i : Nat) (x : Ti), ts[i]? = some x → PgAt w x.ch x.q (Bf i) x.t.P ∧ ∀ y ∈ Bf i, y ∈ F) ∧ ∀ (i j : Nat) (x y : Ti), ts[i]? = some x → ts[j]? = some y → i ≠ j → ∀ z ∈ Bf i, z ∉ Bf j
  fq : X.q ∈ F
  fp : X.p ∈ F
  fd : X.d ∈ F
  ft : ∀ y ∈ bkG X.ta, y ∈ F
  lt : ∀ y ∈ F, y < w.heap.size
def md (X : Mb) (ts : List Ti) : Md := ⟨X.ws, ts.map Ti.t⟩
def MAt (w : World) (F : List Nat) (q : Nat) (M : Md) : Prop := ∃ X ts, X.q = q ∧ MachAt w F X ts ∧ md X ts = M
/-- The world has gone on, but for some blocks of F, none of which has instructions. -/
def Go (F : List Nat) (w w' : World) : Prop := ∃ D, Frm D w w' ∧ ∀ x ∈ D, x ∈ F ∧ NI w x
theorem Go.of {F : List Nat} {w w' : World} (h : Frm [] w w') : Go F w w' := ⟨[], h, by simp⟩
theorem Go.trans {F : List Nat} {a b c : World} (h : Go F a b) (k : Go F b c) : Go F a c := by
  obtain ⟨D, hf, hd⟩ := h
  obtain ⟨E, kf, ke⟩ := k
  refine ⟨D ++ E, (hf.weak (by intro x hx; simp [hx])).trans (kf.weak (by intro x hx; simp [hx])), fun x hx => ?_⟩
  rcases List.mem_append.1 hx with h | h
  · exact hd x h
  · refine ⟨(ke x h).1, ?_⟩
    by_cases hD : x ∈ D
    · exact (hd x hD).2
    · intro cs f hc
      exact (ke x h).2 cs f (hf.heap hc hD)
theorem Go.weak {F F' : List Nat} {w w' : World} (h : Go F w w') (hs : ∀ x ∈ F, x ∈ F') : Go F' w w' := by
  obtain ⟨D, hf, hd⟩ := h; exact ⟨D, hf, fun x hx => ⟨hs x (hd x hx).1, (hd x hx).2⟩⟩
theorem Go.frm {F : List Nat} {w w' : World} (h : Go F w w') : Frm F w w' := by
  obtain ⟨D, hf, hd⟩ := h; exact hf.weak fun x hx => (hd x hx).1
theorem ni_old {D : List Nat} {w w' : World} (hf : Frm D w w') {x : Nat} (h : NI w' x) (hx : x ∉ D) : NI w x := fun cs f hc => h cs f (hf.heap hc hx)
theorem MbAt.ni {w : World} {X : Mb} (h : MbAt w X) : NI w X.q ∧ NI w X.p ∧ NI w X.d ∧ ∀ x ∈ bkG X.ta, NI w x := by
  obtain ⟨ds, hds, _⟩ := h.mem.arr
  refine ⟨ni_of h.obj (by decide), ni_of h.mem.obj (by decide), ni_of hds (by decide), fun x hx => ?_⟩
  obtain ⟨_, _, ⟨hh, _⟩ | ⟨g, cs, hg, _, hb, _⟩⟩ := h.row
  · rw [hh] at hx; simp [bkG] at hx
  · rw [hg] at hx; simp [bkG] at hx; subst hx; exact ni_of hb (by decide)
/-- The blocks of a program are none of a machine's own. -/
theorem PgAt.far {w : World} {ch : Bool} {q : Nat} {B : List Nat} {P : Rp} (h : PgAt w ch q B P) {X : Mb} (hX : MbAt w X) : ∀ x ∈ B, x ≠ X.q ∧ x ≠ X.p ∧ x ≠ X.d ∧ x ∉ bkG X.ta := by
  have key : ∀ (x : Nat) (cs : Array Value) (t : TypeId), w.heap[x]? = some (.cells cs t (0, 0)) → t ≠ 93 → t ≠ 115 → t ≠ 28 → t ≠ 121 → x ≠ X.q ∧ x ≠ X.p ∧ x ≠ X.d ∧ x ∉ bkG X.ta := by
    intro x cs t hx h1 h2 h3 h4
    obtain ⟨ds, hds, _⟩ := hX.mem.arr
    exact ⟨blk_ne hx hX.obj h1, blk_ne hx hX.mem.obj h2, blk_ne hx hds h3, hX.tne hx h4⟩
  cases h with
  | code h ok r => intro x hx; simp at hx; subst hx; exact key _ _ _ h.obj (by decide) (by decide) (by decide) (by decide)
  | chain h ok hl r =>
    intro x hx
    simp only [List.mem_cons, List.mem_map] at hx
    rcases hx with rfl | rfl | ⟨e, he, rfl⟩
    · exact key _ _ _ h.obj (by decide) (by decide) (by decide) (by decide)
    · obtain ⟨cs, h1, _⟩ := h.row; exact key _ _ _ h1 (by decide) (by decide) (by decide) (by decide)
    · obtain ⟨i, hi⟩ := List.getElem?_of_mem he; exact key _ _ _ (h.code i e hi).obj (by decide) (by decide) (by decide) (by decide)
namespace MachAt
variable {w w' : World} {F : List Nat} {X : Mb} {ts : List Ti}
theorem thr (h : MachAt w F X ts) {i : Nat} {x : Ti} (hx : ts[i]? = some x) : X.tv[i]? = some x.tv := by rw [h.tv, List.getElem?_map, hx]; rfl
theorem len (h : MachAt w F X ts) : X.tv.length = ts.length := by rw [h.tv, List.length_map]
/-- Something else has gone on. -/
theorem other {G : List Nat} (h : MachAt w F X ts) (hg : Go G w w') (hd : ∀ x ∈ F, x ∉ G) : MachAt w' F X ts := by
  obtain ⟨D, hf, hD⟩ := hg
  have hn : ∀ x ∈ F, x ∉ D := fun x hx hx2 => hd x hx (hD x hx2).1
  obtain ⟨Bf, h1, h2⟩ := h.pg
  exact ⟨h.b.frm hf (hn _ h.fq) (hn _ h.fp) (hn _ h.fd) (fun x hx => hn _ (h.ft x hx)), h.tv, ⟨Bf, fun i x hx => ⟨(h1 i x hx).1.frm hf (fun y hy => hn y ((h1 i x hx).2 y hy)) (fun y hy => (hD y hy).2), (h1 i x hx).2⟩, h2⟩, h.fq, h.fp, h.fd, h.ft, fun y hy => Nat.lt_of_lt_of_le (h.lt y hy) hf.size⟩
theorem quiet (h : MachAt w F X ts) (hf : Frm [] w w') : MachAt w' F X ts := h.other (G := []) (Go.of hf) (by simp)
/-- A step of one thread in memory. -/
theorem stepped (h : MachAt w F X ts) {i : Nat} {x : Ti} (hx : ts[i]? = some x) {B : List Nat} {Y : Mb} {x' : Ti} {D : List Nat} (hf : Frm D w w') (hD : ∀ y ∈ D, NI w y)
    (hb : MbAt w' Y) (hY : Y.q = X.q ∧ Y.p = X.p ∧ Y.d = X.d ∧ Y.ta = X.ta) (htv : Y.tv = (ts.set i x').map Ti.tv)
    (hB : ∃ Bf : Nat → List Nat, (∀ (i : Nat) (x : Ti), ts[i]? = some x → PgAt w x.ch x.q (Bf i) x.t.P ∧ ∀ y ∈ Bf i, y ∈ F) ∧ (∀ (i j : Nat) (x y : Ti), ts[i]? = some x → ts[j]? = some y → i ≠ j → ∀ z ∈ Bf i, z ∉ Bf j) ∧ (∀ y ∈ B, y ∈ Bf i) ∧ (∀ (j : Nat) (y : Ti), ts[j]? = some y → j ≠ i → ∀ z ∈ Bf j, z ∉ D))
    (hp : PgAt w' x'.ch x'.q B x'.t.P) : MachAt w' F Y (ts.set i x') := by
  obtain ⟨Bf, h1, h2, h3, h4⟩ := hB
  have hi : i < ts.length := (List.getElem?_eq_some_iff.1 hx).1
  obtain ⟨e1, e2, e3, e4⟩ := hY
  refine ⟨hb, htv, ⟨fun j => if j = i then B else Bf j, fun j y hy => ?_, fun j k y z hy hz hjk => ?_⟩, by rw [e1]; exact h.fq, by rw [e2]; exact h.fp, by rw [e3]; exact h.fd, by rw [e4]; exact h.ft, fun y hy => Nat.lt_of_lt_of_le (h.lt y hy) hf.size⟩
  · rw [List.getElem?_set] at hy
    by_cases e : i = j
    · subst e
      rw [if_pos rfl, if_pos hi] at hy
      cases hy
      dsimp only
      rw [if_pos rfl]
      exact ⟨hp, fun y hy => (h1 i x hx).2 y (h3 y hy)⟩
    · rw [if_neg e] at hy
      dsimp only
      rw [if_neg (fun e2 => e e2.symm)]
      exact ⟨(h1 j y hy).1.frm hf (h4 j y hy (fun e2 => e e2.symm)) hD, (h1 j y hy).2⟩
  · have old : ∀ (j : Nat) (y : Ti), (ts.set i x')[j]? = some y → ∃ y', ts[j]? = some y' := fun j y hy => by
      rw [List.getElem?_set] at hy
      by_cases e : i = j
      · subst e; exact ⟨x, hx⟩
      · rw [if_neg e] at hy; exact ⟨y, hy⟩
    obtain ⟨y', hy'⟩ := old j y hy
    obtain ⟨z', hz'⟩ := old k z hz
    intro u hu
    dsimp only at hu ⊢
    have hu' : u ∈ Bf j := by
      split at hu
      · rename_i e; subst e; exact h3 u hu
      · exact hu
    have := h2 j k y' z' hy' hz' hjk u hu'
    split
    · rename_i e; subst e; exact fun h => this (h3 u h)
    · exact this
end MachAt
#print axioms MachAt.stepped
end Go.Proofs.Ytieccmmnfnpcoaa
