/- Where everything lies in VersionPlays: the arena, the programs and the runs, in rows that grow; whose block is whose by tags. -/
import Derived.Test.YtbhnijkphkkalaaVpM
import Derived.Test.YtbhnijkphkkalaaGrV
namespace Go.Proofs.Ytbhnijkphkkalaa
open Go.ChangeShapes Go.WideShapes Go.ChangeAt Go.RowKit
set_option linter.unusedVariables false

/-- A program and its run: where the first lies, both as data, what was read. -/
structure En where
  q : Nat
  b : Nat
  c : Nat
  P : Pg
  R : RV
  rl : List Int
def pvE (x : En) : List Value := [.iface (Ip x.P.R) (.pointer (some ⟨x.q, 0, none⟩))]
/-- A writer's step keeps its words. -/
theorem stp_keep {P : Pg} {ws : List Int} (hR : P.R = false) (hk : P.st = 1 ∨ P.st = 2 → P.k = 0) : (stp P ws).2.2.1.buf = P.buf ∧ ((stp P ws).2.2.1.st = 1 ∨ (stp P ws).2.2.1.st = 2 → (stp P ws).2.2.1.k = 0) := by
  have n1 := nxt_cases P.k P.buf.length
  have n2 := nxt_cases (P.k + 1) P.buf.length
  obtain ⟨R, L, F, buf, k, st, was, res, tr⟩ := P
  simp only at hR hk n1 n2
  subst hR
  unfold stp
  simp only
  split
  · exact ⟨rfl, hk⟩
  · split
    · exact ⟨rfl, hk⟩
    · split
      · rename_i s1
        split
        · exact ⟨rfl, hk⟩
        · exact ⟨rfl, fun _ => hk (.inl s1)⟩
      · simp only [Bool.false_eq_true, if_false]
        split
        · refine ⟨rfl, fun h => ?_⟩
          simp only at h
          omega
        · split
          · refine ⟨rfl, fun h => ?_⟩
            simp only at h
            omega
          · refine ⟨rfl, fun h => ?_⟩
            simp only at h
            omega
structure EnAt (w0 w : World) (own : Nat → Nat) (tag : Nat) (x : En) : Prop where
  at_ : At w x.q x.b x.c x.P
  oq : own x.q = tag
  ob : own x.b = tag
  nq : w0.heap.size ≤ x.q
  nb : w0.heap.size ≤ x.b
  ok : Ok x.P
  nn : ∀ v ∈ x.P.buf, 0 ≤ v
  k0 : x.P.R = false → x.P.st = 1 ∨ x.P.st = 2 → x.P.k = 0
  re : Re x.P x.R x.rl
  la : x.P.R = false → ∃ lb lo, Li .u64 w x.R.la x.R.ln x.R.lc lb lo x.P.buf ∧ (0 < x.R.ln → own lb = 3)
  ra : ∃ rb ro, Li .u64 w x.R.ra x.R.rn x.R.rcap rb ro x.rl
  rao : ∀ y ∈ bkO x.R.ra, own y = 3 ∧ y < w.heap.size
theorem EnAt.frm {w0 w w' : World} {own : Nat → Nat} {tag : Nat} {x : En} {D : List Nat} (h : EnAt w0 w own tag x) (hf : Frm D w w') (hD : ∀ y ∈ D, own y ≠ tag ∧ own y ≠ 3) : EnAt w0 w' own tag x := by
  refine ⟨h.at_.frm hf (fun hx => (hD _ hx).1 h.oq) (fun hx => (hD _ hx).1 h.ob), h.oq, h.ob, h.nq, h.nb, h.ok, h.nn, h.k0, h.re, fun hR => ?_, ?_, fun y hy => ⟨(h.rao y hy).1, Nat.lt_of_lt_of_le (h.rao y hy).2 hf.size⟩⟩
  · obtain ⟨lb, lo, hL, ho⟩ := h.la hR
    exact ⟨lb, lo, hL.frm hf (fun hn hx => (hD _ hx).2 (ho hn)), ho⟩
  · obtain ⟨rb, ro, hL⟩ := h.ra
    exact ⟨rb, ro, hL.frm hf (fun hn hx => (hD _ hx).2 (h.rao rb (by rw [hL.ad hn]; simp [bkO])).1)⟩
theorem EnAt.own {w0 w : World} {own own' : Nat → Nat} {tag : Nat} {x : En} (h : EnAt w0 w own tag x) (ho : ∀ y, y < w.heap.size → own' y = own y) : EnAt w0 w own' tag x := by
  refine ⟨h.at_, (ho _ h.at_.lt.1).trans h.oq, (ho _ h.at_.lt.2).trans h.ob, h.nq, h.nb, h.ok, h.nn, h.k0, h.re, fun hR => ?_, h.ra, fun y hy => ⟨(ho _ (h.rao y hy).2).trans (h.rao y hy).1, (h.rao y hy).2⟩⟩
  obtain ⟨lb, lo, hL, hh⟩ := h.la hR
  exact ⟨lb, lo, hL, fun hn => (ho _ (hL.lt hn)).trans (hh hn)⟩
structure Gs (w0 w : World) (own : Nat → Nat) (p d c g oo cg nl : Nat) (ws : List Int) (a1 : Option Addr) (c1 : Nat) (a2 : Option Addr) (c2 m : Nat) (en : Nat → En) : Prop where
  frm : Frm [] w0 w
  dn : w0.heap.size ≤ d
  mem : MemAt w p d c ws
  op : own p = 0
  od : own d = 0
  pos : ∀ x ∈ ws, 0 ≤ x
  len : ws.length = nl
  rd : Rd w (.slice (some ⟨g, oo, none⟩) nl cg) (u64s ws)
  og : own g = 3
  pr : Gr 46 1 w0.heap.size w a1 m c1 (fun i => pvE (en i))
  o1 : ∀ y ∈ bkG a1, own y = 1
  rn : Gr 48 11 w0.heap.size w a2 m c2 (fun i => (en i).R.cells)
  o2 : ∀ y ∈ bkG a2, own y = 2
  ps : ∀ i, i < m → EnAt w0 w own (i + 4) (en i)
  old : ∀ y, y < w0.heap.size → own y = 3
theorem Gr.disj {T T' : TypeId} {s s' B B' : Nat} {w : World} {a a' : Option Addr} {n n' c c' : Nat} {f f' : Nat → List Value} (h : Gr T s B w a n c f) (h' : Gr T' s' B' w a' n' c' f') (ht : T' ≠ T) : ∀ x ∈ bkG a, x ∉ bkG a' := by
  obtain ⟨_, _, ⟨rfl, _⟩ | ⟨g', cs', rfl, _, hh, _⟩⟩ := h'
  · intro x _ hx; simp [bkG] at hx
  · intro x hx hx'
    simp [bkG] at hx'
    exact h.ne hh ht x hx hx'
theorem upd_map {α : Type} {f : α → List Value} (en : Nat → α) (i : Nat) (x : α) : (fun j => f (upd en i x j)) = upd (fun j => f (en j)) i (f x) := by
  funext j; unfold upd; split <;> rfl
theorem rcells_len (R : RV) : R.cells.length = 11 := rfl
theorem rcells_one (R : RV) : ∀ u ∈ R.cells, u.oneCell' = true := by
  intro u hu; simp [RV.cells] at hu
  rcases hu with rfl | rfl | rfl | rfl | rfl | rfl | rfl | rfl | rfl | rfl | rfl <;> rfl
theorem pvE_one (x : En) : ∀ u ∈ pvE x, u.oneCell' = true := by intro u hu; simp [pvE] at hu; subst hu; rfl
theorem info_run2 : (Try.prog.info? 48).map (fun i => (i.zero, i.size, i.bytes)) = some (some (.agg #[.bool false, .int .i64 0, .int .i64 0, .slice none 0 0, .int .i64 0, .int .i64 0, .int .i64 0, .int .u64 0, .slice none 0 0, .int .u64 0, .bool false]), 11, 120) := by kernel_rfl
theorem info_prog2 : (Try.prog.info? 46).map (fun i => (i.zero, i.size, i.bytes)) = some (some .nilIface, 1, 16) := by kernel_rfl
section
variable {w0 w w' : World} {own own' : Nat → Nat} {p d c g oo cg nl : Nat} {ws ws' : List Int} {a1 a2 : Option Addr} {c1 c2 m : Nat} {en : Nat → En}
theorem Gs.glt (h : Gs w0 w own p d c g oo cg nl ws a1 c1 a2 c2 m en) : g < w.heap.size := h.rd.cells.1
theorem Gs.move {D : List Nat} (h : Gs w0 w own p d c g oo cg nl ws a1 c1 a2 c2 m en) (hf : Frm D w w') (hB : ∀ y ∈ D, w0.heap.size ≤ y) (hD : ∀ y ∈ D, own y ≠ 0 ∧ own y ≠ 1 ∧ own y ≠ 2 ∧ own y ≠ 3) (hE : ∀ i, i < m → ∀ y ∈ D, own y ≠ i + 4) : Gs w0 w' own p d c g oo cg nl ws a1 c1 a2 c2 m en :=
  ⟨h.frm.trans_new hf (fun y hy => .inr (hB y hy)), h.dn, h.mem.frm hf (fun hx => (hD _ hx).1 h.op) (fun hx => (hD _ hx).1 h.od), h.op, h.od, h.pos, h.len, h.rd.frm hf (by intro y hy; simp [Value.ownBlock] at hy; subst hy; exact fun hx => (hD _ hx).2.2.2 h.og), h.og,
    h.pr.frm hf (fun x hx hxD => (hD _ hxD).2.1 (h.o1 x hx)), h.o1, h.rn.frm hf (fun x hx hxD => (hD _ hxD).2.2.1 (h.o2 x hx)), h.o2, fun i hi => (h.ps i hi).frm hf (fun y hy => ⟨hE i hi y hy, (hD y hy).2.2.2⟩), h.old⟩
theorem Gs.quiet (h : Gs w0 w own p d c g oo cg nl ws a1 c1 a2 c2 m en) (hf : Frm [] w w') : Gs w0 w' own p d c g oo cg nl ws a1 c1 a2 c2 m en :=
  h.move hf (by simp) (by simp) (by simp)
theorem Gs.retag (h : Gs w0 w own p d c g oo cg nl ws a1 c1 a2 c2 m en) (ho : ∀ y, y < w.heap.size → own' y = own y) : Gs w0 w own' p d c g oo cg nl ws a1 c1 a2 c2 m en :=
  ⟨h.frm, h.dn, h.mem, (ho _ h.mem.plt).trans h.op, (ho _ h.mem.dlt).trans h.od, h.pos, h.len, h.rd, (ho _ h.glt).trans h.og, h.pr, fun y hy => (ho _ (h.pr.from_ y hy).2).trans (h.o1 y hy), h.rn, fun y hy => (ho _ (h.rn.from_ y hy).2).trans (h.o2 y hy), fun i hi => (h.ps i hi).own ho, fun y hy => (ho y (by have := h.frm.size; omega)).trans (h.old y hy)⟩
/-- One more. -/
theorem Gs.add (h : Gs w0 w own p d c g oo cg nl ws a1 c1 a2 c2 m en) {x : En} {w1 w3 w4 w5 : World} {a1' a2' : Option Addr} {c1' c2' : Nat}
    (f00 : Frm [] w w1) (hx : At w1 x.q x.b x.c x.P) (hq : w.heap.size ≤ x.q) (hb : w.heap.size ≤ x.b) (hok : Ok x.P) (hnn : ∀ v ∈ x.P.buf, 0 ≤ v) (hk0 : x.P.R = false → x.P.st = 1 ∨ x.P.st = 2 → x.P.k = 0) (hre : Re x.P x.R x.rl)
    (hla : x.P.R = false → ∃ lb lo, Li .u64 w x.R.la x.R.ln x.R.lc lb lo x.P.buf ∧ (0 < x.R.ln → own lb = 3)) (hra : x.R.ra = none ∧ x.R.rn = 0 ∧ x.R.rcap = 0 ∧ x.rl = [])
    (f1 : Frm (bkG a1) w1 w3) (g1 : Gr 46 1 w0.heap.size w3 a1' (m + 1) c1' (upd (fun i => pvE (en i)) m (pvE x))) (b1 : ∀ y ∈ bkG a1', y ∈ bkG a1 ∨ w1.heap.size ≤ y)
    (f0 : Frm [] w3 w4) (f2 : Frm (bkG a2) w4 w5) (g2 : Gr 48 11 w0.heap.size w5 a2' (m + 1) c2' (upd (fun i => (en i).R.cells) m x.R.cells)) (b2 : ∀ y ∈ bkG a2', y ∈ bkG a2 ∨ w4.heap.size ≤ y) :
    ∃ own', Gs w0 w5 own' p d c g oo cg nl ws a1' c1' a2' c2' (m + 1) (upd en m x) := by
  have z0 := h.frm.size
  have z1 := f00.size
  have z3 := f1.size
  have z4 := f0.size
  obtain ⟨own', hown⟩ : ∃ own' : Nat → Nat, own' = fun y => if y < w.heap.size then own y else if y = x.q ∨ y = x.b then m + 4 else if y ∈ bkG a1' then 1 else if y ∈ bkG a2' then 2 else 3 := ⟨_, rfl⟩
  have ho : ∀ y, y < w.heap.size → own' y = own y := fun y hy => by rw [hown]; exact if_pos hy
  have h1 := (h.retag ho).quiet f00
  have l1 := hx.lt
  have hxq : own' x.q = m + 4 := by rw [hown]; show (if _ then _ else _) = _; rw [if_neg (by omega), if_pos (.inl rfl)]
  have hxb : own' x.b = m + 4 := by rw [hown]; show (if _ then _ else _) = _; rw [if_neg (by omega), if_pos (.inr rfl)]
  have g15 : Gr 46 1 w0.heap.size w5 a1' (m + 1) c1' (upd (fun i => pvE (en i)) m (pvE x)) ∧ ∀ y ∈ bkG a1', y ∉ bkG a2 := by
    have g14 := g1.frm0 f0
    have r4 : Gr 48 11 w0.heap.size w4 a2 m c2 (fun i => (en i).R.cells) := (h1.rn.frm f1 (fun y hy hy1 => by have e1 := h1.o2 y hy; have e2 := h1.o1 y hy1; omega)).frm0 f0
    have hd : ∀ y ∈ bkG a1', y ∉ bkG a2 := fun y hy hy2 => g14.disj r4 (by decide) y hy hy2
    exact ⟨g14.frm f2 hd, hd⟩
  have hd5 : ∀ y ∈ bkG a1', y ∉ bkG a2' := fun y hy hy2 => g15.1.disj g2 (by decide) y hy hy2
  have n1 : ∀ y ∈ bkG a1', own' y = 1 := fun y hy => by
    rcases b1 y hy with e | e
    · exact h1.o1 y e
    · rw [hown]; show (if _ then _ else _) = _
      rw [if_neg (by omega), if_neg (by omega), if_pos hy]
  have n2 : ∀ y ∈ bkG a2', own' y = 2 := fun y hy => by
    rcases b2 y hy with e | e
    · exact h1.o2 y e
    · rw [hown]; show (if _ then _ else _) = _
      rw [if_neg (by omega), if_neg (by omega), if_neg (fun hh => hd5 y hh hy), if_pos hy]
  have t1 : ∀ y ∈ bkG a1, own' y = 1 := h1.o1
  have t2 : ∀ y ∈ bkG a2, own' y = 2 := h1.o2
  have fr1 : ∀ y ∈ bkG a1, w0.heap.size ≤ y := fun y hy => (h.pr.from_ y hy).1
  have fr2 : ∀ y ∈ bkG a2, w0.heap.size ≤ y := fun y hy => (h.rn.from_ y hy).1
  have xe : EnAt w0 w1 own' (m + 4) x := by
    refine ⟨hx, hxq, hxb, by omega, by omega, hok, hnn, hk0, hre, fun hR => ?_, ?_, ?_⟩
    · obtain ⟨lb, lo, hL, hh⟩ := hla hR
      exact ⟨lb, lo, hL.frm0 f00, fun hn => (ho _ (hL.lt hn)).trans (hh hn)⟩
    · obtain ⟨e1, e2, e3, e4⟩ := hra
      rw [e1, e2, e3, e4]; exact ⟨0, 0, Li.nil _ _ _⟩
    · rw [hra.1]; simp [bkO]
  have mv : ∀ {tag : Nat} {z : En}, 4 ≤ tag → EnAt w0 w1 own' tag z → EnAt w0 w5 own' tag z := fun ht hz =>
    ((hz.frm f1 (fun y hy => by have := t1 y hy; omega)).frm f0 (by simp)).frm f2 (fun y hy => by have := t2 y hy; omega)
  refine ⟨own', ((h1.frm.trans_new f1 (fun y hy => .inr (fr1 y hy))).trans f0).trans_new f2 (fun y hy => .inr (fr2 y hy)), h1.dn, ?_, h1.op, h1.od, h1.pos, h1.len, ?_, h1.og, ?_, n1, ?_, n2, fun i hi => ?_, h1.old⟩
  · exact ((h1.mem.frm f1 (fun hy => by have e1 := t1 _ hy; have e2 := h1.op; omega) (fun hy => by have e1 := t1 _ hy; have e2 := h1.od; omega)).frm f0 (by simp) (by simp)).frm f2 (fun hy => by have e1 := t2 _ hy; have e2 := h1.op; omega) (fun hy => by have e1 := t2 _ hy; have e2 := h1.od; omega)
  · exact ((h1.rd.frm f1 (by intro y hy; simp [Value.ownBlock] at hy; subst hy; exact fun hx => by have e1 := t1 _ hx; have e2 := h1.og; omega)).frm f0 (by simp)).frm f2 (by intro y hy; simp [Value.ownBlock] at hy; subst hy; exact fun hx => by have e1 := t2 _ hx; have e2 := h1.og; omega)
  · rw [upd_map (f := pvE)]; exact g15.1
  · rw [upd_map (f := fun z : En => z.R.cells)]; exact g2
  · by_cases e : i = m
    · subst e; rw [upd_eq]; exact mv (by omega) xe
    · rw [upd_ne _ _ e]; exact mv (by omega) (h1.ps i (by omega))
/-- A step is made by both. -/
theorem Gs.step (h : Gs w0 w own p d c g oo cg nl ws a1 c1 a2 c2 m en) {i : Nat} (hi : i < m) {w1 w2 w3 : World} {g' o2 cg' gr : Nat} {R' : RV} {rl' : List Int}
    (f1 : Frm [] w w1) (hre : Re (stp (en i).P ws).2.2.1 R' rl') (hR : R'.la = (en i).R.la ∧ R'.ln = (en i).R.ln ∧ R'.lc = (en i).R.lc) (hrd : RdAt w w1 (en i).R R' rl')
    (hl : Rd w1 (.slice (some ⟨g', o2, none⟩) nl cg') (u64s (stp (en i).P ws).2.2.2)) (hg : g' = g ∨ w.heap.size ≤ g')
    (f2 : Frm [d, (en i).q, (en i).b] w1 w2) (hS : Sit w2 p d c (en i).q (en i).b (en i).c (stp (en i).P ws).2.2.1 (stp (en i).P ws).2.2.2) (f3 : Frm [] w2 w3) (ha : a2 = some ⟨gr, 0, none⟩) :
    ∃ own', Gs w0 (w3.setCells gr (i * 11) R'.cells) own' p d c g' o2 cg' nl (stp (en i).P ws).2.2.2 a1 c1 a2 c2 m (upd en i ⟨(en i).q, (en i).b, (en i).c, (stp (en i).P ws).2.2.1, R', rl'⟩) := by
  have z0 := h.frm.size
  have z1 := f1.size
  obtain ⟨own', hown⟩ : ∃ own' : Nat → Nat, own' = fun y => if y < w.heap.size then own y else 3 := ⟨_, rfl⟩
  have ho : ∀ y, y < w.heap.size → own' y = own y := fun y hy => by rw [hown]; exact if_pos hy
  have hn : ∀ y, w.heap.size ≤ y → own' y = 3 := fun y hy => by rw [hown]; exact if_neg (by omega)
  have h0 := h.retag ho
  have h1 := h0.quiet f1
  have hx := h1.ps i hi
  have hx0 := h0.ps i hi
  have td := h1.od
  have tp := h1.op
  have tD : ∀ y ∈ [d, (en i).q, (en i).b], own' y = 0 ∨ own' y = i + 4 := by
    simp only [List.mem_cons, List.not_mem_nil, or_false]
    rintro y (rfl | rfl | rfl)
    · exact .inl td
    · exact .inr hx.oq
    · exact .inr hx.ob
  have hBD : ∀ y ∈ [d, (en i).q, (en i).b], w0.heap.size ≤ y := by
    simp only [List.mem_cons, List.not_mem_nil, or_false]
    rintro y (rfl | rfl | rfl)
    · exact h1.dn
    · exact hx.nq
    · exact hx.nb
  have tg : own' g' = 3 := by
    rcases hg with e | e
    · rw [e]; exact h1.og
    · exact hn _ e
  have fs : Frm [gr] w3 (w3.setCells gr (i * 11) R'.cells) := Frm.setCellsG (.inl (by simp)) _ _ _ (Frm.refl _ _)
  have tr : own' gr = 2 := h1.o2 gr (by rw [ha]; simp [bkG])
  have frl : w0.heap.size ≤ gr := (h1.rn.from_ gr (by rw [ha]; simp [bkG])).1
  have kk := fun hRR => stp_keep (P := (en i).P) (ws := ws) hRR (hx.k0 hRR)
  have sR : (stp (en i).P ws).2.2.1.R = (en i).P.R := (hx.ok.stp h1.pos hx.nn).2.2.2.2.1
  have sL : (stp (en i).P ws).2.2.2.length = ws.length := (hx.ok.stp h1.pos hx.nn).2.2.2.1
  have rao' : ∀ y ∈ bkO R'.ra, own' y = 3 ∧ y < w1.heap.size := fun y hy => by
    obtain ⟨e1, e2⟩ := hrd.2 y hy
    rcases e1 with e | e
    · exact ⟨(hx.rao y e).1, e2⟩
    · exact ⟨hn _ e, e2⟩
  have xe : EnAt w0 (w3.setCells gr (i * 11) R'.cells) own' (i + 4) ⟨(en i).q, (en i).b, (en i).c, (stp (en i).P ws).2.2.1, R', rl'⟩ := by
    refine ⟨((hS.pg.frm0 f3).frm fs (by simp; intro e; have := hx.oq; rw [e] at this; omega) (by simp; intro e; have := hx.ob; rw [e] at this; omega)), hx.oq, hx.ob, hx.nq, hx.nb, hS.ok, hS.nb, fun hRR => (kk (sR ▸ hRR)).2, hre, fun hRR => ?_, ?_, fun y hy => ⟨(rao' y hy).1, ?_⟩⟩
    · obtain ⟨lb, lo, hL, hh⟩ := hx.la (sR ▸ hRR)
      refine ⟨lb, lo, ?_, fun hn => hh (by rw [← hR.2.1]; exact hn)⟩
      show Li .u64 _ R'.la R'.ln R'.lc lb lo (stp (en i).P ws).2.2.1.buf
      rw [hR.1, hR.2.1, hR.2.2, (kk (sR ▸ hRR)).1]
      exact ((hL.frm f2 (fun hp hD => by have e1 := hh hp; rcases tD _ hD with e | e <;> omega)).frm0 f3).frm fs (fun hp hD => by have e1 := hh hp; simp at hD; rw [hD] at e1; omega)
    · obtain ⟨⟨rb, ro, hL⟩, _⟩ := hrd
      exact ⟨rb, ro, ((hL.frm f2 (fun hp hD => by have e1 := (rao' rb (by rw [hL.ad hp]; simp [bkO])).1; rcases tD _ hD with e | e <;> omega)).frm0 f3).frm fs (fun hp hD => by have e1 := (rao' rb (by rw [hL.ad hp]; simp [bkO])).1; simp at hD; rw [hD] at e1; omega)⟩
    · have := (rao' y hy).2
      have z2 := f2.size
      have z3 := f3.size
      have z4 := fs.size
      omega
  have mv : ∀ {tag : Nat} {z : En}, 4 ≤ tag → tag ≠ i + 4 → EnAt w0 w1 own' tag z → EnAt w0 (w3.setCells gr (i * 11) R'.cells) own' tag z := fun ht hti hz =>
    ((hz.frm f2 (fun y hy => by rcases tD _ hy with e | e <;> omega)).frm f3 (by simp)).frm fs (fun y hy => by simp at hy; subst hy; omega)
  refine ⟨own', ((h1.frm.trans_new f2 (fun y hy => .inr (hBD y hy))).trans f3).trans_new fs (fun y hy => .inr (by simp at hy; omega)), h1.dn, ?_, tp, td, hS.nn, sL.trans h1.len, ?_, tg, ?_, h1.o1, ?_, h1.o2, fun j hj => ?_, h1.old⟩
  · exact (hS.mem.frm f3 (by simp) (by simp)).frm fs (by simp; intro e; rw [e] at tp; omega) (by simp; intro e; rw [e] at td; omega)
  · exact ((hl.frm f2 (by intro y hy; simp [Value.ownBlock] at hy; subst hy; exact fun hD => by rcases tD _ hD with e | e <;> omega)).frm f3 (by simp)).frm fs (by intro y hy; simp [Value.ownBlock] at hy; subst hy; simp; intro e; rw [e] at tg; omega)
  · refine Gr.congr (((h1.pr.frm f2 (fun y hy hD => by have e1 := h1.o1 y hy; rcases tD _ hD with e | e <;> omega)).frm0 f3).frm fs (fun y hy hD => by have e1 := h1.o1 y hy; simp at hD; rw [hD] at e1; omega)) (fun j hj => ?_)
    by_cases e : j = i
    · subst e; rw [upd_eq]; unfold pvE; simp only [sR]
    · rw [upd_ne _ _ e]
  · rw [upd_map (f := fun z : En => z.R.cells)]
    exact ((h1.rn.frm f2 (fun y hy hD => by have e1 := h1.o2 y hy; rcases tD _ hD with e | e <;> omega)).frm0 f3).put ha hi (rcells_len R')
  · by_cases e : j = i
    · subst e; rw [upd_eq]; exact xe
    · rw [upd_ne _ _ e]; exact mv (by omega) (by omega) (h1.ps j hj)
theorem Gs.step' (h : Gs w0 w own p d c g oo cg nl ws a1 c1 a2 c2 m en) {i : Nat} (hi : i < m) {q b cb : Nat} {P P' : Pg} {Rv R' : RV} {rl rl' : List Int} {β : Bool} {ν : Int} {w1 w2 w3 : World} {g' o2 cg' gr : Nat} (hx : en i = ⟨q, b, cb, P, Rv, rl⟩) (hst : stp P ws = (β, ν, P', ws'))
    (f1 : Frm [] w w1) (hre : Re P' R' rl') (hR : R'.la = Rv.la ∧ R'.ln = Rv.ln ∧ R'.lc = Rv.lc) (hrd : RdAt w w1 Rv R' rl')
    (hl : Rd w1 (.slice (some ⟨g', o2, none⟩) nl cg') (u64s ws')) (hg : g' = g ∨ w.heap.size ≤ g')
    (f2 : Frm [d, q, b] w1 w2) (hS : Sit w2 p d c q b cb P' ws') (f3 : Frm [] w2 w3) (ha : a2 = some ⟨gr, 0, none⟩) :
    ∃ own', Gs w0 (w3.setCells gr (i * 11) R'.cells) own' p d c g' o2 cg' nl ws' a1 c1 a2 c2 m (upd en i ⟨q, b, cb, P', R', rl'⟩) := by
  have key := h.step (w1 := w1) (w2 := w2) (w3 := w3) (g' := g') (o2 := o2) (cg' := cg') (gr := gr) (R' := R') (rl' := rl') hi f1
  rw [hx] at key
  simp only [hst] at key
  exact key hre hR hrd hl hg f2 hS f3 ha
/-- A copy takes a program's place. -/
theorem Gs.copy (h : Gs w0 w own p d c g oo cg nl ws a1 c1 a2 c2 m en) {i : Nat} (hi : i < m) {w2 : World} {gp q' b' c' : Nat}
    (f1 : Frm [(en i).q, (en i).b] w w2) (hx : At w2 q' b' c' (en i).P) (hq : w.heap.size ≤ q') (hb : w.heap.size ≤ b') (ha : a1 = some ⟨gp, 0, none⟩) :
    ∃ own', Gs w0 (w2.setCells gp (i * 1) (pvE ⟨q', b', c', (en i).P, (en i).R, (en i).rl⟩)) own' p d c g oo cg nl ws a1 c1 a2 c2 m (upd en i ⟨q', b', c', (en i).P, (en i).R, (en i).rl⟩) := by
  have z0 := h.frm.size
  have z1 := f1.size
  obtain ⟨own', hown⟩ : ∃ own' : Nat → Nat, own' = fun y => if y < w.heap.size then own y else i + 4 := ⟨_, rfl⟩
  have ho : ∀ y, y < w.heap.size → own' y = own y := fun y hy => by rw [hown]; exact if_pos hy
  have hn : ∀ y, w.heap.size ≤ y → own' y = i + 4 := fun y hy => by rw [hown]; exact if_neg (by omega)
  have h0 := h.retag ho
  have hxi := h0.ps i hi
  have tD : ∀ y ∈ [(en i).q, (en i).b], own' y = i + 4 ∧ w0.heap.size ≤ y := by
    simp only [List.mem_cons, List.not_mem_nil, or_false]
    rintro y (rfl | rfl)
    · exact ⟨hxi.oq, hxi.nq⟩
    · exact ⟨hxi.ob, hxi.nb⟩
  have fs : Frm [gp] w2 (w2.setCells gp (i * 1) (pvE ⟨q', b', c', (en i).P, (en i).R, (en i).rl⟩)) := Frm.setCellsG (.inl (by simp)) _ _ _ (Frm.refl _ _)
  have tr : own' gp = 1 := h0.o1 gp (by rw [ha]; simp [bkG])
  have frl : w0.heap.size ≤ gp := (h0.pr.from_ gp (by rw [ha]; simp [bkG])).1
  have grl : gp < w.heap.size := (h0.pr.from_ gp (by rw [ha]; simp [bkG])).2
  have tp := h0.op
  have td := h0.od
  have tg := h0.og
  have xe : EnAt w0 (w2.setCells gp (i * 1) (pvE ⟨q', b', c', (en i).P, (en i).R, (en i).rl⟩)) own' (i + 4) ⟨q', b', c', (en i).P, (en i).R, (en i).rl⟩ := by
    refine ⟨hx.frm fs (by simp; omega) (by simp; omega), hn _ hq, hn _ hb, by show w0.heap.size ≤ q'; omega, by show w0.heap.size ≤ b'; omega, hxi.ok, hxi.nn, hxi.k0, hxi.re, fun hRR => ?_, ?_, fun y hy => ⟨(hxi.rao y hy).1, ?_⟩⟩
    · obtain ⟨lb, lo, hL, hh⟩ := hxi.la hRR
      exact ⟨lb, lo, (hL.frm f1 (fun hp hD => by have e1 := hh hp; have := (tD _ hD).1; omega)).frm fs (fun hp hD => by have e1 := hh hp; simp at hD; rw [hD] at e1; omega), hh⟩
    · obtain ⟨rb, ro, hL⟩ := hxi.ra
      exact ⟨rb, ro, (hL.frm f1 (fun hp hD => by have e1 := (hxi.rao rb (by rw [hL.ad hp]; simp [bkO])).1; have := (tD _ hD).1; omega)).frm fs (fun hp hD => by have e1 := (hxi.rao rb (by rw [hL.ad hp]; simp [bkO])).1; simp at hD; rw [hD] at e1; omega)⟩
    · have := (hxi.rao y hy).2
      have z4 := fs.size
      omega
  have mv : ∀ {tag : Nat} {z : En}, 4 ≤ tag → tag ≠ i + 4 → EnAt w0 w own' tag z → EnAt w0 (w2.setCells gp (i * 1) (pvE ⟨q', b', c', (en i).P, (en i).R, (en i).rl⟩)) own' tag z := fun ht hti hz =>
    (hz.frm f1 (fun y hy => by have := (tD _ hy).1; omega)).frm fs (fun y hy => by simp at hy; subst hy; omega)
  refine ⟨own', (h0.frm.trans_new f1 (fun y hy => .inr (tD y hy).2)).trans_new fs (fun y hy => .inr (by simp at hy; omega)), h0.dn, ?_, tp, td, h0.pos, h0.len, ?_, tg, ?_, h0.o1, ?_, h0.o2, fun j hj => ?_, h0.old⟩
  · exact (h0.mem.frm f1 (fun hD => by have := (tD _ hD).1; omega) (fun hD => by have := (tD _ hD).1; omega)).frm fs (by simp; intro e; rw [e] at tp; omega) (by simp; intro e; rw [e] at td; omega)
  · exact (h0.rd.frm f1 (by intro y hy; simp only [Value.ownBlock, Option.some.injEq] at hy; subst hy; exact fun hD => by have := (tD _ hD).1; omega)).frm fs (by intro y hy; simp [Value.ownBlock] at hy; subst hy; simp; intro e; rw [e] at tg; omega)
  · rw [upd_map (f := pvE)]
    exact (h0.pr.frm f1 (fun y hy hD => by have e1 := h0.o1 y hy; have := (tD _ hD).1; omega)).put ha hi rfl
  · refine Gr.congr ((h0.rn.frm f1 (fun y hy hD => by have e1 := h0.o2 y hy; have := (tD _ hD).1; omega)).frm fs (fun y hy hD => by have e1 := h0.o2 y hy; simp at hD; rw [hD] at e1; omega)) (fun j hj => ?_)
    by_cases e : j = i
    · subst e; rw [upd_eq]
    · rw [upd_ne _ _ e]
  · by_cases e : j = i
    · subst e; rw [upd_eq]; exact xe
    · rw [upd_ne _ _ e]; exact mv (by omega) (by omega) (h0.ps j hj)
end
theorem looks_any {w : World} {q b cq : Nat} {P : Pg} {R : RV} {rl : List Int} (hP : At w q b cq P) (hok : Ok P) (h : Re P R rl) (hLR : ∃ rb ro, Li .u64 w R.ra R.rn R.rcap rb ro rl) :
    Calls Try.prog 26 #[.iface (Ip P.R) (.pointer (some ⟨q, 0, none⟩)), R.v] w (Ret (.bool true) (fun w' => Frm [] w w')) := by
  obtain ⟨rb, ro, hL⟩ := hLR
  cases hR : P.R with
  | false => exact looks_w hR hP hok h
  | true =>
    rcases hok.res1 with h0 | h1
    · exact looks_r0 hR hP hok h h0
    · exact looks_r1 hR hP hok h h1 hL
#print axioms looks_any
#print axioms Gs.add
#print axioms Gs.step
#print axioms Gs.copy
end Go.Proofs.Ytbhnijkphkkalaa
