/- McsAny: where everything lies: the arena, the programs and the runs, in rows that grow. -/
import Derived.Test.YtoieedlkffmcgaaMcAx
import Derived.Test.YtoieedlkffmcgaaGr
import Derived.Test.YtoieedlkffmcgaaMcPy
namespace Go.Proofs.Ytoieedlkffmcgaa
open Go.ChangeShapes Go.WideShapes Go.ChangeAt Go.RowKit
set_option linter.unusedVariables false

/-- A program: its lock, its node, its kind, its next step, what it has met, whether it has ended, where it lies. -/
structure En where
  L : Nat
  k : Nat
  back : Bool
  s : Int
  o : Int
  e : Bool
  q : Nat
def pvE (x : En) : List Value := [.iface (Ip x.back) (.pointer (some ⟨x.q, 0, none⟩))]
def rvE (b t : Nat) (x : En) : List Value := [.int .i64 b, .int .i64 t, .int .i64 x.L, .int .i64 x.k, .bool x.back, .int .i64 x.s, .int .u64 x.o, .bool x.e]
def PgE (w : World) (b t : Nat) (x : En) : Prop := PgR w x.q x.back b t x.L x.k x.s x.o x.e ∧ x.k < 2 * t
theorem PgE.frm {D : List Nat} {w w' : World} {b t : Nat} {x : En} (h : PgE w b t x) (hf : Frm D w w') (hd : x.q ∉ D) : PgE w' b t x := ⟨h.1.frm hf hd, h.2⟩
theorem PgE.lt {w : World} {b t : Nat} {x : En} (h : PgE w b t x) : x.q < w.heap.size := h.1.lt
theorem PgE.ty {w : World} {b t : Nat} {x : En} (h : PgE w b t x) : ∃ cs, w.heap[x.q]? = some (.cells cs (Tp x.back) (0, 0)) := by obtain ⟨⟨met, hP, _⟩, _⟩ := h; exact ⟨_, hP.obj⟩
/-- A block that nobody else has. -/
def Fre (d : Nat) (a1 a2 : Option Addr) (m : Nat) (en : Nat → En) (x : Nat) : Prop := x ≠ d ∧ x ∉ bkG a1 ∧ x ∉ bkG a2 ∧ ∀ i, i < m → x ≠ (en i).q

structure Ga (B : Nat) (w : World) (b t nq p d c bn g oo cg nl : Nat) (ws : List Int) (a1 : Option Addr) (c1 : Nat) (a2 : Option Addr) (c2 m : Nat) (en : Nat → En) : Prop where
  nd : Nd w nq b t
  mem : MemAt w p d c ws
  pos : ∀ x ∈ ws, 0 ≤ x
  len : ws.length = nl
  nn : w.heap[bn]? = some (.cells #[.int .i64 b, .int .i64 t] 32 (0, 0))
  rd : Rd w (.slice (some ⟨g, oo, none⟩) nl cg) (u64s ws)
  pr : Gr 37 1 B w a1 m c1 (fun i => pvE (en i))
  rn : Gr 42 8 B w a2 m c2 (fun i => rvE b t (en i))
  ps : ∀ i, i < m → PgE w b t (en i)
  low : B ≤ d
  nqf : Fre d a1 a2 m en nq
  gf : Fre d a1 a2 m en g
  qlow : ∀ i, i < m → B ≤ (en i).q
  qq : ∀ i j, i < m → j < m → i ≠ j → (en i).q ≠ (en j).q

theorem Gr.disj {T T' : TypeId} {s s' B B' : Nat} {w : World} {a a' : Option Addr} {n n' c c' : Nat} {f f' : Nat → List Value} (h : Gr T s B w a n c f) (h' : Gr T' s' B' w a' n' c' f') (ht : T' ≠ T) : ∀ x ∈ bkG a, x ∉ bkG a' := by
  obtain ⟨_, _, ⟨rfl, _⟩ | ⟨g', cs', rfl, _, hh, _⟩⟩ := h'
  · intro x _ hx; simp [bkG] at hx
  · intro x hx hx'
    simp [bkG] at hx'
    exact h.ne hh ht x hx hx'
theorem tp_ne (back : Bool) : Tp back ≠ 37 ∧ Tp back ≠ 42 ∧ Tp back ≠ 40 ∧ Tp back ≠ 104 ∧ Tp back ≠ 32 := by cases back <;> decide

section
variable {B : Nat} {w w' : World} {b t nq p d c bn g oo cg nl : Nat} {ws ws' : List Int} {a1 a2 : Option Addr} {c1 c2 m : Nat} {en : Nat → En}
theorem Ga.frm {D : List Nat} (h : Ga B w b t nq p d c bn g oo cg nl ws a1 c1 a2 c2 m en) (hf : Frm D w w') (h1 : nq ∉ D) (h2 : p ∉ D) (h3 : d ∉ D) (h4 : bn ∉ D) (h5 : g ∉ D) (h6 : ∀ x ∈ bkG a1, x ∉ D) (h7 : ∀ x ∈ bkG a2, x ∉ D) (h8 : ∀ i, i < m → (en i).q ∉ D) : Ga B w' b t nq p d c bn g oo cg nl ws a1 c1 a2 c2 m en :=
  ⟨h.nd.frmD hf h1, h.mem.frm hf h2 h3, h.pos, h.len, hf.heap h.nn h4, h.rd.frm hf (by intro y hy; simp [Value.ownBlock] at hy; subst hy; exact h5), h.pr.frm hf h6, h.rn.frm hf h7, fun i hi => (h.ps i hi).frm hf (h8 i hi), h.low, h.nqf, h.gf, h.qlow, h.qq⟩
theorem Ga.frm0 (h : Ga B w b t nq p d c bn g oo cg nl ws a1 c1 a2 c2 m en) (hf : Frm [] w w') : Ga B w' b t nq p d c bn g oo cg nl ws a1 c1 a2 c2 m en :=
  h.frm hf (by simp) (by simp) (by simp) (by simp) (by simp) (by simp) (by simp) (by simp)
theorem Ga.glt (h : Ga B w b t nq p d c bn g oo cg nl ws a1 c1 a2 c2 m en) : g < w.heap.size := h.rd.cells.1
/-- The rows' blocks are no others. -/
theorem Ga.row1 (h : Ga B w b t nq p d c bn g oo cg nl ws a1 c1 a2 c2 m en) : p ∉ bkG a1 ∧ d ∉ bkG a1 ∧ bn ∉ bkG a1 ∧ (∀ x ∈ bkG a2, x ∉ bkG a1) ∧ (∀ i, i < m → (en i).q ∉ bkG a1) := by
  obtain ⟨ds, hd, _⟩ := h.mem.arr
  refine ⟨fun x => h.pr.ne h.mem.obj (by decide) _ x rfl, fun x => h.pr.ne hd (by decide) _ x rfl, fun x => h.pr.ne h.nn (by decide) _ x rfl, h.rn.disj h.pr (by decide), fun i hi x => ?_⟩
  obtain ⟨cs, hc⟩ := (h.ps i hi).ty
  exact h.pr.ne hc (tp_ne _).1 _ x rfl
theorem Ga.row2 (h : Ga B w b t nq p d c bn g oo cg nl ws a1 c1 a2 c2 m en) : p ∉ bkG a2 ∧ d ∉ bkG a2 ∧ bn ∉ bkG a2 ∧ (∀ x ∈ bkG a1, x ∉ bkG a2) ∧ (∀ i, i < m → (en i).q ∉ bkG a2) := by
  obtain ⟨ds, hd, _⟩ := h.mem.arr
  refine ⟨fun x => h.rn.ne h.mem.obj (by decide) _ x rfl, fun x => h.rn.ne hd (by decide) _ x rfl, fun x => h.rn.ne h.nn (by decide) _ x rfl, h.pr.disj h.rn (by decide), fun i hi x => ?_⟩
  obtain ⟨cs, hc⟩ := (h.ps i hi).ty
  exact h.rn.ne hc (tp_ne _).2.1 _ x rfl
theorem Ga.qne (h : Ga B w b t nq p d c bn g oo cg nl ws a1 c1 a2 c2 m en) {i : Nat} (hi : i < m) : (en i).q ≠ d ∧ (en i).q ≠ p ∧ (en i).q ≠ bn := by
  obtain ⟨cs, hc⟩ := (h.ps i hi).ty
  obtain ⟨ds, hd, _⟩ := h.mem.arr
  exact ⟨ty_ne hc hd (tp_ne _).2.2.1, ty_ne hc h.mem.obj (tp_ne _).2.2.2.1, ty_ne hc h.nn (tp_ne _).2.2.2.2⟩
theorem Ga.bnd (h : Ga B w b t nq p d c bn g oo cg nl ws a1 c1 a2 c2 m en) : bn ≠ d := by
  obtain ⟨ds, hd, _⟩ := h.mem.arr
  exact ty_ne h.nn hd (by decide)
theorem upd_map {f : En → List Value} (en : Nat → En) (i : Nat) (x : En) : (fun j => f (upd en i x j)) = upd (fun j => f (en j)) i (f x) := by
  funext j; unfold upd; split <;> rfl
theorem mem_new {a a' : Option Addr} {x N : Nat} (hb : ∀ y ∈ bkG a', y ∈ bkG a ∨ N ≤ y) (hx : x ∉ bkG a) (hl : x < N) : x ∉ bkG a' := fun hx' => by
  rcases hb x hx' with h | h
  · exact hx h
  · omega
/-- One more. -/
theorem Ga.add (h : Ga B w b t nq p d c bn g oo cg nl ws a1 c1 a2 c2 m en) {x : En} {w3 w4 w5 : World} {a1' a2' : Option Addr} {c1' c2' : Nat}
    (hx : PgE w b t x) (hq : ∀ i, i < m → (en i).q ≠ x.q) (hq2 : x.q ≠ nq ∧ x.q ≠ g ∧ B ≤ x.q)
    (f1 : Frm (bkG a1) w w3) (g1 : Gr 37 1 B w3 a1' (m + 1) c1' (upd (fun i => pvE (en i)) m (pvE x))) (b1 : ∀ y ∈ bkG a1', y ∈ bkG a1 ∨ w.heap.size ≤ y)
    (f0 : Frm [] w3 w4) (f2 : Frm (bkG a2) w4 w5) (g2 : Gr 42 8 B w5 a2' (m + 1) c2' (upd (fun i => rvE b t (en i)) m (rvE b t x))) (b2 : ∀ y ∈ bkG a2', y ∈ bkG a2 ∨ w4.heap.size ≤ y) :
    Ga B w5 b t nq p d c bn g oo cg nl ws a1' c1' a2' c2' (m + 1) (upd en m x) := by
  obtain ⟨ds, hd, _⟩ := h.mem.arr
  obtain ⟨xc, hxc⟩ := hx.ty
  obtain ⟨r1, r2, r3, r4, r5⟩ := h.row1
  obtain ⟨s1, s2, s3, s4, s5⟩ := h.row2
  obtain ⟨n1, n2, n3, n4⟩ := h.nqf
  obtain ⟨k1, k2, k3, k4⟩ := h.gf
  have l1 := h.nd.lt
  have l2 := h.mem.plt
  have l3 := h.mem.dlt
  have l4 := lt_of_heap h.nn
  have l5 := h.glt
  have l6 := hx.lt
  have z1 := f1.size
  have z2 := f0.size
  have xr1 : x.q ∉ bkG a1 := fun e => h.pr.ne hxc (tp_ne _).1 _ e rfl
  have xr2 : x.q ∉ bkG a2 := fun e => h.rn.ne hxc (tp_ne _).2.1 _ e rfl
  have xd : x.q ≠ d := ty_ne hxc hd (tp_ne _).2.2.1
  -- all that is old, at w4
  have h4 : Ga B w4 b t nq p d c bn g oo cg nl ws none 0 a2 c2 0 en := by
    have e1 : Ga B w b t nq p d c bn g oo cg nl ws none 0 a2 c2 0 en :=
      ⟨h.nd, h.mem, h.pos, h.len, h.nn, h.rd, Gr.nil _ _ _ _ _, ⟨fun i hi => by omega, Nat.le_trans (Nat.zero_le _) h.rn.2.1, by
        rcases h.rn.2.2 with ⟨e1, _, e3⟩ | ⟨g', cs, e1, e2, e3, e4, _⟩
        · exact .inl ⟨e1, rfl, e3⟩
        · exact .inr ⟨g', cs, e1, e2, e3, e4, fun i hi => by omega⟩⟩, fun i hi => by omega, h.low, ⟨n1, by simp [bkG], n3, fun i hi => by omega⟩, ⟨k1, by simp [bkG], k3, fun i hi => by omega⟩, fun i hi => by omega, fun i j hi => by omega⟩
    exact (e1.frm f1 n2 r1 r2 r3 k2 (by simp [bkG]) r4 (fun i hi => by omega)).frm0 f0
  have p4 : ∀ i, i < m → PgE w4 b t (en i) := fun i hi => ((h.ps i hi).frm f1 (r5 i hi)).frm f0 (by simp)
  have x4 : PgE w4 b t x := (hx.frm f1 xr1).frm f0 (by simp)
  have g14 := g1.frm0 f0
  have hdis : ∀ y ∈ bkG a1', y ∉ bkG a2 := fun y hy hy2 => g14.disj h4.rn (by decide) y hy hy2
  have p5 : ∀ i, i < m → PgE w5 b t (en i) := fun i hi => (p4 i hi).frm f2 (s5 i hi)
  have x5 : PgE w5 b t x := x4.frm f2 xr2
  have old : ∀ i, i < m → (en i).q < w.heap.size := fun i hi => (h.ps i hi).lt
  have ra : ∀ y, y < w.heap.size → y ∉ bkG a1 → y ∉ bkG a1' := fun y hy hn => mem_new b1 hn hy
  have rb : ∀ y, y < w.heap.size → y ∉ bkG a2 → y ∉ bkG a2' := fun y hy hn => mem_new b2 hn (by omega)
  refine ⟨h4.nd.frmD f2 n3, h4.mem.frm f2 s1 s2, h.pos, h.len, f2.heap h4.nn s3, h4.rd.frm f2 (by intro y hy; simp [Value.ownBlock] at hy; subst hy; exact k3), ?_, ?_, fun i hi => ?_, h.low, ⟨n1, ra _ l1 n2, rb _ l1 n3, fun i hi => ?_⟩, ⟨k1, ra _ l5 k2, rb _ l5 k3, fun i hi => ?_⟩, fun i hi => ?_, fun i j hi hj hij => ?_⟩
  · rw [upd_map (f := pvE)]; exact g14.frm f2 hdis
  · rw [upd_map (f := rvE b t)]; exact g2
  · by_cases e : i = m
    · subst e; rw [upd_eq]; exact x5
    · rw [upd_ne _ _ e]; exact p5 i (by omega)
  · by_cases e : i = m
    · subst e; rw [upd_eq]; exact Ne.symm hq2.1
    · rw [upd_ne _ _ e]; exact n4 i (by omega)
  · by_cases e : i = m
    · subst e; rw [upd_eq]; exact Ne.symm hq2.2.1
    · rw [upd_ne _ _ e]; exact k4 i (by omega)
  · by_cases e : i = m
    · subst e; rw [upd_eq]; exact hq2.2.2
    · rw [upd_ne _ _ e]; exact h.qlow i (by omega)
  · by_cases e : i = m
    · subst e
      rw [upd_eq, upd_ne _ _ (Ne.symm hij)]; exact Ne.symm (hq j (by omega))
    · by_cases e' : j = m
      · subst e'; rw [upd_eq, upd_ne _ _ e]; exact hq i (by omega)
      · rw [upd_ne _ _ e, upd_ne _ _ e']; exact h.qq i j (by omega) (by omega) hij
/-- A step is made by both. -/
theorem Ga.step (h : Ga B w b t nq p d c bn g oo cg nl ws a1 c1 a2 c2 m en) {i : Nat} (hi : i < m) {s' o' : Int} {e' : Bool} {w0 w1 w2 : World} {g' o2 cg' gr x : Nat}
    (f0 : Frm [] w w0) (hA : Aftr p d c (en i).q (en i).back b t (en i).L (en i).k w0 ws' s' o' e' w1) (hpos : ∀ x ∈ ws', 0 ≤ x) (hl : ws'.length = ws.length)
    (hrd : Rd w1 (.slice (some ⟨g', o2, none⟩) nl cg') (u64s ws')) (hg : g' = g ∨ w0.heap.size ≤ g') (f1 : Frm [x] w1 w2) (hx : w.heap.size ≤ x) (hxg : x ≠ g') (ha : a2 = some ⟨gr, 0, none⟩) :
    Ga B (w2.setCells gr (i * 8) (rvE b t ⟨(en i).L, (en i).k, (en i).back, s', o', e', (en i).q⟩)) b t nq p d c bn g' o2 cg' nl ws' a1 c1 a2 c2 m (upd en i ⟨(en i).L, (en i).k, (en i).back, s', o', e', (en i).q⟩) := by
  have h0 := h.frm0 f0
  have z0 := f0.size
  obtain ⟨hF, hM, hR⟩ := hA
  obtain ⟨r1, r2, r3, r4, r5⟩ := h.row1
  obtain ⟨s1, s2, s3, s4, s5⟩ := h.row2
  obtain ⟨n1, n2, n3, n4⟩ := h.nqf
  obtain ⟨k1, k2, k3, k4⟩ := h.gf
  have l1 := h.nd.lt
  have l2 := h.mem.plt
  have l3 := h.mem.dlt
  have l4 := lt_of_heap h.nn
  have l5 := h.glt
  have q1 := h.qne hi
  have old : ∀ j, j < m → (en j).q < w.heap.size := fun j hj => (h.ps j hj).lt
  have q2 := old i hi
  have a1lt : ∀ y ∈ bkG a1, y < w.heap.size := fun y hy => (h.pr.from_ y hy).2
  have a2lt : ∀ y ∈ bkG a2, y < w.heap.size := fun y hy => (h.rn.from_ y hy).2
  have f3 : Frm (bkG a2) w2 (w2.setCells gr (i * 8) (rvE b t ⟨(en i).L, (en i).k, (en i).back, s', o', e', (en i).q⟩)) := by
    subst ha; exact Frm.setCells (.inl (by simp [bkG])) _ _ _ (Frm.refl _ _)
  have hx1 := hF.size
  have pr2 : Gr 37 1 B w2 a1 m c1 (fun i => pvE (en i)) := (h0.pr.frm hF (fun y hy e => by
    simp at e
    rcases e with e | e
    · exact r2 (e ▸ hy)
    · exact r5 i hi (e ▸ hy))).frm f1 (fun y hy e => by simp at e; have := a1lt y hy; omega)
  have rn2 : Gr 42 8 B w2 a2 m c2 (fun i => rvE b t (en i)) := (h0.rn.frm hF (fun y hy e => by
    simp at e
    rcases e with e | e
    · exact s2 (e ▸ hy)
    · exact s5 i hi (e ▸ hy))).frm f1 (fun y hy e => by simp at e; have := a2lt y hy; omega)
  have gne' : ∀ y, y < w.heap.size → y ≠ g → y ≠ g' := fun y hy hn => by
    rcases hg with e | e
    · rw [e]; exact hn
    · omega
  have ps2 : ∀ j, j < m → j ≠ i → PgE w2 b t (en j) := fun j hj hn => ((h0.ps j hj).frm hF (by simp; exact ⟨(h.qne hj).1, h.qq j i hj hi hn⟩)).frm f1 (by simp; have := old j hj; omega)
  have xi2 : PgE w2 b t ⟨(en i).L, (en i).k, (en i).back, s', o', e', (en i).q⟩ := ⟨hR.frm f1 (by simp; omega), (h.ps i hi).2⟩
  refine ⟨((h0.nd.frmD hF (by simp; exact ⟨n1, n4 i hi⟩)).frmD f1 (by simp; omega)).frmD f3 n3, (hM.frm f1 (by simp; omega) (by simp; omega)).frm f3 s1 s2, hpos, hl.trans h.len, f3.heap (f1.heap (hF.heap h0.nn (by simp; exact ⟨h.bnd, Ne.symm q1.2.2⟩)) (by simp; omega)) s3, ?_, ?_, ?_, fun j hj => ?_, h.low, ⟨n1, n2, n3, fun j hj => ?_⟩, ⟨?_, ?_, ?_, fun j hj => ?_⟩, fun j hj => ?_, fun j j' hj hj' hij => ?_⟩
  · refine (hrd.frm f1 (by intro y hy; simp [Value.ownBlock] at hy; subst hy; simp; exact Ne.symm hxg)).frm f3 (by
      intro y hy; simp [Value.ownBlock] at hy; subst hy
      intro e
      have := a2lt _ e
      rcases hg with hg | hg
      · rw [hg] at e; exact k3 e
      · omega)
  · refine Gr.congr (pr2.frm f3 s4) (fun j hj => ?_)
    by_cases e : j = i
    · subst e; rw [upd_eq]; rfl
    · rw [upd_ne _ _ e]
  · rw [upd_map (f := rvE b t)]
    exact rn2.put ha hi rfl
  · by_cases e : j = i
    · subst e; rw [upd_eq]; exact xi2.frm f3 (s5 j hi)
    · rw [upd_ne _ _ e]; exact (ps2 j hj e).frm f3 (s5 j hj)
  · by_cases e : j = i
    · subst e; rw [upd_eq]; exact n4 j hi
    · rw [upd_ne _ _ e]; exact n4 j hj
  · rcases hg with e | e
    · rw [e]; exact k1
    · omega
  · intro e1
    have := a1lt _ e1
    rcases hg with e | e
    · rw [e] at e1; exact k2 e1
    · omega
  · intro e1
    have := a2lt _ e1
    rcases hg with e | e
    · rw [e] at e1; exact k3 e1
    · omega
  · by_cases e : j = i
    · subst e; rw [upd_eq]; exact Ne.symm (gne' _ (old j hi) (Ne.symm (k4 j hi)))
    · rw [upd_ne _ _ e]; exact Ne.symm (gne' _ (old j hj) (Ne.symm (k4 j hj)))
  · by_cases e : j = i
    · subst e; rw [upd_eq]; exact h.qlow j hi
    · rw [upd_ne _ _ e]; exact h.qlow j hj
  · by_cases e : j = i
    · subst e; rw [upd_eq, upd_ne _ _ (Ne.symm hij)]; exact h.qq j j' hj hj' hij
    · by_cases e' : j' = i
      · subst e'; rw [upd_eq, upd_ne _ _ e]; exact h.qq j j' hj hj' hij
      · rw [upd_ne _ _ e, upd_ne _ _ e']; exact h.qq j j' hj hj' hij
/-- A copy takes a program's place. -/
theorem Ga.copy (h : Ga B w b t nq p d c bn g oo cg nl ws a1 c1 a2 c2 m en) {i : Nat} (hi : i < m) {w2 : World} {gp q' : Nat}
    (f1 : Frm [(en i).q] w w2) (hx : PgE w2 b t ⟨(en i).L, (en i).k, (en i).back, (en i).s, (en i).o, (en i).e, q'⟩) (hq : w.heap.size ≤ q') (hB : B ≤ w.heap.size) (ha : a1 = some ⟨gp, 0, none⟩) :
    Ga B (w2.setCells gp (i * 1) (pvE ⟨(en i).L, (en i).k, (en i).back, (en i).s, (en i).o, (en i).e, q'⟩)) b t nq p d c bn g oo cg nl ws a1 c1 a2 c2 m (upd en i ⟨(en i).L, (en i).k, (en i).back, (en i).s, (en i).o, (en i).e, q'⟩) := by
  obtain ⟨r1, r2, r3, r4, r5⟩ := h.row1
  obtain ⟨s1, s2, s3, s4, s5⟩ := h.row2
  obtain ⟨n1, n2, n3, n4⟩ := h.nqf
  obtain ⟨k1, k2, k3, k4⟩ := h.gf
  have l1 := h.nd.lt
  have l5 := h.glt
  have q1 := h.qne hi
  have old : ∀ j, j < m → (en j).q < w.heap.size := fun j hj => (h.ps j hj).lt
  have a1lt : ∀ y ∈ bkG a1, y < w.heap.size := fun y hy => (h.pr.from_ y hy).2
  have f3 : Frm (bkG a1) w2 (w2.setCells gp (i * 1) (pvE ⟨(en i).L, (en i).k, (en i).back, (en i).s, (en i).o, (en i).e, q'⟩)) := by
    subst ha; exact Frm.setCells (.inl (by simp [bkG])) _ _ _ (Frm.refl _ _)
  have pr2 : Gr 37 1 B w2 a1 m c1 (fun i => pvE (en i)) := h.pr.frm f1 (fun y hy e => by simp at e; exact r5 i hi (e ▸ hy))
  have rn2 : Gr 42 8 B w2 a2 m c2 (fun i => rvE b t (en i)) := h.rn.frm f1 (fun y hy e => by simp at e; exact s5 i hi (e ▸ hy))
  have ps2 : ∀ j, j < m → j ≠ i → PgE w2 b t (en j) := fun j hj hn => (h.ps j hj).frm f1 (by simp; exact h.qq j i hj hi hn)
  have qa1 : q' ∉ bkG a1 := fun e => by have := a1lt _ e; omega
  refine ⟨(h.nd.frmD f1 (by simp; exact n4 i hi)).frmD f3 n2, (h.mem.frm f1 (by simp; exact Ne.symm q1.2.1) (by simp; exact Ne.symm q1.1)).frm f3 r1 r2, h.pos, h.len, f3.heap (f1.heap h.nn (by simp; exact Ne.symm q1.2.2)) r3, (h.rd.frm f1 (by intro y hy; simp [Value.ownBlock] at hy; subst hy; simp; exact k4 i hi)).frm f3 (by intro y hy; simp [Value.ownBlock] at hy; subst hy; exact k2), ?_, ?_, fun j hj => ?_, h.low, ⟨n1, n2, n3, fun j hj => ?_⟩, ⟨k1, k2, k3, fun j hj => ?_⟩, fun j hj => ?_, fun j j' hj hj' hij => ?_⟩
  · rw [upd_map (f := pvE)]
    exact pr2.put ha hi rfl
  · refine Gr.congr (rn2.frm f3 r4) (fun j hj => ?_)
    by_cases e : j = i
    · subst e; rw [upd_eq]; rfl
    · rw [upd_ne _ _ e]
  · by_cases e : j = i
    · subst e; rw [upd_eq]; exact hx.frm f3 qa1
    · rw [upd_ne _ _ e]; exact (ps2 j hj e).frm f3 (r5 j hj)
  · by_cases e : j = i
    · subst e; rw [upd_eq]; show nq ≠ q'; omega
    · rw [upd_ne _ _ e]; exact n4 j hj
  · by_cases e : j = i
    · subst e; rw [upd_eq]; show g ≠ q'; omega
    · rw [upd_ne _ _ e]; exact k4 j hj
  · by_cases e : j = i
    · subst e; rw [upd_eq]; show B ≤ q'; omega
    · rw [upd_ne _ _ e]; exact h.qlow j hj
  · by_cases e : j = i
    · subst e; rw [upd_eq, upd_ne _ _ (Ne.symm hij)]; show q' ≠ _; have := old j' hj'; omega
    · by_cases e' : j' = i
      · subst e'; rw [upd_eq, upd_ne _ _ e]; show _ ≠ q'; have := old j hj; omega
      · rw [upd_ne _ _ e, upd_ne _ _ e']; exact h.qq j j' hj hj' hij
end
#print axioms Ga.add
#print axioms Ga.step
#print axioms Ga.copy
end Go.Proofs.Ytoieedlkffmcgaa
