/- The law's helpers at written-out moves; known, its first part. -/
import Derived.Test.YtjhidkjhfgbaeaaGreatDoorLvC
namespace Go.Proofs.YtjhidkjhfgbaeaaGreatDoor
open Go.ChangeShapes Go.WideShapes Go.ChangeAt Go.RowKit
set_option linter.unusedVariables false
set_option linter.unusedSimpArgs false
/-- Whether does returns true, and leaves these words. -/
def kD (ws : List Int) (t : Nat) (k md steps res : Int) (ws' : List Int) : Bool :=
  match endsO 3 30 1 ws (Mv.new t (k - 1) (if k = 2 then 0 else md)) Gs.new with
  | some (r, m', _, ws1) => Decidable.decide (0 < r ∧ (steps = 0 ∨ steps = r) ∧ m'.res = res ∧ ws1 = ws')
  | none => false
/-- Whether parks returns a move, and leaves these words. -/
def kP (ws : List Int) (t : Nat) (k md : Int) (ws' : List Int) : Bool :=
  match waitsO 3 30 ws (Mv.new t (k - 1) (if k = 2 then 0 else md)) Gs.new with
  | some (true, _, _, ws1) => Decidable.decide (ws1 = ws')
  | _ => false
/-- The move that parks returns. -/
def pkM (ws : List Int) (t : Nat) (k md : Int) : Mv := ((waitsO 3 30 ws (Mv.new t (k - 1) (if k = 2 then 0 else md)) Gs.new).getD (true, Mv.new 0 0 0, Gs.new, [])).2.1
def pkG (ws : List Int) (t : Nat) (k md : Int) : Gs := ((waitsO 3 30 ws (Mv.new t (k - 1) (if k = 2 then 0 else md)) Gs.new).getD (true, Mv.new 0 0 0, Gs.new, [])).2.2.1
/-- Whether last returns true, and leaves these words. -/
def kL (ws : List Int) (m : Mv) (g : Gs) (ws' : List Int) : Bool :=
  match mstpO 3 ws m g with
  | some (m', _, ws1, false, no) => Decidable.decide (no = 0 ∧ m'.nx = 0 ∧ m'.res = 1 ∧ ws1 = ws')
  | _ => false
/-- Whether the latch is looked at as this. -/
def kK (ws : List Int) (up ex wa gr : Int) (xs : List Int) (l : List (Int × Int)) : Bool :=
  match lkR 3 3 ws (ws.getD 1 0).toNat (ws.getD 2 0).toNat with
  | some (s, l') => Decidable.decide (s.up = up ∧ s.ex = ex ∧ s.wa = wa ∧ s.gr = gr ∧ bitsL s.sh = xs ∧ l' = l)
  | none => false
section
variable {w : World} {B np p d cc : Nat} {ws ws' : List Int}
theorem does_lit (h : Scn 3 w B np p d cc ws) (t : Nat) (ht : t < 3) (k md steps res : Int) (hk : k = 1 ∨ k = 2 ∨ k = 3) (hmd : k = 2 ∨ md = 1 ∨ md = 2 ∨ md = 3) (hc : kD ws t k md steps res ws' = true) :
    Calls Tryz.prog 41 #[.agg #[.pointer (some ⟨p, 0, none⟩), .pointer (some ⟨np, 0, none⟩)], .int .i64 (t : Int), .int .i64 k, .int .i64 md, .int .i64 steps, .int .u64 res] w
      (Ret (.bool true) (fun w' => Frm [d] w w' ∧ Scn 3 w' B np p d cc ws')) := by
  unfold kD at hc
  split at hc
  · rename_i r m' g' ws1 hE
    obtain ⟨h1, h2, h3, rfl⟩ := of_decide_eq_true hc
    exact does_any h t ht k md hk hmd steps res hE h1 h2 h3
  · cases hc
theorem parks_lit (h : Scn 3 w B np p d cc ws) (t : Nat) (ht : t < 3) (k md : Int) (hk : k = 1 ∨ k = 2 ∨ k = 3) (hmd : k = 2 ∨ md = 1 ∨ md = 2 ∨ md = 3) (hc : kP ws t k md ws' = true) :
    Calls Tryz.prog 42 #[.agg #[.pointer (some ⟨p, 0, none⟩), .pointer (some ⟨np, 0, none⟩)], .int .i64 (t : Int), .int .i64 k, .int .i64 md] w
      (fun e w' => ∃ q qe ql a n c, Ret (.pointer (some ⟨q, 0, none⟩)) (fun w' => Frm [d] w w' ∧ Scn 3 w' B np p d cc ws' ∧ Pk 3 B w.heap.size w' q qe ql a n c (pkM ws t k md) (pkG ws t k md)) e w') := by
  unfold kP at hc
  unfold pkM pkG
  split at hc
  · rename_i m' g' ws1 hE
    obtain rfl := of_decide_eq_true hc
    rw [hE]
    exact parks_any h t ht k md hk hmd hE
  · cases hc
theorem last_lit {B0 q qe ql n c : Nat} {a : Option Addr} {m : Mv} {g : Gs} (h : Scn 3 w B np p d cc ws) (hP : Pk 3 B B0 w q qe ql a n c m g) (hB0 : B ≤ B0) (hnp : np < B0) (hc : kL ws m g ws' = true) :
    Calls Tryz.prog 43 #[.agg #[.pointer (some ⟨p, 0, none⟩), .pointer (some ⟨np, 0, none⟩)], .pointer (some ⟨q, 0, none⟩)] w
      (Ret (.bool true) (fun w' => Frm (d :: q :: qe :: ql :: blk (.slice a n c)) w w' ∧ Scn 3 w' B np p d cc ws')) := by
  unfold kL at hc
  split at hc
  · rename_i m' g' ws1 no hE
    obtain ⟨rfl, h2, h3, rfl⟩ := of_decide_eq_true hc
    exact last_any h hP hB0 hnp hE h2 h3
  · cases hc
theorem looks_lit (h : Scn 3 w B np p d cc ws) (up ex wa gr : Int) {xs : List Int} {l : List (Int × Int)} (hc : kK ws up ex wa gr xs l = true)
    {a2 e2 : Option Addr} {n c2 m f2 b2 o2 p2 q2 : Nat} (k1 : Li .i64 w a2 n c2 b2 o2 xs) (k2 : Li2 w e2 m f2 p2 q2 l) (hd1 : 0 < n → b2 ≠ d) (hd2 : 0 < m → p2 ≠ d) (hn : n ≤ 1000000) (hm : m ≤ 1000000) :
    Calls Tryz.prog 22 #[.pointer (some ⟨p, 0, none⟩), .pointer (some ⟨np, 0, none⟩), .int .i64 0, .agg #[.slice a2 n c2, .int .i64 up, .int .i64 ex, .int .i64 wa, .int .i64 gr, .slice e2 m f2], .int .i64 0] w
      (Ret (.bool true) (fun w' => Frm [d] w w' ∧ Scn 3 w' B np p d cc ws)) := by
  unfold kK at hc
  split at hc
  · rename_i s l' hE
    obtain ⟨rfl, rfl, rfl, rfl, rfl, rfl⟩ := of_decide_eq_true hc
    have hl := h.len
    have get : ∀ i, i < 3 → ws[i]? = some (((ws.getD i 0).toNat : Nat) : Int) := fun i hi => by
      have e : ws[i]? = some (ws[i]'(by omega)) := List.getElem?_eq_getElem _
      rw [List.getD_eq_getElem?_getD, e]
      have := (h.bnd.get e).1
      simp
      omega
    exact looks_true h (by decide) (get 1 (by decide)) (get 2 (by decide)) hE k1 k2 hd1 hd2 hn hm
  · cases hc
end
/-- What lies behind known's first statements. -/
structure K1 (w0 w : World) (bl bw g : Nat) : Prop where
  frm : Frm [] w0 w
  laid : Laid w
  l : w.heap[bl]? = some (.cells #[.slice (some ⟨g, 0, none⟩) 2 2, .int .i64 1, .int .i64 (-1), .int .i64 (-1), .int .i64 2, .slice none 0 0] 25 (0, 0))
  w2 : w.heap[bw]? = some (.cells #[.int .u64 5, .int .u64 2216236679170] 27 (0, 0))
  li : Li .i64 w (some ⟨g, 0, none⟩) 2 2 g 0 [0, 2]
/-- What lies behind news. -/
structure K2 (w0 w : World) (b3 np p d cc : Nat) (ws : List Int) : Prop where
  frm : Frm [] w0 w
  b : w.heap[b3]? = some (.cells #[.pointer (some ⟨p, 0, none⟩), .pointer (some ⟨np, 0, none⟩)] 73 (0, 0))
  s : Scn 3 w w0.heap.size np p d cc ws
  bd : b3 ≠ d
  b0 : w0.heap.size ≤ b3
section
variable {w0 w w' : World} {bl bw g b3 np p d cc : Nat} {ws ws' : List Int}
theorem K1.frm0 (h : K1 w0 w bl bw g) (hf : Frm [] w w') : K1 w0 w' bl bw g := ⟨h.frm.trans hf, h.laid.frm0 hf, hf.heap h.l (by simp), hf.heap h.w2 (by simp), h.li.frm0 hf⟩
theorem K1.cells (h : K1 w0 w bl bw g) : bl < w.heap.size ∧ bw < w.heap.size ∧ w.cell? ⟨bl, 0, none⟩ = some (.slice (some ⟨g, 0, none⟩) 2 2) ∧ w.cell? ⟨bl, 1, none⟩ = some (.int .i64 1) ∧ w.cell? ⟨bl, 2, none⟩ = some (.int .i64 (-1)) ∧ w.cell? ⟨bl, 3, none⟩ = some (.int .i64 (-1)) ∧ w.cell? ⟨bl, 4, none⟩ = some (.int .i64 2) ∧ w.cell? ⟨bl, 5, none⟩ = some (.slice none 0 0) ∧ w.cell? ⟨bw, 0, none⟩ = some (.int .u64 5) ∧ w.cell? ⟨bw, 1, none⟩ = some (.int .u64 2216236679170) := by
  obtain ⟨x0, x1, x2, x3, x4, x5⟩ := cells6L h.l
  obtain ⟨y0, y1⟩ := cells2L h.w2
  exact ⟨lt_of_heap h.l, lt_of_heap h.w2, x0, x1, x2, x3, x4, x5, y0, y1⟩
theorem K2.frm0 (h : K2 w0 w b3 np p d cc ws) (hf : Frm [] w w') : K2 w0 w' b3 np p d cc ws := ⟨h.frm.trans hf, hf.heap h.b (by simp), h.s.frm0 hf, h.bd, h.b0⟩
theorem K2.step (h : K2 w0 w b3 np p d cc ws) {D : List Nat} (hf : Frm D w w') (hs : Scn 3 w' w0.heap.size np p d cc ws') (hD : ∀ x ∈ D, w0.heap.size ≤ x ∧ x ≠ b3) : K2 w0 w' b3 np p d cc ws' :=
  ⟨h.frm.trans_new hf (fun x hx => .inr (hD x hx).1), hf.heap h.b (fun hx => (hD _ hx).2 rfl), hs, h.bd, h.b0⟩
theorem K2.stepd (h : K2 w0 w b3 np p d cc ws) (hf : Frm [d] w w') (hs : Scn 3 w' w0.heap.size np p d cc ws') : K2 w0 w' b3 np p d cc ws' :=
  h.step hf hs (fun x hx => by obtain rfl := List.mem_singleton.1 hx; exact ⟨h.s.lo.2.1, Ne.symm h.bd⟩)
theorem li2_new {g n : Nat} {w : World} {l : List (Int × Int)} {t : TypeId} (hl : l.length = n) (h : w.heap[g]? = some (.cells (prs l).toArray t (0, 0))) : Li2 w (some ⟨g, 0, none⟩) n n g 0 l :=
  ⟨hl, fun _ => rfl, fun i x hx => by
    obtain ⟨e1, e2⟩ := prs_get hx
    rw [cell_of_heap h, cell_of_heap h, Nat.zero_add, List.getElem?_toArray, List.getElem?_toArray]
    exact ⟨e1, e2⟩⟩
theorem Scn.weak {T B' : Nat} (h : Scn T w bl np p d cc ws) (h2 : 2 ≤ B') (hb : B' ≤ bl) : Scn T w B' np p d cc ws := ⟨h.mem, h.nd, h.laid, h.bnd, by have := h.lo; omega, h.len⟩
theorem K2.cells (h : K2 w0 w b3 np p d cc ws) : b3 < w.heap.size ∧ w.cell? ⟨b3, 0, none⟩ = some (.pointer (some ⟨p, 0, none⟩)) ∧ w.cell? ⟨b3, 1, none⟩ = some (.pointer (some ⟨np, 0, none⟩)) := by
  obtain ⟨y0, y1⟩ := cells2L h.b
  exact ⟨lt_of_heap h.b, y0, y1⟩
end
def kw1 : List Int := [0, 1, 1099511627776, 0, 1, 0, 0, 0, 0, 0, 0, 0, 0, 0, 0, 0, 0, 0, 0, 0, 0]
def kw3 : List Int := [0, 0, 0, 0, 1, 0, 0, 0, 0, 0, 0, 0, 0, 0, 0, 0, 0, 0, 0, 0, 0]
def kw4 : List Int := [0, 0, 256, 0, 1, 0, 0, 0, 0, 0, 0, 0, 0, 0, 0, 0, 0, 0, 0, 0, 0]
def kw5 : List Int := [0, 0, 17246978304, 0, 1, 0, 0, 0, 0, 0, 1, 0, 0, 1, 1, 0, 0, 0, 0, 0, 0]
def kw6 : List Int := [0, 0, 25836912896, 0, 1, 0, 0, 0, 0, 0, 1, 0, 6, 1, 1, 0, 1, 0, 0, 1, 1]
def kw7 : List Int := [0, 6, 2199023255552, 0, 1, 0, 0, 0, 0, 0, 1, 0, 6, 0, 1, 0, 1, 0, 0, 0, 1]
def kx1 : List Int := [0, 0, 1, 0, 1, 0, 0, 0, 0, 0, 0, 0, 0, 0, 0, 0, 0, 0, 0, 0, 0]
def kx2 : List Int := [0, 2, 1099511627777, 0, 1, 0, 0, 0, 0, 0, 1, 0, 0, 0, 0, 0, 0, 0, 0, 0, 0]
def kx3 : List Int := [0, 2, 1099511693313, 0, 1, 0, 0, 1, 0, 0, 1, 0, 0, 0, 0, 0, 0, 0, 0, 0, 0]
def kx4 : List Int := [0, 2, 1125382160385, 0, 1, 0, 0, 1, 0, 0, 1, 0, 0, 0, 0, 0, 1, 0, 0, 1, 1]
def kx5 : List Int := [0, 0, 25870467328, 0, 1, 0, 0, 0, 0, 0, 1, 0, 0, 0, 0, 0, 1, 0, 0, 1, 1]
section
variable {w : World} {B np p d cc : Nat}
theorem kd1 (h : Scn 3 w B np p d cc zs) : Calls Tryz.prog 41 #[.agg #[.pointer (some ⟨p, 0, none⟩), .pointer (some ⟨np, 0, none⟩)], .int .i64 0, .int .i64 1, .int .i64 1, .int .i64 9, .int .u64 1] w (Ret (.bool true) (fun w' => Frm [d] w w' ∧ Scn 3 w' B np p d cc kw1)) :=
  does_lit h 0 (by decide) 1 1 9 1 (by decide) (by decide) (by kernel_rfl)
theorem kk1 {g g2 : Nat} (h : Scn 3 w B np p d cc kw1) (k1 : Li .i64 w (some ⟨g, 0, none⟩) 1 1 g 0 [0]) (hg : g ≠ d) : Calls Tryz.prog 22 #[.pointer (some ⟨p, 0, none⟩), .pointer (some ⟨np, 0, none⟩), .int .i64 0, .agg #[.slice (some ⟨g, 0, none⟩) 1 1, .int .i64 (-1), .int .i64 (-1), .int .i64 (-1), .int .i64 (1), .slice none 0 0], .int .i64 0] w
    (Ret (.bool true) (fun w' => Frm [d] w w' ∧ Scn 3 w' B np p d cc kw1)) :=
  looks_lit (xs := [0]) (l := []) h (-1) (-1) (-1) (1) (by kernel_rfl) k1 (Li2.nil _ 0 0) (fun _ => hg) (fun e => absurd e (by decide)) (by decide) (by decide)
theorem kd2 (h : Scn 3 w B np p d cc kw1) : Calls Tryz.prog 41 #[.agg #[.pointer (some ⟨p, 0, none⟩), .pointer (some ⟨np, 0, none⟩)], .int .i64 0, .int .i64 1, .int .i64 3, .int .i64 0, .int .u64 0] w (Ret (.bool true) (fun w' => Frm [d] w w' ∧ Scn 3 w' B np p d cc kw1)) :=
  does_lit h 0 (by decide) 1 3 0 0 (by decide) (by decide) (by kernel_rfl)
theorem kd3 (h : Scn 3 w B np p d cc kw1) : Calls Tryz.prog 41 #[.agg #[.pointer (some ⟨p, 0, none⟩), .pointer (some ⟨np, 0, none⟩)], .int .i64 0, .int .i64 2, .int .i64 0, .int .i64 9, .int .u64 1] w (Ret (.bool true) (fun w' => Frm [d] w w' ∧ Scn 3 w' B np p d cc kw3)) :=
  does_lit h 0 (by decide) 2 0 9 1 (by decide) (by decide) (by kernel_rfl)
theorem kk2 {g g2 : Nat} (h : Scn 3 w B np p d cc kw3) : Calls Tryz.prog 22 #[.pointer (some ⟨p, 0, none⟩), .pointer (some ⟨np, 0, none⟩), .int .i64 0, .agg #[.slice none 0 0, .int .i64 (-1), .int .i64 (-1), .int .i64 (-1), .int .i64 (0), .slice none 0 0], .int .i64 0] w
    (Ret (.bool true) (fun w' => Frm [d] w w' ∧ Scn 3 w' B np p d cc kw3)) :=
  looks_lit (xs := []) (l := []) h (-1) (-1) (-1) (0) (by kernel_rfl) (Li.nil _ 0 0) (Li2.nil _ 0 0) (fun e => absurd e (by decide)) (fun e => absurd e (by decide)) (by decide) (by decide)
theorem kd4 (h : Scn 3 w B np p d cc kw3) : Calls Tryz.prog 41 #[.agg #[.pointer (some ⟨p, 0, none⟩), .pointer (some ⟨np, 0, none⟩)], .int .i64 0, .int .i64 1, .int .i64 3, .int .i64 0, .int .u64 1] w (Ret (.bool true) (fun w' => Frm [d] w w' ∧ Scn 3 w' B np p d cc kw4)) :=
  does_lit h 0 (by decide) 1 3 0 1 (by decide) (by decide) (by kernel_rfl)
theorem kp1 (h : Scn 3 w B np p d cc kw4) : Calls Tryz.prog 42 #[.agg #[.pointer (some ⟨p, 0, none⟩), .pointer (some ⟨np, 0, none⟩)], .int .i64 1, .int .i64 1, .int .i64 1] w
    (fun e w' => ∃ q qe ql a n c, Ret (.pointer (some ⟨q, 0, none⟩)) (fun w' => Frm [d] w w' ∧ Scn 3 w' B np p d cc kw5 ∧ Pk 3 B w.heap.size w' q qe ql a n c (pkM kw4 1 1 1) (pkG kw4 1 1 1)) e w') :=
  parks_lit h 1 (by decide) 1 1 (by decide) (by decide) (by kernel_rfl)
theorem kp2 (h : Scn 3 w B np p d cc kw5) : Calls Tryz.prog 42 #[.agg #[.pointer (some ⟨p, 0, none⟩), .pointer (some ⟨np, 0, none⟩)], .int .i64 2, .int .i64 1, .int .i64 1] w
    (fun e w' => ∃ q qe ql a n c, Ret (.pointer (some ⟨q, 0, none⟩)) (fun w' => Frm [d] w w' ∧ Scn 3 w' B np p d cc kw6 ∧ Pk 3 B w.heap.size w' q qe ql a n c (pkM kw5 2 1 1) (pkG kw5 2 1 1)) e w') :=
  parks_lit h 2 (by decide) 1 1 (by decide) (by decide) (by kernel_rfl)
theorem kk3 {g g2 : Nat} (h : Scn 3 w B np p d cc kw6) (k2 : Li2 w (some ⟨g2, 0, none⟩) 2 2 g2 0 [(1, 1), (2, 1)]) (hg2 : g2 ≠ d) : Calls Tryz.prog 22 #[.pointer (some ⟨p, 0, none⟩), .pointer (some ⟨np, 0, none⟩), .int .i64 0, .agg #[.slice none 0 0, .int .i64 (-1), .int .i64 (0), .int .i64 (-1), .int .i64 (0), .slice (some ⟨g2, 0, none⟩) 2 2], .int .i64 0] w
    (Ret (.bool true) (fun w' => Frm [d] w w' ∧ Scn 3 w' B np p d cc kw6)) :=
  looks_lit (xs := []) (l := [(1, 1), (2, 1)]) h (-1) (0) (-1) (0) (by kernel_rfl) (Li.nil _ 0 0) k2 (fun e => absurd e (by decide)) (fun _ => hg2) (by decide) (by decide)
theorem kd5 (h : Scn 3 w B np p d cc kw6) : Calls Tryz.prog 41 #[.agg #[.pointer (some ⟨p, 0, none⟩), .pointer (some ⟨np, 0, none⟩)], .int .i64 0, .int .i64 2, .int .i64 0, .int .i64 0, .int .u64 1] w (Ret (.bool true) (fun w' => Frm [d] w w' ∧ Scn 3 w' B np p d cc kw7)) :=
  does_lit h 0 (by decide) 2 0 0 1 (by decide) (by decide) (by kernel_rfl)
theorem kk4 {g g2 : Nat} (h : Scn 3 w B np p d cc kw7) (k1 : Li .i64 w (some ⟨g, 0, none⟩) 2 2 g 0 [1, 2]) (hg : g ≠ d) : Calls Tryz.prog 22 #[.pointer (some ⟨p, 0, none⟩), .pointer (some ⟨np, 0, none⟩), .int .i64 0, .agg #[.slice (some ⟨g, 0, none⟩) 2 2, .int .i64 (-1), .int .i64 (-1), .int .i64 (-1), .int .i64 (2), .slice none 0 0], .int .i64 0] w
    (Ret (.bool true) (fun w' => Frm [d] w w' ∧ Scn 3 w' B np p d cc kw7)) :=
  looks_lit (xs := [1, 2]) (l := []) h (-1) (-1) (-1) (2) (by kernel_rfl) k1 (Li2.nil _ 0 0) (fun _ => hg) (fun e => absurd e (by decide)) (by decide) (by decide)
theorem kl1 {B0 q qe ql n c : Nat} {a : Option Addr} (h : Scn 3 w B np p d cc kw7) (hP : Pk 3 B B0 w q qe ql a n c (pkM kw4 1 1 1) (pkG kw4 1 1 1)) (hB0 : B ≤ B0) (hnp : np < B0) : Calls Tryz.prog 43 #[.agg #[.pointer (some ⟨p, 0, none⟩), .pointer (some ⟨np, 0, none⟩)], .pointer (some ⟨q, 0, none⟩)] w
    (Ret (.bool true) (fun w' => Frm (d :: q :: qe :: ql :: blk (.slice a n c)) w w' ∧ Scn 3 w' B np p d cc kw7)) :=
  last_lit h hP hB0 hnp (by kernel_rfl)
theorem kl2 {B0 q qe ql n c : Nat} {a : Option Addr} (h : Scn 3 w B np p d cc kw7) (hP : Pk 3 B B0 w q qe ql a n c (pkM kw5 2 1 1) (pkG kw5 2 1 1)) (hB0 : B ≤ B0) (hnp : np < B0) : Calls Tryz.prog 43 #[.agg #[.pointer (some ⟨p, 0, none⟩), .pointer (some ⟨np, 0, none⟩)], .pointer (some ⟨q, 0, none⟩)] w
    (Ret (.bool true) (fun w' => Frm (d :: q :: qe :: ql :: blk (.slice a n c)) w w' ∧ Scn 3 w' B np p d cc kw7)) :=
  last_lit h hP hB0 hnp (by kernel_rfl)
theorem kd6 (h : Scn 3 w B np p d cc zs) : Calls Tryz.prog 41 #[.agg #[.pointer (some ⟨p, 0, none⟩), .pointer (some ⟨np, 0, none⟩)], .int .i64 0, .int .i64 1, .int .i64 2, .int .i64 0, .int .u64 1] w (Ret (.bool true) (fun w' => Frm [d] w w' ∧ Scn 3 w' B np p d cc kx1)) :=
  does_lit h 0 (by decide) 1 2 0 1 (by decide) (by decide) (by kernel_rfl)
theorem kd7 (h : Scn 3 w B np p d cc kx1) : Calls Tryz.prog 41 #[.agg #[.pointer (some ⟨p, 0, none⟩), .pointer (some ⟨np, 0, none⟩)], .int .i64 1, .int .i64 1, .int .i64 1, .int .i64 0, .int .u64 1] w (Ret (.bool true) (fun w' => Frm [d] w w' ∧ Scn 3 w' B np p d cc kx2)) :=
  does_lit h 1 (by decide) 1 1 0 1 (by decide) (by decide) (by kernel_rfl)
theorem kp3 (h : Scn 3 w B np p d cc kx2) : Calls Tryz.prog 42 #[.agg #[.pointer (some ⟨p, 0, none⟩), .pointer (some ⟨np, 0, none⟩)], .int .i64 0, .int .i64 3, .int .i64 3] w
    (fun e w' => ∃ q qe ql a n c, Ret (.pointer (some ⟨q, 0, none⟩)) (fun w' => Frm [d] w w' ∧ Scn 3 w' B np p d cc kx3 ∧ Pk 3 B w.heap.size w' q qe ql a n c (pkM kx2 0 3 3) (pkG kx2 0 3 3)) e w') :=
  parks_lit h 0 (by decide) 3 3 (by decide) (by decide) (by kernel_rfl)
theorem kk5 {g g2 : Nat} (h : Scn 3 w B np p d cc kx3) (k1 : Li .i64 w (some ⟨g, 0, none⟩) 1 1 g 0 [1]) (hg : g ≠ d) : Calls Tryz.prog 22 #[.pointer (some ⟨p, 0, none⟩), .pointer (some ⟨np, 0, none⟩), .int .i64 0, .agg #[.slice (some ⟨g, 0, none⟩) 1 1, .int .i64 (0), .int .i64 (-1), .int .i64 (0), .int .i64 (1), .slice none 0 0], .int .i64 0] w
    (Ret (.bool true) (fun w' => Frm [d] w w' ∧ Scn 3 w' B np p d cc kx3)) :=
  looks_lit (xs := [1]) (l := []) h (0) (-1) (0) (1) (by kernel_rfl) k1 (Li2.nil _ 0 0) (fun _ => hg) (fun e => absurd e (by decide)) (by decide) (by decide)
theorem kp4 (h : Scn 3 w B np p d cc kx3) : Calls Tryz.prog 42 #[.agg #[.pointer (some ⟨p, 0, none⟩), .pointer (some ⟨np, 0, none⟩)], .int .i64 2, .int .i64 1, .int .i64 1] w
    (fun e w' => ∃ q qe ql a n c, Ret (.pointer (some ⟨q, 0, none⟩)) (fun w' => Frm [d] w w' ∧ Scn 3 w' B np p d cc kx4 ∧ Pk 3 B w.heap.size w' q qe ql a n c (pkM kx3 2 1 1) (pkG kx3 2 1 1)) e w') :=
  parks_lit h 2 (by decide) 1 1 (by decide) (by decide) (by kernel_rfl)
theorem kd8 (h : Scn 3 w B np p d cc kx4) : Calls Tryz.prog 41 #[.agg #[.pointer (some ⟨p, 0, none⟩), .pointer (some ⟨np, 0, none⟩)], .int .i64 1, .int .i64 2, .int .i64 0, .int .i64 0, .int .u64 1] w (Ret (.bool true) (fun w' => Frm [d] w w' ∧ Scn 3 w' B np p d cc kx5)) :=
  does_lit h 1 (by decide) 2 0 0 1 (by decide) (by decide) (by kernel_rfl)
theorem kk6 {g g2 : Nat} (h : Scn 3 w B np p d cc kx5) (k2 : Li2 w (some ⟨g2, 0, none⟩) 1 1 g2 0 [(2, 1)]) (hg2 : g2 ≠ d) : Calls Tryz.prog 22 #[.pointer (some ⟨p, 0, none⟩), .pointer (some ⟨np, 0, none⟩), .int .i64 0, .agg #[.slice none 0 0, .int .i64 (-1), .int .i64 (0), .int .i64 (-1), .int .i64 (0), .slice (some ⟨g2, 0, none⟩) 1 1], .int .i64 0] w
    (Ret (.bool true) (fun w' => Frm [d] w w' ∧ Scn 3 w' B np p d cc kx5)) :=
  looks_lit (xs := []) (l := [(2, 1)]) h (-1) (0) (-1) (0) (by kernel_rfl) (Li.nil _ 0 0) k2 (fun e => absurd e (by decide)) (fun _ => hg2) (by decide) (by decide)
theorem kl3 {B0 q qe ql n c : Nat} {a : Option Addr} (h : Scn 3 w B np p d cc kx5) (hP : Pk 3 B B0 w q qe ql a n c (pkM kx2 0 3 3) (pkG kx2 0 3 3)) (hB0 : B ≤ B0) (hnp : np < B0) : Calls Tryz.prog 43 #[.agg #[.pointer (some ⟨p, 0, none⟩), .pointer (some ⟨np, 0, none⟩)], .pointer (some ⟨q, 0, none⟩)] w
    (Ret (.bool true) (fun w' => Frm (d :: q :: qe :: ql :: blk (.slice a n c)) w w' ∧ Scn 3 w' B np p d cc kx5)) :=
  last_lit h hP hB0 hnp (by kernel_rfl)
end
end Go.Proofs.YtjhidkjhfgbaeaaGreatDoor
