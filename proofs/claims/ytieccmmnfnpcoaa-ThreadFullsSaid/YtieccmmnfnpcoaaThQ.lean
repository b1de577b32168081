/- Stage 12: a program as the reference has it; its step as a function; where it lies, a code or a chain. -/
import Derived.Test.YtieccmmnfnpcoaaThP
namespace Go.Proofs.Ytieccmmnfnpcoaa
open Go.ChangeShapes Go.WideShapes Go.ChangeAt Go.RowKit
set_option linter.unusedVariables false
structure Rp where
  L : List (List Ins)
  pc : Nat
  g : List Int
  res : Int
  en : Bool
def Rp.ends (P : Rp) (r : Int) : Rp :=
  match P.L with
  | _ :: l :: t => ⟨l :: t, 0, [0, 0, 0, 0], 0, false⟩
  | _ => { P with res := r, en := true }
structure Rn where
  P : Rp
  ws : List Int
  did : Acc
  wt : Bool
  e : Int
def nxt (P : Rp) (ws : List Int) : Rn :=
  if P.en = true then ⟨P, ws, acc0, false, 17⟩ else
  match P.L with
  | [] => ⟨P, ws, acc0, false, 17⟩
  | l :: _ =>
    match l[P.pc]? with
    | none => ⟨P, ws, acc0, false, 17⟩
    | some y =>
      if (cstep ws ⟨l, P.g, P.pc, 0⟩ y).e ≠ 0 then ⟨P, ws, acc0, false, (cstep ws ⟨l, P.g, P.pc, 0⟩ y).e⟩
      else if (cstep ws ⟨l, P.g, P.pc, 0⟩ y).wt = true then ⟨P, ws, (cstep ws ⟨l, P.g, P.pc, 0⟩ y).did, true, 0⟩
      else if (cstep ws ⟨l, P.g, P.pc, 0⟩ y).x.nx = l.length then
        ⟨Rp.ends { P with pc := P.pc + 1, g := (cstep ws ⟨l, P.g, P.pc, 0⟩ y).x.g } (cstep ws ⟨l, P.g, P.pc, 0⟩ y).x.res, (cstep ws ⟨l, P.g, P.pc, 0⟩ y).ws, (cstep ws ⟨l, P.g, P.pc, 0⟩ y).did, false, 0⟩
      else ⟨{ P with pc := (cstep ws ⟨l, P.g, P.pc, 0⟩ y).x.nx, g := (cstep ws ⟨l, P.g, P.pc, 0⟩ y).x.g }, (cstep ws ⟨l, P.g, P.pc, 0⟩ y).ws, (cstep ws ⟨l, P.g, P.pc, 0⟩ y).did, false, 0⟩
def Lok (l : List Ins) : Prop := 0 < l.length ∧ l.length ≤ 256 ∧ ∀ (i : Nat) (y : Ins), l[i]? = some y → alw y l.length = true
structure ROk (P : Rp) : Prop where
  g : P.g.length = 4
  on : P.en = false → P.res = 0 ∧ ∃ l t, P.L = l :: t ∧ P.pc < l.length
  all : ∀ l ∈ P.L, Lok l
def fr (l : List Ins) : Cd := ⟨l, [0, 0, 0, 0], 0, 0⟩

/-! What a step of a code keeps. -/
theorem go_res {x : Cd} {y : Ins} (h : (x.go y).nx ≠ x.l.length) : (x.go y).res = x.res := by
  unfold Cd.go at h ⊢
  split
  · rename_i e; rw [if_pos e] at h; exact absurd rfl h
  · rename_i e; rw [if_neg e] at h
    split
    · rfl
    · rename_i e2; rw [if_neg e2] at h
      split
      · rename_i e3; rw [if_pos e3] at h; exact absurd rfl h
      · rfl
theorem go_g (x : Cd) (y : Ins) : (x.go y).g = x.g := by
  unfold Cd.go Cd.fin; split
  · rfl
  · split
    · rfl
    · split <;> rfl
theorem reg_keep (x : Cd) (y : Ins) (did : Acc) : (x.reg y did).l = x.l ∧ (x.reg y did).nx = x.nx ∧ (x.reg y did).res = x.res ∧ (x.reg y did).g.length = x.g.length := by
  unfold Cd.reg; split
  · simp
  · split
    · simp
    · split
      · simp
      · simp
theorem go_nle {x : Cd} {y : Ins} (hn : x.nx < x.l.length) (ha : alw y x.l.length = true) : (x.go y).nx ≤ x.l.length := by
  unfold Cd.go Cd.fin; split
  · exact Nat.le_refl _
  · split
    · rename_i h; have := alw_j ha h.1; show y.w.toNat ≤ _; omega
    · split
      · exact Nat.le_refl _
      · show x.nx + 1 ≤ _; omega
/-- A step of a code: an error; a wait; or it goes on. -/
theorem cstep_way (ws : List Int) (x : Cd) (y : Ins) (hn : x.nx < x.l.length) (ha : alw y x.l.length = true) :
    (∃ e, e ≠ 0 ∧ cstep ws x y = ⟨false, e, x, ws, acc0⟩) ∨ (∃ did, cstep ws x y = ⟨true, 0, x, ws, did⟩) ∨
    (∃ x' ws' did, cstep ws x y = ⟨false, 0, x', ws', did⟩ ∧ x'.l = x.l ∧ x'.g.length = x.g.length ∧ x'.nx ≤ x.l.length ∧ (x'.nx ≠ x.l.length → x'.res = x.res)) := by
  unfold cstep; split
  · rename_i h; exact .inl ⟨_, h, rfl⟩
  · split
    · exact .inr (.inl ⟨_, rfl⟩)
    · obtain ⟨k1, k2, k3, k4⟩ := reg_keep x y (mRes ws (iacc y x.g))
      refine .inr (.inr ⟨_, _, _, rfl, ?_, ?_, ?_, fun hh => ?_⟩)
      · have hgo : ∀ x : Cd, (x.go y).l = x.l := fun x => by
          unfold Cd.go Cd.fin; split
          · rfl
          · split
            · rfl
            · split <;> rfl
        rw [hgo, k1]
      · rw [go_g, k4]
      · have := go_nle (x := x.reg y (mRes ws (iacc y x.g))) (y := y) (by rw [k1, k2]; exact hn) (by rw [k1]; exact ha)
        rw [k1] at this; exact this
      · rw [go_res (by rw [k1]; exact hh), k3]
/-- The same said of a program. -/
theorem nxt_way (P : Rp) (ws : List Int) (ok : ROk P) (hen : P.en = false) : ∃ l t y, P.L = l :: t ∧ l[P.pc]? = some y ∧
    ((∃ e, e ≠ 0 ∧ cstep ws ⟨l, P.g, P.pc, 0⟩ y = ⟨false, e, ⟨l, P.g, P.pc, 0⟩, ws, acc0⟩ ∧ nxt P ws = ⟨P, ws, acc0, false, e⟩) ∨
     (∃ did, cstep ws ⟨l, P.g, P.pc, 0⟩ y = ⟨true, 0, ⟨l, P.g, P.pc, 0⟩, ws, did⟩ ∧ nxt P ws = ⟨P, ws, did, true, 0⟩) ∨
     (∃ g nx r ws' did, cstep ws ⟨l, P.g, P.pc, 0⟩ y = ⟨false, 0, ⟨l, g, nx, r⟩, ws', did⟩ ∧ g.length = 4 ∧ nx ≤ l.length ∧ (nx ≠ l.length → r = 0) ∧
        nxt P ws = ⟨if nx = l.length then Rp.ends { P with pc := P.pc + 1, g := g } r else { P with pc := nx, g := g }, ws', did, false, 0⟩)) := by
  obtain ⟨h0, l, t, hL, hpc⟩ := ok.on hen
  have hl := ok.all l (by rw [hL]; simp)
  have hy : l[P.pc]? = some l[P.pc] := List.getElem?_eq_getElem hpc
  refine ⟨l, t, l[P.pc], hL, hy, ?_⟩
  have hx : nxt P ws = _ := rfl
  unfold nxt at hx ⊢
  rw [if_neg (by rw [hen]; simp), hL]
  dsimp only
  rw [hy]
  dsimp only
  rcases cstep_way ws ⟨l, P.g, P.pc, 0⟩ l[P.pc] hpc (hl.2.2 _ _ hy) with ⟨e, he, hc⟩ | ⟨did, hc⟩ | ⟨⟨l', g, nx, r⟩, ws', did, hc, k1, k2, k3, k4⟩
  · left; refine ⟨e, he, hc, ?_⟩
    rw [hc]; dsimp only; rw [if_pos he]
  · right; left; refine ⟨did, hc, ?_⟩
    rw [hc]; dsimp only; rw [if_neg (by simp), if_pos rfl]
  · right; right
    dsimp only at k1 k2 k3 k4
    subst k1
    refine ⟨g, nx, r, ws', did, hc, by rw [k2]; exact ok.g, k3, k4, ?_⟩
    rw [hc]; dsimp only; rw [if_neg (by simp), if_neg (by simp)]
    split <;> rfl
theorem nxt_ok (P : Rp) (ws : List Int) (ok : ROk P) : ROk (nxt P ws).P := by
  cases hen : P.en with
  | true => unfold nxt; rw [if_pos hen]; exact ok
  | false =>
    obtain ⟨l, t, y, hL, hy, ⟨e, he, _, hN⟩ | ⟨did, _, hN⟩ | ⟨g, nx, r, ws', did, _, hg, hnx, hr, hN⟩⟩ := nxt_way P ws ok hen
    · rw [hN]; exact ok
    · rw [hN]; exact ok
    · rw [hN]; dsimp only
      have h0 := (ok.on hen).1
      split
      · unfold Rp.ends
        dsimp only
        rw [hL]
        cases t with
        | nil => exact ⟨hg, (fun h => by cases h), fun l2 h2 => ok.all l2 (by rw [hL]; simpa using h2)⟩
        | cons l2 t =>
          have h2 := ok.all l2 (by rw [hL]; simp)
          exact ⟨rfl, fun _ => ⟨rfl, l2, t, rfl, h2.1⟩, fun l3 h3 => ok.all l3 (by rw [hL]; simp only [List.mem_cons] at h3 ⊢; exact .inr h3)⟩
      · rename_i hne
        exact ⟨hg, fun _ => ⟨h0, l, t, hL, by show nx < l.length; omega⟩, ok.all⟩

/-! Where it lies. -/
def NI (w : World) (x : Nat) : Prop := ∀ cs f, w.heap[x]? ≠ some (.cells cs 74 f)
theorem ni_of {w : World} {x : Nat} {cs : Array Value} {t : TypeId} {f : Nat × Nat} (h : w.heap[x]? = some (.cells cs t f)) (ht : t ≠ 74) : NI w x := fun cs' f' h' => by
  have := h.symm.trans h'
  simp only [Option.some.injEq, Obj.cells.injEq] at this
  exact ht this.2.1
theorem ni_new {w : World} {x : Nat} (h : w.heap.size ≤ x) : NI w x := fun cs f h' => by
  have := lt_of_heap h'; omega
theorem CodeAt.bni {w : World} {q b c : Nat} {x : Cd} (h : CodeAt w q b c x) {y : Nat} (hy : NI w y) : b ≠ y := by
  intro e; subst e
  obtain ⟨_, _, ⟨hh, _⟩ | ⟨g, cs, hg, _, hb, _⟩⟩ := h.row
  · cases hh
  · cases hg; exact hy _ _ hb
theorem Mm.ni {K : Bool} {w : World} {p d cm q : Nat} {a : Acc} {ws : List Int} (h : Mm K w p d cm q a ws) : NI w p ∧ NI w d ∧ NI w q := by
  have h2 : NI w d := by obtain ⟨cs, hc, _⟩ := h.mem.arr; exact ni_of hc (by decide)
  refine ⟨ni_of h.mem.obj (by decide), h2, ?_⟩
  cases hk : K with
  | true => exact ni_of (h.once hk).1 (by decide)
  | false => rw [(h.arena hk).2]; exact h2
def RelC (P : Rp) (x : Cd) : Prop := if P.en = true then x.nx = x.l.length ∧ x.res = P.res else P.L = [x.l] ∧ x = ⟨x.l, P.g, P.pc, 0⟩
def hcs (P : Rp) : List Cd := match P.L with
  | l :: t => ⟨l, P.g, P.pc, 0⟩ :: t.map fr
  | [] => []
def RelH (P : Rp) (cl : List Ce) (res : Int) : Prop := if P.en = true then cl = [] ∧ res = P.res else cl.map Ce.x = hcs P
inductive PgAt (w : World) : Bool → Nat → List Nat → Rp → Prop
  | code {q b c : Nat} {x : Cd} {P : Rp} (h : CodeAt w q b c x) (ok : ROk P) (r : RelC P x) : PgAt w false q [q] P
  | chain {q pb o c : Nat} {a : Option Addr} {cl : List Ce} {res : Int} {P : Rp} (h : ChAt w q pb o c a cl res) (ok : ROk P) (hl : cl.length ≤ 1000000) (r : RelH P cl res) : PgAt w true q (q :: pb :: cl.map Ce.q) P
namespace PgAt
variable {w w' : World} {ch : Bool} {q : Nat} {B : List Nat} {P : Rp}
theorem ok (h : PgAt w ch q B P) : ROk P := by cases h <;> assumption
theorem qB (h : PgAt w ch q B P) : q ∈ B := by cases h <;> simp
theorem lt (h : PgAt w ch q B P) : ∀ x ∈ B, x < w.heap.size := by
  cases h with
  | code h ok r => intro x hx; simp at hx; subst hx; exact h.lt
  | chain h ok hl r =>
    intro x hx
    simp only [List.mem_cons, List.mem_map] at hx
    rcases hx with rfl | rfl | ⟨e, he, rfl⟩
    · exact h.lt
    · exact h.plt
    · obtain ⟨i, hi⟩ := List.getElem?_of_mem he; exact (h.code i e hi).lt
theorem ni (h : PgAt w ch q B P) : ∀ x ∈ B, NI w x := by
  cases h with
  | code h ok r => intro x hx; simp at hx; subst hx; exact ni_of h.obj (by decide)
  | chain h ok hl r =>
    intro x hx
    simp only [List.mem_cons, List.mem_map] at hx
    rcases hx with rfl | rfl | ⟨e, he, rfl⟩
    · exact ni_of h.obj (by decide)
    · obtain ⟨cs, h1, _⟩ := h.row; exact ni_of h1 (by decide)
    · obtain ⟨i, hi⟩ := List.getElem?_of_mem he; exact ni_of (h.code i e hi).obj (by decide)
theorem frm {D : List Nat} (h : PgAt w ch q B P) (hf : Frm D w w') (hB : ∀ x ∈ B, x ∉ D) (hD : ∀ x ∈ D, NI w x) : PgAt w' ch q B P := by
  cases h with
  | code h ok r => exact .code (h.frm hf (hB _ (by simp)) (fun hx => h.bni (hD _ hx) rfl)) ok r
  | chain h ok hl r =>
    refine .chain (h.frm hf (hB _ (by simp)) (hB _ (by simp)) (fun i e he => ⟨hB _ ?_, fun hx => (h.code i e he).bni (hD _ hx) rfl⟩)) ok hl r
    simp only [List.mem_cons, List.mem_map]; exact .inr (.inr ⟨e, List.mem_of_getElem? he, rfl⟩)
theorem frm0 (h : PgAt w ch q B P) (hf : Frm [] w w') : PgAt w' ch q B P := h.frm hf (by simp) (by simp)
end PgAt
#print axioms nxt_ok
end Go.Proofs.Ytieccmmnfnpcoaa
