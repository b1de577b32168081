/- Stage 12: chains: where they lie; goOn. -/
import Derived.Test.YtieccmmnfnpcoaaThK
import Derived.LoopN
namespace Go.Proofs.Ytieccmmnfnpcoaa
open Go.ChangeShapes Go.WideShapes Go.ChangeAt Go.RowKit
set_option linter.unusedVariables false

/-- A code of a chain: its block, that of its instructions, their room, what it is. -/
structure Ce where
  q : Nat
  b : Nat
  c : Nat
  x : Cd
def Ce.val (e : Ce) : Value := .iface 76 (.pointer (some ⟨e.q, 0, none⟩))
structure ChAt (w : World) (q pb o c : Nat) (a : Option Addr) (cl : List Ce) (res : Int) : Prop where
  obj : w.heap[q]? = some (.cells #[.slice a cl.length c, .int .u64 res] 131 (0, 0))
  ad : 0 < cl.length → a = some ⟨pb, o, none⟩
  cap : cl.length ≤ c
  row : ∃ cs, w.heap[pb]? = some (.cells cs 27 (0, 0)) ∧ ∀ (i : Nat) (e : Ce), cl[i]? = some e → cs[o + i]? = some e.val
  code : ∀ (i : Nat) (e : Ce), cl[i]? = some e → CodeAt w e.q e.b e.c e.x
  one : ∀ (i j : Nat) (e f : Ce), cl[i]? = some e → cl[j]? = some f → i ≠ j → e.q ≠ f.q
namespace ChAt
variable {w w' : World} {q pb o c : Nat} {a : Option Addr} {cl : List Ce} {res : Int}
theorem lt (h : ChAt w q pb o c a cl res) : q < w.heap.size := lt_of_heap h.obj
theorem plt (h : ChAt w q pb o c a cl res) : pb < w.heap.size := by obtain ⟨cs, h1, _⟩ := h.row; exact lt_of_heap h1
theorem c0 (h : ChAt w q pb o c a cl res) : w.cell? ⟨q, 0, none⟩ = some (.slice a cl.length c) := by rw [cell_of_heap h.obj]; rfl
theorem c1 (h : ChAt w q pb o c a cl res) : w.cell? ⟨q, 1, none⟩ = some (.int .u64 res) := by rw [cell_of_heap h.obj]; rfl
theorem frz (h : ChAt w q pb o c a cl res) (k : Nat) : w.frozen? ⟨q, k, none⟩ = false := frozen_of_heap h.obj
theorem pfrz (h : ChAt w q pb o c a cl res) (k : Nat) : w.frozen? ⟨pb, k, none⟩ = false := by obtain ⟨cs, h1, _⟩ := h.row; exact frozen_of_heap h1
theorem pcell (h : ChAt w q pb o c a cl res) {i : Nat} {e : Ce} (he : cl[i]? = some e) : w.cell? ⟨pb, o + i, none⟩ = some (.iface 76 (.pointer (some ⟨e.q, 0, none⟩))) := by
  obtain ⟨cs, h1, h2⟩ := h.row
  rw [cell_of_heap h1]; exact h2 i e he
theorem ne (h : ChAt w q pb o c a cl res) : q ≠ pb := by
  intro e; subst e
  obtain ⟨cs, h1, _⟩ := h.row
  have := h1.symm.trans h.obj
  simp only [Option.some.injEq, Obj.cells.injEq] at this
  exact absurd this.2.1 (by decide)
theorem neq (h : ChAt w q pb o c a cl res) {x : Nat} {cs : Array Value} {t : TypeId} (hx : w.heap[x]? = some (.cells cs t (0, 0))) (h1 : t ≠ 131) (h2 : t ≠ 27) : x ≠ q ∧ x ≠ pb := by
  constructor
  · intro e; subst e
    have := hx.symm.trans h.obj
    simp only [Option.some.injEq, Obj.cells.injEq] at this
    exact h1 this.2.1
  · intro e; subst e
    obtain ⟨ds, h3, _⟩ := h.row
    have := hx.symm.trans h3
    simp only [Option.some.injEq, Obj.cells.injEq] at this
    exact h2 this.2.1
theorem frm {D : List Nat} (h : ChAt w q pb o c a cl res) (hf : Frm D w w') (hq : q ∉ D) (hp : pb ∉ D) (hc : ∀ (i : Nat) (e : Ce), cl[i]? = some e → e.q ∉ D ∧ e.b ∉ D) : ChAt w' q pb o c a cl res :=
  ⟨hf.heap h.obj hq, h.ad, h.cap, let ⟨cs, h1, h2⟩ := h.row; ⟨cs, hf.heap h1 hp, h2⟩, fun i e he => (h.code i e he).frm hf (hc i e he).1 (hc i e he).2, h.one⟩
theorem frm0 (h : ChAt w q pb o c a cl res) (hf : Frm [] w w') : ChAt w' q pb o c a cl res := h.frm hf (by simp) (by simp) (fun _ _ _ => by simp)
theorem drewN (h : ChAt w q pb o c a cl res) (n : Nat) : ChAt (w.drewN n) q pb o c a cl res := h.frm0 ((Frm.refl [] w).drewN n)
/-- The first one is dropped. -/
theorem drop {e : Ce} {l : List Ce} (h : ChAt w q pb o c a (e :: l) res) {a' : Option Addr} (ha : 0 < l.length → a' = some ⟨pb, o + 1, none⟩) (v : Int) :
    ChAt ((w.setCell ⟨q, 1, none⟩ (.int .u64 v)).setCell ⟨q, 0, none⟩ (.slice a' l.length (c - 1))) q pb (o + 1) (c - 1) a' l v := by
  have hF : Frm [q] w ((w.setCell ⟨q, 1, none⟩ (.int .u64 v)).setCell ⟨q, 0, none⟩ (.slice a' l.length (c - 1))) :=
    ((Frm.refl [q] w).setCell ⟨q, 1, none⟩ _ (.inl (by simp))).setCell ⟨q, 0, none⟩ _ (.inl (by simp))
  have hne := h.ne
  have hcap := h.cap
  obtain ⟨cs, h1, h2⟩ := h.row
  refine ⟨?_, ha, by simp at hcap; omega, ⟨cs, hF.heap h1 (by simp; exact hne.symm), fun i f hf => ?_⟩, fun i f hf => ?_, fun i j f g hf hg hij => ?_⟩
  · have := heap_setCell_at (i := 0) (.slice a' l.length (c - 1)) (heap_setCell_at (i := 1) (.int .u64 v) h.obj)
    simpa using this
  · have := h2 (i + 1) f (by simpa using hf)
    rw [show o + 1 + i = o + (i + 1) by omega]; exact this
  · have hA := h.code (i + 1) f (by simpa using hf)
    have hi := hA.row.ne h.obj (by decide) f.b (by simp [bkG])
    refine hA.frm hF ?_ (by simpa using hi)
    have := h.neq hA.obj (by decide) (by decide)
    simpa using this.1
  · exact h.one (i + 1) (j + 1) f g (by simpa using hf) (by simpa using hg) (by omega)
end ChAt
theorem cut_prog {a : Option Addr} {n c pb o : Nat} (ha : a = some ⟨pb, o, none⟩) (hn : n + 1 ≤ c) :
    ∃ a', (∀ W : World, (Instr.sliceAt 108 (.slice a (n + 1) c) (some (.int .i64 1)) none none).run Try.prog W = .ok (.slice a' n (c - 1)) W) ∧ (0 < n → a' = some ⟨pb, o + 1, none⟩) := by
  refine ⟨if c = 1 then a else a.map (·.add 1), fun W => ?_, fun hp => ?_⟩
  · have h1 : ¬ ((n : Int) + 1 < 1) := by omega
    simp [go_sem, h1, Addr.add]
  · rw [if_neg (by omega), ha]; rfl
section
variable {w : World} {q pb o c : Nat} {a : Option Addr} {cl : List Ce} {res : Int}
theorem hdone_at (h : ChAt w q pb o c a cl res) : Calls Try.prog 117 #[.pointer (some ⟨q, 0, none⟩)] w (Ret (.bool (decide (cl.length = 0))) (fun w' => w = w')) := by
  have h0 := h.c0
  have hb : ((cl.length : Int) == 0) = decide (cl.length = 0) := by rw [Bool.eq_iff_iff]; simp
  generalize decide (cl.length = 0) = B at hb ⊢
  clear h
  go_enter Try.func117, Try.ntmps117
  go_wp2
  go_ret
  exact ⟨rfl, rfl⟩
theorem hresult_at (h : ChAt w q pb o c a cl res) : Calls Try.prog 118 #[.pointer (some ⟨q, 0, none⟩)] w (Ret (.int .u64 (if cl.length = 0 then res else 0)) (fun w' => w = w')) := by
  have h1 := h.c1
  have H := Lib.hid (hdone_at h)
  by_cases hl : cl.length = 0
  · rw [if_pos hl]
    have hd : decide (cl.length = 0) = true := by simpa using hl
    rw [hd] at H
    clear h hl hd
    go_enter Try.func118, Try.ntmps118
    go_wp2_with fail
    refine H.out.mono ?_
    rintro e w' ⟨rfl, rfl⟩
    go_wp2
    go_ret
    exact ⟨rfl, rfl⟩
  · rw [if_neg hl]
    have hd : decide (cl.length = 0) = false := by simpa using hl
    rw [hd] at H
    clear h hl hd
    go_enter Try.func118, Try.ntmps118
    go_wp2_with fail
    refine H.out.mono ?_
    rintro e w' ⟨rfl, rfl⟩
    go_wp2
    go_ret
    exact ⟨rfl, rfl⟩
set_option maxRecDepth 100000 in
/-- The first one has not ended. -/
theorem hgo_keep {e : Ce} {l : List Ce} (h : ChAt w q pb o c a (e :: l) res) (hx : e.x.nx < e.x.l.length) : Calls Try.prog 68 #[.pointer (some ⟨q, 0, none⟩)] w (Ret (.tuple #[]) (fun w' => Frm [] w w')) := by
  have h0 := h.c0
  obtain rfl := h.ad (by simp)
  have hp : w.cell? ⟨pb, o, none⟩ = some (.iface 76 (.pointer (some ⟨e.q, 0, none⟩))) := h.pcell (i := 0) rfl
  have H := Lib.hid (hE_code (h.code 0 e rfl))
  have hd : decide (e.x.nx = e.x.l.length) = false := by simp; omega
  rw [hd] at H
  rw [List.length_cons] at h0
  have hb : decide ((0 : Int) < ((l.length + 1 : Nat) : Int)) = true := by simp
  clear h hd hx
  go_enter Try.func68, Try.ntmps68
  go_wp2_with fail
  refine wp_loop_rounds 1 ?_
  rw [rounds_succ]
  go_wp2_with fail
  refine H.out.mono ?_
  rintro e1 w1 ⟨rfl, hF⟩
  have HF := Lib.hid hF
  clear hF
  go_wp2
  go_end0
  exact ⟨rfl, HF.out⟩
end
end Go.Proofs.Ytieccmmnfnpcoaa
