/- Stage 12: Copy of a chain, Chain. -/
import Derived.Test.YtieccmmnfnpcoaaThO
namespace Go.Proofs.Ytieccmmnfnpcoaa
open Go.ChangeShapes Go.WideShapes Go.ChangeAt Go.RowKit
set_option linter.unusedVariables false
/-- A new chain of new codes. -/
theorem Cpd.chain {B : Nat} {w w' : World} {g : Nat} {cl dl : List Ce} (h : Cpd B w g cl.length cl dl) (hd : dl.length = cl.length) {q : Nat} {res : Int} (hf : Frm [] w w')
    (ho : w'.heap[q]? = some (.cells #[.slice (some ⟨g, 0, none⟩) cl.length cl.length, .int .u64 res] 131 (0, 0))) : ChAt w' q g 0 cl.length (some ⟨g, 0, none⟩) dl res := by
  refine ⟨by rw [hd]; exact ho, fun _ => rfl, by omega, ⟨_, hf.heap h.row (by simp), fun i e he => ?_⟩, fun i e he => (h.code i e he).frm0 hf, h.one⟩
  have hi : i < dl.length := (List.getElem?_eq_some_iff.1 he).1
  rw [Nat.zero_add, List.getElem?_toArray, List.getElem?_append_left (by simpa using hi), List.getElem?_map, he]; rfl
theorem Cpd.all {B : Nat} {w : World} {g n : Nat} {cl dl : List Ce} (h : Cpd B w g n cl dl) (hd : dl.length = cl.length) : dl.map Ce.x = cl.map Ce.x := by
  have := h.same
  rwa [hd, List.take_length] at this
section
variable {w : World} {q pb o c : Nat} {a : Option Addr} {cl : List Ce} {res : Int}
theorem hcopy_at (h : ChAt w q pb o c a cl res) (hl : cl.length ≤ 1000000) : Calls Try.prog 116 #[.pointer (some ⟨q, 0, none⟩)] w
    (fun e w' => ∃ q', Ret (.iface 129 (.pointer (some ⟨q', 0, none⟩))) (fun w' => Frm [] w w' ∧ ∃ g dl, ChAt w' q' g 0 cl.length (some ⟨g, 0, none⟩) dl res ∧ dl.map Ce.x = cl.map Ce.x ∧ w.heap.size ≤ q' ∧ w.heap.size ≤ g ∧ ∀ e ∈ dl, w.heap.size ≤ e.q) e w') := by
  have h0 := h.c0
  have HC := Lib.hid (copies_at h.codes hl c)
  have H := Lib.hid h
  have hql := h.lt
  clear h hl
  go_enter Try.func116, Try.ntmps116
  go_wp2_with fail
  refine HC.out.mono ?_
  rintro e w1 ⟨g, dl, rfl, hF, hC, hd⟩
  have h1 := (H.out.frm0 hF).c1
  have HF := Lib.hid hF
  have HC1 := Lib.hid hC
  have HD := Lib.hid hd
  clear h0 hF hC hd HC
  go_wp2
  go_ret
  refine ⟨_, rfl, HF.out.alloc _, g, dl, HC1.out.chain HD.out ((Frm.refl _ _).alloc _) (heap_alloc_new _ _), HC1.out.all HD.out, by have := HF.out.size; omega, HC1.out.gnew, fun e he => ?_⟩
  obtain ⟨i, hi⟩ := List.getElem?_of_mem he
  exact HC1.out.new i e hi
theorem chain_ok {e : Ce} {l : List Ce} (h : Codes w a pb o (e :: l)) (hl : (e :: l).length ≤ 1000000) (hx : e.x.nx < e.x.l.length) (c : Nat) : Calls Try.prog 30 #[.slice a (e :: l).length c] w
    (fun en w' => ∃ q', Ret (.tuple #[.iface 129 (.pointer (some ⟨q', 0, none⟩)), .int .i64 0]) (fun w' => Frm [] w w' ∧ ∃ g dl, ChAt w' q' g 0 (e :: l).length (some ⟨g, 0, none⟩) dl 0 ∧ dl.map Ce.x = (e :: l).map Ce.x ∧ w.heap.size ≤ q' ∧ w.heap.size ≤ g ∧ ∀ f ∈ dl, w.heap.size ≤ f.q) en w') := by
  have HC := Lib.hid (copies_at h hl c)
  have hb : ((((e :: l).length : Nat) : Int) == 0) = false := by simp; omega
  generalize hn : (e :: l).length = n at HC hb ⊢
  have HN := Lib.hid hn
  have HX := Lib.hid hx
  clear h hl hn hx
  go_enter Try.func30, Try.ntmps30
  go_wp2_with fail
  refine HC.out.mono ?_
  rintro e1 w1 ⟨g, dl, rfl, hF, hC, hd⟩
  rw [← HN.out] at hC
  have HF := Lib.hid hF
  have HC1 := Lib.hid hC
  have HD := Lib.hid (hd.trans HN.out.symm)
  clear hF hC hd HC
  go_wp2_with fail
  have hCh := HC1.out.chain HD.out (q := w1.heap.size) (res := 0) ((Frm.refl [] w1).alloc _) (by rw [HN.out]; exact heap_alloc_new _ _)
  have hF2 : Frm [] w (w1.alloc (.cells #[.slice (some ⟨g, 0, none⟩) (e :: l).length (e :: l).length, .int .u64 0] 131)) := HF.out.alloc _
  have hsz := HF.out.size
  have hdl := HC1.out.all HD.out
  obtain ⟨f, dl', rfl⟩ : ∃ f dl', dl = f :: dl' := by
    cases dl with
    | nil => have := HD.out; simp at this
    | cons f dl' => exact ⟨f, dl', rfl⟩
  have hfx : f.x = e.x := by rw [List.map_cons, List.map_cons, List.cons.injEq] at hdl; exact hdl.1
  rw [HN.out] at hCh hF2
  generalize w1.alloc (.cells #[.slice (some ⟨g, 0, none⟩) n n, .int .u64 0] 131) = X at hCh hF2 ⊢
  have HCh := Lib.hid hCh
  have HF2 := Lib.hid hF2
  have HDL := Lib.hid hdl
  have hg := HC1.out.gnew
  have hnew := HC1.out.new
  have HNEW := Lib.hid hnew
  refine (hgo_keep HCh.out (by rw [hfx]; exact HX.out)).mono ?_
  clear hCh hF2 hdl hnew hfx
  rintro e2 w2 ⟨rfl, hF3⟩
  have HF3 := Lib.hid hF3
  clear hF3
  go_wp2
  go_ret2
  refine ⟨_, rfl, HF2.out.trans HF3.out, g, f :: dl', HCh.out.frm0 HF3.out, HDL.out, hsz, hg, fun x hx => ?_⟩
  obtain ⟨i, hi⟩ := List.getElem?_of_mem hx
  exact HNEW.out i x hi
theorem chain_none (w : World) (a : Option Addr) (c : Nat) : Calls Try.prog 30 #[.slice a 0 c] w (Ret (.tuple #[.nilIface, .int .i64 2]) (fun w' => Frm [] w w')) := by
  have HC := Lib.hid (copies_at (w := w) (a := a) (pb := 0) (o := 0) (cl := []) ⟨fun h => absurd h (by simp), fun i e h => by simp at h, fun i e h => by simp at h⟩ (by simp) c)
  go_enter Try.func30, Try.ntmps30
  go_wp2_with fail
  refine HC.out.mono ?_
  rintro e1 w1 ⟨g, dl, rfl, hF, hC, hd⟩
  have HF := Lib.hid hF
  clear hF hC hd HC
  go_wp2
  go_ret2
  exact ⟨rfl, HF.out⟩
end
end Go.Proofs.Ytieccmmnfnpcoaa
