/- Stage 12: copiesOf, Copy of a chain, Chain. -/
import Derived.Test.YtieccmmnfnpcoaaThN
namespace Go.Proofs.Ytieccmmnfnpcoaa
open Go.ChangeShapes Go.WideShapes Go.ChangeAt Go.RowKit
set_option linter.unusedVariables false
def nils (n : Nat) : Array Value := (List.replicate n Value.nilIface).toArray
theorem i_prog : (Try.prog.info? 27).map (fun i => (i.zero, i.size, i.bytes)) = some (some .nilIface, 1, 16) := by kernel_rfl
theorem make_prog (n : Nat) (h : n ≤ 2147483647) (w : World) : (Instr.makeSlice 108 (.int .i64 n) (.int .i64 n)).run Try.prog w =
    .ok (.slice (some ⟨w.heap.size, 0, none⟩) n n) (w.alloc (.cells (nils n) 27)) := by
  obtain ⟨i0, hi, hz0, hz1, hz2⟩ := info_parts i_prog
  have := run_make (P := Try.prog) w 108 27 i0 .nilIface Try.underlying108 hi hz0 .i64 .i64 (n : Int) (n : Int) (by omega) (by omega) (by rw [hz2]; omega) (by omega)
  rw [this, hz1]
  have e : madeCells (Value.nilIface).cells (Int.toNat (n : Int) * 1) = nils n := by
    apply Array.ext
    · simp [madeCells, nils]
    · intro j h1 h2
      simp [madeCells, nils, Value.cells, Nat.mod_one]
  rw [e]; simp
theorem ix_prog {a : Option Addr} {n c b o k : Nat} (ha : 0 < n → a = some ⟨b, o, none⟩) (hk : k < n) (w : World) : (Instr.indexAt 108 (.slice a n c) (.int .i64 (k : Int))).run Try.prog w = .ok (.pointer (some ⟨b, o + k, none⟩)) w := by
  obtain rfl := ha (by omega)
  have h1 : (k : Int) < (n : Int) := by omega
  simp [go_sem, h1]
/-- Codes behind interfaces, one after the other, in the block pb from o on. -/
structure Codes (w : World) (a : Option Addr) (pb o : Nat) (cl : List Ce) : Prop where
  ad : 0 < cl.length → a = some ⟨pb, o, none⟩
  cell : ∀ (i : Nat) (e : Ce), cl[i]? = some e → w.cell? ⟨pb, o + i, none⟩ = some (.iface 76 (.pointer (some ⟨e.q, 0, none⟩)))
  code : ∀ (i : Nat) (e : Ce), cl[i]? = some e → CodeAt w e.q e.b e.c e.x
theorem Codes.frm0 {w w' : World} {a : Option Addr} {pb o : Nat} {cl : List Ce} (h : Codes w a pb o cl) (hf : Frm [] w w') : Codes w' a pb o cl :=
  ⟨h.ad, fun i e he => by rw [hf.cell (World.block_lt_of_cell? w _ (h.cell i e he)) (by simp)]; exact h.cell i e he, fun i e he => (h.code i e he).frm0 hf⟩
theorem ChAt.codes {w : World} {q pb o c : Nat} {a : Option Addr} {cl : List Ce} {res : Int} (h : ChAt w q pb o c a cl res) : Codes w a pb o cl := ⟨h.ad, fun i e he => h.pcell he, h.code⟩
/-- What copiesOf has copied of some codes: new codes in a new row. -/
structure Cpd (B : Nat) (w : World) (g n : Nat) (cl dl : List Ce) : Prop where
  len : dl.length ≤ cl.length
  same : dl.map Ce.x = (cl.take dl.length).map Ce.x
  row : w.heap[g]? = some (.cells (dl.map Ce.val ++ List.replicate (n - dl.length) Value.nilIface).toArray 27 (0, 0))
  code : ∀ (i : Nat) (e : Ce), dl[i]? = some e → CodeAt w e.q e.b e.c e.x
  new : ∀ (i : Nat) (e : Ce), dl[i]? = some e → B ≤ e.q
  one : ∀ (i j : Nat) (e f : Ce), dl[i]? = some e → dl[j]? = some f → i ≠ j → e.q ≠ f.q
  gnew : B ≤ g
theorem Cpd.next {B : Nat} {w w' : World} {g n : Nat} {cl dl : List Ce} (h : Cpd B w g n cl dl) (hn : cl.length = n) (hf : Frm [] w w') {e : Ce} (he : cl[dl.length]? = some e) {q' : Nat} (hA : CodeAt w' q' e.b e.c e.x) (hq : w.heap.size ≤ q') (hB : B ≤ w.heap.size) :
    Cpd B (w'.setCell ⟨g, dl.length, none⟩ (.iface 76 (.pointer (some ⟨q', 0, none⟩)))) g n cl (dl ++ [⟨q', e.b, e.c, e.x⟩]) := by
  have hlt : dl.length < cl.length := (List.getElem?_eq_some_iff.1 he).1
  have hrow := hf.heap h.row (by simp)
  have hF : Frm [g] w' (w'.setCell ⟨g, dl.length, none⟩ (.iface 76 (.pointer (some ⟨q', 0, none⟩)))) := (Frm.refl _ _).setCell _ _ (.inl (by simp))
  have hnew : ∀ (i : Nat) (x : Ce), dl[i]? = some x → x.q < w.heap.size := fun i x hx => (h.code i x hx).lt
  have hcode : ∀ (q b c : Nat) (x : Cd), CodeAt w' q b c x → CodeAt (w'.setCell ⟨g, dl.length, none⟩ (.iface 76 (.pointer (some ⟨q', 0, none⟩)))) q b c x := fun q b c x hA => by
    have h1 := hA.row.ne hrow (by decide) b (by simp [bkG])
    have h2 : q ≠ g := by
      intro e; subst e
      have := hA.obj.symm.trans hrow
      simp only [Option.some.injEq, Obj.cells.injEq] at this
      exact absurd this.2.1 (by decide)
    exact hA.frm hF (by simpa using h2) (by simpa using h1)
  have key : ∀ (i : Nat) (x : Ce), (dl ++ [(⟨q', e.b, e.c, e.x⟩ : Ce)])[i]? = some x → (dl[i]? = some x) ∨ (i = dl.length ∧ x = ⟨q', e.b, e.c, e.x⟩) := fun i x hx => by
    rcases Nat.lt_or_ge i dl.length with hi | hi
    · rw [List.getElem?_append_left hi] at hx; exact .inl hx
    · rw [List.getElem?_append_right hi] at hx
      have : i - dl.length = 0 := by have := (List.getElem?_eq_some_iff.1 hx).1; simp at this; omega
      rw [this] at hx; simp at hx
      exact .inr ⟨by omega, hx.symm⟩
  refine ⟨by simp; omega, ?_, ?_, fun i x hx => ?_, fun i x hx => ?_, fun i j x y hx hy hij => ?_, h.gnew⟩
  · rw [List.map_append, h.same, List.length_append, List.length_singleton, List.take_add_one, he]; simp
  · rw [heap_setCell_at _ hrow]
    congr 2
    rw [List.setIfInBounds_toArray]
    congr 1
    have e1 : n - dl.length = (n - (dl.length + 1)) + 1 := by omega
    rw [e1, List.replicate_succ, List.set_append_right _ _ (by simp), List.length_map, Nat.sub_self, List.set_cons_zero, List.map_append, List.length_append, List.length_singleton, List.append_assoc]; rfl
  · rcases key i x hx with h1 | ⟨_, rfl⟩
    · exact hcode _ _ _ _ ((h.code i x h1).frm0 hf)
    · exact hcode _ _ _ _ hA
  · rcases key i x hx with h1 | ⟨_, rfl⟩
    · exact h.new i x h1
    · show B ≤ q'; omega
  · rcases key i x hx with h1 | ⟨h1, rfl⟩ <;> rcases key j y hy with h2 | ⟨h2, rfl⟩
    · exact h.one i j x y h1 h2 hij
    · have := hnew i x h1; show x.q ≠ q'; omega
    · have := hnew j y h2; show q' ≠ y.q; omega
    · omega
section
variable {w : World} {a : Option Addr} {pb o c : Nat} {cl : List Ce}
set_option maxHeartbeats 2000000 in
theorem copies_at (h : Codes w a pb o cl) (hl : cl.length ≤ 1000000) (c : Nat) :
    Calls Try.prog 67 #[.slice a cl.length c] w (fun e w' => ∃ g dl, Ret (.tuple #[.slice (some ⟨g, 0, none⟩) cl.length cl.length, .bool true]) (fun w' => Frm [] w w' ∧ Cpd w.heap.size w' g cl.length cl dl ∧ dl.length = cl.length) e w') := by
  obtain ⟨n, hn⟩ : ∃ n, cl.length = n := ⟨_, rfl⟩
  rw [hn] at hl ⊢
  have had := h.ad
  rw [hn] at had
  have hmk := make_prog n (by omega)
  have H := Lib.hid h
  have HN := Lib.hid hn
  clear h hn
  go_enter Try.func67, Try.ntmps67
  go_wp2_with fail
  go_loopw [13] (fun i wr => ∃ dl : List Ce, dl.length ≤ n ∧ i = .int .i64 dl.length ∧ Frm [] w wr ∧ Cpd w.heap.size wr w.heap.size n cl dl) (fun i _ => n - (intOf i).toNat)
  case atStart => exact ⟨[], Nat.zero_le _, rfl, (Frm.refl _ _).alloc _, ⟨by simp, rfl, heap_alloc_new _ _, fun i e he => by simp at he, fun i e he => by simp at he, fun i j e f he => by simp at he, Nat.le_refl _⟩⟩
  case round =>
    obtain ⟨dl, hk, rfl, hF, hC⟩ := hrel
    by_cases hlt : dl.length < n
    · obtain ⟨e, he⟩ : ∃ e, cl[dl.length]? = some e := ⟨_, List.getElem?_eq_getElem (by rw [HN.out]; exact hlt)⟩
      have hcx := H.out.frm0 hF
      have hce := hcx.cell _ _ he
      have hix := ix_prog (c := c) had hlt
      have hgx := hC.row
      have hgl := lt_of_heap hgx
      have HA := Lib.hid (cO_code (hcx.code _ _ he))
      have HE := Lib.hid he
      have HC := Lib.hid hC
      have HF := Lib.hid hF
      clear he hF hC hcx hgx
      go_wp2_with fail
      refine HA.out.mono ?_
      rintro e1 w2 ⟨q', rfl, hF2, hA2, hq2⟩
      have hgx := hF2.heap HC.out.row (by simp)
      have hgl2 := lt_of_heap hgx
      have hold : w2.cell? ⟨w.heap.size, dl.length, none⟩ = some .nilIface := by
        rw [cell_of_heap hgx, List.getElem?_toArray, List.getElem?_append_right (by simp), List.getElem?_replicate, if_pos (by simp; omega)]
      have hfz : w2.frozen? ⟨w.heap.size, dl.length, none⟩ = false := frozen_of_heap hgx
      have hN := HC.out.next HN.out hF2 HE.out hA2 hq2 HF.out.size
      have hFF : Frm [] w (w2.setCell ⟨w.heap.size, dl.length, none⟩ (.iface 76 (.pointer (some ⟨q', 0, none⟩)))) := (HF.out.trans hF2).setCell _ _ (.inr (Nat.le_refl _))
      have HN2 := Lib.hid hN
      have HFF := Lib.hid hFF
      clear hF2 hA2 hgx hN hFF
      go_wp2
      go_roundw
      case rel => exact ⟨dl ++ [⟨q', e.b, e.c, e.x⟩], by simp; omega, by simp, HFF.out, HN2.out⟩
      case measure => simp [intOf]; omega
    · have hd : dl.length = n := by omega
      have HD := Lib.hid hd
      have HC := Lib.hid hC
      have HF := Lib.hid hF
      clear hd hC hF
      go_wp2
      go_ret2
      exact ⟨_, dl, rfl, HF.out, HC.out, by rw [HD.out]⟩
end
end Go.Proofs.Ytieccmmnfnpcoaa
