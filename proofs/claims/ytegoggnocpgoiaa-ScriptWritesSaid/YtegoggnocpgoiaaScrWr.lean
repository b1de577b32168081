/- Layer 4: the walk of ScriptWrites. -/
import Derived.Test.YtegoggnocpgoiaaScrBy
namespace Go.Proofs.Ytegoggnocpgoiaa
open Go.ChangeShapes Go.WideShapes Go.ChangeAt Go.RowKit

/-- What the law knows of the operations that it has gone over: whether all are fine, and their bytes. -/
def Good (F : Bool) (l : List Opr) (D : List Int) : Prop := (F = true → wrA l = some D) ∧ (F = false → wrA l = none)
theorem good_step {F r : Bool} {l : List Opr} {k : Nat} {o : Opr} {D L : List Int} (h : Good F (l.take k) D) (hk : l[k]? = some o) (hr : (Go.Proofs.Ytegoggnocpgoiaa.wr o).isSome = r) (hL : r = true → L = wrL o) : Good (F && r) (l.take (k + 1)) (D ++ L) := by
  obtain ⟨hl, rfl⟩ := List.getElem?_eq_some_iff.1 hk
  have e : l.take (k + 1) = l.take k ++ [l[k]] := List.take_succ_eq_append_getElem hl
  constructor
  · intro hfr
    have hF : F = true := by cases F <;> simp_all
    have hR : r = true := by cases F <;> simp_all
    have h1 := h.1 hF
    rw [hR] at hr
    cases hw : Go.Proofs.Ytegoggnocpgoiaa.wr l[k] with
    | none => rw [hw] at hr; cases hr
    | some y =>
      have h2 := hL hR
      unfold wrL at h2
      rw [hw] at h2
      rw [e, wrA_snoc, h1, hw, h2]; rfl
  · intro hfr
    rw [e, wrA_snoc]
    cases F with
    | false => rw [h.2 rfl]; rfl
    | true =>
      rw [h.1 rfl]
      have hR : r = false := by simpa using hfr
      rw [hR] at hr
      cases hw : Go.Proofs.Ytegoggnocpgoiaa.wr l[k] with
      | none => rfl
      | some y => rw [hw] at hr; cases hr

set_option maxRecDepth 100000 in
set_option maxHeartbeats 6400000 in
theorem writes_walk {w : World} {a : Option Addr} {n c b o : Nat} {l : List Opr} (hL : Lo w a n c b o l) (hO : ∀ x ∈ l, OpOk x) :
    Calls Try.prog 4 #[.slice a n c] w (Ret (.bool true) (fun w' => Frm [] w w')) := by
  have hfew := few_any hL 12 (by omega)
  cases hf : fewL l 12 with
  | false =>
    rw [hf] at hfew
    have HFEW := Lib.hid hfew
    clear hfew hf hL hO
    go_enter Try.func4, Try.ntmps4
    go_wp2_with fail
    refine HFEW.out.mono ?_
    rintro e w1 ⟨rfl, rfl⟩
    go_wp2_with fail
    refine (known_true _).mono ?_
    rintro e w2 ⟨rfl, hF2⟩
    go_wp2
    go_ret
    exact ⟨rfl, hF2⟩
  | true =>
    rw [hf] at hfew
    have hn : n ≤ 12 := by
      unfold fewL at hf
      have := hL.len
      simp at hf
      omega
    have HFEW := Lib.hid hfew
    have HL := Lib.hid hL
    have HO := Lib.hid hO
    have hlen := hL.len
    have HLN := Lib.hid hlen
    clear hfew hf hL hO hlen
    go_enter Try.func4, Try.ntmps4
    go_wp2_with fail
    refine HFEW.out.mono ?_
    rintro e w1 ⟨rfl, rfl⟩
    go_wp2_with fail
    go_loopw [3, 4, 15] (fun v f i w' => ∃ (k m : Nat) (a' : Option Addr) (c' : Nat) (D : List Int) (F : Bool), k ≤ n ∧ i = .int .i64 k ∧ v = .slice a' m c' ∧ f = .bool F ∧ Frm [] w w' ∧ m ≤ 5 * k ∧ Hid (RowU w.heap.size w' a' m c' D) ∧ Hid (Good F (l.take k) D)) (fun _ _ i _ => n - (intOf i).toNat)
    case atStart => exact ⟨0, 0, none, 0, [], true, by omega, rfl, rfl, rfl, Frm.refl _ _, by omega, Lib.hid (RowU.nil _ _), Lib.hid ⟨fun _ => by simp [wrA], fun h => by cases h⟩⟩
    case round =>
      obtain ⟨k, m, a', c', D, F, hk, rfl, rfl, rfl, hF, hm5, HR, HG⟩ := hrel
      by_cases hlt : k < n
      · have hb0 : (0 : Int) ≤ (k : Int) := by omega
        have hb1 : (k : Int) < (n : Int) := by omega
        obtain ⟨x, hx, hat⟩ := (HL.out.frm0 hF).get hlt
        have hix := ix_op (c := c) HL.out.ad hlt
        obtain ⟨c0, c1, c2, c3, c4, c5, c6, c7⟩ := hat
        have hval := fun W => valid_any W x (HO.out x (List.mem_of_getElem? hx))
        have hbyt := fun W => bytes_any W x
        have hmD := HR.out.2
        obtain ⟨r, hr⟩ : ∃ r, (Go.Proofs.Ytegoggnocpgoiaa.wr x).isSome = r := ⟨_, rfl⟩
        rw [hr] at hval
        have HVAL := Lib.hid hval
        have HBYT := Lib.hid hbyt
        have HX := Lib.hid hx
        have Hr := Lib.hid hr
        have HM := Lib.hid hmD
        clear hval hbyt hx hr hmD
        go_wp2_with fail
        refine (HBYT.out _).mono ?_
        rintro e w2 ⟨ab, cb, L, rfl, hF2, hR2, h5, hLw⟩
        rw [Hr.out] at hLw ⊢
        have hG2 := (hF.alloc (.cells #[.int .i64 x.k, .int .i64 x.t, .int .i64 x.n, .int .i64 x.v, .string x.key, .string x.val, .string x.old, .int .i64 x.tk] 30)).trans hF2
        have e2 := hF2.heap (heap_alloc_new wr (.cells #[.int .i64 x.k, .int .i64 x.t, .int .i64 x.n, .int .i64 x.v, .string x.key, .string x.val, .string x.old, .int .i64 x.tk] 30)) (by simp)
        obtain ⟨u0, u1, u2, u3, u4, u5, u6, u7⟩ := OpAt.block e2
        simp only [Nat.zero_add] at u0 u1 u2 u3 u4 u5 u6 u7
        have hRow := (HR.out.frm0 ((Frm.refl [] wr).alloc (.cells #[.int .i64 x.k, .int .i64 x.t, .int .i64 x.n, .int .i64 x.v, .string x.key, .string x.val, .string x.old, .int .i64 x.tk] 30))).frm0 hF2
        obtain ⟨b2, hLi⟩ := hR2.li
        have hstep := good_step HG.out HX.out Hr.out hLw
        obtain ⟨ll, hll⟩ : ∃ ll, L.length = ll := ⟨_, rfl⟩
        rw [hll] at h5 hLi ⊢
        have HROW := Lib.hid hRow
        have HLI := Lib.hid hLi
        have HSTEP := Lib.hid hstep
        clear hF2 hR2 hLw e2 hRow hLi hstep hll c0 c1 c2 c3 c4 c5 c6 c7
        go_wp2_with fail
        refine (HVAL.out _).mono ?_
        rintro e w3 ⟨rfl, hF3⟩
        have hG3 := hG2.trans hF3
        have HROW3 := Lib.hid (HROW.out.frm0 hF3)
        have HLI3 := Lib.hid (HLI.out.frm0 hF3)
        clear hF3 hG2 u0 u1 u2 u3 u4 u5 u6 u7
        have hDl : D.length = m := HM.out.symm
        have HDL := Lib.hid hDl
        clear hDl
        cases F with
        | true =>
          go_wp2_with (at_builtin; refine wpl_appU rfl (.tmp 32) (.tmp 33) rfl (B := w.heap.size) (a := a') (n := m) (c := c') (m := ll) (l := D) (l2 := L) (by simp [Act.eval]) (by simp [Act.eval]) HROW3.out HLI3.out (by rw [HDL.out]; omega) (by have := hG3.size; omega) ?_; intro a4 c4 w4 hR4 hF4)
          have hG4 : Frm [] w w4 := hG3.trans_new hF4 (fun j hj => .inr (HROW3.out.blk j hj).1)
          have HR4 := Lib.hid hR4
          clear hR4 hF4 hG3
          go_wp2
          go_roundw
          case rel => exact ⟨k + 1, m + ll, a4, c4, D ++ L, r, by omega, by go_num, rfl, rfl, hG4, by omega, HR4, Lib.hid (by have := HSTEP.out; simpa using this)⟩
          case measure => simp [intOf]; omega
        | false =>
          go_wp2_with (at_builtin; refine wpl_appU rfl (.tmp 32) (.tmp 33) rfl (B := w.heap.size) (a := a') (n := m) (c := c') (m := ll) (l := D) (l2 := L) (by simp [Act.eval]) (by simp [Act.eval]) HROW3.out HLI3.out (by rw [HDL.out]; omega) (by have := hG3.size; omega) ?_; intro a4 c4 w4 hR4 hF4)
          have hG4 : Frm [] w w4 := hG3.trans_new hF4 (fun j hj => .inr (HROW3.out.blk j hj).1)
          have HR4 := Lib.hid hR4
          clear hR4 hF4 hG3
          go_wp2
          go_roundw
          case rel => exact ⟨k + 1, m + ll, a4, c4, D ++ L, false, by omega, by go_num, rfl, rfl, hG4, by omega, HR4, Lib.hid (by have := HSTEP.out; simpa using this)⟩
          case measure => simp [intOf]; omega
      · obtain rfl : k = n := by omega
        have hg := HG.out
        rw [List.take_of_length_le (by have := HLN.out; omega)] at hg
        have HGG := Lib.hid hg
        clear hg
        have hmD := HR.out.2
        obtain ⟨b2, hLi⟩ := HR.out.li
        have HLI := Lib.hid hLi
        have HM := Lib.hid hmD
        clear hLi hmD
        cases F with
        | true =>
          go_wp2_with fail
          refine (writes_ok (HL.out.frm0 hF) HO.out (by omega) (HGG.out.1 rfl) (by have := HM.out; omega) HLI.out).mono ?_
          rintro e w3 ⟨rfl, hF3⟩
          go_wp2_with fail
          refine (known_true _).mono ?_
          rintro e w4 ⟨rfl, hF4⟩
          go_wp2
          go_ret
          exact ⟨rfl, (hF.trans hF3).trans hF4⟩
        | false =>
          go_wp2_with fail
          refine (writes_err (HL.out.frm0 hF) HO.out (by omega) (.inl ⟨HGG.out.2 rfl, rfl⟩)).mono ?_
          rintro e w3 ⟨rfl, hF3⟩
          go_wp2_with fail
          refine (known_true _).mono ?_
          rintro e w4 ⟨rfl, hF4⟩
          go_wp2
          go_ret
          exact ⟨rfl, (hF.trans hF3).trans hF4⟩

theorem walk_ScriptWrites (a : Option Addr) (n c : Nat) (xs : List Opr) (w : World) (h : IsOpsC c w a n xs) :
    Calls Try.prog 4 #[.slice a n c] w (Ret (.bool true) (fun w' => Below w.heap.size w w')) := by
  obtain ⟨b, o, hL⟩ := lo_of_ops h.1 h.2
  exact (writes_walk hL h.1.2.1).mono fun _ _ hh => ⟨hh.1, bel hh.2⟩
end Go.Proofs.Ytegoggnocpgoiaa
