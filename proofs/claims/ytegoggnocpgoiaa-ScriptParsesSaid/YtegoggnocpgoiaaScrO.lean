/- Package script: Write. -/
import Derived.Test.YtegoggnocpgoiaaScrK
namespace Go.Proofs.Ytegoggnocpgoiaa
open Go.ChangeShapes Go.WideShapes Go.ChangeAt Go.RowKit

/-- The bytes of some operations, one after the other. -/
def wrA : List Opr → Option (List Int)
  | [] => some []
  | x :: l => (wr x).bind fun a => (wrA l).map (a ++ ·)
theorem wrA_snoc (x : Opr) : ∀ l : List Opr, wrA (l ++ [x]) = (wrA l).bind fun a => (wr x).map (a ++ ·)
  | [] => by
    show (wr x).bind _ = _
    cases wr x <;> simp [wrA]
  | y :: l => by
    show (wr y).bind (fun a => (wrA (l ++ [x])).map (a ++ ·)) = ((wr y).bind fun a => (wrA l).map (a ++ ·)).bind _
    rw [wrA_snoc x l]
    cases wr y with
    | none => rfl
    | some a =>
      cases wrA l with
      | none => rfl
      | some b => cases wr x <;> simp
theorem wrA_append : ∀ (l m : List Opr), wrA (l ++ m) = (wrA l).bind fun a => (wrA m).map (a ++ ·)
  | [], m => by
    show wrA m = _
    cases wrA m <;> simp [wrA]
  | y :: l, m => by
    show (wr y).bind (fun a => (wrA (l ++ m)).map (a ++ ·)) = ((wr y).bind fun a => (wrA l).map (a ++ ·)).bind _
    rw [wrA_append l m]
    cases wr y with
    | none => rfl
    | some a =>
      cases wrA l with
      | none => rfl
      | some b => cases wrA m <;> simp
theorem wrA_le : ∀ {l : List Opr} {b : List Int}, wrA l = some b → b.length ≤ 5 * l.length
  | [], b, h => by cases h; simp
  | x :: l, b, h => by
    have hx := wrL_le x
    unfold wrL at hx
    unfold wrA at h
    cases h1 : wr x with
    | none => rw [h1] at h; cases h
    | some a =>
      cases h2 : wrA l with
      | none => rw [h1, h2] at h; cases h
      | some c =>
        rw [h1, h2] at h
        cases h
        have := wrA_le h2
        rw [h1] at hx
        simp at hx ⊢
        omega
theorem wrA_none {l : List Opr} {i : Nat} {x : Opr} (hi : l[i]? = some x) (h : wr x = none) : wrA l = none := by
  obtain ⟨hl, rfl⟩ := List.getElem?_eq_some_iff.1 hi
  have e : l = l.take i ++ (l[i] :: l.drop (i + 1)) := by rw [← List.drop_eq_getElem_cons hl, List.take_append_drop]
  rw [e, wrA_append]
  have : wrA (l[i] :: l.drop (i + 1)) = none := by unfold wrA; rw [h]; rfl
  rw [this]
  cases wrA (l.take i) <;> rfl
theorem wrA_take {l : List Opr} {k : Nat} {x : Opr} (hk : l[k]? = some x) {b a : List Int} (hb : wrA (l.take k) = some b) (ha : wr x = some a) : wrA (l.take (k + 1)) = some (b ++ a) := by
  obtain ⟨hl, rfl⟩ := List.getElem?_eq_some_iff.1 hk
  rw [List.take_succ_eq_append_getElem hl, wrA_snoc, hb, ha]; rfl

/-- What Write returns. -/
def WrPost (w : World) (l : List Opr) (e : Ending) (w' : World) : Prop :=
      ((wrA l = none ∧ e = .returned (.tuple #[.slice none 0 0, .int .i64 2])) ∨
       (∃ bs, wrA l = some bs ∧ 4096 < bs.length ∧ e = .returned (.tuple #[.slice none 0 0, .int .i64 5])) ∨
       (∃ bs a' c', wrA l = some bs ∧ bs.length ≤ 4096 ∧ e = .returned (.tuple #[.slice a' bs.length c', .int .i64 0]) ∧ RowU w.heap.size w' a' bs.length c' bs))
set_option maxRecDepth 100000 in
set_option maxHeartbeats 4000000 in
theorem Write_any {w : World} {a : Option Addr} {n c b o : Nat} {l : List Opr} (hL : Lo w a n c b o l) (hO : ∀ x ∈ l, OpOk x) (hn : n ≤ 5000) :
    Calls Try.prog 23 #[.slice a n c] w (fun e w' => Frm [] w w' ∧
      WrPost w l e w') := by
  have HL := Lib.hid hL
  have HO := Lib.hid hO
  have hlen := hL.len
  have HLN := Lib.hid hlen
  clear hL hO hlen
  go_enter Try.func23, Try.ntmps23
  go_wp2_with fail
  go_loopw [4, 11] (fun v i w' => ∃ (k m : Nat) (a' : Option Addr) (c' : Nat) (D : List Int), k ≤ n ∧ i = .int .i64 k ∧ v = .slice a' m c' ∧ Frm [] w w' ∧ Hid (RowU w.heap.size w' a' m c' D) ∧ Hid (wrA (l.take k) = some D)) (fun _ i _ => n - (intOf i).toNat)
  case atStart => exact ⟨0, 0, none, 0, [], by omega, rfl, rfl, Frm.refl _ _, Lib.hid (RowU.nil _ _), Lib.hid (by simp [wrA])⟩
  case round =>
    obtain ⟨k, m, a', c', D, hk, rfl, rfl, hF, HR, HD⟩ := hrel
    by_cases hlt : k < n
    · have hb0 : (0 : Int) ≤ (k : Int) := by omega
      have hb1 : (k : Int) < (n : Int) := by omega
      obtain ⟨x, hx, hat⟩ := (HL.out.frm0 hF).get hlt
      have hix := ix_op (c := c) HL.out.ad hlt
      obtain ⟨c0, c1, c2, c3, c4, c5, c6, c7⟩ := hat
      have hcall := fun w => write_any w x (HO.out x (List.mem_of_getElem? hx))
      have HX := Lib.hid hx
      have HC := Lib.hid hcall
      have hDl := wrA_le HD.out
      rw [List.length_take] at hDl
      have hmD := HR.out.2
      have hwl := wrL_le x
      have hD2 : D.length + (wrL x).length ≤ 10000000 := by omega
      have HM := Lib.hid hmD
      clear hcall hx hDl hmD hwl
      cases hwx : Go.Proofs.Ytegoggnocpgoiaa.wr x with
      | none =>
        have hnone := wrA_none HX.out hwx
        rw [hwx] at HC
        have HN := Lib.hid hnone
        clear hnone hwx
        go_wp2_with fail
        refine (HC.out _).mono ?_
        rintro e w2 ⟨a2, c2', rfl, hF2, hR2⟩
        have hFF := (hF.alloc (.cells #[.int .i64 x.k, .int .i64 x.t, .int .i64 x.n, .int .i64 x.v, .string x.key, .string x.val, .string x.old, .int .i64 x.tk] 30)).trans hF2
        clear hF2 hR2
        go_wp2
        go_ret2
        exact ⟨hFF, .inl ⟨HN.out, rfl⟩⟩
      | some y =>
        have hy : wrL x = y := by unfold wrL; rw [hwx]; rfl
        have hT := wrA_take HX.out HD.out hwx
        rw [hwx, hy] at HC
        rw [hy] at hD2
        have HT := Lib.hid hT
        clear hT hwx hy
        go_wp2_with fail
        refine (HC.out _).mono ?_
        rintro e w2 ⟨a2, c2', rfl, hF2, hR2⟩
        have hFF := (hF.alloc (.cells #[.int .i64 x.k, .int .i64 x.t, .int .i64 x.n, .int .i64 x.v, .string x.key, .string x.val, .string x.old, .int .i64 x.tk] 30)).trans hF2
        have hRow := (HR.out.frm0 ((Frm.refl [] wr).alloc (.cells #[.int .i64 x.k, .int .i64 x.t, .int .i64 x.n, .int .i64 x.v, .string x.key, .string x.val, .string x.old, .int .i64 x.tk] 30))).frm0 hF2
        obtain ⟨b2, hL2⟩ := hR2.li
        have HRow := Lib.hid hRow
        have HL2 := Lib.hid hL2
        clear hF2 hR2 hRow hL2
        go_wp2_with (at_builtin; refine wpl_appU rfl (.tmp 22) (.tmp 23) rfl (B := w.heap.size) (a := a') (n := m) (c := c') (m := y.length) (l := D) (l2 := y) (by simp [Act.eval]) (by simp [Act.eval]) HRow.out HL2.out hD2 (by have := hFF.size; omega) ?_; intro a3 c3 w3 hR3 hF3)
        have hF4 : Frm [] w w3 := hFF.trans_new hF3 (fun j hj => .inr (HRow.out.blk j hj).1)
        have HR3 := Lib.hid hR3
        clear hR3 hF3
        go_wp2
        go_roundw
        case rel => exact ⟨k + 1, m + y.length, a3, c3, D ++ y, by omega, by go_num, rfl, hF4, HR3, HT⟩
        case measure => simp [intOf]; omega
    · obtain rfl : k = n := by omega
      have hall := HD.out
      rw [List.take_of_length_le (by have := HLN.out; omega)] at hall
      have hmD := HR.out.2
      have HA := Lib.hid hall
      have HM := Lib.hid hmD
      clear hall hmD
      by_cases hlong : 4096 < m
      · have d0 : decide ((4096 : Int) < (m : Int)) = true := by simp; omega
        go_wp2
        go_ret2
        exact ⟨hF, .inr (.inl ⟨D, HA.out, by have := HM.out; omega, rfl⟩)⟩
      · have d0 : decide ((4096 : Int) < (m : Int)) = false := by simp; omega
        obtain rfl := HM.out
        go_wp2
        go_ret2
        exact ⟨hF, .inr (.inr ⟨D, a', c', HA.out, by omega, rfl, HR.out⟩)⟩
end Go.Proofs.Ytegoggnocpgoiaa
