/- The walk of ModesGrants. -/
import Derived.Test.YthnmjildeenecaaDoorModX
import Derived.Deep.RegionLaw
import Derived.Deep.DeepCutAuto
import Derived.Maps.AppendAt
namespace Go.Proofs.YthnmjildeenecaaDoor
open Go.ChangeShapes Go.WideShapes Go.ChangeAt Go.RowKit

/-- append of integers that are read somewhere, and where the new slice lies. -/
theorem run_app_at {k : IntKind} {t T : TypeId} {z : Value} {by_ : Nat} (hT : Tryd.prog.underlying T = some (.slice t)) (hi0 : (Tryd.prog.info? t).map (fun i => (i.zero, i.size, i.bytes)) = some (some z, 1, by_)) (hz : z.cells.size = 1) (hby : by_ ≤ 8)
    {B : Nat} {w : World} {a a2 : Option Addr} {n c m c2 b2 o2 : Nat} {l l2 : List Int} (hR : Row k t B w a n c l) (hL : Li k w a2 m c2 b2 o2 l2) (hn : l.length + m ≤ 10000000) (hB : B ≤ w.heap.size) (ty : TypeId) :
    ∃ a' c' w', (Builtin.append_ #[T, T] ty #[.slice a n c, .slice a2 m c2]).run Tryd.prog w = .ok (.slice a' (n + m) c') w' ∧ Row k t B w' a' (n + m) c' (l ++ l2) ∧ Frm (Go.Proofs.YthnmjildeenecaaDoor.blk (.slice a n c)) w w' ∧
      ∀ x ∈ Go.Proofs.YthnmjildeenecaaDoor.blk (.slice a' (n + m) c'), x ∈ Go.Proofs.YthnmjildeenecaaDoor.blk (.slice a n c) ∨ w.heap.size ≤ x := by
  obtain ⟨i0, hi, hz0, hz1, hz2⟩ := info_parts hi0
  have hfm := hR.form
  obtain ⟨hO, rfl⟩ := hR
  have hlen := hL.len
  by_cases hm : 0 < m
  · obtain rfl := hL.ad hm
    obtain ⟨v', w', hr, hO2, hg, _, hat⟩ := run_append_own_at (P := Tryd.prog) w B T ty t i0 z 1 by_ hT hi hz0 hz1 hz2 hz (by decide) _ _ _ hO ⟨b2, o2, none⟩ m c2 (ns k l2) (by rw [ns_length]; omega)
      (fun j u hj => by
        rw [Addr.add_lit]
        have hjl := (List.getElem?_eq_some_iff.1 hj).1
        rw [ns_length] at hjl
        rw [hL.cell j (l2[j]) (List.getElem?_eq_getElem hjl), ← hj]
        simp [ns, List.getElem?_eq_getElem hjl]) (ns_one k l2) (by unfold maxLen; omega) (by
          have : (l.length + m) * by_ ≤ (l.length + m) * 8 := Nat.mul_le_mul_left _ hby
          omega) hB
    obtain ⟨a', c', rfl, _, _⟩ := own_form hO2
    refine ⟨a', c', w', hr, ⟨?_, by simp [hlen]⟩, Frm.grown hg (fun k hk => own_ownb hO k hk), fun x hx => ?_⟩
    · have e : ns k (l ++ l2) = ns k l ++ ns k l2 := by simp [ns]
      rw [e, List.length_append, hlen]; exact hO2
    · cases a' with
      | none => cases hx
      | some a'' =>
        simp [Go.Proofs.YthnmjildeenecaaDoor.blk] at hx
        subst hx
        rcases hat with hat | hat
        · exact .inl (own_ownb hO _ hat.symm)
        · simp [Value.ownBlock] at hat; right; omega
  · obtain rfl : m = 0 := by omega
    obtain rfl : l2 = [] := List.eq_nil_of_length_eq_zero hlen
    have := run_append_none (P := Tryd.prog) w T ty t i0 hT hi a l.length c a2 c2 hfm.1 hfm.2
    exact ⟨a, c, w, this, ⟨by simpa using hO, by simp⟩, Frm.refl _ _, fun x hx => .inl hx⟩
/-- The same, in a region. -/
theorem step_appR {k : IntKind} {t T : TypeId} {z : Value} {by_ : Nat} (hT : Tryd.prog.underlying T = some (.slice t)) (hi0 : (Tryd.prog.info? t).map (fun i => (i.zero, i.size, i.bytes)) = some (some z, 1, by_)) (hz : z.cells.size = 1) (hby : by_ ≤ 8)
    {w : World} {ops : Array Oper} {o : Oper} {x : Act} {K : Act → World → Prop} {Q : Exit → Act → World → Prop} {E : Prop} (hgd : o.guard = none) (p q : Operand)
    (ho : o.op = .call { callee := .builtin .append, args := #[p, q], argTypes := #[T, T] }) {B : Nat} {a a2 : Option Addr} {n c m c2 b2 o2 : Nat} {l l2 : List Int}
    (hd : x.eval p = .slice a n c) (hq : x.eval q = .slice a2 m c2) (hR : Row k t B w a n c l) (hL : Li k w a2 m c2 b2 o2 l2) (hn : l.length + m ≤ 10000000) (hB : B ≤ w.heap.size)
    (hK : ∀ a' c' w', Row k t B w' a' (n + m) c' (l ++ l2) → Frm (blk (.slice a n c)) w w' → (∀ x ∈ blk (.slice a' (n + m) c'), x ∈ blk (.slice a n c) ∨ w.heap.size ≤ x) → K (x.put o.dst (.slice a' (n + m : Nat) c')) w') :
    if Region.wanted o (yielded ops x.tmps) = true then Oper.wp Tryd.prog o x w K Q else E := by
  have hw : Region.wanted o (yielded ops x.tmps) = true := by simp [Region.wanted, hgd]
  rw [if_pos hw]
  obtain ⟨a', c', w', hr, h1, h2, h3⟩ := run_app_at hT hi0 hz hby hR hL hn hB o.type
  unfold Oper.wp
  simp [execOp, ho, resolve, invoke, builtin, hd, hq, hr, Result.andThen]
  exact hK _ _ _ h1 h2 h3
/-- A slice of no elements, with room. -/
theorem row_room {k : IntKind} {t : TypeId} {B g n : Nat} {w : World} {Z : Array Value} (h : w.heap[g]? = some (.cells Z t (0, 0))) (hZ : Z.size = n) (hB : B ≤ g) (hn : n ≤ maxLen) : Row k t B w (some ⟨g, 0, none⟩) 0 n [] :=
  ⟨⟨rfl, .inr ⟨g, n, Z, rfl, hB, h, Nat.zero_le _, hn, by omega, by simp [ns]⟩⟩, rfl⟩
theorem make90 : ∃ Z : Array Value, Z.size = 90 ∧ ∀ w, (Instr.makeSlice 30 (.int .i64 0) (.int .i64 90)).run Tryd.prog w = .ok (.slice (some ⟨w.heap.size, 0, none⟩) 0 90) (w.alloc (.cells Z 22)) := by
  obtain ⟨i0, hi, hz0, hz1, hz2⟩ := info_parts info_md
  refine ⟨madeCells (Value.int .i64 0).cells (Int.toNat (90 : Int) * 1), by simp [madeCells], fun w => ?_⟩
  have := run_make (P := Tryd.prog) w 30 22 i0 (.int .i64 0) Tryd.underlying30 hi hz0 .i64 .i64 0 90 (by omega) (by omega) (by rw [hz2]; decide) (by omega)
  rw [this, hz1]
  rfl
theorem le90 : 90 ≤ maxLen := by unfold maxLen; omega
theorem alloc2 (w : World) (o o' : Obj) : ((w.alloc o).alloc o').heap[w.heap.size + 1]? = some o' := heap_alloc_at _ (by simp)
set_option maxHeartbeats 4000000 in
theorem walk_ModesGrants (a : Option Addr) (n c : Nat) (zs : List Int) (a2 : Option Addr) (n2 c2 : Nat) (zs2 : List Int) (g : Int) (hg : (Lit.int .i64 g).wf = true) (W : World) (hW : Laid W) (hR : IsRow .i64 W a n c zs) (hR2 : IsRow .i64 W a2 n2 c2 zs2) :
    Calls Tryd.prog 6 #[.slice a n c, .slice a2 n2 c2, .int .i64 g] W (Ret (.bool true) (fun w' => Below W.heap.size W w')) := by
  obtain ⟨b, o, hL, _, _⟩ := li_of_row hR
  obtain ⟨b2, o2, hL2, _, _⟩ := li_of_row hR2
  have HW := Lib.hid hW
  have HL := Lib.hid hL
  have HL2 := Lib.hid hL2
  generalize zs.take n = h at HL
  generalize zs2.take n2 = q at HL2
  have hg0 : lo64 ≤ g := by
    simp [Lit.wf, IntKind.min, IntKind.max, IntKind.signed, IntKind.bits] at hg
    unfold lo64; omega
  have HG := Lib.hid hg0
  clear hW hL hR hL2 hR2 hg hg0
  by_cases hn : 40 < n
  · have d : decide ((40 : Int) < (n : Int)) = true := by simp; omega
    go_enter Tryd.func6, Tryd.ntmps6
    go_wp2_with fail
    refine (known_true HW.out).mono ?_
    rintro e w2 ⟨rfl, hF⟩
    go_wp2_with fail
    go_ret
    exact ⟨rfl, bel hF⟩
  · have d : decide ((40 : Int) < (n : Int)) = false := by simp; omega
    by_cases hn2 : 40 < n2
    · have d2 : decide ((40 : Int) < (n2 : Int)) = true := by simp; omega
      go_enter Tryd.func6, Tryd.ntmps6
      go_wp2_with fail
      refine (known_true HW.out).mono ?_
      rintro e w2 ⟨rfl, hF⟩
      go_wp2_with fail
      go_ret
      exact ⟨rfl, bel hF⟩
    · have d2 : decide ((40 : Int) < (n2 : Int)) = false := by simp; omega
      obtain ⟨Z, hZ, hmk⟩ := make90
      have HZ := Lib.hid hZ
      clear hZ
      go_enter Tryd.func6, Tryd.ntmps6
      go_upto_region 3 with fail
      go_cut [7, 8] (fun s7 s8 wx => ∃ (a3 a4 : Option Addr) (c3 c4 : Nat), s7 = .slice a3 n c3 ∧ s8 = .slice a4 n2 c4 ∧ Frm [] W wx ∧ Hid (Row .i64 22 W.heap.size wx a3 n c3 h) ∧ Hid (Row .i64 22 W.heap.size wx a4 n2 c4 q))
      case first =>
        go_region_law (first | (refine step_appR Tryd.underlying30 info_md (by decide) (by decide) rfl (.tmp 20) (.tmp 21) rfl (B := W.heap.size) (a := some ⟨W.heap.size, 0, none⟩) (n := 0) (c := 90) (m := n) (l := []) (l2 := h) rfl rfl (row_room (heap_alloc_old _ (heap_alloc_new W _)) HZ.out (Nat.le_refl _) le90) (HL.out.frm0 (by (repeat' (first | assumption | exact Frm.refl _ _ | apply Frm.drew | apply Frm.alloc)))) (by simp; omega) (by simp; try omega) ?_; intro a3 c3 w3 hR3 hF3 hb3; have hS3 : Frm [] W w3 := Frm.trans_new (by (repeat' (first | assumption | exact Frm.refl _ _ | apply Frm.drew | apply Frm.alloc))) hF3 (fun x hx => .inr (by simp [blk] at hx; omega)); have hZ2 := hF3.heap (alloc2 W _ _) (by simp [blk])) | (refine step_appR Tryd.underlying30 info_md (by decide) (by decide) rfl (.tmp 20) (.tmp 21) rfl (B := W.heap.size) (a := some ⟨W.heap.size, 0, none⟩) (n := 0) (c := 90) (m := n) (l := []) (l2 := h) rfl rfl (row_room (heap_alloc_new W _) HZ.out (Nat.le_refl _) le90) (HL.out.frm0 (by (repeat' (first | assumption | exact Frm.refl _ _ | apply Frm.drew | apply Frm.alloc)))) (by simp; omega) (by simp; try omega) ?_; intro a3 c3 w3 hR3 hF3 hb3; have hS3 : Frm [] W w3 := Frm.trans_new (by (repeat' (first | assumption | exact Frm.refl _ _ | apply Frm.drew | apply Frm.alloc))) hF3 (fun x hx => .inr (by simp [blk] at hx; omega))) | (refine step_appR Tryd.underlying30 info_md (by decide) (by decide) rfl (.tmp 20) (.tmp 21) rfl (B := W.heap.size) (a := some ⟨W.heap.size + 1, 0, none⟩) (n := 0) (c := 90) (m := n) (l := []) (l2 := h) rfl rfl (row_room (alloc2 W _ _) HZ.out (Nat.le_add_right _ _) le90) (HL.out.frm0 (by (repeat' (first | assumption | exact Frm.refl _ _ | apply Frm.drew | apply Frm.alloc)))) (by simp; omega) (by simp; try omega) ?_; intro a3 c3 w3 hR3 hF3 hb3; have hS3 : Frm [] W w3 := Frm.trans_new (by (repeat' (first | assumption | exact Frm.refl _ _ | apply Frm.drew | apply Frm.alloc))) hF3 (fun x hx => .inr (by simp [blk] at hx; omega)); have hZ2 := hF3.heap (heap_alloc_old _ (heap_alloc_new W _)) (by simp [blk])) | (refine step_appR Tryd.underlying30 info_md (by decide) (by decide) rfl (.tmp 23) (.tmp 24) rfl (B := W.heap.size) (a := some ⟨W.heap.size + 1, 0, none⟩) (n := 0) (c := 90) (m := n2) (l := []) (l2 := q) rfl rfl (row_room hZ2 HZ.out (Nat.le_add_right _ _) le90) (HL2.out.frm0 (by (repeat' (first | assumption | exact Frm.refl _ _ | apply Frm.drew | apply Frm.alloc)))) (by simp; omega) (by have := hS3.size; first | omega | (simp; omega)) ?_; intro a4 c4 w4 hR4 hF4 hb4; have hS4 : Frm [] W w4 := Frm.trans_new (by (repeat' (first | assumption | exact Frm.refl _ _ | apply Frm.drew | apply Frm.alloc))) hF4 (fun x hx => .inr (by have := hS3.size; simp [blk] at hx; omega)); have hR5 := (hR3.frm0 (by (repeat' (first | assumption | exact Frm.refl _ _ | apply Frm.drew | apply Frm.alloc)))).frm hF4 (fun x hx => by have hx2 := hb3 x hx; simp [blk] at hx2 ⊢; omega)) | (refine step_appR Tryd.underlying30 info_md (by decide) (by decide) rfl (.tmp 23) (.tmp 24) rfl (B := W.heap.size) (a := some ⟨W.heap.size, 0, none⟩) (n := 0) (c := 90) (m := n2) (l := []) (l2 := q) rfl rfl (row_room hZ2 HZ.out (Nat.le_refl _) le90) (HL2.out.frm0 (by (repeat' (first | assumption | exact Frm.refl _ _ | apply Frm.drew | apply Frm.alloc)))) (by simp; omega) (by have := hS3.size; first | omega | (simp; omega)) ?_; intro a4 c4 w4 hR4 hF4 hb4; have hS4 : Frm [] W w4 := Frm.trans_new (by (repeat' (first | assumption | exact Frm.refl _ _ | apply Frm.drew | apply Frm.alloc))) hF4 (fun x hx => .inr (by have := hS3.size; simp [blk] at hx; omega)); have hR5 := (hR3.frm0 (by (repeat' (first | assumption | exact Frm.refl _ _ | apply Frm.drew | apply Frm.alloc)))).frm hF4 (fun x hx => by have hx2 := hb3 x hx; simp [blk] at hx2 ⊢; omega)) | (refine step_appR Tryd.underlying30 info_md (by decide) (by decide) rfl (.tmp 23) (.tmp 24) rfl (B := W.heap.size) (a := some ⟨w3.heap.size, 0, none⟩) (n := 0) (c := 90) (m := n2) (l := []) (l2 := q) rfl rfl (row_room (heap_alloc_new w3 _) HZ.out hS3.size le90) (HL2.out.frm0 (by (repeat' (first | assumption | exact Frm.refl _ _ | apply Frm.drew | apply Frm.alloc)))) (by simp; omega) (by have := hS3.size; first | omega | (simp; omega)) ?_; intro a4 c4 w4 hR4 hF4 hb4; have hS4 : Frm [] W w4 := Frm.trans_new (by (repeat' (first | assumption | exact Frm.refl _ _ | apply Frm.drew | apply Frm.alloc))) hF4 (fun x hx => .inr (by have := hS3.size; simp [blk] at hx; omega)); have hR5 := (hR3.frm0 (by (repeat' (first | assumption | exact Frm.refl _ _ | apply Frm.drew | apply Frm.alloc)))).frm hF4 (fun x hx => by have hx2 := (hR3.blk x hx).2; simp [blk]; omega)))
        all_goals
          go_wp2
          go_meet
          exact ⟨a3, a4, c3, c4, by simp, by simp, hS4, Lib.hid (by simpa using hR5), Lib.hid (by simpa using hR4)⟩
      case rest =>
        obtain ⟨a3, a4, c3, c4, rfl, rfl, hF, HR3, HR4⟩ := hcut
        obtain ⟨b3, hL3⟩ := HR3.out.li
        obtain ⟨b4, hL4⟩ := HR4.out.li
        have HL3 := Lib.hid hL3
        have HL4 := Lib.hid hL4
        clear hL3 hL4 HR3 HR4 hmk
        go_wp2_with fail
        refine (Grants_any (HW.out.frm0 hF) HL3.out HL4.out (by omega) (by omega) g HG.out).mono ?_
        rintro e w5 ⟨rfl, hF5⟩
        replace hF := hF.trans hF5
        replace HL3 := Lib.hid (HL3.out.frm0 hF5)
        replace HL4 := Lib.hid (HL4.out.frm0 hF5)
        clear hF5
        go_wp2_with fail
        refine (rGrants_any (HL.out.frm0 hF) (HL2.out.frm0 hF) (by omega) (by omega) g HG.out).mono ?_
        rintro e w6 ⟨rfl, hF6⟩
        replace hF := hF.trans hF6
        replace HL3 := Lib.hid (HL3.out.frm0 hF6)
        replace HL4 := Lib.hid (HL4.out.frm0 hF6)
        clear hF6
        go_wp2_with fail
        go_loopw [51] (fun i w' => ∃ k : Nat, k ≤ n ∧ i = .int .i64 k ∧ Frm [] W w' ∧ Hid (Li .i64 w' a3 n c3 b3 0 h) ∧ Hid (Li .i64 w' a4 n2 c4 b4 0 q)) (fun i _ => n - (intOf i).toNat)
        case atStart => exact ⟨0, by omega, rfl, hF, HL3, HL4⟩
        case round =>
          obtain ⟨k, hk, rfl, hFr, HLr, HLs⟩ := hrel
          by_cases hlt : k < n
          · obtain ⟨x, hx, _, hc1⟩ := HLr.out.get hlt
            have hc2 := (HL.out.frm0 hFr).cell k x hx
            have hi1 := ix_md (c := c3) HLr.out.ad hlt
            have hi2 := ix_md (c := c) HL.out.ad hlt
            simp only [Nat.zero_add] at hc1 hi1
            have hb0 : (k : Int) < (n : Int) := by omega
            clear hx
            go_wp2_with fail
            go_quiet (fail)
            go_wp2
            go_roundw
            case rel => exact ⟨k + 1, by omega, by go_num, hFr.drewN _, Lib.hid (HLr.out.frm0 ((Frm.refl _ _).drewN _)), Lib.hid (HLs.out.frm0 ((Frm.refl _ _).drewN _))⟩
            case measure => simp [intOf]; omega
          · obtain rfl : k = n := by omega
            clear hk hlt
            go_wp2_with fail
            go_loopw [66] (fun i w' => ∃ k : Nat, k ≤ n2 ∧ i = .int .i64 k ∧ Frm [] W w' ∧ Hid (Li .i64 w' a4 n2 c4 b4 0 q)) (fun i _ => n2 - (intOf i).toNat)
            case atStart => exact ⟨0, by omega, rfl, hFr, HLs⟩
            case round =>
              obtain ⟨j, hj, rfl, hFs, HLt⟩ := hrel
              by_cases hlt : j < n2
              · obtain ⟨x, hx, _, hc1⟩ := HLt.out.get hlt
                have hc2 := (HL2.out.frm0 hFs).cell j x hx
                have hi1 := ix_md (c := c4) HLt.out.ad hlt
                have hi2 := ix_md (c := c2) HL2.out.ad hlt
                simp only [Nat.zero_add] at hc1 hi1
                have hb0 : (j : Int) < (n2 : Int) := by omega
                clear hx
                go_wp2_with fail
                go_quiet (fail)
                go_wp2
                go_roundw
                case rel => exact ⟨j + 1, by omega, by go_num, hFs.drewN _, Lib.hid (HLt.out.frm0 ((Frm.refl _ _).drewN _))⟩
                case measure => simp [intOf]; omega
              · obtain rfl : j = n2 := by omega
                go_wp2_with fail
                refine (known_true (HW.out.frm0 hFs)).mono ?_
                rintro e w7 ⟨rfl, hF7⟩
                go_wp2_with fail
                go_ret
                exact ⟨rfl, bel (hFs.trans hF7)⟩
#print axioms walk_ModesGrants
end Go.Proofs.YthnmjildeenecaaDoor
