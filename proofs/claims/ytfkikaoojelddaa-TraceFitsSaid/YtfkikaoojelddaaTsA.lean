/- Stage 13: rows of what has been done; the reference's Fits. (By gen_tsf.py.) -/
import Derived.Test.YtfkikaoojelddaaTrJ
import Derived.Deep.AppendSrc
import Derived.Lib.AppendZerosOnto
namespace Go.Proofs.Ytfkikaoojelddaa
open Go.ChangeShapes Go.WideShapes Go.ChangeAt Go.RowKit
set_option linter.unusedVariables false
set_option linter.unusedSimpArgs false
def RowD (B : Nat) (w : World) (a : Option Addr) (n c : Nat) (l : List (Dd)) : Prop := w.ownsRow B 40 7 (.slice a n c) l.length (ddsC l) ∧ n = l.length
theorem RowD.nil (B : Nat) (w : World) : RowD B w none 0 0 [] := ⟨World.ownsRow_nil _ _ _ _, rfl⟩
theorem RowD.frm {D : List Nat} {B : Nat} {w w' : World} {a : Option Addr} {n c : Nat} {l : List (Dd)} (h : RowD B w a n c l) (hf : Frm D w w') (hd : ∀ x ∈ blk (.slice a n c), x ∉ D) : RowD B w' a n c l := ⟨own_frm h.1 hf hd, h.2⟩
theorem RowD.frm0 {B : Nat} {w w' : World} {a : Option Addr} {n c : Nat} {l : List (Dd)} (h : RowD B w a n c l) (hf : Frm [] w w') : RowD B w' a n c l := h.frm hf (by simp)
theorem RowD.blk {B : Nat} {w : World} {a : Option Addr} {n c : Nat} {l : List (Dd)} (h : RowD B w a n c l) : ∀ x ∈ blk (.slice a n c), B ≤ x ∧ x < w.heap.size := own_blk h.1
theorem RowD.dl {B : Nat} {w : World} {a : Option Addr} {n c : Nat} {l : List (Dd)} (h : RowD B w a n c l) : ∃ b, DL w a n c b 0 l := by
  obtain ⟨⟨h0, hh⟩, h2⟩ := h
  rcases hh with ⟨hv, hn⟩ | ⟨g, cap, cur, hv, hg, hc, hn, hm, hs, ht⟩
  · cases hv
    obtain rfl : l = [] := List.eq_nil_of_length_eq_zero hn
    exact ⟨0, DL.nil w⟩
  · cases hv
    refine ⟨g, h2.symm, fun _ => rfl, fun j v hv => ?_, by omega, fun h => by cases h⟩
    have hlt := (List.getElem?_eq_some_iff.1 hv).1
    rw [ddsC_length] at hlt
    rw [cell_of_heap hc, Nat.zero_add, ← Array.getElem?_toList]
    rw [← ht, List.getElem?_take, if_pos (by omega)] at hv
    exact hv
theorem info_did : (Try.prog.info? 40).map (fun i => (i.zero, i.size, i.bytes)) = some (some (.agg #[.int .i64 0, .int .i64 0, .int .i64 0, .int .u64 0, .int .u64 0, .bool false, .bool false]), 7, 48) := by kernel_rfl
/-- append of stores that are read somewhere. -/
theorem run_appD {B : Nat} {w : World} {a a2 : Option Addr} {n c m c2 b2 o2 : Nat} {l l2 : List (Dd)} (hR : RowD B w a n c l) (hL : DL w a2 m c2 b2 o2 l2) (hn : l.length + m ≤ 1000000) (hB : B ≤ w.heap.size) (ty : TypeId) :
    ∃ a' c' w', (Builtin.append_ #[22, 22] ty #[.slice a n c, .slice a2 m c2]).run Try.prog w = .ok (.slice a' (n + m) c') w' ∧ RowD B w' a' (n + m) c' (l ++ l2) ∧ Frm (Go.Proofs.Ytfkikaoojelddaa.blk (.slice a n c)) w w' := by
  obtain ⟨i0, hi, hz0, hz1, hz2⟩ := info_parts info_did
  obtain ⟨hO, rfl⟩ := hR
  have hlen := hL.len
  by_cases hm : 0 < m
  · obtain rfl := hL.ad hm
    obtain ⟨v', w', hr, hO2, hg, _⟩ := run_append_own (P := Try.prog) w B 22 ty 40 i0 _ 7 48 Try.underlying22 hi hz0 hz1 hz2 rfl (by decide) _ _ _ hO ⟨b2, o2, none⟩ m c2 (ddsC l2) (by rw [ddsC_length]; omega)
      (fun j u hj => by rw [Addr.add_lit]; exact hL.cell j u hj) (ddsC_one l2) (by unfold maxLen; omega) (by omega) hB
    obtain ⟨a', c', rfl, _, _⟩ := own_form hO2
    refine ⟨a', c', w', hr, ⟨?_, by simp [hlen]⟩, Frm.grown hg (fun k hk => own_ownb hO k hk)⟩
    rw [ddsC_append, List.length_append, hlen]; exact hO2
  · obtain rfl : m = 0 := by omega
    obtain rfl : l2 = [] := List.eq_nil_of_length_eq_zero hlen
    obtain ⟨a', c', hv, hnc, hn0⟩ := own_form hO
    have := run_append_none (P := Try.prog) w 22 ty 40 i0 Try.underlying22 hi a l.length c a2 c2 (by cases hv; exact hnc) (by cases hv; exact hn0)
    exact ⟨a, c, w, this, ⟨by simpa using hO, by simp⟩, Frm.refl _ _⟩
theorem wpl_appD {w : World} {ops : Array Oper} {rest : List Oper} {o : Oper} {x : Act} {Q : Exit → Act → World → Prop} (hgd : o.guard = none) (p q : Operand)
    (ho : o.op = .call { callee := .builtin .append, args := #[p, q], argTypes := #[22, 22] }) {B : Nat} {a a2 : Option Addr} {n c m c2 b2 o2 : Nat} {l l2 : List (Dd)}
    (hd : x.eval p = .slice a n c) (hq : x.eval q = .slice a2 m c2) (hR : RowD B w a n c l) (hL : DL w a2 m c2 b2 o2 l2) (hn : l.length + m ≤ 1000000) (hB : B ≤ w.heap.size)
    (hK : ∀ a' c' w', RowD B w' a' (n + m) c' (l ++ l2) → Frm (blk (.slice a n c)) w w' → wpList Try.prog ops Q rest (x.put o.dst (.slice a' (n + m : Nat) c')) w') : wpList Try.prog ops Q (o :: rest) x w := by
  refine wpList_plain hgd fun K hK' => ?_
  obtain ⟨a', c', w', hr, h1, h2⟩ := run_appD hR hL hn hB o.type
  unfold Oper.wp
  simp [execOp, ho, resolve, invoke, builtin, hd, hq, hr, Result.andThen]
  exact hK' _ _ (hK _ _ _ h1 h2)

/-- How many things fit. -/
def fitN (n : Nat) (o : Option Nat) : Int := match o with | some i => (i : Int) | none => (n : Int)
def rFiQ (w : World) (m n : Nat) (R : List Int × Option Nat) (e : Ending) (w' : World) : Prop :=
  ∃ g c, Ret (.tuple #[.slice (some ⟨g, 0, none⟩) m c, .int .i64 (fitN n R.2)]) (fun w' => Frm [] w w' ∧ Row .u64 30 w.heap.size w' (some ⟨g, 0, none⟩) m c R.1) e w'
section
variable {w : World} {a a' : Option Addr} {n c b o m c' b' o' : Nat} {l : List Dd} {ws : List Int}
set_option maxRecDepth 100000 in
set_option maxHeartbeats 3200000 in
theorem rFits_any (hW : Li .u64 w a' m c' b' o' ws) (h : DL w a n c b o l) (hn : n ≤ 100000) (hm : m ≤ 65536) (hm0 : 0 < m) (hall : ∀ (k : Nat) (d : Dd), l[k]? = some d → may d = true) :
    Calls Try.prog 19 #[.slice a' m c', .slice a n c] w (rFiQ w m n (rdo ws 0 l)) := by
  obtain ⟨R, hRR⟩ : ∃ R, R = rdo ws 0 l := ⟨_, rfl⟩
  rw [← hRR]
  have HR := Lib.hid hRR
  have HL := Lib.hid h.len
  have H := Lib.hid h
  have HALL := Lib.hid hall
  have HWS := Lib.hid hW
  have HM0 := Lib.hid hm0
  have HM := Lib.hid hm
  have hn2 : (n : Int) ≤ 100000 := by omega
  have hm2 : (m : Int) ≤ 65536 := by omega
  clear hRR h hall hn hm hW hm0
  go_enter Try.func19, Try.ntmps19
  go_wp2_with (at_builtin; refine wpl_app Try.underlying31 info_u64 rfl (by decide) rfl (.const (.slice none 0 0)) (.tmp 9) rfl (B := w.heap.size) (a := none) (n := 0) (c := 0) (m := m) (l := []) (l2 := ws) (by simp [Act.eval]) (by simp [Act.eval]) (Row.nil _ _ _ _) HWS.out (by have := HM.out; simp; omega) (Nat.le_refl _) ?_; intro a3 c3 w3 hR3 hF3; have HR3 := Lib.hid (show Row .u64 30 w.heap.size w3 a3 m c3 ws by simpa using hR3); have HF3 := Lib.hid (show Frm [] w w3 by simpa [blk] using hF3); clear hR3 hF3)
  obtain ⟨g, cs, rfl, hgB, hgh, _, _⟩ := HR3.out.block HM0.out
  have HGB := Lib.hid hgB
  have hz : (0 : Nat) + m = m := Nat.zero_add m
  try rw [hz]
  clear hgB hgh hz
  go_loopw [7] (fun i wr => ∃ (k : Nat) (wk : List Int), k ≤ n ∧ i = .int .i64 k ∧ Frm [] w wr ∧ Row .u64 30 w.heap.size wr (some ⟨g, 0, none⟩) m c3 wk ∧ rdo ws 0 l = rdo wk k (l.drop k)) (fun i _ => n - (intOf i).toNat)
  case atStart => exact ⟨0, ws, Nat.zero_le _, rfl, HF3.out, HR3.out, rfl⟩
  case round =>
    obtain ⟨k, wk, hk, rfl, hF, hW, hE⟩ := hrel
    by_cases hlt : k < n
    · obtain ⟨d, hd⟩ : ∃ d, l[k]? = some d := ⟨_, List.getElem?_eq_getElem (by rw [HL.out]; exact hlt)⟩
      have hL1 := H.out.frm0 hF
      have hi1 := ix_did (c := c) hL1.ad hlt
      have p1 := hL1.get hd 1 _ rfl
      have p2 := hL1.get hd 2 _ rfl
      have p3 := hL1.get hd 3 _ rfl
      have p4 := hL1.get hd 4 _ rfl
      have HF := Lib.hid hF
      have HW := Lib.hid hW
      have HA2 := Lib.hid (show ∀ o1, Frm [] wr (wr.alloc o1) from fun o1 => (Frm.refl _ _).alloc _)
      have HE := Lib.hid (hE.trans (rdo_drop hd wk))
      have HMAY := Lib.hid (HALL.out k d hd)
      have hgl := lt_of_heap (hW.block HM0.out).choose_spec.choose_spec.2.2.1
      clear hF hL1 hd hE
      by_cases hk0 : d.a.k = 0
      · have hb : (d.a.k == 0) = true := by simpa using hk0
        have HX := Lib.hid (show rdo ws 0 l = rdo wk (k + 1) (l.drop (k + 1)) by rw [HE.out, if_pos hk0])
        clear hk0 hW hgl
        go_wp2_with fail
        go_roundw
        case rel => exact ⟨k + 1, wk, by omega, by go_num, HF.out.trans (HA2.out _), HW.out.frm0 (HA2.out _), HX.out⟩
        case measure => simp [intOf]; omega
      · have hb : (d.a.k == 0) = false := by simpa using hk0
        obtain ⟨hw0, hw1⟩ := may_word HMAY.out hk0
        have hwl := hW.2
        by_cases hge : (m : Int) ≤ d.a.w
        · have hbg : decide ((m : Int) ≤ d.a.w) = true := by simpa using hge
          have HX := Lib.hid (show rdo ws 0 l = (wk, some k) by rw [HE.out, if_neg hk0, if_pos (by unfold nofit; rw [← hwl]; simp [hge])])
          clear hge hk0 hwl hW hgl
          go_wp2_with fail
          go_quiet (fail)
          go_wp2_with fail
          go_ret2
          rw [HR.out, HX.out]
          exact ⟨g, c3, rfl, HF.out.trans ((HA2.out _).drewN _), HW.out.frm0 ((HA2.out _).drewN _)⟩
        · have hbg : decide ((m : Int) ≤ d.a.w) = false := by simpa using hge
          have hlw : d.a.w < (m : Int) := by omega
          have htl : d.a.w.toNat < m := by omega
          obtain ⟨bb, hLi⟩ := hW.li
          have hbb : bb = g := by have := hLi.ad HM0.out; cases this; rfl
          subst hbb
          obtain ⟨y, hy, hyd, hyc⟩ := hLi.get htl
          have hcc : ∀ o1 : Obj, (wr.alloc o1).cell? ⟨bb, d.a.w.toNat, none⟩ = some (.int .u64 y) := fun o1 => by
            rw [((Frm.refl [] wr).alloc o1).cell (World.block_lt_of_cell? wr _ hyc) (by simp)]
            rw [Nat.zero_add] at hyc; exact hyc
          by_cases hne : y = d.a.b
          · have hbn : (y != d.a.b) = false := by simpa using hne
            have HX := Lib.hid (show rdo ws 0 l = rdo (wk.set d.a.w.toNat d.a.a) (k + 1) (l.drop (k + 1)) by rw [HE.out, if_neg hk0, if_neg (by unfold nofit; rw [← hwl, hyd]; simp [hge, hne])])
            have hfz : ∀ o1 : Obj, ∀ nn, ((wr.alloc o1).drewN nn).frozen? ⟨bb, d.a.w.toNat, none⟩ = false := fun o1 nn => by
              have := row_frozen (hW.frm0 ((Frm.refl [] wr).alloc o1)) HM0.out d.a.w.toNat
              exact this
            clear hge hk0 hwl hW hLi hy hyd hyc hne htl hgl
            go_wp2_with fail
            go_quiet (fail)
            go_wp2_with fail
            go_roundw
            case rel => exact ⟨k + 1, wk.set d.a.w.toNat d.a.a, by omega, by go_num, (HF.out.trans ((HA2.out _).drewN _)).setCell _ _ (.inr HGB.out), row_set (HW.out.frm0 ((HA2.out _).drewN _)) _, HX.out⟩
            case measure => simp [intOf]; omega
          · have hbn : (y != d.a.b) = true := by simpa using hne
            have HX := Lib.hid (show rdo ws 0 l = (wk, some k) by rw [HE.out, if_neg hk0, if_pos (by unfold nofit; rw [← hwl, hyd]; simp [hne])])
            clear hge hk0 hwl hW hLi hy hyd hyc hne htl hgl
            go_wp2_with fail
            go_quiet (fail)
            go_wp2_with fail
            go_ret2
            rw [HR.out, HX.out]
            exact ⟨bb, c3, rfl, HF.out.trans ((HA2.out _).drewN _), HW.out.frm0 ((HA2.out _).drewN _)⟩
    · have hkn : k = n := by omega
      have HX := Lib.hid (show rdo ws 0 l = (wk, none) by rw [hE, List.drop_eq_nil_of_le (by rw [HL.out]; omega)]; rfl)
      have HF := Lib.hid hF
      have HW := Lib.hid hW
      clear hF hW hkn hE
      go_wp2_with fail
      go_ret2
      rw [HR.out, HX.out]
      exact ⟨g, c3, rfl, HF.out, HW.out⟩
end
end Go.Proofs.Ytfkikaoojelddaa
