/- Stage 13: what one thread has done. (By gen_trg.py.) -/
import Derived.Test.YtfkikaoojelddaaTrF
namespace Go.Proofs.Ytfkikaoojelddaa
open Go.ChangeShapes Go.WideShapes Go.ChangeAt Go.RowKit
set_option linter.unusedVariables false
set_option linter.unusedSimpArgs false
def ofs (l : List Dd) (t : Int) : List Dd := l.filter (fun d => d.i == t)
theorem ofs_length (l : List Dd) (t : Int) : (ofs l t).length ≤ l.length := List.length_filter_le _ _
theorem ofs_take {l : List Dd} {k : Nat} {d : Dd} (hd : l[k]? = some d) (t : Int) : ofs (l.take (k + 1)) t = if d.i = t then ofs (l.take k) t ++ [d] else ofs (l.take k) t := by
  unfold ofs
  rw [List.take_add_one, hd, List.filter_append]
  by_cases h : d.i = t <;> simp [List.filter_cons, h]
/-- What Of returns. -/
def ofR (l : List Dd) (t : Int) : List Dd × Int := if wro l ≠ 0 then ([], wro l) else if isTh t = false then ([], 2) else (ofs l t, 0)
def OfQ (w : World) (R : List Dd × Int) (e : Ending) (w' : World) : Prop :=
  ∃ a c b, Ret (.tuple #[.slice a R.1.length c, .int .i64 R.2]) (fun w' => Frm [] w w' ∧ DL w' a R.1.length c b 0 R.1 ∧ (0 < R.1.length → b < w'.heap.size)) e w'
def rOfQ (w : World) (L : List Dd) (e : Ending) (w' : World) : Prop :=
  ∃ a c b, Ret (.slice a L.length c) (fun w' => Frm [] w w' ∧ DL w' a L.length c b 0 L ∧ (0 < L.length → b < w'.heap.size)) e w'
theorem dl_lt {w : World} {a : Option Addr} {n c b o : Nat} {l : List Dd} (h : DL w a n c b o l) (hn : 0 < n) : b < w.heap.size := by
  have hl := h.len
  obtain ⟨d, hd⟩ : ∃ d, l[0]? = some d := ⟨_, List.getElem?_eq_getElem (by omega)⟩
  exact World.block_lt_of_cell? w _ (h.get hd 0 _ rfl)
section
variable {w : World} {a a' : Option Addr} {n c b o c' b' o' : Nat} {l : List Dd}
set_option maxRecDepth 100000 in
set_option maxHeartbeats 2000000 in
/-- Same says yes to equal ones. -/
theorem same_did {l : List Dd} (hn : n ≤ 100000) (h1 : DL w a n c b o l) (h2 : DL w a' n c' b' o' l) : Calls Try.prog 21 #[.slice a n c, .slice a' n c'] w
    (Ret (.bool true) (fun w' => Frm [] w w')) := by
  have H1 := Lib.hid h1
  have H2 := Lib.hid h2
  have hn2 : (n : Int) ≤ 100000 := by omega
  have HNN := Lib.hid hn
  clear h1 h2 hn
  go_enter Try.func21, Try.ntmps21
  go_wp2_with fail
  go_loopw [5] (fun i wr => ∃ k : Nat, k ≤ n ∧ i = .int .i64 k ∧ Frm [] w wr) (fun i _ => n - (intOf i).toNat)
  case atStart => exact ⟨0, Nat.zero_le _, rfl, Frm.refl _ _⟩
  case round =>
    obtain ⟨k, hk, rfl, hF⟩ := hrel
    by_cases hlt : k < n
    · obtain ⟨d, hd⟩ : ∃ d, l[k]? = some d := ⟨_, List.getElem?_eq_getElem (by rw [H1.out.len]; exact hlt)⟩
      have hL1 := H1.out.frm0 hF
      have hL2 := H2.out.frm0 hF
      have hi1 := ix_did (c := c) hL1.ad hlt
      have hi2 := ix_did (c := c') hL2.ad hlt
      have p0 := hL1.get hd 0 _ rfl
      have p1 := hL1.get hd 1 _ rfl
      have p2 := hL1.get hd 2 _ rfl
      have p3 := hL1.get hd 3 _ rfl
      have p4 := hL1.get hd 4 _ rfl
      have p5 := hL1.get hd 5 _ rfl
      have p6 := hL1.get hd 6 _ rfl
      have q0 := hL2.get hd 0 _ rfl
      have q1 := hL2.get hd 1 _ rfl
      have q2 := hL2.get hd 2 _ rfl
      have q3 := hL2.get hd 3 _ rfl
      have q4 := hL2.get hd 4 _ rfl
      have q5 := hL2.get hd 5 _ rfl
      have q6 := hL2.get hd 6 _ rfl
      rw [Nat.add_zero] at p0 q0
      have HF := Lib.hid hF
      clear hF hL1 hL2
      go_wp2_with fail
      go_quiet (fail)
      go_wp2_with fail
      go_roundw
      case rel => exact ⟨k + 1, by omega, by go_num, HF.out.trans ((Frm.refl [] _).drewN _)⟩
      case measure => simp [intOf]; omega
    · have hkn : k = n := by omega
      subst hkn
      have HF := Lib.hid hF
      clear hF
      go_wp2_with fail
      go_ret
      exact ⟨rfl, HF.out⟩

set_option maxRecDepth 100000 in
set_option maxHeartbeats 3200000 in
/-- Of. -/
theorem Of_any (h : DL w a n c b o l) (t : Int) : Calls Try.prog 38 #[.slice a n c, .int .i64 t] w (OfQ w (ofR l t)) := by
  obtain ⟨R, hR⟩ : ∃ R, R = ofR l t := ⟨_, rfl⟩
  rw [← hR]
  have HR := Lib.hid hR
  have HWR := Lib.hid (wrong_any h)
  have HTH := Lib.hid (fun w => isThread_any t w)
  have HL := Lib.hid h.len
  have H := Lib.hid h
  clear hR h
  by_cases h0 : wro l = 0
  · rw [h0] at HWR
    have HN := Lib.hid (show n ≤ 100000 by unfold wro at h0; rw [HL.out] at h0; split at h0; cases h0; omega)
    have hn2 : (n : Int) ≤ 100000 := by have := HN.out; omega
    cases ht : isTh t
    · have HX := Lib.hid (show ofR l t = ([], 2) by unfold ofR; rw [if_neg (by simp [h0]), if_pos ht])
      have HT := Lib.hid ht
      clear h0 ht
      go_enter Try.func38, Try.ntmps38
      go_wp2_with fail
      refine HWR.out.mono ?_
      rintro e w1 ⟨rfl, hF⟩
      go_wp2_with fail
      refine (HTH.out _).mono ?_
      rintro e w2 ⟨rfl, hF2⟩
      rw [HT.out]
      go_wp2_with fail
      go_ret2
      rw [HR.out, HX.out]
      exact ⟨none, 0, 0, rfl, hF.trans hF2, DL.nil _, fun h => absurd h (by simp)⟩
    · have HX := Lib.hid (show ofR l t = (ofs l t, 0) by unfold ofR; rw [if_neg (by simp [h0]), if_neg (by simp [ht])])
      have HT := Lib.hid ht
      clear h0 ht
      go_enter Try.func38, Try.ntmps38
      go_wp2_with fail
      refine HWR.out.mono ?_
      rintro e w1 ⟨rfl, hF⟩
      go_wp2_with fail
      refine (HTH.out _).mono ?_
      rintro e w2 ⟨rfl, hF2⟩
      rw [HT.out]
      have HFS := Lib.hid (hF.trans hF2)
      clear hF hF2
      go_wp2_with fail
      go_loopw [7, 20] (fun sl i wr => ∃ (k : Nat) (a1 : Option Addr) (c1 : Nat), k ≤ n ∧ i = .int .i64 k ∧ sl = .slice a1 (ofs (l.take k) t).length c1 ∧ Frm [] w wr ∧ Gr 40 7 w.heap.size wr a1 (ofs (l.take k) t).length c1 (ddF (ofs (l.take k) t))) (fun _ i _ => n - (intOf i).toNat)
      case atStart => exact ⟨0, none, 0, Nat.zero_le _, rfl, rfl, HFS.out, Gr.nil _ _ _ _ _⟩
      case round =>
        obtain ⟨k, a1, c1, hk, rfl, rfl, hF, hG⟩ := hrel
        by_cases hlt : k < n
        · obtain ⟨d, hd⟩ : ∃ d, l[k]? = some d := ⟨_, List.getElem?_eq_getElem (by rw [HL.out]; exact hlt)⟩
          have hL1 := H.out.frm0 hF
          have hi1 := ix_did (c := c) hL1.ad hlt
          have p0 := hL1.get hd 0 _ rfl
          have p1 := hL1.get hd 1 _ rfl
          have p2 := hL1.get hd 2 _ rfl
          have p3 := hL1.get hd 3 _ rfl
          have p4 := hL1.get hd 4 _ rfl
          have p5 := hL1.get hd 5 _ rfl
          have p6 := hL1.get hd 6 _ rfl
          rw [Nat.add_zero] at p0
          have HF := Lib.hid hF
          have HG := Lib.hid hG
          have hww : w.heap.size ≤ ((wr.alloc (.cells #[.int .i64 d.i, .int .i64 d.a.k, .int .i64 d.a.w, .int .u64 d.a.b, .int .u64 d.a.a, .bool d.wt, .bool d.en] 40)).alloc (.cells #[.int .i64 d.i, .int .i64 d.a.k, .int .i64 d.a.w, .int .u64 d.a.b, .int .u64 d.a.a, .bool d.wt, .bool d.en] 40)).heap.size := by have := hF.size; simp; omega
          have HWW := Lib.hid hww
          have HAL := Lib.hid (show Frm [] wr ((wr.alloc (.cells #[.int .i64 d.i, .int .i64 d.a.k, .int .i64 d.a.w, .int .u64 d.a.b, .int .u64 d.a.a, .bool d.wt, .bool d.en] 40)).alloc (.cells #[.int .i64 d.i, .int .i64 d.a.k, .int .i64 d.a.w, .int .u64 d.a.b, .int .u64 d.a.a, .bool d.wt, .bool d.en] 40)) from ((Frm.refl [] wr).alloc _).alloc _)
          have HAL1 := Lib.hid (show Frm [] wr (wr.alloc (.cells #[.int .i64 d.i, .int .i64 d.a.k, .int .i64 d.a.w, .int .u64 d.a.b, .int .u64 d.a.a, .bool d.wt, .bool d.en] 40)) from (Frm.refl [] wr).alloc _)
          have HROW := Lib.hid (hG.frm0 HAL.out)
          have HGG := Lib.hid (heap_alloc_new (wr.alloc (.cells #[.int .i64 d.i, .int .i64 d.a.k, .int .i64 d.a.w, .int .u64 d.a.b, .int .u64 d.a.a, .bool d.wt, .bool d.en] 40)) (.cells #[.int .i64 d.i, .int .i64 d.a.k, .int .i64 d.a.w, .int .u64 d.a.b, .int .u64 d.a.a, .bool d.wt, .bool d.en] 40))
          have HLEN := Lib.hid (show (ofs (l.take k) t).length ≤ 1000000 from by have := ofs_length (l.take k) t; have : (l.take k).length ≤ k := List.length_take_le _ _; have := HN.out; omega)
          have HOT := Lib.hid (ofs_take hd t)
          clear hF hG hL1 hd hww
          by_cases hi : d.i = t
          · have hb : (d.i == t) = true := by simpa using hi
            have HO := Lib.hid (show ofs (l.take (k + 1)) t = ofs (l.take k) t ++ [d] by rw [HOT.out, if_pos hi])
            clear hi
            generalize ofs (l.take k) t = L at *
            go_wp2_with (at_builtin; refine wpl_gr u_did i_did (by decide) (by decide) (by decide) rfl (.tmp 28) (.tmp 30) rfl (B := w.heap.size) (g2 := (wr.alloc (.cells #[.int .i64 d.i, .int .i64 d.a.k, .int .i64 d.a.w, .int .u64 d.a.b, .int .u64 d.a.a, .bool d.wt, .bool d.en] 40)).heap.size) (l := [.int .i64 d.i, .int .i64 d.a.k, .int .i64 d.a.w, .int .u64 d.a.b, .int .u64 d.a.a, .bool d.wt, .bool d.en]) (by simp [Act.eval]) (by simp [Act.eval]) HROW.out rfl (by simp [Value.oneCell']) HGG.out HLEN.out HWW.out ?_; intro a2 c2 w3 hG3 hF3 hb3; have HG3 := Lib.hid hG3; have HF3 := Lib.hid hF3; clear hG3 hF3 hb3)
            go_roundw
            case rel =>
              refine ⟨k + 1, a2, c2, by omega, by go_num, by rw [HO.out]; simp, (HF.out.trans HAL.out).trans_new HF3.out (fun x hx => .inr (HROW.out.from_ x hx).1), ?_⟩
              rw [HO.out, List.length_append, List.length_singleton]
              exact HG3.out.congr fun k hk => ddF_app _ _ hk
            case measure => simp [intOf]; omega
          · have hb : (d.i == t) = false := by simpa using hi
            have HO := Lib.hid (show ofs (l.take (k + 1)) t = ofs (l.take k) t by rw [HOT.out, if_neg hi])
            clear hi
            generalize ofs (l.take k) t = L at *
            go_wp2_with fail
            go_roundw
            case rel => exact ⟨k + 1, a1, c1, by omega, by go_num, by rw [HO.out], HF.out.trans HAL1.out, by rw [HO.out]; exact HG.out.frm0 HAL1.out⟩
            case measure => simp [intOf]; omega
        · have hkn : k = n := by omega
          have HT := Lib.hid (show l.take k = l from List.take_of_length_le (by rw [HL.out]; omega))
          have HF := Lib.hid hF
          have HG := Lib.hid hG
          clear hF hG hkn
          rw [HT.out] at HG
          rw [HT.out]
          generalize hL : ofs l t = L at *
          have HLL := Lib.hid hL
          clear hL
          go_wp2_with fail
          go_ret2
          rw [HR.out, HX.out]
          obtain ⟨b1, hD⟩ := HG.out.dl rfl
          exact ⟨a1, c1, b1, rfl, HF.out, hD, dl_lt hD⟩
  · have hb : (wro l != 0) = true := by simpa using h0
    have HX := Lib.hid (show ofR l t = ([], wro l) by unfold ofR; rw [if_pos h0])
    clear h0
    go_enter Try.func38, Try.ntmps38
    go_wp2_with fail
    refine HWR.out.mono ?_
    rintro e w1 ⟨rfl, hF⟩
    go_wp2_with fail
    go_ret2
    rw [HR.out, HX.out]
    exact ⟨none, 0, 0, rfl, hF, DL.nil _, fun h => absurd h (by simp)⟩
set_option maxRecDepth 100000 in
set_option maxHeartbeats 3200000 in
/-- Of of the reference. -/
theorem rOf_any (h : DL w a n c b o l) (hn : n ≤ 100000) (t : Int) : Calls Try.prog 17 #[.slice a n c, .int .i64 t] w (rOfQ w (ofs l t)) := by
  obtain ⟨R, hR⟩ : ∃ R, R = ofs l t := ⟨_, rfl⟩
  rw [← hR]
  have HR := Lib.hid hR
  have HL := Lib.hid h.len
  have H := Lib.hid h
  have HN := Lib.hid hn
  have hn2 : (n : Int) ≤ 100000 := by omega
  have HFS := Lib.hid (Frm.refl [] w)
  clear hR h hn
  go_enter Try.func17, Try.ntmps17
  go_wp2_with fail
  go_loopw [5, 6] (fun sl i wr => ∃ (k : Nat) (a1 : Option Addr) (c1 : Nat), k ≤ n ∧ i = .int .i64 k ∧ sl = .slice a1 (ofs (l.take k) t).length c1 ∧ Frm [] w wr ∧ Gr 40 7 w.heap.size wr a1 (ofs (l.take k) t).length c1 (ddF (ofs (l.take k) t))) (fun _ i _ => n - (intOf i).toNat)
  case atStart => exact ⟨0, none, 0, Nat.zero_le _, rfl, rfl, HFS.out, Gr.nil _ _ _ _ _⟩
  case round =>
    obtain ⟨k, a1, c1, hk, rfl, rfl, hF, hG⟩ := hrel
    by_cases hlt : k < n
    · obtain ⟨d, hd⟩ : ∃ d, l[k]? = some d := ⟨_, List.getElem?_eq_getElem (by rw [HL.out]; exact hlt)⟩
      have hL1 := H.out.frm0 hF
      have hi1 := ix_did (c := c) hL1.ad hlt
      have p0 := hL1.get hd 0 _ rfl
      have p1 := hL1.get hd 1 _ rfl
      have p2 := hL1.get hd 2 _ rfl
      have p3 := hL1.get hd 3 _ rfl
      have p4 := hL1.get hd 4 _ rfl
      have p5 := hL1.get hd 5 _ rfl
      have p6 := hL1.get hd 6 _ rfl
      rw [Nat.add_zero] at p0
      have HF := Lib.hid hF
      have HG := Lib.hid hG
      have hww : w.heap.size ≤ (wr.alloc (.cells #[.int .i64 d.i, .int .i64 d.a.k, .int .i64 d.a.w, .int .u64 d.a.b, .int .u64 d.a.a, .bool d.wt, .bool d.en] 40)).heap.size := by have := hF.size; simp; omega
      have HWW := Lib.hid hww
      have HAL := Lib.hid (show Frm [] wr (wr.alloc (.cells #[.int .i64 d.i, .int .i64 d.a.k, .int .i64 d.a.w, .int .u64 d.a.b, .int .u64 d.a.a, .bool d.wt, .bool d.en] 40)) from (Frm.refl [] wr).alloc _)
      have HAL1 := Lib.hid (show Frm [] wr wr from Frm.refl [] wr)
      have HROW := Lib.hid (hG.frm0 HAL.out)
      have HGG := Lib.hid (heap_alloc_new wr (.cells #[.int .i64 d.i, .int .i64 d.a.k, .int .i64 d.a.w, .int .u64 d.a.b, .int .u64 d.a.a, .bool d.wt, .bool d.en] 40))
      have HLEN := Lib.hid (show (ofs (l.take k) t).length ≤ 1000000 from by have := ofs_length (l.take k) t; have : (l.take k).length ≤ k := List.length_take_le _ _; have := HN.out; omega)
      have HOT := Lib.hid (ofs_take hd t)
      clear hF hG hL1 hd hww
      by_cases hi : d.i = t
      · have hb : (d.i == t) = true := by simpa using hi
        have HO := Lib.hid (show ofs (l.take (k + 1)) t = ofs (l.take k) t ++ [d] by rw [HOT.out, if_pos hi])
        clear hi
        generalize ofs (l.take k) t = L at *
        go_wp2_with (at_builtin; refine wpl_gr u_did i_did (by decide) (by decide) (by decide) rfl (.tmp 20) (.tmp 25) rfl (B := w.heap.size) (g2 := wr.heap.size) (l := [.int .i64 d.i, .int .i64 d.a.k, .int .i64 d.a.w, .int .u64 d.a.b, .int .u64 d.a.a, .bool d.wt, .bool d.en]) (by simp [Act.eval]) (by simp [Act.eval]) HROW.out rfl (by simp [Value.oneCell']) HGG.out HLEN.out HWW.out ?_; intro a2 c2 w3 hG3 hF3 hb3; have HG3 := Lib.hid hG3; have HF3 := Lib.hid hF3; clear hG3 hF3 hb3)
        go_roundw
        case rel =>
          refine ⟨k + 1, a2, c2, by omega, by go_num, by rw [HO.out]; simp, (HF.out.trans HAL.out).trans_new HF3.out (fun x hx => .inr (HROW.out.from_ x hx).1), ?_⟩
          rw [HO.out, List.length_append, List.length_singleton]
          exact HG3.out.congr fun k hk => ddF_app _ _ hk
        case measure => simp [intOf]; omega
      · have hb : (d.i == t) = false := by simpa using hi
        have HO := Lib.hid (show ofs (l.take (k + 1)) t = ofs (l.take k) t by rw [HOT.out, if_neg hi])
        clear hi
        generalize ofs (l.take k) t = L at *
        go_wp2_with fail
        go_roundw
        case rel => exact ⟨k + 1, a1, c1, by omega, by go_num, by rw [HO.out], HF.out.trans HAL1.out, by rw [HO.out]; exact HG.out.frm0 HAL1.out⟩
        case measure => simp [intOf]; omega
    · have hkn : k = n := by omega
      have HT := Lib.hid (show l.take k = l from List.take_of_length_le (by rw [HL.out]; omega))
      have HF := Lib.hid hF
      have HG := Lib.hid hG
      clear hF hG hkn
      rw [HT.out] at HG
      rw [HT.out]
      generalize hL : ofs l t = L at *
      have HLL := Lib.hid hL
      clear hL
      go_wp2_with fail
      go_ret
      rw [HR.out]
      obtain ⟨b1, hD⟩ := HG.out.dl rfl
      exact ⟨a1, c1, b1, rfl, HF.out, hD, dl_lt hD⟩

end
end Go.Proofs.Ytfkikaoojelddaa
