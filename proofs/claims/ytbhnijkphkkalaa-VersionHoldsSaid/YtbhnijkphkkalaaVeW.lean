/- VersionHolds. (By gen_vew.py.) -/
import Derived.Test.YtbhnijkphkkalaaVeW1
import Derived.Test.YtbhnijkphkkalaaArgsArr
import Derived.Deep.DeepCutAuto
namespace Go.Proofs.Ytbhnijkphkkalaa
open Go.ChangeShapes Go.WideShapes Go.ChangeAt Go.RowKit
set_option linter.unusedVariables false

theorem info_rp : (Try.prog.info? 26).map (fun i => (i.zero, i.size, i.bytes)) = some (some (.pointer none), 1, 8) := by kernel_rfl
theorem make_rp (n : Nat) (h : n ≤ 3) (w : World) : (Instr.makeSlice 77 (.int .u8 n) (.int .u8 n)).run Try.prog w =
    .ok (.slice (some ⟨w.heap.size, 0, none⟩) n n) (w.alloc (.cells (pvs (List.replicate n none)).toArray 26)) := by
  obtain ⟨i0, hi, hz0, hz1, hz2⟩ := info_parts info_rp
  have := run_make (P := Try.prog) w 77 26 i0 (.pointer none) Try.underlying77 hi hz0 .u8 .u8 (n : Int) (n : Int) (by omega) (by omega) (by rw [hz2]; omega) (by omega)
  rw [this, hz1]
  have e : madeCells (Value.pointer none).cells (Int.toNat (n : Int) * 1) = (pvs (List.replicate n none)).toArray := by
    apply Array.ext
    · simp [madeCells, pvs]
    · intro j h1 h2
      simp [madeCells, pvs, Value.cells, Nat.mod_one, pv]
  rw [e]; simp
theorem u8_bd {l : List Int} (h : ∀ x ∈ l, (Lit.int .u8 x).wf = true) : ∀ x ∈ l, 0 ≤ x ∧ x ≤ 255 := by
  intro x hx
  have e0 : IntKind.u8.min = 0 := rfl
  have e1 : IntKind.u8.max = 255 := rfl
  have := h x hx; simp [Lit.wf] at this; omega
theorem u64_bd {x : Int} (h : (Lit.int .u64 x).wf = true) : 0 ≤ x ∧ x ≤ 18446744073709551615 := by
  have e0 : IntKind.u64.min = 0 := rfl
  have e1 : IntKind.u64.max = 18446744073709551615 := rfl
  have := h; simp [Lit.wf] at this; omega
/-- What is true at the head of a round. -/
def Rel (w : World) (f : Int) (ls : List (List Int)) (p d c g rd : Nat) (v12 : Value) (begun e : Nat) (wr : World) : Prop :=
  ∃ own rl wo odd ws, v12 = pv wo ∧ rl.length = rd ∧ Play w wr p d c g own rl wo ws ∧ Gm f ls e begun odd rl wo ws ∧ e ≤ 10
/-- The lists that came in. -/
def InL (w : World) (a : Option Addr) (n b o : Nat) (ls : List (List Int)) : Prop :=
  ls.length = n ∧ (0 < n → a = some ⟨b, o, none⟩ ∧ b < w.heap.size) ∧ ∀ (i : Nat) (l : List Int), ls[i]? = some l → ∀ (j : Nat) (x : Int), l[j]? = some x → w.cell? ⟨b, o + i * 4 + j, none⟩ = some (.int .u64 x)

set_option maxRecDepth 100000 in
set_option maxHeartbeats 16000000 in
theorem holds_main (rd : Nat) (h1 : 1 ≤ rd) (h2 : rd ≤ 3) (tr : Int) (h3 : 1 ≤ tr) (h4 : tr ≤ 5) (a : Option Addr) (n cl bl ol : Nat) (ls : List (List Int)) (w : World) (hL : InL w a n bl ol ls) (h44 : Four4 ls) (hn : n ≤ 10)
    {a2 : Option Addr} {m c2 b2 o2 : Nat} {ps : List Int} (hP : Li .u8 w a2 m c2 b2 o2 ps) (hpb : 0 < m → b2 < w.heap.size) (hps : ∀ x ∈ ps, 0 ≤ x ∧ x ≤ 255) (hm : m ≤ 200) (f : Int) (hf0 : 0 ≤ f) (hf1 : Hid (f ≤ 18446744073709551615)) (hfe : f % 2 = 0) :
    Calls Try.prog 7 #[.int .u8 rd, .int .u8 tr, .slice a n cl, .slice a2 m c2, .int .u64 f] w (Ret (.bool true) (fun w' => Frm [] w w')) := by
  have d1 : decide ((rd : Int) < 1) = false := by simp; omega
  have d2 : decide ((3 : Int) < rd) = false := by simp; omega
  have d3 : decide (tr < 1) = false := by simp; omega
  have d4 : decide (5 < tr) = false := by simp; omega
  have d5 : decide ((10 : Int) < n) = false := by simp; omega
  have d6 : decide ((200 : Int) < m) = false := by simp; omega
  have d7 : (f % 2 == 1) = false := by simp; omega
  have hmk := make_rp rd h2
  have H0 := Lib.hid (made_any (w := w.alloc (.cells #[.int .u64 f, .int .u64 0, .int .u64 0, .int .u64 0, .int .u64 0] 22)) (rd_u64 (n := 5) (l := [f, 0, 0, 0, 0]) rfl (heap_alloc_new _ _)) (by simp) (by simp))
  have HL := Lib.hid hL
  have HP := Lib.hid hP
  have HPB := Lib.hid hpb
  have HPS := Lib.hid hps
  have HFE := Lib.hid hfe
  have H44 := Lib.hid h44
  clear hL hP hps hfe h44 hpb
  go_enter Try.func7, Try.ntmps7
  go_wp2_with fail
  refine H0.out.mono ?_
  rintro e w1 ⟨p, d, c, rfl, hF, hM, hp, hd⟩
  have hp' : w.heap.size ≤ p := Nat.le_trans ((Frm.refl [] w).alloc _).size hp
  have hd' : w.heap.size ≤ d := Nat.le_trans ((Frm.refl [] w).alloc _).size hd
  have HF1 : Hid (Frm [] w w1) := Lib.hid (((Frm.refl _ _).alloc _).trans hF)
  have HM1 := Lib.hid hM
  clear hF hM hp hd H0
  go_wp2_with fail
  obtain ⟨X, hX⟩ : ∃ X, X = (w1.alloc (.cells (pvs (List.replicate rd none)).toArray 26)) := ⟨_, rfl⟩
  rw [← hX]
  have hFX : Frm [] w1 X := by rw [hX]; exact (Frm.refl _ _).alloc _
  have hXb : X.heap[w1.heap.size]? = some (.cells (pvs (List.replicate rd none)).toArray 26 (0, 0)) := by rw [hX]; exact heap_alloc_new _ _
  have hgw : w.heap.size ≤ w1.heap.size := HF1.out.size
  have hpl := HM1.out.plt
  have hdl := HM1.out.dlt
  generalize hg : w1.heap.size = g at *
  have HREL : Hid (Rel w f ls p d c g rd (.pointer none) 0 0 X) := by
    refine Lib.hid ⟨fun x => if x = g then 1 else 0, List.replicate rd none, none, false, [f, 0, 0, 0, 0], rfl, by simp, ⟨HF1.out.trans hFX, hp', hd', hgw, HM1.out.frm hFX (by simp) (by simp), hXb, if_neg (by omega), if_neg (by omega), if_pos rfl, fun i x hx => ?_, (fun x hx => by cases hx)⟩, ⟨fun _ => ⟨rfl, rfl, ?_⟩, (fun x hx => by cases hx), fun i x hx => ?_, ⟨fun _ => ?_, (fun h => by cases h), rfl⟩, ?_, Nat.zero_le _⟩, Nat.zero_le _⟩
    · rw [List.getElem?_replicate] at hx; split at hx <;> simp at hx
    · rw [ver_zero hf0 hf1.out]; rfl
    · rw [List.getElem?_replicate] at hx; split at hx <;> simp at hx
    · rw [ver_zero hf0 hf1.out]; rfl
    · simp; exact hf0
  clear hX hFX hXb hmk hg HF1 HM1 hpl hdl
  go_loopw [12, 14, 15, 63] (fun v12 v14 v15 i wr => ∃ k begun e : Nat, k ≤ m ∧ i = .int .i64 k ∧ v14 = .int .i64 begun ∧ v15 = .int .i64 e ∧ Hid (Rel w f ls p d c g rd v12 begun e wr)) (fun _ _ _ i _ => m - (intOf i).toNat)
  case atStart => exact ⟨0, 0, 0, by omega, rfl, rfl, rfl, HREL⟩
  case round =>
    clear HREL
    obtain ⟨k, begun, e, hk, rfl, rfl, rfl, HR⟩ := hrel
    by_cases hlt : k < m
    · obtain ⟨x, hx, _, hcx⟩ := HP.out.get hlt
      obtain ⟨own, rl, wo, odd, ws, rfl, hrl, hPl, hGm, he10⟩ := HR.out
      have hxb := HPS.out x (List.mem_of_getElem? hx)
      obtain ⟨hx0, hx1⟩ := hxb
      have hcxr : _ = some (Value.int .u8 x) := (hPl.frm.cell (i := o2 + k) (HPB.out (by omega)) (by simp)).trans hcx
      have hix := ix_u8 (c := c2) HP.out.ad hlt
      obtain ⟨t, ht⟩ : ∃ t : Nat, (x % ((rd : Int) + 1)) = (t : Int) := ⟨(x % ((rd : Int) + 1)).toNat, by rw [Int.toNat_of_nonneg (Int.emod_nonneg _ (by omega))]⟩
      have htl : t ≤ rd := by have := Int.emod_lt_of_pos x (show (0 : Int) < (rd : Int) + 1 by omega); omega
      have HT := Lib.hid ht
      have HPL := Lib.hid hPl
      have HGM := Lib.hid hGm
      have HRL := Lib.hid hrl
      clear HR hPl hGm hrl ht hx hcx
      go_upto_region 13 with fail
      rw [HT.out]
      by_cases htr : t = rd
      · obtain rfl := htr
        have htb : ((t : Int) == (t : Int)) = true := by simp
        cases wo with
        | none =>
          obtain rfl := (HGM.out.none_ rfl).2.1
          rw [show pv none = Value.pointer none from rfl]
          by_cases hbn : begun = n
          · have hb1 : ((begun : Int) == (n : Int)) = true := by simp [hbn]
            have HREL : Hid (Rel w f ls p d c g t (.pointer none) begun begun wr) := Lib.hid ⟨own, rl, none, odd, ws, rfl, HRL.out, HPL.out, HGM.out, he10⟩
            clear hbn
            go_wp2
            go_roundw
            case rel => exact ⟨k + 1, begun, begun, by omega, by go_num, rfl, rfl, HREL⟩
            case measure => simp [intOf]; omega
          · have hlen := HL.out.1
            have hbg := HGM.out.beg
            have hbl : begun < n := by omega
            have hb1 : ((begun : Int) == (n : Int)) = false := by simp; omega
            obtain ⟨l, hl⟩ : ∃ l, ls[begun]? = some l := ⟨_, List.getElem?_eq_getElem (by omega)⟩
            obtain ⟨hl4, hlnn⟩ := H44.out.at hl
            obtain ⟨l0, l1, l2, l3, rfl⟩ : ∃ l0 l1 l2 l3, l = [l0, l1, l2, l3] := by
              match l, hl4 with
              | [l0, l1, l2, l3], _ => exact ⟨l0, l1, l2, l3, rfl⟩
            obtain ⟨ha, hbw⟩ := HL.out.2.1 (by omega)
            subst ha
            have hc := HL.out.2.2 begun _ hl
            have hcr : ∀ (j : Nat) (x : Int), [l0, l1, l2, l3][j]? = some x → wr.cell? ⟨bl, ol + begun * 4 + j, none⟩ = some (.int .u64 x) := fun j x hx => (HPL.out.frm.cell hbw (by simp)).trans (hc j x hx)
            have e0 := hcr 0 l0 rfl
            have e1 := hcr 1 l1 rfl
            have e2 := hcr 2 l2 rfl
            have e3 := hcr 3 l3 rfl
            rw [Nat.add_zero] at e0
            have HLL := Lib.hid hl
            have HNN := Lib.hid hlnn
            clear hl hl4 hlnn hc hcr hbn hlen
            have HX := Lib.hid (write_yes (li_u64 (w := (wr.alloc (.cells #[.int .u64 l0, .int .u64 l1, .int .u64 l2, .int .u64 l3] 78)).alloc (.cells #[.int .u64 l0, .int .u64 l1, .int .u64 l2, .int .u64 l3] 22)) (g := wr.heap.size + 1) (n := 4) (l := [l0, l1, l2, l3]) rfl (heap_alloc_at _ (by simp))) 0 1 (by decide))
            go_wp2_with fail
            refine HX.out.mono ?_
            rintro ee w5 ⟨q, b, rfl, hF, hPt, hq, hb⟩
            have hFa : Frm [] wr w5 := (((Frm.refl _ _).alloc _).alloc _).trans hF
            have hsz := (((Frm.refl [] wr).alloc (.cells #[.int .u64 l0, .int .u64 l1, .int .u64 l2, .int .u64 l3] 78)).alloc (.cells #[.int .u64 l0, .int .u64 l1, .int .u64 l2, .int .u64 l3] 22)).size
            obtain ⟨own', hP5⟩ := HPL.out.newW hFa (x := ⟨q, b, 4, ⟨false, 0, 1, [l0, l1, l2, l3], 0, 1, 0, 0, 0⟩⟩) hPt (Nat.le_trans hsz hq) (Nat.le_trans hsz hb)
            have hG5 := HGM.out.newW H44.out HLL.out (x := ⟨q, b, 4, ⟨false, 0, 1, [l0, l1, l2, l3], 0, 1, 0, 0, 0⟩⟩) rfl
            have hodd := (HGM.out.none_ rfl).1
            obtain ⟨P', ws', hs, hc⟩ := hG5.stepW HFE.out H44.out
            rcases hc with ⟨_, ho, _⟩ | ⟨h5, odd', hG6⟩
            · rw [hodd] at ho; cases ho
            have hok := (hG5.some_ _ rfl).2.ok H44.out
            have hRf : P'.R = false := stp_R hs hok.1 hG5.nn hok.2.1
            have HE := Lib.hid (steps_lit (n := 1) 1 rfl (hP5.sitW hok.1 hG5.nn hok.2.1) (by omega) (.cons hs (.nil _ _)))
            have HP5 := Lib.hid hP5
            have HG6 := Lib.hid hG6
            have H5 := Lib.hid h5
            have HRF := Lib.hid hRf
            clear hF hPt hq hb hFa hsz hP5 hG5 hodd hs hok hG6 h5 hRf e0 e1 e2 e3 HX HPL HGM
            go_wp2_with fail
            refine HE.out.mono ?_
            rintro ee w6 ⟨rfl, hF6, hS6⟩
            have HP6 := Lib.hid (HP5.out.stepW hF6 hS6)
            have hD := Done_any hS6.pg hS6.ok
            rw [HRF.out, decide_eq_false H5.out] at hD
            have HD := Lib.hid hD
            clear hF6 hS6 hD HE HP5
            go_wp2_with fail
            refine HD.out.mono ?_
            rintro ee w' ⟨rfl, rfl⟩
            have HREL : Hid (Rel w f ls p d c g t (.pointer (some ⟨q, 0, none⟩)) (begun + 1) begun w6) := Lib.hid ⟨own', rl, _, odd', ws', rfl, HRL.out, HP6.out, HG6.out, he10⟩
            clear HD
            go_wp2
            go_roundw
            case rel => exact ⟨k + 1, begun + 1, begun, by omega, by go_num, by go_num, rfl, HREL⟩
            case measure => simp [intOf]; omega
        | some y =>
          rw [show pv (some y) = Value.pointer (some ⟨y.q, 0, none⟩) from rfl]
          have hG5 := HGM.out
          have hP5 := HPL.out
          obtain ⟨P', ws', hs, hc⟩ := hG5.stepW HFE.out H44.out
          have hok := (hG5.some_ _ rfl).2.ok H44.out
          have hRf : P'.R = false := (stp_R hs hok.1 hG5.nn hok.2.1).trans hok.2.2
          have hE := steps_lit (n := 1) 1 rfl (hP5.sitW hok.1 hG5.nn hok.2.1) (by omega) (.cons hs (.nil _ _))
          rw [hok.2.2] at hE
          have HE := Lib.hid hE
          have HC := Lib.hid hc
          have HRF := Lib.hid hRf
          have hbe : begun ≤ ls.length := hG5.beg
          have hlen := HL.out.1
          clear hG5 hP5 hs hok hRf hE hc HGM
          go_wp2_with fail
          refine HE.out.mono ?_
          rintro ee w6 ⟨rfl, hF6, hS6⟩
          have HP6 := Lib.hid (HPL.out.stepW hF6 hS6)
          have hD := Done_any hS6.pg hS6.ok
          rw [HRF.out] at hD
          rcases HC.out with ⟨h5, ho, he1, hG6⟩ | ⟨h5, odd', hG6⟩
          · rw [decide_eq_true h5] at hD
            have HD := Lib.hid hD
            have hle : e + 1 ≤ 10 := by omega
            have HREL : Hid (Rel w f ls p d c g t (.pointer none) begun (e + 1) w6) := Lib.hid ⟨own, rl, none, false, ws', rfl, HRL.out, HP6.out.dropW, hG6, hle⟩
            clear hF6 hS6 hD HE HPL h5 ho he1 hG6 HC hle hbe hlen HP6
            go_wp2_with fail
            refine HD.out.mono ?_
            rintro ee w' ⟨rfl, rfl⟩
            go_wp2
            go_roundw
            case rel => exact ⟨k + 1, begun, e + 1, by omega, by go_num, rfl, by go_num, HREL⟩
            case measure => simp [intOf]; omega
          · rw [decide_eq_false h5] at hD
            have HD := Lib.hid hD
            have HREL : Hid (Rel w f ls p d c g t (.pointer (some ⟨y.q, 0, none⟩)) begun e w6) := Lib.hid ⟨own, rl, some ⟨y.q, y.b, y.c, P'⟩, odd', ws', rfl, HRL.out, HP6.out, hG6, he10⟩
            clear hF6 hS6 hD HE HPL h5 hG6 HC hbe hlen HP6
            go_wp2_with fail
            refine HD.out.mono ?_
            rintro ee w' ⟨rfl, rfl⟩
            go_wp2
            go_roundw
            case rel => exact ⟨k + 1, begun, e, by omega, by go_num, rfl, rfl, HREL⟩
            case measure => simp [intOf]; omega
      · have htb : ((t : Int) == (rd : Int)) = false := by simp; omega
        have htlt : t < rd := by omega
        obtain ⟨o, ho⟩ : ∃ o, rl[t]? = some o := ⟨_, List.getElem?_eq_getElem (by have := HRL.out; omega)⟩
        have hcg := HPL.out.cell ho
        have hzg := HPL.out.frz t
        clear htr
        cases o with
        | none =>
          rw [show pv none = Value.pointer none from rfl] at hcg
          have HR := Lib.hid (read_yes 0 1 4 tr wr (by decide) h3)
          go_wp2_with fail
          refine HR.out.mono ?_
          rintro ee w5 ⟨q, b, rfl, hF, hPt, hq, hb⟩
          have hcg5 := (HPL.out.quiet hF).cell ho
          rw [show pv none = Value.pointer none from rfl] at hcg5
          have hzg5 := (HPL.out.quiet hF).frz t
          obtain ⟨own', hP6⟩ := HPL.out.newR hF (x := ⟨q, b, 4, ⟨true, 0, 1, List.replicate 4 0, 0, 1, 0, 0, tr⟩⟩) hPt hq hb ho
          have hG6 := HGM.out.newR (i := t) (x := ⟨q, b, 4, ⟨true, 0, 1, List.replicate 4 0, 0, 1, 0, 0, tr⟩⟩) ⟨h3, h4⟩ rfl
          have hi6 : (rl.set t (some ⟨q, b, 4, ⟨true, 0, 1, List.replicate 4 0, 0, 1, 0, 0, tr⟩⟩))[t]? = some (some ⟨q, b, 4, ⟨true, 0, 1, List.replicate 4 0, 0, 1, 0, 0, tr⟩⟩) := by rw [List.getElem?_set, if_pos rfl, if_pos (by have := HRL.out; omega)]
          have HP6 := Lib.hid hP6
          have HG6 := Lib.hid hG6
          have HI6 := Lib.hid hi6
          clear hF hPt hq hb hP6 hG6 hi6 HPL HGM HR hcg hzg ho
          go_wp2_with fail
          have hcW : (w5.setCell ⟨g, t, none⟩ (.pointer (some ⟨q, 0, none⟩))).cell? ⟨g, t, none⟩ = some (.pointer (some ⟨q, 0, none⟩)) := HP6.out.cell HI6.out
          have HP6' : Hid (Play w (w5.setCell ⟨g, t, none⟩ (.pointer (some ⟨q, 0, none⟩))) p d c g own' (rl.set t (some ⟨q, b, 4, ⟨true, 0, 1, List.replicate 4 0, 0, 1, 0, 0, tr⟩⟩)) wo ws) := Lib.hid HP6.out
          clear HP6 hcg5 hzg5
          generalize w5.setCell ⟨g, t, none⟩ (.pointer (some ⟨q, 0, none⟩)) = w6 at *
          obtain ⟨bb, P', hs, _⟩ := HG6.out.stepR HFE.out H44.out he10 HI6.out
          have hnf := fresh_step hs
          have hG7 : Gm f ls e begun odd ((rl.set t (some ⟨q, b, 4, ⟨true, 0, 1, List.replicate 4 0, 0, 1, 0, 0, tr⟩⟩)).set t (some ⟨q, b, 4, P'⟩)) wo ws := by
            obtain ⟨bb2, P2, hs2, hc2⟩ := HG6.out.stepR HFE.out H44.out he10 HI6.out
            rw [hs] at hs2
            cases hs2
            rcases hc2 with ⟨_, h⟩ | ⟨h, _⟩ | ⟨k2, tr2, h⟩
            · exact h
            · exact absurd h hnf
            · rw [h] at hnf; exact absurd rfl hnf
          have hok := (HG6.out.rd t _ HI6.out).ok
          have hRf : P'.R = true := (stp_R hs hok.1 HG6.out.nn hok.2.1).trans hok.2.2
          have HE := Lib.hid ((HP6'.out.sitR HI6.out hok.1 HG6.out.nn hok.2.1).stepR hs)
          have HG7 := Lib.hid hG7
          have HNF := Lib.hid hnf
          have HRF := Lib.hid hRf
          clear hs hnf hG7 hok hRf HG6
          go_wp2_with fail
          refine HE.out.mono ?_
          rintro ee w7 ⟨rfl, hF7, hS7⟩
          have HP7 := Lib.hid (HP6'.out.stepR HI6.out hF7 hS7)
          have hi7 : ((rl.set t (some ⟨q, b, 4, ⟨true, 0, 1, List.replicate 4 0, 0, 1, 0, 0, tr⟩⟩)).set t (some ⟨q, b, 4, P'⟩))[t]? = some (some ⟨q, b, 4, P'⟩) := by rw [List.getElem?_set, if_pos rfl, if_pos (by rw [List.length_set]; have := HRL.out; omega)]
          have hcW7 : w7.cell? ⟨g, t, none⟩ = some (.pointer (some ⟨q, 0, none⟩)) := HP7.out.cell hi7
          have hD := Done_any hS7.pg hS7.ok
          rw [HRF.out, decide_eq_false HNF.out] at hD
          have HD := Lib.hid hD
          clear hF7 hS7 hi7 hD HE HP6' hcW
          go_wp2_with fail
          refine HD.out.mono ?_
          rintro ee w' ⟨rfl, rfl⟩
          have HREL : Hid (Rel w f ls p d c g rd (pv wo) begun e w7) := Lib.hid ⟨own', _, wo, odd, ws, rfl, by rw [List.length_set, List.length_set]; exact HRL.out, HP7.out, HG7.out, he10⟩
          clear HD
          go_wp2
          go_roundw
          case rel => exact ⟨k + 1, begun, e, by omega, by go_num, rfl, rfl, HREL⟩
          case measure => simp [intOf]; omega
        | some y =>
          rw [show pv (some y) = Value.pointer (some ⟨y.q, 0, none⟩) from rfl] at hcg
          obtain ⟨bb, P', hs, hc⟩ := HGM.out.stepR HFE.out H44.out he10 ho
          have hok := (HGM.out.rd t _ ho).ok
          have hRf : P'.R = true := (stp_R hs hok.1 HGM.out.nn hok.2.1).trans hok.2.2
          have hE := (HPL.out.sitR ho hok.1 HGM.out.nn hok.2.1).stepR hs
          rw [hok.2.2] at hE
          have HE := Lib.hid hE
          have HC := Lib.hid hc
          have HRF := Lib.hid hRf
          have HO := Lib.hid ho
          clear hs hok hRf hE hc ho
          go_wp2_with fail
          refine HE.out.mono ?_
          rintro ee w7 ⟨rfl, hF7, hS7⟩
          have HP7 := Lib.hid (HPL.out.stepR HO.out hF7 hS7)
          have hi7 : (rl.set t (some ⟨y.q, y.b, y.c, P'⟩))[t]? = some (some ⟨y.q, y.b, y.c, P'⟩) := by rw [List.getElem?_set, if_pos rfl, if_pos (by have := HRL.out; omega)]
          have hcW7 : w7.cell? ⟨g, t, none⟩ = some (.pointer (some ⟨y.q, 0, none⟩)) := HP7.out.cell hi7
          have hzW7 := HP7.out.frz t
          have hD := Done_any hS7.pg hS7.ok
          rw [HRF.out] at hD
          have HPG := Lib.hid hS7.pg
          clear hF7 hS7 hi7 HE HPL hcg hzg
          rcases HC.out with ⟨h5, hG7⟩ | ⟨h5, hr0⟩ | ⟨kk, tr2, hP'⟩
          · rw [decide_eq_false h5] at hD
            have HD := Lib.hid hD
            have HG7 := Lib.hid hG7
            clear hD h5 hG7 HC HPG
            go_wp2_with fail
            refine HD.out.mono ?_
            rintro ee w' ⟨rfl, rfl⟩
            have HREL : Hid (Rel w f ls p d c g rd (pv wo) begun e w7) := Lib.hid ⟨own, _, wo, odd, ws, rfl, by rw [List.length_set]; exact HRL.out, HP7.out, HG7.out, he10⟩
            clear HD
            go_wp2
            go_roundw
            case rel => exact ⟨k + 1, begun, e, by omega, by go_num, rfl, rfl, HREL⟩
            case measure => simp [intOf]; omega
          · rw [decide_eq_true h5] at hD
            have HD := Lib.hid hD
            have hRes := Result_any HPG.out
            rw [HRF.out, hr0] at hRes
            have HRES := Lib.hid hRes
            clear hD h5 hr0 HC HPG hRes
            go_wp2_with fail
            refine HD.out.mono ?_
            rintro ee w' ⟨rfl, rfl⟩
            go_wp2_with fail
            refine HRES.out.mono ?_
            rintro ee w' ⟨rfl, rfl⟩
            have hdrop := HP7.out.dropR (i := t) (by rw [List.length_set]; have := HRL.out; omega)
            have HREL : Hid (Rel w f ls p d c g rd (pv wo) begun e (w7.setCell ⟨g, t, none⟩ (.pointer none))) := Lib.hid ⟨own, _, wo, odd, ws, rfl, by rw [List.length_set, List.length_set]; exact HRL.out, hdrop, by rw [List.set_set]; exact HGM.out.dropR t, he10⟩
            clear HD HRES hdrop
            go_wp2
            go_roundw
            case rel => exact ⟨k + 1, begun, e, by omega, by go_num, rfl, rfl, HREL⟩
            case measure => simp [intOf]; omega
          · subst hP'
            rw [decide_eq_true rfl] at hD
            have HD := Lib.hid hD
            have HRES := Lib.hid (Result_any HPG.out)
            have HVER := Lib.hid (Version_1 HPG.out)
            have hsub : IntKind.u64.wrap (ver f e - f) = 2 * (e : Int) := ver_sub hf0 hf1.out he10
            have hdv : (2 * (e : Int)) / 2 = e := by omega
            have HEV := Lib.hid (fun w => even_yes (ver f e) w (ver_nn f e) (ver_even HFE.out e))
            clear hD HC
            go_wp2_with fail
            refine HD.out.mono ?_
            rintro ee w' ⟨rfl, rfl⟩
            go_wp2_with fail
            refine HRES.out.mono ?_
            rintro ee w' ⟨rfl, rfl⟩
            go_wp2_with fail
            refine HVER.out.mono ?_
            rintro ee w' ⟨rfl, rfl⟩
            have hgl7 := HP7.out.glt
            have hcA : (w7.alloc (.cells #[.int .u64 0, .int .u64 0, .int .u64 0, .int .u64 0] 22)).cell? ⟨g, t, none⟩ = some (.pointer (some ⟨y.q, 0, none⟩)) := by rw [World.cell?_alloc_past _ _ _ hgl7]; exact hcW7
            have hFA : Frm [] w7 (w7.alloc (.cells #[.int .u64 0, .int .u64 0, .int .u64 0, .int .u64 0] 22)) := (Frm.refl _ _).alloc _
            have HVER2 := Lib.hid (Version_1 (PgAt.frm0 HPG.out hFA))
            have HPA := Lib.hid (HP7.out.quiet hFA)
            have HPGA := Lib.hid (PgAt.frm0 HPG.out hFA)
            have hbA : (w7.alloc (.cells #[.int .u64 0, .int .u64 0, .int .u64 0, .int .u64 0] 22)).heap[w7.heap.size]? = some (.cells (u64s [0, 0, 0, 0]).toArray 22 (0, 0)) := heap_alloc_new _ _
            have HBA := Lib.hid hbA
            clear hFA hbA
            go_wp2_with fail
            refine HVER2.out.mono ?_
            rintro ee w' ⟨rfl, rfl⟩
            go_wp2_with fail
            refine (HEV.out _).mono ?_
            rintro ee w' ⟨rfl, rfl⟩
            clear HVER HVER2 HRES HD HEV HP7 HPG
            have HX : Hid (∃ X, X = w7.alloc (.cells #[.int .u64 0, .int .u64 0, .int .u64 0, .int .u64 0] 22)) := Lib.hid ⟨_, rfl⟩
            obtain ⟨X, hX⟩ := HX.out
            rw [← hX] at hcA HPA HPGA HBA ⊢
            have hzg : X.frozen? ⟨g, t, none⟩ = false := HPA.out.frz t
            clear hX HX hcW7 hzW7
            by_cases he0 : e = 0
            · have hb0 : decide ((0 : Int) < e) = false := by simp; omega
              have hb0' : decide (0 < e) = false := by simp; omega
              have HE0 := Lib.hid he0
              clear he0
              have HWO := Lib.hid (Words_1 HPGA.out)
              go_wp2_with fail
              refine HWO.out.mono ?_
              rintro ee w8 ⟨gw, cw, rfl, hF8, hSl⟩
              rw [vals_len H44.out] at hSl ⊢
              have hsm := same_any hSl.rd (rd_u64 (n := 4) rfl (hF8.heap HBA.out (by simp))) (by rw [vals_len H44.out]; omega) (by simp)
              rw [decide_eq_true (by rw [HE0.out]; rfl)] at hsm
              have HSM := Lib.hid hsm
              have HP8 := Lib.hid (HPA.out.quiet hF8)
              clear hF8 hSl hsm HWO HPGA HBA
              go_wp2_with fail
              refine HSM.out.mono ?_
              rintro ee w9 ⟨m9, rfl, hw9⟩
              have hF9 : Frm [] w8 w9 := by rw [hw9]; exact (Frm.refl _ _).drewN _
              have hP9 := HP8.out.quiet hF9
              have hdrop := hP9.dropR (i := t) (by rw [List.length_set]; have := HRL.out; omega)
              have hi9 : (rl.set t (some ⟨y.q, y.b, y.c, ⟨true, 0, 1, vals ls e, kk, 5, ver f e, 1, tr2⟩⟩))[t]? = some (some ⟨y.q, y.b, y.c, ⟨true, 0, 1, vals ls e, kk, 5, ver f e, 1, tr2⟩⟩) := by rw [List.getElem?_set, if_pos rfl, if_pos (by have := HRL.out; omega)]
              have hc9 : w9.cell? ⟨g, t, none⟩ = some (.pointer (some ⟨y.q, 0, none⟩)) := hP9.cell hi9
              have hz9 := hP9.frz t
              have HREL : Hid (Rel w f ls p d c g rd (pv wo) begun e (w9.setCell ⟨g, t, none⟩ (.pointer none))) := Lib.hid ⟨own, _, wo, odd, ws, rfl, by rw [List.length_set, List.length_set]; exact HRL.out, hdrop, by rw [List.set_set]; exact HGM.out.dropR t, he10⟩
              clear hF9 hw9 hP9 hdrop hi9 HP8 HSM HPA hcA hzg
              go_wp2
              go_roundw
              case rel => exact ⟨k + 1, begun, e, by omega, by go_num, rfl, rfl, HREL⟩
              case measure => simp [intOf]; omega
            · have hb0 : decide ((0 : Int) < e) = true := by simp; omega
              have hb0' : decide (0 < e) = true := by simp; omega
              have heb : e ≤ begun := by
                cases hwo : wo with
                | none => have := (HGM.out.none_ hwo).2.1; omega
                | some z => have := (HGM.out.some_ z hwo).1; omega
              have hbl := HGM.out.beg
              have hlen := HL.out.1
              have hen : e ≤ n := by omega
              obtain ⟨ha, hbw⟩ := HL.out.2.1 (by omega)
              subst ha
              obtain ⟨l, hl⟩ : ∃ l, ls[e - 1]? = some l := ⟨_, List.getElem?_eq_getElem (by omega)⟩
              have hvl : vals ls e = l := by unfold vals; rw [if_neg he0, List.getD_eq_getElem?_getD, hl]; rfl
              have hl4 := (H44.out.at hl).1
              have hrd : Rd X (.slice (some ⟨bl, ol + (e - 1) * 4, none⟩) 4 4) (u64s l) := by
                refine .inr ⟨bl, ol + (e - 1) * 4, 4, by simp [u64s, hl4], by simp [u64s, hl4], Nat.lt_of_lt_of_le hbw HPA.out.frm.size, fun i u hu => ?_⟩
                obtain ⟨z, hz, rfl⟩ := u64s_get hu
                exact (HPA.out.frm.cell hbw (by simp)).trans (HL.out.2.2 (e - 1) l hl i z hz)
              have HRD := Lib.hid hrd
              have HVL := Lib.hid hvl
              have HL4 := Lib.hid hl4
              have hs1 : IntKind.u64.wrap ((e : Int) - 1) = (e : Int) - 1 := by rw [IntKind.wrap_u64]; omega
              have hs2 : ((e : Int) - 1).toNat = e - 1 := by omega
              have hs3 : 0 ≤ (e : Int) - 1 := by omega
              have hs4 : (e : Int) - 1 < n := by omega
              clear hl hvl hl4 hrd he0 heb hbl hlen hbw
              have HWO := Lib.hid (Words_1 HPGA.out)
              go_wp2_with fail
              refine HWO.out.mono ?_
              rintro ee w8 ⟨gw, cw, rfl, hF8, hSl⟩
              rw [vals_len H44.out] at hSl ⊢
              have hsm := same_any hSl.rd (HRD.out.frm hF8 (by simp)) (by rw [vals_len H44.out]; omega) (by have := HL4.out; omega)
              rw [decide_eq_true (HVL.out)] at hsm
              have HSM := Lib.hid hsm
              have HP8 := Lib.hid (HPA.out.quiet hF8)
              clear hF8 hSl hsm HWO HPGA HBA HRD
              go_wp2_with fail
              refine HSM.out.mono ?_
              rintro ee w9 ⟨m9, rfl, hw9⟩
              have hF9 : Frm [] w8 w9 := by rw [hw9]; exact (Frm.refl _ _).drewN _
              have hP9 := HP8.out.quiet hF9
              have hdrop := hP9.dropR (i := t) (by rw [List.length_set]; have := HRL.out; omega)
              have hi9 : (rl.set t (some ⟨y.q, y.b, y.c, ⟨true, 0, 1, vals ls e, kk, 5, ver f e, 1, tr2⟩⟩))[t]? = some (some ⟨y.q, y.b, y.c, ⟨true, 0, 1, vals ls e, kk, 5, ver f e, 1, tr2⟩⟩) := by rw [List.getElem?_set, if_pos rfl, if_pos (by have := HRL.out; omega)]
              have hc9 : w9.cell? ⟨g, t, none⟩ = some (.pointer (some ⟨y.q, 0, none⟩)) := hP9.cell hi9
              have hz9 := hP9.frz t
              have HREL : Hid (Rel w f ls p d c g rd (pv wo) begun e (w9.setCell ⟨g, t, none⟩ (.pointer none))) := Lib.hid ⟨own, _, wo, odd, ws, rfl, by rw [List.length_set, List.length_set]; exact HRL.out, hdrop, by rw [List.set_set]; exact HGM.out.dropR t, he10⟩
              clear hF9 hw9 hP9 hdrop hi9 HP8 HSM HPA hcA hzg
              go_wp2
              go_roundw
              case rel => exact ⟨k + 1, begun, e, by omega, by go_num, rfl, rfl, HREL⟩
              case measure => simp [intOf]; omega
    · obtain rfl : k = m := by omega
      obtain ⟨own, rl, wo, odd, ws, rfl, hrl, hPl, hGm, he10⟩ := HR.out
      have HFR := Lib.hid hPl.frm
      clear HR hPl hGm hrl
      go_wp2_with fail
      refine (known_true _).mono ?_
      rintro e w9 ⟨rfl, hF9⟩
      go_wp2
      go_ret
      exact ⟨rfl, HFR.out.trans hF9⟩
end Go.Proofs.Ytbhnijkphkkalaa
