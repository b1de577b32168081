/- The reference: Bytes. -/
import Derived.Test.YtegoggnocpgoiaaScrBm
import Derived.LoopN
import Derived.Deep.DeepCutAuto
namespace Go.Proofs.Ytegoggnocpgoiaa
open Go.ChangeShapes Go.WideShapes Go.ChangeAt Go.RowKit

def lb (o : Opr) (p : Int) : Bool := (lst o p).isSome
theorem least_is (w : World) (o : Opr) (p : Int) (h : p = 107 ∨ p = 111 ∨ p = 118 ∨ p = 110) : Calls Try.prog 30 #[.agg #[.int .i64 o.k, .int .i64 o.t, .int .i64 o.n, .int .i64 o.v, .string o.key, .string o.val, .string o.old, .int .i64 o.tk], .int .u8 p] w (Ret (.tuple #[.int .u8 (ls o p), .bool (lb o p)]) (fun w' => Frm [] w w')) := by
  rcases h with rfl | rfl | rfl | rfl
  · exact least_k w o
  · exact least_o w o
  · exact least_v w o
  · exact least_n w o
/-- What Bytes returns. -/
def BPost (w : World) (o : Opr) (e : Ending) (w' : World) : Prop :=
  ∃ (a' : Option Addr) (c' : Nat) (L : List Int), e = .returned (.tuple #[.slice a' L.length c', .bool (wr o).isSome]) ∧ Frm [] w w' ∧ RowU w.heap.size w' a' L.length c' L ∧ L.length ≤ 5 ∧ ((wr o).isSome = true → L = wrL o)
theorem bpost_nil {w w' : World} {o : Opr} (h : (wr o).isSome = false) (hF : Frm [] w w') : BPost w o (.returned (.tuple #[.slice none 0 0, .bool false])) w' :=
  ⟨none, 0, [], by rw [h]; rfl, hF, RowU.nil _ _, by simp, fun hh => by rw [h] at hh; cases hh⟩
theorem bpost_of {w w' : World} {o : Opr} {a : Option Addr} {n c : Nat} {L : List Int} {r : Bool} (hr : (wr o).isSome = r) (hn : L.length = n) (h5 : n ≤ 5) (hF : Frm [] w w') (hR : RowU w.heap.size w' a n c L) (hL : (wr o).isSome = true → L = wrL o) : BPost w o (.returned (.tuple #[.slice a n c, .bool r])) w' := by
  subst hr hn; exact ⟨a, c, L, rfl, hF, hR, h5, hL⟩
theorem lA_0 {o : Opr} (h : ¬ o.k = 3) : lA o = [] := by unfold lA; rw [if_neg h]
theorem lA_c0 {o : Opr} (h : o.k = 3) (hv : vc o.v = 0) : lA o = [] := by unfold lA lp; rw [if_pos h, hv]; rfl
theorem lA_c1 {o : Opr} (h : o.k = 3) (hv : vc o.v = 1) : lA o = [ls o 107] := by unfold lA lp; rw [if_pos h, hv]; rfl
theorem lA_c2 {o : Opr} (h : o.k = 3) (hv : vc o.v = 2) : lA o = [ls o 107, ls o 118] := by unfold lA lp; rw [if_pos h, hv]; rfl
theorem lA_c3 {o : Opr} (h : o.k = 3) (hv : vc o.v = 3) : lA o = [ls o 107, ls o 111, ls o 118] := by unfold lA lp; rw [if_pos h, hv]; rfl
theorem lA_c4 {o : Opr} (h : o.k = 3) (hv : vc o.v = 4) : lA o = [ls o 107, ls o 110] := by unfold lA lp; rw [if_pos h, hv]; rfl
theorem lf_no {o : Opr} {p : Int} (hl : lb o p = false) (h : vc o.v = 1 ∧ p = 107 ∨ vc o.v = 2 ∧ (p = 107 ∨ p = 118) ∨ vc o.v = 3 ∧ (p = 107 ∨ p = 111 ∨ p = 118) ∨ vc o.v = 4 ∧ (p = 107 ∨ p = 110)) : lf o = false := by
  unfold lb at hl
  unfold lf
  rcases h with ⟨hv, rfl⟩ | ⟨hv, rfl | rfl⟩ | ⟨hv, rfl | rfl | rfl⟩ | ⟨hv, rfl | rfl⟩ <;> rw [hv] <;> simp [hl]

set_option maxRecDepth 100000 in
set_option maxHeartbeats 25600000 in
theorem bytes_any (w : World) (o : Opr) : Calls Try.prog 14 #[.agg #[.int .i64 o.k, .int .i64 o.t, .int .i64 o.n, .int .i64 o.v, .string o.key, .string o.val, .string o.old, .int .i64 o.tk]] w (fun e w' => BPost w o e w') := by
  have e0 := heap_alloc_new w (.cells #[.int .i64 o.k, .int .i64 o.t, .int .i64 o.n, .int .i64 o.v, .string o.key, .string o.val, .string o.old, .int .i64 o.tk] 30)
  have hF0 : Frm [] w (w.alloc (.cells #[.int .i64 o.k, .int .i64 o.t, .int .i64 o.n, .int .i64 o.v, .string o.key, .string o.val, .string o.old, .int .i64 o.tk] 30)) := (Frm.refl _ _).alloc _
  obtain ⟨X, hX⟩ : ∃ X, w.alloc (.cells #[.int .i64 o.k, .int .i64 o.t, .int .i64 o.n, .int .i64 o.v, .string o.key, .string o.val, .string o.old, .int .i64 o.tk] 30) = X := ⟨_, rfl⟩
  rw [hX] at e0 hF0
  have hcell : ∀ W, Frm [] X W → W.heap[w.heap.size]? = some (.cells #[.int .i64 o.k, .int .i64 o.t, .int .i64 o.n, .int .i64 o.v, .string o.key, .string o.val, .string o.old, .int .i64 o.tk] 30 (0, 0)) := fun W hF => hF.heap e0 (by simp)
  have HX := Lib.hid hX
  have HO := Lib.hid hcell
  have HF0 := Lib.hid hF0
  clear e0 hX hcell hF0
  go_enter Try.func14, Try.ntmps14
  go_wp2_with fail
  rw [HX.out]
  go_loopw [4] (fun i w' => ∃ x : Nat, x ≤ 256 ∧ i = .int .i64 x ∧ Frm [] X w' ∧ Hid (∀ x' p' : Nat, x' < x → p' < 256 → mt o x' p' = false)) (fun i _ => 256 - (intOf i).toNat)
  case atStart => exact ⟨0, by omega, rfl, Frm.refl _ _, Lib.hid (fun x' p' hx' => by omega)⟩
  case round =>
    obtain ⟨x, hx, rfl, hFx, HX1⟩ := hrel
    by_cases hxl : x < 256
    · have hb0 : (0 : Int) ≤ (x : Int) := by omega
      have hb1 : (x : Int) ≤ 255 := by omega
      have hxd : decide ((x : Int) < 256) = true := by simp; omega
      go_wp2_with fail
      go_loopw [5] (fun i w' => ∃ p : Nat, p ≤ 256 ∧ i = .int .i64 p ∧ Frm [] X w' ∧ Hid (∀ p' : Nat, p' < p → mt o x p' = false)) (fun i _ => 256 - (intOf i).toNat)
      case atStart => exact ⟨0, by omega, rfl, hFx, Lib.hid (fun p' hp' => by omega)⟩
      case round =>
        obtain ⟨p, hp, rfl, hFp, HP1⟩ := hrel
        by_cases hpl : p < 256
        · have hc0 : (0 : Int) ≤ (p : Int) := by omega
          have hc1 : (p : Int) ≤ 255 := by omega
          have hmt := @mt_iff o x p
          have htho : tho (x : Int) (p : Int) = if thB (hd x p).k = true then (x : Int) / 8 else 0 := rfl
          have hht : (hd (x : Int) (p : Int)).t = 0 := by unfold hd; repeat' split
                                                          all_goals rfl
          have hbrk : ¬ (hd (x : Int) (p : Int)).k = o.k → ∀ q : Nat, mt o x q = false := fun h q => mt_break h q
          have hhead := fun W => head_any W (x : Int) (p : Int) hb0 hc0 hc1
          generalize tho (x : Int) (p : Int) = T at *
          obtain ⟨hh, hhd⟩ : ∃ hh, hd (x : Int) (p : Int) = hh := ⟨_, rfl⟩
          rw [hhd] at hmt htho hht hbrk hhead
          have HMT := Lib.hid hmt
          have HTHO := Lib.hid htho
          have HHT := Lib.hid hht
          have HBRK := Lib.hid hbrk
          have HH := Lib.hid hhead
          clear hmt htho hht hbrk hhead hhd
          go_wp2_with fail
          refine (HH.out _).mono ?_
          rintro e w1 ⟨rfl, hF1⟩
          have hG1 := hFp.trans hF1
          have e1 := HO.out w1 hG1
          obtain ⟨c0, c1, c2, c3, c4, c5, c6, c7⟩ := OpAt.block e1
          simp only [Nat.zero_add] at c0 c1 c2 c3 c4 c5 c6 c7
          have hl1 := lt_of_heap e1
          by_cases hk : hh.k = o.k
          · have d0 : (hh.k != o.k) = false := by simp [hk]
            have HK := Lib.hid hk
            clear hk
            go_wp2_with fail
            have h6 := heap_alloc_new w1 (.cells #[.int .i64 hh.k, .int .i64 hh.t, .int .i64 hh.n, .int .i64 hh.v, .string hh.key, .string hh.val, .string hh.old, .int .i64 hh.tk] 30)
            have hG2 := hG1.alloc (.cells #[.int .i64 hh.k, .int .i64 hh.t, .int .i64 hh.n, .int .i64 hh.v, .string hh.key, .string hh.val, .string hh.old, .int .i64 hh.tk] 30)
            clear c0 c1 c2 c3 c4 c5 c6 c7 hl1 e1 hF1 d0
            generalize w1.alloc (.cells #[.int .i64 hh.k, .int .i64 hh.t, .int .i64 hh.n, .int .i64 hh.v, .string hh.key, .string hh.val, .string hh.old, .int .i64 hh.tk] 30) = W2 at h6 hG2 ⊢
            have hb6 : X.heap.size ≤ w1.heap.size := hG1.size
            generalize w1.heap.size = b6 at h6 hb6 ⊢
            refine (threaded_any _ _).mono ?_
            rintro e w' ⟨rfl, rfl⟩
            go_upto_if 32 with fail
            go_cut [] (fun wx => Frm [] X wx ∧ wx.heap[b6]? = some (.cells #[.int .i64 hh.k, .int .i64 T, .int .i64 hh.n, .int .i64 hh.v, .string hh.key, .string hh.val, .string hh.old, .int .i64 hh.tk] 30 (0, 0)))
            case first =>
              have z6 := OpAt.block h6
              obtain ⟨u0, u1, u2, u3, u4, u5, u6, u7⟩ := z6
              simp only [Nat.zero_add] at u0 u1 u2 u3 u4 u5 u6 u7
              have f6 : ∀ i, W2.frozen? ⟨b6, i, none⟩ = false := fun i => frozen_of_heap h6
              have hset := heap_setCell_at (i := 1) (.int .i64 ((x : Int) / 8)) h6
              have hGs : Frm [] X (W2.setCell ⟨b6, 1, none⟩ (.int .i64 ((x : Int) / 8))) := hG2.setCell _ _ (.inr hb6)
              have H6 := Lib.hid h6
              have HSET := Lib.hid hset
              clear h6 hset
              cases hthB : thB hh.k with
              | true =>
                have hT := HTHO.out
                rw [hthB, if_pos rfl] at hT
                have HT := Lib.hid hT
                clear hT hthB
                go_wp2
                go_meet
                exact ⟨hGs, by rw [HT.out]; exact HSET.out⟩
              | false =>
                have hT := HTHO.out
                rw [hthB, if_neg (by simp)] at hT
                have HT := Lib.hid hT
                clear hT hthB
                go_wp2
                go_meet
                exact ⟨hG2, by rw [HT.out, ← HHT.out]; exact H6.out⟩
            case rest =>
              obtain ⟨HGCo, h6c⟩ := hcut
              have HGC := Lib.hid HGCo
              have H6C := Lib.hid h6c
              obtain ⟨u0, u1, u2, u3, u4, u5, u6, u7⟩ := OpAt.block (x := ⟨hh.k, T, hh.n, hh.v, hh.key, hh.val, hh.old, hh.tk⟩) h6c
              simp only [Nat.zero_add] at u0 u1 u2 u3 u4 u5 u6 u7
              obtain ⟨c0, c1, c2, c3, c4, c5, c6, c7⟩ := OpAt.block (HO.out wc HGCo)
              simp only [Nat.zero_add] at c0 c1 c2 c3 c4 c5 c6 c7
              have hlc := lt_of_heap (HO.out wc HGCo)
              clear HGCo h6c h6 hG2 hb6
              by_cases ht : T = o.t
              case neg =>
                have d1 : (T != o.t) = true := by simpa using ht
                have hnm : mt o x p = false := by
                  cases hmm : mt o x p with
                  | false => rfl
                  | true => exact absurd (HMT.out.1 hmm) (fun hhm => ht hhm.2.1)
                have HNM := Lib.hid hnm
                clear hnm
                go_wp2
                go_roundw
                case rel =>
                  refine ⟨p + 1, by omega, by go_num, HGC.out, Lib.hid (fun p' hp' => ?_)⟩
                  by_cases e : p' = p
                  · subst e; exact HNM.out
                  · exact HP1.out p' (by omega)
                case measure => simp [intOf]; omega

              have d1 : (T != o.t) = false := by simp [ht]
              by_cases hv : hh.v = o.v
              case neg =>
                have d2 : (hh.v != o.v) = true := by simpa using hv
                have hnm : mt o x p = false := by
                  cases hmm : mt o x p with
                  | false => rfl
                  | true => exact absurd (HMT.out.1 hmm) (fun hhm => hv hhm.2.2.1)
                have HNM := Lib.hid hnm
                clear hnm
                go_wp2
                go_roundw
                case rel =>
                  refine ⟨p + 1, by omega, by go_num, HGC.out, Lib.hid (fun p' hp' => ?_)⟩
                  by_cases e : p' = p
                  · subst e; exact HNM.out
                  · exact HP1.out p' (by omega)
                case measure => simp [intOf]; omega

              have d2 : (hh.v != o.v) = false := by simp [hv]
              by_cases htk : hh.tk = o.tk
              case neg =>
                have d3 : (hh.tk != o.tk) = true := by simpa using htk
                have hnm : mt o x p = false := by
                  cases hmm : mt o x p with
                  | false => rfl
                  | true => exact absurd (HMT.out.1 hmm) (fun hhm => htk hhm.2.2.2.1)
                have HNM := Lib.hid hnm
                clear hnm
                go_wp2
                go_roundw
                case rel =>
                  refine ⟨p + 1, by omega, by go_num, HGC.out, Lib.hid (fun p' hp' => ?_)⟩
                  by_cases e : p' = p
                  · subst e; exact HNM.out
                  · exact HP1.out p' (by omega)
                case measure => simp [intOf]; omega

              have d3 : (hh.tk != o.tk) = false := by simp [htk]
              by_cases hk3 : hh.k = 3
              case neg =>
                have d4 : (hh.k != 3) = true := by simpa using hk3
                have d4' : (hh.k == 3) = false := by simpa using hk3
                by_cases hn : hh.n = o.n
                case neg =>
                  have d5 : (hh.n != o.n) = true := by simpa using hn
                  have hnm : mt o x p = false := by
                    cases hmm : mt o x p with
                    | false => rfl
                    | true => exact absurd (HMT.out.1 hmm) (fun hhm => hhm.2.2.2.2.elim hk3 hn)
                  have HNM := Lib.hid hnm
                  clear hnm
                  go_wp2
                  go_roundw
                  case rel =>
                    refine ⟨p + 1, by omega, by go_num, HGC.out, Lib.hid (fun p' hp' => ?_)⟩
                    by_cases e : p' = p
                    · subst e; exact HNM.out
                    · exact HP1.out p' (by omega)
                  case measure => simp [intOf]; omega
                have d5 : (hh.n != o.n) = false := by simp [hn]
                have hmm : mt o x p = true := HMT.out.2 ⟨HK.out, ht, hv, htk, .inr hn⟩
                have hbe := bytes_end hxl hpl hmm HX1.out HP1.out
                have hbb : Byt ([(x : Int), (p : Int)] ++ lA o) := by
                  refine Byt.append ?_ (lA_byt o)
                  intro y hy; simp at hy; omega
                have hbe3 := And.intro hbe.1 (And.intro hbe.2 hbb)
                have HBE := Lib.hid hbe3
                have hLA := lA_0 (o := o) (by rw [← HK.out]; exact hk3)
                have HLA := Lib.hid hLA
                clear hmm hbe hbb hbe3 hLA ht hv htk hk3 hn
                go_wp2_with fail
                refine (rneeds_any _ _).mono ?_
                rintro e w' ⟨rfl, rfl⟩
                have hROW : RowU X.heap.size (wc.alloc (.cells #[.int .u8 (x : Int), .int .u8 (p : Int)] 5)) (some ⟨wc.heap.size, 0, none⟩) 2 2 [(x : Int), (p : Int)] := rowU_new rfl (by omega) (heap_alloc_new _ _) HGC.out.size
                have hGW : Frm [] X (wc.alloc (.cells #[.int .u8 (x : Int), .int .u8 (p : Int)] 5)) := HGC.out.alloc _
                have h6W := heap_alloc_old (.cells #[.int .u8 (x : Int), .int .u8 (p : Int)] 5) H6C.out
                clear c0 c1 c2 c3 c4 c5 c6 c7 u0 u1 u2 u3 u4 u5 u6 u7
                go_wp2_with fail
                generalize wc.alloc (.cells #[.int .u8 (x : Int), .int .u8 (p : Int)] 5) = WA0 at hROW hGW h6W ⊢
                generalize wc.heap.size = g7 at hROW ⊢
                refine wp_loop_rounds 1 ?_
                rw [rounds_succ]
                have hLI := hROW.li
                obtain ⟨bL, hLI⟩ := hLI
                have hby : Byt [(x : Int), (p : Int)] := by have := HBE.out.2.2; rw [HLA.out] at this; exact this
                have hnx := rnext2_any hLI hby 64 (by omega) (by omega)
                have hbe := HBE.out
                rw [HLA.out] at hbe
                obtain ⟨q, hq⟩ : ∃ q, nx [(x : Int), (p : Int)] 64 = q := ⟨_, rfl⟩
                obtain ⟨z, hz⟩ : ∃ z, nxN [(x : Int), (p : Int)] = z := ⟨_, rfl⟩
                have hnx2 : Calls Try.prog 12 #[.slice (some ⟨g7, 0, none⟩) 2 2, .int .i64 64] WA0 (Ret (.tuple #[.agg #[.int .i64 q.k, .int .i64 q.t, .int .i64 q.n, .int .i64 q.v, .string q.key, .string q.val, .string q.old, .int .i64 q.tk], .int .i64 (z : Nat)]) (fun w' => Frm [] WA0 w')) := by
                  rw [← hq, ← hz]; exact hnx
                have hres : (opEq q o && (z == 2)) = (Go.Proofs.Ytegoggnocpgoiaa.wr o).isSome := by rw [← hq, ← hz]; exact hbe.1
                have hLw := hbe.2.1
                have HNX := Lib.hid hnx2
                have HRES := Lib.hid hres
                have HLW := Lib.hid hLw
                have HROW := Lib.hid hROW
                clear hLI hby hnx hbe hq hz hnx2 hres hLw hROW
                obtain ⟨u0, u1, u2, u3, u4, u5, u6, u7⟩ := OpAt.block (x := ⟨hh.k, T, hh.n, hh.v, hh.key, hh.val, hh.old, hh.tk⟩) h6W
                simp only [Nat.zero_add] at u0 u1 u2 u3 u4 u5 u6 u7
                clear h6W
                go_wp2_with fail
                refine HNX.out.mono ?_
                rintro e wN ⟨rfl, hFN⟩
                clear u0 u1 u2 u3 u4 u5 u6 u7
                have hGN := hGW.trans hFN
                have eN := HO.out wN hGN
                obtain ⟨c0, c1, c2, c3, c4, c5, c6, c7⟩ := OpAt.block eN
                simp only [Nat.zero_add] at c0 c1 c2 c3 c4 c5 c6 c7
                have hlN := lt_of_heap eN
                have hql := eql_op q o
                have hFend : Frm [] w (wN.alloc (.cells #[.int .i64 q.k, .int .i64 q.t, .int .i64 q.n, .int .i64 q.v, .string q.key, .string q.val, .string q.old, .int .i64 q.tk] 30)) := (HF0.out.trans hGN).alloc _
                have hROWe := (HROW.out.frm0 hFN).frm0 ((Frm.refl [] wN).alloc (.cells #[.int .i64 q.k, .int .i64 q.t, .int .i64 q.n, .int .i64 q.v, .string q.key, .string q.val, .string q.old, .int .i64 q.tk] 30))
                have HEND := Lib.hid hFend
                have HRE := Lib.hid hROWe
                clear eN hFN hGN hFend hROWe hGW
                cases hoq : opEq q o with
                | true =>
                  by_cases hzn : z = 2
                  · have d9 : ((z : Int) == 2) = true := by simp; omega
                    have hR := HRES.out
                    rw [hoq, hzn] at hR
                    have HR := Lib.hid hR
                    rw [hoq] at hql
                    clear hR hzn hoq
                    go_wp2
                    go_ret2
                    exact bpost_of (r := true) HR.out.symm rfl (by omega) HEND.out (HRE.out.base HF0.out.size) HLW.out
                  · have d9 : ((z : Int) == 2) = false := by simp; omega
                    have hR := HRES.out
                    rw [hoq, show (z == 2) = false by simpa using hzn] at hR
                    have HR := Lib.hid hR
                    rw [hoq] at hql
                    clear hR hzn hoq
                    go_wp2
                    go_ret2
                    exact bpost_of (r := false) HR.out.symm rfl (by omega) HEND.out (HRE.out.base HF0.out.size) HLW.out
                | false =>
                  have hR := HRES.out
                  rw [hoq] at hR
                  have HR := Lib.hid hR
                  rw [hoq] at hql
                  clear hR hoq
                  go_wp2
                  go_ret2
                  exact bpost_of (r := false) HR.out.symm rfl (by omega) HEND.out (HRE.out.base HF0.out.size) HLW.out
              have d4 : (hh.k != 3) = false := by simp [hk3]
              have d4' : (hh.k == 3) = true := by simp [hk3]
              have hmm : mt o x p = true := HMT.out.2 ⟨HK.out, ht, hv, htk, .inl hk3⟩
              have hbe := bytes_end hxl hpl hmm HX1.out HP1.out
              have hbb : Byt ([(x : Int), (p : Int)] ++ lA o) := by
                refine Byt.append ?_ (lA_byt o)
                intro y hy; simp at hy; omega
              have hbe3 := And.intro hbe.1 (And.intro hbe.2 hbb)
              have HBE := Lib.hid hbe3
              have hok3 : o.k = 3 := by rw [← HK.out]; exact hk3
              have HK3 := Lib.hid hok3
              clear hmm hbe hbb hbe3 hok3 ht hv htk hk3
              rcases vc_cases o.v with hvc | hvc | hvc | hvc | hvc
              · have hLA := lA_c0 HK3.out hvc
                have hnd : nds o.v = noB := by unfold nds; rw [hvc]; rfl
                have HVC := Lib.hid hvc
                have HLA := Lib.hid hLA
                have HND := Lib.hid hnd
                clear hLA hnd hvc
                go_wp2_with fail
                refine (rneeds_any _ _).mono ?_
                rintro e w' ⟨rfl, rfl⟩
                rw [HND.out]
                have hROW : RowU X.heap.size (wc.alloc (.cells #[.int .u8 (x : Int), .int .u8 (p : Int)] 5)) (some ⟨wc.heap.size, 0, none⟩) 2 2 [(x : Int), (p : Int)] := rowU_new rfl (by omega) (heap_alloc_new _ _) HGC.out.size
                have hGW : Frm [] X (wc.alloc (.cells #[.int .u8 (x : Int), .int .u8 (p : Int)] 5)) := HGC.out.alloc _
                have h6W := heap_alloc_old (.cells #[.int .u8 (x : Int), .int .u8 (p : Int)] 5) H6C.out
                clear c0 c1 c2 c3 c4 c5 c6 c7 u0 u1 u2 u3 u4 u5 u6 u7
                go_wp2_with fail
                generalize wc.alloc (.cells #[.int .u8 (x : Int), .int .u8 (p : Int)] 5) = WA0 at hROW hGW h6W ⊢
                generalize wc.heap.size = g7 at hROW ⊢
                refine wp_loop_rounds 1 ?_
                rw [rounds_succ]
                have hLI := hROW.li
                obtain ⟨bL, hLI⟩ := hLI
                have hby : Byt [(x : Int), (p : Int)] := by have := HBE.out.2.2; rw [HLA.out] at this; exact this
                have hnx := rnext2_any hLI hby 64 (by omega) (by omega)
                have hbe := HBE.out
                rw [HLA.out] at hbe
                obtain ⟨q, hq⟩ : ∃ q, nx [(x : Int), (p : Int)] 64 = q := ⟨_, rfl⟩
                obtain ⟨z, hz⟩ : ∃ z, nxN [(x : Int), (p : Int)] = z := ⟨_, rfl⟩
                have hnx2 : Calls Try.prog 12 #[.slice (some ⟨g7, 0, none⟩) 2 2, .int .i64 64] WA0 (Ret (.tuple #[.agg #[.int .i64 q.k, .int .i64 q.t, .int .i64 q.n, .int .i64 q.v, .string q.key, .string q.val, .string q.old, .int .i64 q.tk], .int .i64 (z : Nat)]) (fun w' => Frm [] WA0 w')) := by
                  rw [← hq, ← hz]; exact hnx
                have hres : (opEq q o && (z == 2)) = (Go.Proofs.Ytegoggnocpgoiaa.wr o).isSome := by rw [← hq, ← hz]; exact hbe.1
                have hLw := hbe.2.1
                have HNX := Lib.hid hnx2
                have HRES := Lib.hid hres
                have HLW := Lib.hid hLw
                have HROW := Lib.hid hROW
                clear hLI hby hnx hbe hq hz hnx2 hres hLw hROW
                obtain ⟨u0, u1, u2, u3, u4, u5, u6, u7⟩ := OpAt.block (x := ⟨hh.k, T, hh.n, hh.v, hh.key, hh.val, hh.old, hh.tk⟩) h6W
                simp only [Nat.zero_add] at u0 u1 u2 u3 u4 u5 u6 u7
                clear h6W
                go_wp2_with fail
                refine HNX.out.mono ?_
                rintro e wN ⟨rfl, hFN⟩
                clear u0 u1 u2 u3 u4 u5 u6 u7
                have hGN := hGW.trans hFN
                have eN := HO.out wN hGN
                obtain ⟨c0, c1, c2, c3, c4, c5, c6, c7⟩ := OpAt.block eN
                simp only [Nat.zero_add] at c0 c1 c2 c3 c4 c5 c6 c7
                have hlN := lt_of_heap eN
                have hql := eql_op q o
                have hFend : Frm [] w (wN.alloc (.cells #[.int .i64 q.k, .int .i64 q.t, .int .i64 q.n, .int .i64 q.v, .string q.key, .string q.val, .string q.old, .int .i64 q.tk] 30)) := (HF0.out.trans hGN).alloc _
                have hROWe := (HROW.out.frm0 hFN).frm0 ((Frm.refl [] wN).alloc (.cells #[.int .i64 q.k, .int .i64 q.t, .int .i64 q.n, .int .i64 q.v, .string q.key, .string q.val, .string q.old, .int .i64 q.tk] 30))
                have HEND := Lib.hid hFend
                have HRE := Lib.hid hROWe
                clear eN hFN hGN hFend hROWe hGW
                cases hoq : opEq q o with
                | true =>
                  by_cases hzn : z = 2
                  · have d9 : ((z : Int) == 2) = true := by simp; omega
                    have hR := HRES.out
                    rw [hoq, hzn] at hR
                    have HR := Lib.hid hR
                    rw [hoq] at hql
                    clear hR hzn hoq
                    go_wp2
                    go_ret2
                    exact bpost_of (r := true) HR.out.symm rfl (by omega) HEND.out (HRE.out.base HF0.out.size) HLW.out
                  · have d9 : ((z : Int) == 2) = false := by simp; omega
                    have hR := HRES.out
                    rw [hoq, show (z == 2) = false by simpa using hzn] at hR
                    have HR := Lib.hid hR
                    rw [hoq] at hql
                    clear hR hzn hoq
                    go_wp2
                    go_ret2
                    exact bpost_of (r := false) HR.out.symm rfl (by omega) HEND.out (HRE.out.base HF0.out.size) HLW.out
                | false =>
                  have hR := HRES.out
                  rw [hoq] at hR
                  have HR := Lib.hid hR
                  rw [hoq] at hql
                  clear hR hoq
                  go_wp2
                  go_ret2
                  exact bpost_of (r := false) HR.out.symm rfl (by omega) HEND.out (HRE.out.base HF0.out.size) HLW.out
              · have hLA := lA_c1 HK3.out hvc
                have hnd : nds o.v = ⟨#[107]⟩ := by unfold nds; rw [hvc]; rfl
                have HVC := Lib.hid hvc
                have HLA := Lib.hid hLA
                have HND := Lib.hid hnd
                clear hLA hnd hvc
                go_wp2_with fail
                refine (rneeds_any _ _).mono ?_
                rintro e w' ⟨rfl, rfl⟩
                rw [HND.out]
                have hROW : RowU X.heap.size (wc.alloc (.cells #[.int .u8 (x : Int), .int .u8 (p : Int)] 5)) (some ⟨wc.heap.size, 0, none⟩) 2 2 [(x : Int), (p : Int)] := rowU_new rfl (by omega) (heap_alloc_new _ _) HGC.out.size
                have hGW : Frm [] X (wc.alloc (.cells #[.int .u8 (x : Int), .int .u8 (p : Int)] 5)) := HGC.out.alloc _
                have h6W := heap_alloc_old (.cells #[.int .u8 (x : Int), .int .u8 (p : Int)] 5) H6C.out
                clear c0 c1 c2 c3 c4 c5 c6 c7 u0 u1 u2 u3 u4 u5 u6 u7
                go_wp2_with fail
                generalize wc.alloc (.cells #[.int .u8 (x : Int), .int .u8 (p : Int)] 5) = WA0 at hROW hGW h6W ⊢
                generalize wc.heap.size = g7 at hROW ⊢
                refine wp_loop_rounds 2 ?_
                rw [rounds_succ]
                obtain ⟨u0, u1, u2, u3, u4, u5, u6, u7⟩ := OpAt.block (x := ⟨hh.k, T, hh.n, hh.v, hh.key, hh.val, hh.old, hh.tk⟩) h6W
                simp only [Nat.zero_add] at u0 u1 u2 u3 u4 u5 u6 u7
                have hoc : ∀ W', Frm [] WA0 W' → OpAt W' w.heap.size 0 o := fun W' h => OpAt.block (HO.out W' (hGW.trans h))
                have r0 := fun W' h => (hoc W' h).1
                have r1 := fun W' h => (hoc W' h).2.1
                have r2 := fun W' h => (hoc W' h).2.2.1
                have r3 := fun W' h => (hoc W' h).2.2.2.1
                have r4 := fun W' h => (hoc W' h).2.2.2.2.1
                have r5 := fun W' h => (hoc W' h).2.2.2.2.2.1
                have r6 := fun W' h => (hoc W' h).2.2.2.2.2.2.1
                have r7 := fun W' h => (hoc W' h).2.2.2.2.2.2.2
                simp only [Nat.zero_add] at r1 r2 r3 r4 r5 r6 r7
                clear hoc
                go_wp2_with fail
                go_region_held3 (fun w' => Frm [] WA0 w')
                  ((repeat' (first | assumption | exact Frm.refl _ _ | apply Frm.drew | apply Frm.alloc | (refine Frm.trans ?_ hF1))))
                  ((go_at_call 30; refine (least_is _ o 107 (by decide)).mono ?_; rintro e wL0 ⟨rfl, hF1⟩))
                have hFL : Frm [] WA0 wL0 := ((Frm.refl _ _).drew).trans hF1
                have hROWL := hROW.frm0 hFL
                have h6L := hFL.heap h6W (by simp)
                have hGL := hGW.trans hFL
                clear hROW h6W hGW hF1 hFL u0 u1 u2 u3 u4 u5 u6 u7 r0 r1 r2 r3 r4 r5 r6 r7
                cases hfound : lb o 107
                · have hno := bytes_part HK3.out (lf_no hfound (by rw [HVC.out]; decide))
                  have HNO := Lib.hid hno
                  have HGL := Lib.hid hGL
                  clear hno hGL hROWL h6L
                  go_wp2
                  go_ret2
                  exact bpost_nil HNO.out (HF0.out.trans HGL.out)
                have lsb0 := ls_bd o 107
                go_wp2_with (at_builtin; refine wpl_appU rfl (.tmp 96) (.tmp 98) rfl (B := X.heap.size) (a := (some ⟨g7, 0, none⟩)) (n := 2) (c := 2) (m := 1) (l := [(x : Int), (p : Int)]) (l2 := [ls o 107]) (by simp [Act.eval]) (by simp [Act.eval]) (hROWL.frm0 ((Frm.refl _ _).alloc _)) (li_u8 (n := 1) rfl (heap_alloc_new _ _)) (by simp) (by have := hGL.size; simp; omega) ?_; intro a1 q1 WA1 hR3 hF3)
                have hROW : RowU X.heap.size WA1 a1 3 q1 [(x : Int), (p : Int), ls o 107] := hR3
                have h6W := hF3.heap (heap_alloc_old (.cells #[.int .u8 (ls o 107)] 5) h6L) (row_ne hROWL h6L (by decide))
                have hGW : Frm [] X WA1 := (hGL.alloc (.cells #[.int .u8 (ls o 107)] 5)).trans_new hF3 (fun j hj => .inr ((hROWL.frm0 ((Frm.refl _ _).alloc (.cells #[.int .u8 (ls o 107)] 5))).blk j hj).1)
                clear hR3 hF3 hROWL h6L hGL hfound
                rw [rounds_succ]
                have hLI := hROW.li
                obtain ⟨bL, hLI⟩ := hLI
                have hby : Byt [(x : Int), (p : Int), ls o 107] := by have := HBE.out.2.2; rw [HLA.out] at this; exact this
                have hnx := rnext2_any hLI hby 64 (by omega) (by omega)
                have hbe := HBE.out
                rw [HLA.out] at hbe
                obtain ⟨q, hq⟩ : ∃ q, nx [(x : Int), (p : Int), ls o 107] 64 = q := ⟨_, rfl⟩
                obtain ⟨z, hz⟩ : ∃ z, nxN [(x : Int), (p : Int), ls o 107] = z := ⟨_, rfl⟩
                have hnx2 : Calls Try.prog 12 #[.slice a1 3 q1, .int .i64 64] WA1 (Ret (.tuple #[.agg #[.int .i64 q.k, .int .i64 q.t, .int .i64 q.n, .int .i64 q.v, .string q.key, .string q.val, .string q.old, .int .i64 q.tk], .int .i64 (z : Nat)]) (fun w' => Frm [] WA1 w')) := by
                  rw [← hq, ← hz]; exact hnx
                have hres : (opEq q o && (z == 3)) = (Go.Proofs.Ytegoggnocpgoiaa.wr o).isSome := by rw [← hq, ← hz]; exact hbe.1
                have hLw := hbe.2.1
                have HNX := Lib.hid hnx2
                have HRES := Lib.hid hres
                have HLW := Lib.hid hLw
                have HROW := Lib.hid hROW
                clear hLI hby hnx hbe hq hz hnx2 hres hLw hROW
                obtain ⟨u0, u1, u2, u3, u4, u5, u6, u7⟩ := OpAt.block (x := ⟨hh.k, T, hh.n, hh.v, hh.key, hh.val, hh.old, hh.tk⟩) h6W
                simp only [Nat.zero_add] at u0 u1 u2 u3 u4 u5 u6 u7
                clear h6W
                go_wp2_with fail
                refine HNX.out.mono ?_
                rintro e wN ⟨rfl, hFN⟩
                clear u0 u1 u2 u3 u4 u5 u6 u7
                have hGN := hGW.trans hFN
                have eN := HO.out wN hGN
                obtain ⟨c0, c1, c2, c3, c4, c5, c6, c7⟩ := OpAt.block eN
                simp only [Nat.zero_add] at c0 c1 c2 c3 c4 c5 c6 c7
                have hlN := lt_of_heap eN
                have hql := eql_op q o
                have hFend : Frm [] w (wN.alloc (.cells #[.int .i64 q.k, .int .i64 q.t, .int .i64 q.n, .int .i64 q.v, .string q.key, .string q.val, .string q.old, .int .i64 q.tk] 30)) := (HF0.out.trans hGN).alloc _
                have hROWe := (HROW.out.frm0 hFN).frm0 ((Frm.refl [] wN).alloc (.cells #[.int .i64 q.k, .int .i64 q.t, .int .i64 q.n, .int .i64 q.v, .string q.key, .string q.val, .string q.old, .int .i64 q.tk] 30))
                have HEND := Lib.hid hFend
                have HRE := Lib.hid hROWe
                clear eN hFN hGN hFend hROWe hGW
                cases hoq : opEq q o with
                | true =>
                  by_cases hzn : z = 3
                  · have d9 : ((z : Int) == 3) = true := by simp; omega
                    have hR := HRES.out
                    rw [hoq, hzn] at hR
                    have HR := Lib.hid hR
                    rw [hoq] at hql
                    clear hR hzn hoq
                    go_wp2
                    go_ret2
                    exact bpost_of (r := true) HR.out.symm rfl (by omega) HEND.out (HRE.out.base HF0.out.size) HLW.out
                  · have d9 : ((z : Int) == 3) = false := by simp; omega
                    have hR := HRES.out
                    rw [hoq, show (z == 3) = false by simpa using hzn] at hR
                    have HR := Lib.hid hR
                    rw [hoq] at hql
                    clear hR hzn hoq
                    go_wp2
                    go_ret2
                    exact bpost_of (r := false) HR.out.symm rfl (by omega) HEND.out (HRE.out.base HF0.out.size) HLW.out
                | false =>
                  have hR := HRES.out
                  rw [hoq] at hR
                  have HR := Lib.hid hR
                  rw [hoq] at hql
                  clear hR hoq
                  go_wp2
                  go_ret2
                  exact bpost_of (r := false) HR.out.symm rfl (by omega) HEND.out (HRE.out.base HF0.out.size) HLW.out
              · have hLA := lA_c2 HK3.out hvc
                have hnd : nds o.v = ⟨#[107, 118]⟩ := by unfold nds; rw [hvc]; rfl
                have HVC := Lib.hid hvc
                have HLA := Lib.hid hLA
                have HND := Lib.hid hnd
                clear hLA hnd hvc
                go_wp2_with fail
                refine (rneeds_any _ _).mono ?_
                rintro e w' ⟨rfl, rfl⟩
                rw [HND.out]
                have hROW : RowU X.heap.size (wc.alloc (.cells #[.int .u8 (x : Int), .int .u8 (p : Int)] 5)) (some ⟨wc.heap.size, 0, none⟩) 2 2 [(x : Int), (p : Int)] := rowU_new rfl (by omega) (heap_alloc_new _ _) HGC.out.size
                have hGW : Frm [] X (wc.alloc (.cells #[.int .u8 (x : Int), .int .u8 (p : Int)] 5)) := HGC.out.alloc _
                have h6W := heap_alloc_old (.cells #[.int .u8 (x : Int), .int .u8 (p : Int)] 5) H6C.out
                clear c0 c1 c2 c3 c4 c5 c6 c7 u0 u1 u2 u3 u4 u5 u6 u7
                go_wp2_with fail
                generalize wc.alloc (.cells #[.int .u8 (x : Int), .int .u8 (p : Int)] 5) = WA0 at hROW hGW h6W ⊢
                generalize wc.heap.size = g7 at hROW ⊢
                refine wp_loop_rounds 3 ?_
                rw [rounds_succ]
                obtain ⟨u0, u1, u2, u3, u4, u5, u6, u7⟩ := OpAt.block (x := ⟨hh.k, T, hh.n, hh.v, hh.key, hh.val, hh.old, hh.tk⟩) h6W
                simp only [Nat.zero_add] at u0 u1 u2 u3 u4 u5 u6 u7
                have hoc : ∀ W', Frm [] WA0 W' → OpAt W' w.heap.size 0 o := fun W' h => OpAt.block (HO.out W' (hGW.trans h))
                have r0 := fun W' h => (hoc W' h).1
                have r1 := fun W' h => (hoc W' h).2.1
                have r2 := fun W' h => (hoc W' h).2.2.1
                have r3 := fun W' h => (hoc W' h).2.2.2.1
                have r4 := fun W' h => (hoc W' h).2.2.2.2.1
                have r5 := fun W' h => (hoc W' h).2.2.2.2.2.1
                have r6 := fun W' h => (hoc W' h).2.2.2.2.2.2.1
                have r7 := fun W' h => (hoc W' h).2.2.2.2.2.2.2
                simp only [Nat.zero_add] at r1 r2 r3 r4 r5 r6 r7
                clear hoc
                go_wp2_with fail
                go_region_held3 (fun w' => Frm [] WA0 w')
                  ((repeat' (first | assumption | exact Frm.refl _ _ | apply Frm.drew | apply Frm.alloc | (refine Frm.trans ?_ hF1))))
                  ((go_at_call 30; refine (least_is _ o 107 (by decide)).mono ?_; rintro e wL0 ⟨rfl, hF1⟩))
                have hFL : Frm [] WA0 wL0 := ((Frm.refl _ _).drew).trans hF1
                have hROWL := hROW.frm0 hFL
                have h6L := hFL.heap h6W (by simp)
                have hGL := hGW.trans hFL
                clear hROW h6W hGW hF1 hFL u0 u1 u2 u3 u4 u5 u6 u7 r0 r1 r2 r3 r4 r5 r6 r7
                cases hfound : lb o 107
                · have hno := bytes_part HK3.out (lf_no hfound (by rw [HVC.out]; decide))
                  have HNO := Lib.hid hno
                  have HGL := Lib.hid hGL
                  clear hno hGL hROWL h6L
                  go_wp2
                  go_ret2
                  exact bpost_nil HNO.out (HF0.out.trans HGL.out)
                have lsb0 := ls_bd o 107
                go_wp2_with (at_builtin; refine wpl_appU rfl (.tmp 96) (.tmp 98) rfl (B := X.heap.size) (a := (some ⟨g7, 0, none⟩)) (n := 2) (c := 2) (m := 1) (l := [(x : Int), (p : Int)]) (l2 := [ls o 107]) (by simp [Act.eval]) (by simp [Act.eval]) (hROWL.frm0 ((Frm.refl _ _).alloc _)) (li_u8 (n := 1) rfl (heap_alloc_new _ _)) (by simp) (by have := hGL.size; simp; omega) ?_; intro a1 q1 WA1 hR3 hF3)
                have hROW : RowU X.heap.size WA1 a1 3 q1 [(x : Int), (p : Int), ls o 107] := hR3
                have h6W := hF3.heap (heap_alloc_old (.cells #[.int .u8 (ls o 107)] 5) h6L) (row_ne hROWL h6L (by decide))
                have hGW : Frm [] X WA1 := (hGL.alloc (.cells #[.int .u8 (ls o 107)] 5)).trans_new hF3 (fun j hj => .inr ((hROWL.frm0 ((Frm.refl _ _).alloc (.cells #[.int .u8 (ls o 107)] 5))).blk j hj).1)
                clear hR3 hF3 hROWL h6L hGL hfound
                rw [rounds_succ]
                obtain ⟨u0, u1, u2, u3, u4, u5, u6, u7⟩ := OpAt.block (x := ⟨hh.k, T, hh.n, hh.v, hh.key, hh.val, hh.old, hh.tk⟩) h6W
                simp only [Nat.zero_add] at u0 u1 u2 u3 u4 u5 u6 u7
                have hoc : ∀ W', Frm [] WA1 W' → OpAt W' w.heap.size 0 o := fun W' h => OpAt.block (HO.out W' (hGW.trans h))
                have r0 := fun W' h => (hoc W' h).1
                have r1 := fun W' h => (hoc W' h).2.1
                have r2 := fun W' h => (hoc W' h).2.2.1
                have r3 := fun W' h => (hoc W' h).2.2.2.1
                have r4 := fun W' h => (hoc W' h).2.2.2.2.1
                have r5 := fun W' h => (hoc W' h).2.2.2.2.2.1
                have r6 := fun W' h => (hoc W' h).2.2.2.2.2.2.1
                have r7 := fun W' h => (hoc W' h).2.2.2.2.2.2.2
                simp only [Nat.zero_add] at r1 r2 r3 r4 r5 r6 r7
                clear hoc
                go_wp2_with fail
                go_region_held3 (fun w' => Frm [] WA1 w')
                  ((repeat' (first | assumption | exact Frm.refl _ _ | apply Frm.drew | apply Frm.alloc | (refine Frm.trans ?_ hF1))))
                  ((go_at_call 30; refine (least_is _ o 118 (by decide)).mono ?_; rintro e wL1 ⟨rfl, hF1⟩))
                have hFL : Frm [] WA1 wL1 := ((Frm.refl _ _).drew).trans hF1
                have hROWL := hROW.frm0 hFL
                have h6L := hFL.heap h6W (by simp)
                have hGL := hGW.trans hFL
                clear hROW h6W hGW hF1 hFL u0 u1 u2 u3 u4 u5 u6 u7 r0 r1 r2 r3 r4 r5 r6 r7
                cases hfound : lb o 118
                · have hno := bytes_part HK3.out (lf_no hfound (by rw [HVC.out]; decide))
                  have HNO := Lib.hid hno
                  have HGL := Lib.hid hGL
                  clear hno hGL hROWL h6L
                  go_wp2
                  go_ret2
                  exact bpost_nil HNO.out (HF0.out.trans HGL.out)
                have lsb1 := ls_bd o 118
                go_wp2_with (at_builtin; refine wpl_appU rfl (.tmp 96) (.tmp 98) rfl (B := X.heap.size) (a := a1) (n := 3) (c := q1) (m := 1) (l := [(x : Int), (p : Int), ls o 107]) (l2 := [ls o 118]) (by simp [Act.eval]) (by simp [Act.eval]) (hROWL.frm0 ((Frm.refl _ _).alloc _)) (li_u8 (n := 1) rfl (heap_alloc_new _ _)) (by simp) (by have := hGL.size; simp; omega) ?_; intro a2 q2 WA2 hR3 hF3)
                have hROW : RowU X.heap.size WA2 a2 4 q2 [(x : Int), (p : Int), ls o 107, ls o 118] := hR3
                have h6W := hF3.heap (heap_alloc_old (.cells #[.int .u8 (ls o 118)] 5) h6L) (row_ne hROWL h6L (by decide))
                have hGW : Frm [] X WA2 := (hGL.alloc (.cells #[.int .u8 (ls o 118)] 5)).trans_new hF3 (fun j hj => .inr ((hROWL.frm0 ((Frm.refl _ _).alloc (.cells #[.int .u8 (ls o 118)] 5))).blk j hj).1)
                clear hR3 hF3 hROWL h6L hGL hfound
                rw [rounds_succ]
                have hLI := hROW.li
                obtain ⟨bL, hLI⟩ := hLI
                have hby : Byt [(x : Int), (p : Int), ls o 107, ls o 118] := by have := HBE.out.2.2; rw [HLA.out] at this; exact this
                have hnx := rnext2_any hLI hby 64 (by omega) (by omega)
                have hbe := HBE.out
                rw [HLA.out] at hbe
                obtain ⟨q, hq⟩ : ∃ q, nx [(x : Int), (p : Int), ls o 107, ls o 118] 64 = q := ⟨_, rfl⟩
                obtain ⟨z, hz⟩ : ∃ z, nxN [(x : Int), (p : Int), ls o 107, ls o 118] = z := ⟨_, rfl⟩
                have hnx2 : Calls Try.prog 12 #[.slice a2 4 q2, .int .i64 64] WA2 (Ret (.tuple #[.agg #[.int .i64 q.k, .int .i64 q.t, .int .i64 q.n, .int .i64 q.v, .string q.key, .string q.val, .string q.old, .int .i64 q.tk], .int .i64 (z : Nat)]) (fun w' => Frm [] WA2 w')) := by
                  rw [← hq, ← hz]; exact hnx
                have hres : (opEq q o && (z == 4)) = (Go.Proofs.Ytegoggnocpgoiaa.wr o).isSome := by rw [← hq, ← hz]; exact hbe.1
                have hLw := hbe.2.1
                have HNX := Lib.hid hnx2
                have HRES := Lib.hid hres
                have HLW := Lib.hid hLw
                have HROW := Lib.hid hROW
                clear hLI hby hnx hbe hq hz hnx2 hres hLw hROW
                obtain ⟨u0, u1, u2, u3, u4, u5, u6, u7⟩ := OpAt.block (x := ⟨hh.k, T, hh.n, hh.v, hh.key, hh.val, hh.old, hh.tk⟩) h6W
                simp only [Nat.zero_add] at u0 u1 u2 u3 u4 u5 u6 u7
                clear h6W
                go_wp2_with fail
                refine HNX.out.mono ?_
                rintro e wN ⟨rfl, hFN⟩
                clear u0 u1 u2 u3 u4 u5 u6 u7
                have hGN := hGW.trans hFN
                have eN := HO.out wN hGN
                obtain ⟨c0, c1, c2, c3, c4, c5, c6, c7⟩ := OpAt.block eN
                simp only [Nat.zero_add] at c0 c1 c2 c3 c4 c5 c6 c7
                have hlN := lt_of_heap eN
                have hql := eql_op q o
                have hFend : Frm [] w (wN.alloc (.cells #[.int .i64 q.k, .int .i64 q.t, .int .i64 q.n, .int .i64 q.v, .string q.key, .string q.val, .string q.old, .int .i64 q.tk] 30)) := (HF0.out.trans hGN).alloc _
                have hROWe := (HROW.out.frm0 hFN).frm0 ((Frm.refl [] wN).alloc (.cells #[.int .i64 q.k, .int .i64 q.t, .int .i64 q.n, .int .i64 q.v, .string q.key, .string q.val, .string q.old, .int .i64 q.tk] 30))
                have HEND := Lib.hid hFend
                have HRE := Lib.hid hROWe
                clear eN hFN hGN hFend hROWe hGW
                cases hoq : opEq q o with
                | true =>
                  by_cases hzn : z = 4
                  · have d9 : ((z : Int) == 4) = true := by simp; omega
                    have hR := HRES.out
                    rw [hoq, hzn] at hR
                    have HR := Lib.hid hR
                    rw [hoq] at hql
                    clear hR hzn hoq
                    go_wp2
                    go_ret2
                    exact bpost_of (r := true) HR.out.symm rfl (by omega) HEND.out (HRE.out.base HF0.out.size) HLW.out
                  · have d9 : ((z : Int) == 4) = false := by simp; omega
                    have hR := HRES.out
                    rw [hoq, show (z == 4) = false by simpa using hzn] at hR
                    have HR := Lib.hid hR
                    rw [hoq] at hql
                    clear hR hzn hoq
                    go_wp2
                    go_ret2
                    exact bpost_of (r := false) HR.out.symm rfl (by omega) HEND.out (HRE.out.base HF0.out.size) HLW.out
                | false =>
                  have hR := HRES.out
                  rw [hoq] at hR
                  have HR := Lib.hid hR
                  rw [hoq] at hql
                  clear hR hoq
                  go_wp2
                  go_ret2
                  exact bpost_of (r := false) HR.out.symm rfl (by omega) HEND.out (HRE.out.base HF0.out.size) HLW.out
              · have hLA := lA_c3 HK3.out hvc
                have hnd : nds o.v = ⟨#[107, 111, 118]⟩ := by unfold nds; rw [hvc]; rfl
                have HVC := Lib.hid hvc
                have HLA := Lib.hid hLA
                have HND := Lib.hid hnd
                clear hLA hnd hvc
                go_wp2_with fail
                refine (rneeds_any _ _).mono ?_
                rintro e w' ⟨rfl, rfl⟩
                rw [HND.out]
                have hROW : RowU X.heap.size (wc.alloc (.cells #[.int .u8 (x : Int), .int .u8 (p : Int)] 5)) (some ⟨wc.heap.size, 0, none⟩) 2 2 [(x : Int), (p : Int)] := rowU_new rfl (by omega) (heap_alloc_new _ _) HGC.out.size
                have hGW : Frm [] X (wc.alloc (.cells #[.int .u8 (x : Int), .int .u8 (p : Int)] 5)) := HGC.out.alloc _
                have h6W := heap_alloc_old (.cells #[.int .u8 (x : Int), .int .u8 (p : Int)] 5) H6C.out
                clear c0 c1 c2 c3 c4 c5 c6 c7 u0 u1 u2 u3 u4 u5 u6 u7
                go_wp2_with fail
                generalize wc.alloc (.cells #[.int .u8 (x : Int), .int .u8 (p : Int)] 5) = WA0 at hROW hGW h6W ⊢
                generalize wc.heap.size = g7 at hROW ⊢
                refine wp_loop_rounds 4 ?_
                rw [rounds_succ]
                obtain ⟨u0, u1, u2, u3, u4, u5, u6, u7⟩ := OpAt.block (x := ⟨hh.k, T, hh.n, hh.v, hh.key, hh.val, hh.old, hh.tk⟩) h6W
                simp only [Nat.zero_add] at u0 u1 u2 u3 u4 u5 u6 u7
                have hoc : ∀ W', Frm [] WA0 W' → OpAt W' w.heap.size 0 o := fun W' h => OpAt.block (HO.out W' (hGW.trans h))
                have r0 := fun W' h => (hoc W' h).1
                have r1 := fun W' h => (hoc W' h).2.1
                have r2 := fun W' h => (hoc W' h).2.2.1
                have r3 := fun W' h => (hoc W' h).2.2.2.1
                have r4 := fun W' h => (hoc W' h).2.2.2.2.1
                have r5 := fun W' h => (hoc W' h).2.2.2.2.2.1
                have r6 := fun W' h => (hoc W' h).2.2.2.2.2.2.1
                have r7 := fun W' h => (hoc W' h).2.2.2.2.2.2.2
                simp only [Nat.zero_add] at r1 r2 r3 r4 r5 r6 r7
                clear hoc
                go_wp2_with fail
                go_region_held3 (fun w' => Frm [] WA0 w')
                  ((repeat' (first | assumption | exact Frm.refl _ _ | apply Frm.drew | apply Frm.alloc | (refine Frm.trans ?_ hF1))))
                  ((go_at_call 30; refine (least_is _ o 107 (by decide)).mono ?_; rintro e wL0 ⟨rfl, hF1⟩))
                have hFL : Frm [] WA0 wL0 := ((Frm.refl _ _).drew).trans hF1
                have hROWL := hROW.frm0 hFL
                have h6L := hFL.heap h6W (by simp)
                have hGL := hGW.trans hFL
                clear hROW h6W hGW hF1 hFL u0 u1 u2 u3 u4 u5 u6 u7 r0 r1 r2 r3 r4 r5 r6 r7
                cases hfound : lb o 107
                · have hno := bytes_part HK3.out (lf_no hfound (by rw [HVC.out]; decide))
                  have HNO := Lib.hid hno
                  have HGL := Lib.hid hGL
                  clear hno hGL hROWL h6L
                  go_wp2
                  go_ret2
                  exact bpost_nil HNO.out (HF0.out.trans HGL.out)
                have lsb0 := ls_bd o 107
                go_wp2_with (at_builtin; refine wpl_appU rfl (.tmp 96) (.tmp 98) rfl (B := X.heap.size) (a := (some ⟨g7, 0, none⟩)) (n := 2) (c := 2) (m := 1) (l := [(x : Int), (p : Int)]) (l2 := [ls o 107]) (by simp [Act.eval]) (by simp [Act.eval]) (hROWL.frm0 ((Frm.refl _ _).alloc _)) (li_u8 (n := 1) rfl (heap_alloc_new _ _)) (by simp) (by have := hGL.size; simp; omega) ?_; intro a1 q1 WA1 hR3 hF3)
                have hROW : RowU X.heap.size WA1 a1 3 q1 [(x : Int), (p : Int), ls o 107] := hR3
                have h6W := hF3.heap (heap_alloc_old (.cells #[.int .u8 (ls o 107)] 5) h6L) (row_ne hROWL h6L (by decide))
                have hGW : Frm [] X WA1 := (hGL.alloc (.cells #[.int .u8 (ls o 107)] 5)).trans_new hF3 (fun j hj => .inr ((hROWL.frm0 ((Frm.refl _ _).alloc (.cells #[.int .u8 (ls o 107)] 5))).blk j hj).1)
                clear hR3 hF3 hROWL h6L hGL hfound
                rw [rounds_succ]
                obtain ⟨u0, u1, u2, u3, u4, u5, u6, u7⟩ := OpAt.block (x := ⟨hh.k, T, hh.n, hh.v, hh.key, hh.val, hh.old, hh.tk⟩) h6W
                simp only [Nat.zero_add] at u0 u1 u2 u3 u4 u5 u6 u7
                have hoc : ∀ W', Frm [] WA1 W' → OpAt W' w.heap.size 0 o := fun W' h => OpAt.block (HO.out W' (hGW.trans h))
                have r0 := fun W' h => (hoc W' h).1
                have r1 := fun W' h => (hoc W' h).2.1
                have r2 := fun W' h => (hoc W' h).2.2.1
                have r3 := fun W' h => (hoc W' h).2.2.2.1
                have r4 := fun W' h => (hoc W' h).2.2.2.2.1
                have r5 := fun W' h => (hoc W' h).2.2.2.2.2.1
                have r6 := fun W' h => (hoc W' h).2.2.2.2.2.2.1
                have r7 := fun W' h => (hoc W' h).2.2.2.2.2.2.2
                simp only [Nat.zero_add] at r1 r2 r3 r4 r5 r6 r7
                clear hoc
                go_wp2_with fail
                go_region_held3 (fun w' => Frm [] WA1 w')
                  ((repeat' (first | assumption | exact Frm.refl _ _ | apply Frm.drew | apply Frm.alloc | (refine Frm.trans ?_ hF1))))
                  ((go_at_call 30; refine (least_is _ o 111 (by decide)).mono ?_; rintro e wL1 ⟨rfl, hF1⟩))
                have hFL : Frm [] WA1 wL1 := ((Frm.refl _ _).drew).trans hF1
                have hROWL := hROW.frm0 hFL
                have h6L := hFL.heap h6W (by simp)
                have hGL := hGW.trans hFL
                clear hROW h6W hGW hF1 hFL u0 u1 u2 u3 u4 u5 u6 u7 r0 r1 r2 r3 r4 r5 r6 r7
                cases hfound : lb o 111
                · have hno := bytes_part HK3.out (lf_no hfound (by rw [HVC.out]; decide))
                  have HNO := Lib.hid hno
                  have HGL := Lib.hid hGL
                  clear hno hGL hROWL h6L
                  go_wp2
                  go_ret2
                  exact bpost_nil HNO.out (HF0.out.trans HGL.out)
                have lsb1 := ls_bd o 111
                go_wp2_with (at_builtin; refine wpl_appU rfl (.tmp 96) (.tmp 98) rfl (B := X.heap.size) (a := a1) (n := 3) (c := q1) (m := 1) (l := [(x : Int), (p : Int), ls o 107]) (l2 := [ls o 111]) (by simp [Act.eval]) (by simp [Act.eval]) (hROWL.frm0 ((Frm.refl _ _).alloc _)) (li_u8 (n := 1) rfl (heap_alloc_new _ _)) (by simp) (by have := hGL.size; simp; omega) ?_; intro a2 q2 WA2 hR3 hF3)
                have hROW : RowU X.heap.size WA2 a2 4 q2 [(x : Int), (p : Int), ls o 107, ls o 111] := hR3
                have h6W := hF3.heap (heap_alloc_old (.cells #[.int .u8 (ls o 111)] 5) h6L) (row_ne hROWL h6L (by decide))
                have hGW : Frm [] X WA2 := (hGL.alloc (.cells #[.int .u8 (ls o 111)] 5)).trans_new hF3 (fun j hj => .inr ((hROWL.frm0 ((Frm.refl _ _).alloc (.cells #[.int .u8 (ls o 111)] 5))).blk j hj).1)
                clear hR3 hF3 hROWL h6L hGL hfound
                rw [rounds_succ]
                obtain ⟨u0, u1, u2, u3, u4, u5, u6, u7⟩ := OpAt.block (x := ⟨hh.k, T, hh.n, hh.v, hh.key, hh.val, hh.old, hh.tk⟩) h6W
                simp only [Nat.zero_add] at u0 u1 u2 u3 u4 u5 u6 u7
                have hoc : ∀ W', Frm [] WA2 W' → OpAt W' w.heap.size 0 o := fun W' h => OpAt.block (HO.out W' (hGW.trans h))
                have r0 := fun W' h => (hoc W' h).1
                have r1 := fun W' h => (hoc W' h).2.1
                have r2 := fun W' h => (hoc W' h).2.2.1
                have r3 := fun W' h => (hoc W' h).2.2.2.1
                have r4 := fun W' h => (hoc W' h).2.2.2.2.1
                have r5 := fun W' h => (hoc W' h).2.2.2.2.2.1
                have r6 := fun W' h => (hoc W' h).2.2.2.2.2.2.1
                have r7 := fun W' h => (hoc W' h).2.2.2.2.2.2.2
                simp only [Nat.zero_add] at r1 r2 r3 r4 r5 r6 r7
                clear hoc
                go_wp2_with fail
                go_region_held3 (fun w' => Frm [] WA2 w')
                  ((repeat' (first | assumption | exact Frm.refl _ _ | apply Frm.drew | apply Frm.alloc | (refine Frm.trans ?_ hF1))))
                  ((go_at_call 30; refine (least_is _ o 118 (by decide)).mono ?_; rintro e wL2 ⟨rfl, hF1⟩))
                have hFL : Frm [] WA2 wL2 := ((Frm.refl _ _).drew).trans hF1
                have hROWL := hROW.frm0 hFL
                have h6L := hFL.heap h6W (by simp)
                have hGL := hGW.trans hFL
                clear hROW h6W hGW hF1 hFL u0 u1 u2 u3 u4 u5 u6 u7 r0 r1 r2 r3 r4 r5 r6 r7
                cases hfound : lb o 118
                · have hno := bytes_part HK3.out (lf_no hfound (by rw [HVC.out]; decide))
                  have HNO := Lib.hid hno
                  have HGL := Lib.hid hGL
                  clear hno hGL hROWL h6L
                  go_wp2
                  go_ret2
                  exact bpost_nil HNO.out (HF0.out.trans HGL.out)
                have lsb2 := ls_bd o 118
                go_wp2_with (at_builtin; refine wpl_appU rfl (.tmp 96) (.tmp 98) rfl (B := X.heap.size) (a := a2) (n := 4) (c := q2) (m := 1) (l := [(x : Int), (p : Int), ls o 107, ls o 111]) (l2 := [ls o 118]) (by simp [Act.eval]) (by simp [Act.eval]) (hROWL.frm0 ((Frm.refl _ _).alloc _)) (li_u8 (n := 1) rfl (heap_alloc_new _ _)) (by simp) (by have := hGL.size; simp; omega) ?_; intro a3 q3 WA3 hR3 hF3)
                have hROW : RowU X.heap.size WA3 a3 5 q3 [(x : Int), (p : Int), ls o 107, ls o 111, ls o 118] := hR3
                have h6W := hF3.heap (heap_alloc_old (.cells #[.int .u8 (ls o 118)] 5) h6L) (row_ne hROWL h6L (by decide))
                have hGW : Frm [] X WA3 := (hGL.alloc (.cells #[.int .u8 (ls o 118)] 5)).trans_new hF3 (fun j hj => .inr ((hROWL.frm0 ((Frm.refl _ _).alloc (.cells #[.int .u8 (ls o 118)] 5))).blk j hj).1)
                clear hR3 hF3 hROWL h6L hGL hfound
                rw [rounds_succ]
                have hLI := hROW.li
                obtain ⟨bL, hLI⟩ := hLI
                have hby : Byt [(x : Int), (p : Int), ls o 107, ls o 111, ls o 118] := by have := HBE.out.2.2; rw [HLA.out] at this; exact this
                have hnx := rnext2_any hLI hby 64 (by omega) (by omega)
                have hbe := HBE.out
                rw [HLA.out] at hbe
                obtain ⟨q, hq⟩ : ∃ q, nx [(x : Int), (p : Int), ls o 107, ls o 111, ls o 118] 64 = q := ⟨_, rfl⟩
                obtain ⟨z, hz⟩ : ∃ z, nxN [(x : Int), (p : Int), ls o 107, ls o 111, ls o 118] = z := ⟨_, rfl⟩
                have hnx2 : Calls Try.prog 12 #[.slice a3 5 q3, .int .i64 64] WA3 (Ret (.tuple #[.agg #[.int .i64 q.k, .int .i64 q.t, .int .i64 q.n, .int .i64 q.v, .string q.key, .string q.val, .string q.old, .int .i64 q.tk], .int .i64 (z : Nat)]) (fun w' => Frm [] WA3 w')) := by
                  rw [← hq, ← hz]; exact hnx
                have hres : (opEq q o && (z == 5)) = (Go.Proofs.Ytegoggnocpgoiaa.wr o).isSome := by rw [← hq, ← hz]; exact hbe.1
                have hLw := hbe.2.1
                have HNX := Lib.hid hnx2
                have HRES := Lib.hid hres
                have HLW := Lib.hid hLw
                have HROW := Lib.hid hROW
                clear hLI hby hnx hbe hq hz hnx2 hres hLw hROW
                obtain ⟨u0, u1, u2, u3, u4, u5, u6, u7⟩ := OpAt.block (x := ⟨hh.k, T, hh.n, hh.v, hh.key, hh.val, hh.old, hh.tk⟩) h6W
                simp only [Nat.zero_add] at u0 u1 u2 u3 u4 u5 u6 u7
                clear h6W
                go_wp2_with fail
                refine HNX.out.mono ?_
                rintro e wN ⟨rfl, hFN⟩
                clear u0 u1 u2 u3 u4 u5 u6 u7
                have hGN := hGW.trans hFN
                have eN := HO.out wN hGN
                obtain ⟨c0, c1, c2, c3, c4, c5, c6, c7⟩ := OpAt.block eN
                simp only [Nat.zero_add] at c0 c1 c2 c3 c4 c5 c6 c7
                have hlN := lt_of_heap eN
                have hql := eql_op q o
                have hFend : Frm [] w (wN.alloc (.cells #[.int .i64 q.k, .int .i64 q.t, .int .i64 q.n, .int .i64 q.v, .string q.key, .string q.val, .string q.old, .int .i64 q.tk] 30)) := (HF0.out.trans hGN).alloc _
                have hROWe := (HROW.out.frm0 hFN).frm0 ((Frm.refl [] wN).alloc (.cells #[.int .i64 q.k, .int .i64 q.t, .int .i64 q.n, .int .i64 q.v, .string q.key, .string q.val, .string q.old, .int .i64 q.tk] 30))
                have HEND := Lib.hid hFend
                have HRE := Lib.hid hROWe
                clear eN hFN hGN hFend hROWe hGW
                cases hoq : opEq q o with
                | true =>
                  by_cases hzn : z = 5
                  · have d9 : ((z : Int) == 5) = true := by simp; omega
                    have hR := HRES.out
                    rw [hoq, hzn] at hR
                    have HR := Lib.hid hR
                    rw [hoq] at hql
                    clear hR hzn hoq
                    go_wp2
                    go_ret2
                    exact bpost_of (r := true) HR.out.symm rfl (by omega) HEND.out (HRE.out.base HF0.out.size) HLW.out
                  · have d9 : ((z : Int) == 5) = false := by simp; omega
                    have hR := HRES.out
                    rw [hoq, show (z == 5) = false by simpa using hzn] at hR
                    have HR := Lib.hid hR
                    rw [hoq] at hql
                    clear hR hzn hoq
                    go_wp2
                    go_ret2
                    exact bpost_of (r := false) HR.out.symm rfl (by omega) HEND.out (HRE.out.base HF0.out.size) HLW.out
                | false =>
                  have hR := HRES.out
                  rw [hoq] at hR
                  have HR := Lib.hid hR
                  rw [hoq] at hql
                  clear hR hoq
                  go_wp2
                  go_ret2
                  exact bpost_of (r := false) HR.out.symm rfl (by omega) HEND.out (HRE.out.base HF0.out.size) HLW.out
              · have hLA := lA_c4 HK3.out hvc
                have hnd : nds o.v = ⟨#[107, 110]⟩ := by unfold nds; rw [hvc]; rfl
                have HVC := Lib.hid hvc
                have HLA := Lib.hid hLA
                have HND := Lib.hid hnd
                clear hLA hnd hvc
                go_wp2_with fail
                refine (rneeds_any _ _).mono ?_
                rintro e w' ⟨rfl, rfl⟩
                rw [HND.out]
                have hROW : RowU X.heap.size (wc.alloc (.cells #[.int .u8 (x : Int), .int .u8 (p : Int)] 5)) (some ⟨wc.heap.size, 0, none⟩) 2 2 [(x : Int), (p : Int)] := rowU_new rfl (by omega) (heap_alloc_new _ _) HGC.out.size
                have hGW : Frm [] X (wc.alloc (.cells #[.int .u8 (x : Int), .int .u8 (p : Int)] 5)) := HGC.out.alloc _
                have h6W := heap_alloc_old (.cells #[.int .u8 (x : Int), .int .u8 (p : Int)] 5) H6C.out
                clear c0 c1 c2 c3 c4 c5 c6 c7 u0 u1 u2 u3 u4 u5 u6 u7
                go_wp2_with fail
                generalize wc.alloc (.cells #[.int .u8 (x : Int), .int .u8 (p : Int)] 5) = WA0 at hROW hGW h6W ⊢
                generalize wc.heap.size = g7 at hROW ⊢
                refine wp_loop_rounds 3 ?_
                rw [rounds_succ]
                obtain ⟨u0, u1, u2, u3, u4, u5, u6, u7⟩ := OpAt.block (x := ⟨hh.k, T, hh.n, hh.v, hh.key, hh.val, hh.old, hh.tk⟩) h6W
                simp only [Nat.zero_add] at u0 u1 u2 u3 u4 u5 u6 u7
                have hoc : ∀ W', Frm [] WA0 W' → OpAt W' w.heap.size 0 o := fun W' h => OpAt.block (HO.out W' (hGW.trans h))
                have r0 := fun W' h => (hoc W' h).1
                have r1 := fun W' h => (hoc W' h).2.1
                have r2 := fun W' h => (hoc W' h).2.2.1
                have r3 := fun W' h => (hoc W' h).2.2.2.1
                have r4 := fun W' h => (hoc W' h).2.2.2.2.1
                have r5 := fun W' h => (hoc W' h).2.2.2.2.2.1
                have r6 := fun W' h => (hoc W' h).2.2.2.2.2.2.1
                have r7 := fun W' h => (hoc W' h).2.2.2.2.2.2.2
                simp only [Nat.zero_add] at r1 r2 r3 r4 r5 r6 r7
                clear hoc
                go_wp2_with fail
                go_region_held3 (fun w' => Frm [] WA0 w')
                  ((repeat' (first | assumption | exact Frm.refl _ _ | apply Frm.drew | apply Frm.alloc | (refine Frm.trans ?_ hF1))))
                  ((go_at_call 30; refine (least_is _ o 107 (by decide)).mono ?_; rintro e wL0 ⟨rfl, hF1⟩))
                have hFL : Frm [] WA0 wL0 := ((Frm.refl _ _).drew).trans hF1
                have hROWL := hROW.frm0 hFL
                have h6L := hFL.heap h6W (by simp)
                have hGL := hGW.trans hFL
                clear hROW h6W hGW hF1 hFL u0 u1 u2 u3 u4 u5 u6 u7 r0 r1 r2 r3 r4 r5 r6 r7
                cases hfound : lb o 107
                · have hno := bytes_part HK3.out (lf_no hfound (by rw [HVC.out]; decide))
                  have HNO := Lib.hid hno
                  have HGL := Lib.hid hGL
                  clear hno hGL hROWL h6L
                  go_wp2
                  go_ret2
                  exact bpost_nil HNO.out (HF0.out.trans HGL.out)
                have lsb0 := ls_bd o 107
                go_wp2_with (at_builtin; refine wpl_appU rfl (.tmp 96) (.tmp 98) rfl (B := X.heap.size) (a := (some ⟨g7, 0, none⟩)) (n := 2) (c := 2) (m := 1) (l := [(x : Int), (p : Int)]) (l2 := [ls o 107]) (by simp [Act.eval]) (by simp [Act.eval]) (hROWL.frm0 ((Frm.refl _ _).alloc _)) (li_u8 (n := 1) rfl (heap_alloc_new _ _)) (by simp) (by have := hGL.size; simp; omega) ?_; intro a1 q1 WA1 hR3 hF3)
                have hROW : RowU X.heap.size WA1 a1 3 q1 [(x : Int), (p : Int), ls o 107] := hR3
                have h6W := hF3.heap (heap_alloc_old (.cells #[.int .u8 (ls o 107)] 5) h6L) (row_ne hROWL h6L (by decide))
                have hGW : Frm [] X WA1 := (hGL.alloc (.cells #[.int .u8 (ls o 107)] 5)).trans_new hF3 (fun j hj => .inr ((hROWL.frm0 ((Frm.refl _ _).alloc (.cells #[.int .u8 (ls o 107)] 5))).blk j hj).1)
                clear hR3 hF3 hROWL h6L hGL hfound
                rw [rounds_succ]
                obtain ⟨u0, u1, u2, u3, u4, u5, u6, u7⟩ := OpAt.block (x := ⟨hh.k, T, hh.n, hh.v, hh.key, hh.val, hh.old, hh.tk⟩) h6W
                simp only [Nat.zero_add] at u0 u1 u2 u3 u4 u5 u6 u7
                have hoc : ∀ W', Frm [] WA1 W' → OpAt W' w.heap.size 0 o := fun W' h => OpAt.block (HO.out W' (hGW.trans h))
                have r0 := fun W' h => (hoc W' h).1
                have r1 := fun W' h => (hoc W' h).2.1
                have r2 := fun W' h => (hoc W' h).2.2.1
                have r3 := fun W' h => (hoc W' h).2.2.2.1
                have r4 := fun W' h => (hoc W' h).2.2.2.2.1
                have r5 := fun W' h => (hoc W' h).2.2.2.2.2.1
                have r6 := fun W' h => (hoc W' h).2.2.2.2.2.2.1
                have r7 := fun W' h => (hoc W' h).2.2.2.2.2.2.2
                simp only [Nat.zero_add] at r1 r2 r3 r4 r5 r6 r7
                clear hoc
                go_wp2_with fail
                go_region_held3 (fun w' => Frm [] WA1 w')
                  ((repeat' (first | assumption | exact Frm.refl _ _ | apply Frm.drew | apply Frm.alloc | (refine Frm.trans ?_ hF1))))
                  ((go_at_call 30; refine (least_is _ o 110 (by decide)).mono ?_; rintro e wL1 ⟨rfl, hF1⟩))
                have hFL : Frm [] WA1 wL1 := ((Frm.refl _ _).drew).trans hF1
                have hROWL := hROW.frm0 hFL
                have h6L := hFL.heap h6W (by simp)
                have hGL := hGW.trans hFL
                clear hROW h6W hGW hF1 hFL u0 u1 u2 u3 u4 u5 u6 u7 r0 r1 r2 r3 r4 r5 r6 r7
                cases hfound : lb o 110
                · have hno := bytes_part HK3.out (lf_no hfound (by rw [HVC.out]; decide))
                  have HNO := Lib.hid hno
                  have HGL := Lib.hid hGL
                  clear hno hGL hROWL h6L
                  go_wp2
                  go_ret2
                  exact bpost_nil HNO.out (HF0.out.trans HGL.out)
                have lsb1 := ls_bd o 110
                go_wp2_with (at_builtin; refine wpl_appU rfl (.tmp 96) (.tmp 98) rfl (B := X.heap.size) (a := a1) (n := 3) (c := q1) (m := 1) (l := [(x : Int), (p : Int), ls o 107]) (l2 := [ls o 110]) (by simp [Act.eval]) (by simp [Act.eval]) (hROWL.frm0 ((Frm.refl _ _).alloc _)) (li_u8 (n := 1) rfl (heap_alloc_new _ _)) (by simp) (by have := hGL.size; simp; omega) ?_; intro a2 q2 WA2 hR3 hF3)
                have hROW : RowU X.heap.size WA2 a2 4 q2 [(x : Int), (p : Int), ls o 107, ls o 110] := hR3
                have h6W := hF3.heap (heap_alloc_old (.cells #[.int .u8 (ls o 110)] 5) h6L) (row_ne hROWL h6L (by decide))
                have hGW : Frm [] X WA2 := (hGL.alloc (.cells #[.int .u8 (ls o 110)] 5)).trans_new hF3 (fun j hj => .inr ((hROWL.frm0 ((Frm.refl _ _).alloc (.cells #[.int .u8 (ls o 110)] 5))).blk j hj).1)
                clear hR3 hF3 hROWL h6L hGL hfound
                rw [rounds_succ]
                have hLI := hROW.li
                obtain ⟨bL, hLI⟩ := hLI
                have hby : Byt [(x : Int), (p : Int), ls o 107, ls o 110] := by have := HBE.out.2.2; rw [HLA.out] at this; exact this
                have hnx := rnext2_any hLI hby 64 (by omega) (by omega)
                have hbe := HBE.out
                rw [HLA.out] at hbe
                obtain ⟨q, hq⟩ : ∃ q, nx [(x : Int), (p : Int), ls o 107, ls o 110] 64 = q := ⟨_, rfl⟩
                obtain ⟨z, hz⟩ : ∃ z, nxN [(x : Int), (p : Int), ls o 107, ls o 110] = z := ⟨_, rfl⟩
                have hnx2 : Calls Try.prog 12 #[.slice a2 4 q2, .int .i64 64] WA2 (Ret (.tuple #[.agg #[.int .i64 q.k, .int .i64 q.t, .int .i64 q.n, .int .i64 q.v, .string q.key, .string q.val, .string q.old, .int .i64 q.tk], .int .i64 (z : Nat)]) (fun w' => Frm [] WA2 w')) := by
                  rw [← hq, ← hz]; exact hnx
                have hres : (opEq q o && (z == 4)) = (Go.Proofs.Ytegoggnocpgoiaa.wr o).isSome := by rw [← hq, ← hz]; exact hbe.1
                have hLw := hbe.2.1
                have HNX := Lib.hid hnx2
                have HRES := Lib.hid hres
                have HLW := Lib.hid hLw
                have HROW := Lib.hid hROW
                clear hLI hby hnx hbe hq hz hnx2 hres hLw hROW
                obtain ⟨u0, u1, u2, u3, u4, u5, u6, u7⟩ := OpAt.block (x := ⟨hh.k, T, hh.n, hh.v, hh.key, hh.val, hh.old, hh.tk⟩) h6W
                simp only [Nat.zero_add] at u0 u1 u2 u3 u4 u5 u6 u7
                clear h6W
                go_wp2_with fail
                refine HNX.out.mono ?_
                rintro e wN ⟨rfl, hFN⟩
                clear u0 u1 u2 u3 u4 u5 u6 u7
                have hGN := hGW.trans hFN
                have eN := HO.out wN hGN
                obtain ⟨c0, c1, c2, c3, c4, c5, c6, c7⟩ := OpAt.block eN
                simp only [Nat.zero_add] at c0 c1 c2 c3 c4 c5 c6 c7
                have hlN := lt_of_heap eN
                have hql := eql_op q o
                have hFend : Frm [] w (wN.alloc (.cells #[.int .i64 q.k, .int .i64 q.t, .int .i64 q.n, .int .i64 q.v, .string q.key, .string q.val, .string q.old, .int .i64 q.tk] 30)) := (HF0.out.trans hGN).alloc _
                have hROWe := (HROW.out.frm0 hFN).frm0 ((Frm.refl [] wN).alloc (.cells #[.int .i64 q.k, .int .i64 q.t, .int .i64 q.n, .int .i64 q.v, .string q.key, .string q.val, .string q.old, .int .i64 q.tk] 30))
                have HEND := Lib.hid hFend
                have HRE := Lib.hid hROWe
                clear eN hFN hGN hFend hROWe hGW
                cases hoq : opEq q o with
                | true =>
                  by_cases hzn : z = 4
                  · have d9 : ((z : Int) == 4) = true := by simp; omega
                    have hR := HRES.out
                    rw [hoq, hzn] at hR
                    have HR := Lib.hid hR
                    rw [hoq] at hql
                    clear hR hzn hoq
                    go_wp2
                    go_ret2
                    exact bpost_of (r := true) HR.out.symm rfl (by omega) HEND.out (HRE.out.base HF0.out.size) HLW.out
                  · have d9 : ((z : Int) == 4) = false := by simp; omega
                    have hR := HRES.out
                    rw [hoq, show (z == 4) = false by simpa using hzn] at hR
                    have HR := Lib.hid hR
                    rw [hoq] at hql
                    clear hR hzn hoq
                    go_wp2
                    go_ret2
                    exact bpost_of (r := false) HR.out.symm rfl (by omega) HEND.out (HRE.out.base HF0.out.size) HLW.out
                | false =>
                  have hR := HRES.out
                  rw [hoq] at hR
                  have HR := Lib.hid hR
                  rw [hoq] at hql
                  clear hR hoq
                  go_wp2
                  go_ret2
                  exact bpost_of (r := false) HR.out.symm rfl (by omega) HEND.out (HRE.out.base HF0.out.size) HLW.out
          · have d0 : (hh.k != o.k) = true := by simpa using hk
            have hall := HBRK.out hk
            have HALL := Lib.hid hall
            have hG2 := hG1.alloc (.cells #[.int .i64 hh.k, .int .i64 hh.t, .int .i64 hh.n, .int .i64 hh.v, .string hh.key, .string hh.val, .string hh.old, .int .i64 hh.tk] 30)
            have HG2 := Lib.hid hG2
            clear hk hall hG2
            go_wp2
            go_roundw
            case rel =>
              refine ⟨x + 1, by omega, by go_num, HG2.out, Lib.hid (fun x' p' hx' hp' => ?_)⟩
              by_cases e : x' = x
              · subst e; exact HALL.out p'
              · exact HX1.out x' p' (by omega) hp'
            case measure => simp [intOf]; omega
        · obtain rfl : p = 256 := by omega
          go_wp2
          go_roundw
          case rel =>
            refine ⟨x + 1, by omega, by go_num, hFp, Lib.hid (fun x' p' hx' hp' => ?_)⟩
            by_cases e : x' = x
            · subst e; exact HP1.out p' hp'
            · exact HX1.out x' p' (by omega) hp'
          case measure => simp [intOf]; omega
    · obtain rfl : x = 256 := by omega
      have hn : (Go.Proofs.Ytegoggnocpgoiaa.wr o).isSome = false := bytes_none (fun x' p' hx' hp' => HX1.out x' p' hx' hp')
      have HN := Lib.hid hn
      clear hn
      go_wp2
      go_ret2
      exact bpost_nil HN.out (HF0.out.trans hFx)
end Go.Proofs.Ytegoggnocpgoiaa
