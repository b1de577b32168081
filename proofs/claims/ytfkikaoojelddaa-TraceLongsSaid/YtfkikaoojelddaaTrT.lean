/- Stage 13: Waits. -/
import Derived.Test.YtfkikaoojelddaaTrR
import Derived.Carry
namespace Go.Proofs.Ytfkikaoojelddaa
open Go.ChangeShapes Go.WideShapes Go.ChangeAt Go.RowKit
set_option linter.unusedVariables false
set_option linter.unusedSimpArgs false
theorem eag_length (l : List Dd) : ∀ k, (eag l k).length ≤ k
  | 0 => Nat.le_refl _
  | k + 1 => by
    have := eag_length l k
    unfold eag
    split
    · unfold estep
      rw [List.length_append, List.length_map]
      split <;> simp <;> omega
    · omega
theorem clw_w (S : WS) (n : Nat) {x : Wd} (hx : x ∈ clw S n) (hn : n < S.ws.length) : ∃ y ∈ S.ws, x.w = y.w := by
  unfold clw at hx
  have hm : S.ws.getD n wd0 ∈ S.ws := List.mem_of_getElem? (i := n) (by rw [List.getD_eq_getElem?_getD, List.getElem?_eq_getElem hn]; rfl)
  split at hx
  · split at hx
    · rcases List.mem_or_eq_of_mem_set hx with h | h
      · exact ⟨x, h, rfl⟩
      · exact ⟨_, hm, by rw [h]⟩
    · exact ⟨x, hx, rfl⟩
  · exact ⟨x, hx, rfl⟩
/-- Each word of a wait is one that was named. -/
def WwOk (S : WS) : Prop := (∀ x ∈ S.ws, (Lit.int .i64 x.w).wf = true) ∧ ∀ t n, S.op t = some n → n < S.ws.length
theorem cls_ww {S : WS} (h : WwOk S) (t : Int) : WwOk (cls S t) := by
  have hl := cls_length S t
  refine ⟨fun x hx => ?_, fun t' n hn => ?_⟩
  · unfold cls at hx
    cases ho : S.op t with
    | none => rw [ho] at hx; exact h.1 x hx
    | some n =>
      rw [ho] at hx
      obtain ⟨y, hy, e⟩ := clw_w S n hx (h.2 t n ho)
      rw [e]; exact h.1 y hy
  · rw [hl]
    unfold cls at hn
    cases ho : S.op t with
    | none => rw [ho] at hn; exact h.2 t' n hn
    | some m =>
      rw [ho] at hn
      have hn : updI S.op t none t' = some n := hn
      by_cases e : t' = t
      · rw [e, updI_eq] at hn; cases hn
      · rw [updI_ne _ _ e] at hn; exact h.2 t' n hn
theorem bgn_ww {S : WS} (h : WwOk S) (i : Nat) {d : Dd} (hd : DdOk d) : WwOk (bgn S i d) := by
  unfold bgn
  split
  · refine ⟨fun x hx => ?_, fun t n hn => ?_⟩
    · rcases List.mem_append.1 hx with hx | hx
      · exact h.1 x hx
      · simp at hx; subst hx; exact hd.2.2.1
    · show n < (S.ws ++ [_]).length
      rw [List.length_append, List.length_singleton]
      have hn : updI S.op d.i (some S.ws.length) t = some n := hn
      by_cases e : t = d.i
      · rw [e, updI_eq] at hn; cases hn; omega
      · rw [updI_ne _ _ e] at hn; have := h.2 t n hn; omega
  · exact h
theorem see_ww {S : WS} (h : WwOk S) (i : Nat) {d : Dd} (hd : DdOk d) : WwOk (see S i d) := by
  have h1 : WwOk (if gon S d = true then S else bgn (cls S d.i) i d) := by
    split
    · exact h
    · exact bgn_ww (cls_ww h _) i hd
  unfold see seL
  split
  · exact h1
  · exact h1
theorem seeK_ww {l : List Dd} (hok : ∀ d ∈ l, DdOk d) : ∀ k, k ≤ l.length → WwOk (seeK l k)
  | 0, _ => ⟨fun x hx => by simp [seeK, see0] at hx, fun t n hn => by simp [seeK, see0] at hn⟩
  | k + 1, h => by
    have hd : l[k]? = some (l[k]'(by omega)) := List.getElem?_eq_getElem _
    unfold seeK
    rw [getD_of hd]
    exact see_ww (seeK_ww hok k (by omega)) k (hok _ (List.mem_of_getElem? hd))
/-- What Waits returns. -/
def waR (l : List Dd) : List Wd × Int := if wro l ≠ 0 then ([], wro l) else (wts l, 0)
def WaQ (w : World) (R : List Wd × Int) (e : Ending) (w' : World) : Prop :=
  ∃ a c, Ret (.tuple #[.slice a R.1.length c, .int .i64 R.2]) (fun w' => Frm [] w w' ∧ Gr 52 5 w.heap.size w' a R.1.length c (wdF R.1)) e w'
section
variable {w : World} {ops : Array Oper} {rest : List Oper} {o : Oper} {x : Act} {Q : Exit → Act → World → Prop} {q r : Nat} {f : Int → Option Value} {t e : TypeId}
theorem wpl_range (hg : o.guard = none) (m : Operand) (hop : o.op = Op.range t m) (ht : Try.prog.underlying t = some (.map 3 e)) (h : Mp w q f) (hm : x.eval m = .map (some q))
    (hK : ∀ w', Rg w' q w.heap.size f none → Frm [] w w' → wpList Try.prog ops Q rest (x.put o.dst (.pointer (some ⟨w.heap.size, 0, none⟩))) w') : wpList Try.prog ops Q (o :: rest) x w := by
  refine wpList_plain hg fun K' hK' => ?_
  obtain ⟨w', hrun, r1, r2⟩ := Rg.start h ht
  unfold Oper.wp
  simp [execOp, hop, hm, hrun, Result.andThen]
  exact hK' _ _ (hK w' r1 r2)
theorem wpl_next (hg : o.guard = none) (it : Operand) (hop : o.op = Op.next it false) (h : Rg w q r f none) (hit : x.eval it = .pointer (some ⟨r, 0, none⟩))
    (hDone : (∀ j, f j = none) → wpList Try.prog ops Q rest (x.put o.dst (.tuple #[.bool false])) w)
    (hMore : ∀ j v w', (Lit.int .i64 j).wf = true → f j = some v → Rg w' q r f (some j) → Frm [r] w w' → (Instr.entry (.pointer (some ⟨r, 0, none⟩))).run Try.prog w' = .ok (.tuple #[.int .i64 j, v]) w' → mapSz w' q = mapSz w q →
      wpList Try.prog ops Q rest (x.put o.dst (.tuple #[.bool true, .int .i64 j, v])) w') : wpList Try.prog ops Q (o :: rest) x w := by
  refine wpList_plain hg fun K' hK' => ?_
  unfold Oper.wp
  rcases h.next o.type with ⟨h0, hrun⟩ | ⟨j, v, w', h1, h2, hrun, h3, h4, h5, h6⟩
  · simp [execOp, hop, hit, hrun, Result.andThen]
    exact hK' _ _ (hDone h0)
  · simp [execOp, hop, hit, hrun, Result.andThen]
    exact hK' _ _ (hMore j v w' h1 h2 h3 h4 h5 h6)
end
theorem Rg.notin {w : World} {q r B p q1 q2 : Nat} {f : Int → Option Value} {k : Option Int} {a : Option Addr} {c : Nat} {S : WS} (h : Rg w q r f k) (hA : WtAt w B p q1 q2 a c S) : r ∉ wtD p q1 q2 a := by
  obtain ⟨es, clock, since, seen, c0, _, _, _, hr, _⟩ := h
  intro hx
  simp [wtD] at hx
  rcases hx with rfl | rfl | rfl | hx
  · have := hA.P; rw [hr] at this; cases this
  · obtain ⟨_, _, h1, _⟩ := hA.M1; rw [hr] at h1; cases h1
  · obtain ⟨_, _, h1, _⟩ := hA.M2; rw [hr] at h1; cases h1
  · obtain ⟨_, _, ⟨hn, _⟩ | ⟨g, cs, hg, _, hh, _⟩⟩ := hA.G
    · rw [hn] at hx; simp [bkG] at hx
    · rw [hg] at hx; simp [bkG] at hx; subst hx; rw [hr] at hh; cases hh
section
variable {w : World} {a a' : Option Addr} {n c b o c' b' o' : Nat} {l : List Dd}
set_option maxRecDepth 100000 in
set_option maxHeartbeats 3200000 in
theorem Waits_any (h : DL w a n c b o l) (hok : ∀ d ∈ l, DdOk d) : Calls Try.prog 31 #[.slice a n c] w (WaQ w (waR l)) := by
  obtain ⟨R, hR⟩ : ∃ R, R = waR l := ⟨_, rfl⟩
  rw [← hR]
  have HR := Lib.hid hR
  have HWR := Lib.hid (wrong_any h)
  have HL := Lib.hid h.len
  have H := Lib.hid h
  have HOK := Lib.hid hok
  clear hR h hok
  by_cases h0 : wro l = 0
  · rw [h0] at HWR
    have HN := Lib.hid (show n ≤ 100000 by unfold wro at h0; rw [HL.out] at h0; split at h0; cases h0; omega)
    have hn2 : (n : Int) ≤ 100000 := by have := HN.out; omega
    have HMAY := Lib.hid (fun k d => may_of h0 (k := k) (d := d))
    have HX := Lib.hid (show waR l = (wts l, 0) by unfold waR; rw [if_neg (by simp [h0])])
    clear h0
    go_enter Try.func31, Try.ntmps31
    go_wp2_with fail
    refine HWR.out.mono ?_
    rintro e w1 ⟨rfl, hF1⟩
    have HF1 := Lib.hid hF1
    clear hF1
    have hmm := @run_makeMap Try.prog
    go_wp2_with fail
    have hA0 : WtAt (((w1.alloc (.map #[] 0)).alloc (.map #[] 0)).alloc (.cells #[.slice none 0 0, .map (some w1.heap.size), .map (some (w1.heap.size + 1))] 116)) w.heap.size (w1.heap.size + 2) w1.heap.size (w1.heap.size + 1) none 0 see0 := by
      have hz := HF1.out.size
      have e1 : (w1.alloc (.map #[] 0)).heap.size = w1.heap.size + 1 := by simp
      have e2 : ((w1.alloc (.map #[] 0)).alloc (.map #[] 0)).heap.size = w1.heap.size + 2 := by simp
      have m1 := Mp.made w1
      have m2 := Mp.made (w1.alloc (.map #[] 0))
      rw [e1] at m2
      refine ⟨heap_alloc_at _ e2.symm, Gr.nil _ _ _ _ _, ?_, ?_, by omega, fun t n hn => by simp [see0] at hn, by omega, by omega, by omega⟩
      · exact (m1.frm (((Frm.refl [] _).alloc _).alloc _) (by simp)).congr (fun k => rfl)
      · exact (m2.frm ((Frm.refl [] _).alloc _) (by simp)).congr (fun k => rfl)
    have hF0 : Frm [] w (((w1.alloc (.map #[] 0)).alloc (.map #[] 0)).alloc (.cells #[.slice none 0 0, .map (some w1.heap.size), .map (some (w1.heap.size + 1))] 116)) := ((HF1.out.alloc _).alloc _).alloc _
    have HSIM := Lib.hid (fun k hk => seeK_sim (l := l) HMAY.out k hk)
    have HWW := Lib.hid (fun k hk => seeK_ww (l := l) HOK.out k hk)
    have HPL := Lib.hid (show w.heap.size ≤ w1.heap.size from HF1.out.size)
    have HA0 := Lib.hid hA0
    have HF0 := Lib.hid hF0
    clear hA0 hF0 hmm
    go_loopw [19] (fun i wr => ∃ (k : Nat) (a1 : Option Addr) (c1 : Nat), k ≤ n ∧ i = .int .i64 k ∧ Frm [] w wr ∧ WtAt wr w.heap.size (w1.heap.size + 2) w1.heap.size (w1.heap.size + 1) a1 c1 (seeK l k)) (fun i _ => n - (intOf i).toNat)
    case atStart => exact ⟨0, none, 0, Nat.zero_le _, rfl, HF0.out, HA0.out⟩
    case round =>
      obtain ⟨k, a1, c1, hk, rfl, hF, hA⟩ := hrel
      by_cases hlt : k < n
      · obtain ⟨d, hd⟩ : ∃ d, l[k]? = some d := ⟨_, List.getElem?_eq_getElem (by rw [HL.out]; exact hlt)⟩
        have hL1 := H.out.frm0 hF
        have hi1 := ix_did (c := c) hL1.ad hlt
        have p0 := hL1.get hd 0 _ rfl
        have p1 := hL1.get hd 1 _ rfl
        have p2 := hL1.get hd 2 _ rfl
        have p3 := hL1.get hd 3 _ rfl
        have p4 := hL1.get hd 4 _ rfl
        have p5 := hL1.get hd 5 _ rfl
        have p6 := hL1.get hd 6 _ rfl
        rw [Nat.add_zero] at p0
        have HF := Lib.hid hF
        have hdok := HOK.out d (List.mem_of_getElem? hd)
        have hlen : (seeK l k).ws.length ≤ 100000 := by
          have h1 := (HSIM.out k (by rw [HL.out]; omega)).len
          have h2 := eag_length l k
          have := HN.out; omega
        have hww := HWW.out k (by rw [HL.out]; omega)
        have HSE := Lib.hid (fun o => see_any (hA.frm0 ((Frm.refl [] wr).alloc o)) k d hdok hlen (by have := hF.size; simp; omega) hww.1)
        have HNX := Lib.hid (show see (seeK l k) k d = seeK l (k + 1) by conv => rhs; unfold seeK
                                                                         rw [getD_of hd])
        have HLT := Lib.hid hA.lts
        clear hF hL1 hd hA hdok hlen hww
        go_wp2_with fail
        refine (HSE.out _).mono ?_
        rintro e w2 ⟨a2, c2, rfl, hA2, hF2, _⟩
        rw [HNX.out] at hA2
        have HA2 := Lib.hid hA2
        have HF2 := Lib.hid hF2
        clear hA2 hF2
        go_wp2_with fail
        go_roundw
        case rel => exact ⟨k + 1, a2, c2, by omega, by go_num, (HF.out.alloc _).trans_new HF2.out (fun x hx => .inr ((HLT.out.1 x hx).1)), HA2.out⟩
        case measure => simp [intOf]; omega
      · have hkn : k = n := by omega
        subst hkn
        obtain ⟨wy, rfl⟩ : ∃ wy, wy = wr := ⟨_, rfl⟩
        have HF := Lib.hid hF
        have HA := Lib.hid hA
        obtain ⟨c0, cc1, c2⟩ := cells3 hA.P
        clear hF hA
        have HSM := Lib.hid (HSIM.out k (by rw [HL.out]; omega))
        have HW0 := Lib.hid (HWW.out k (by rw [HL.out]; omega))
        have HWT := Lib.hid (show wts l = (eag l k).map (·.1) by unfold wts; rw [HL.out])
        go_wp2_with (at_range; refine wpl_range rfl (.tmp 29) rfl Try.underlying113 HA.out.M1 rfl ?_; intro w2 hR2 hF2; have HR2 := Lib.hid hR2; have HA2 := Lib.hid (HA.out.frm0 hF2); have HF2 := Lib.hid (HF.out.trans hF2); clear hR2 hF2)
        go_frame
        clear c0 cc1 c2
        go_loopw [36] (fun _ wx => ∃ (S : WS) (E : List (Wd × Bool)), Frm [] w wx ∧ WtAt wx w.heap.size (w1.heap.size + 2) w1.heap.size (w1.heap.size + 1) a1 c1 S ∧ Rg wx w1.heap.size wy.heap.size (opF S) none ∧ Sim k S E ∧ WwOk S ∧ E.map (·.1) = wts l) (fun _ wx => mapSz wx w1.heap.size)
        case atStart => exact ⟨seeK l k, eag l k, HF2.out, HA2.out, HR2.out, HSM.out, HW0.out, HWT.out.symm⟩
        case round =>
          obtain ⟨S, E, hFx, hAx, hRx, hSx, hWx, hEx⟩ := hrel
          have HFx := Lib.hid hFx
          have HAx := Lib.hid hAx
          have HRx := Lib.hid hRx
          have HSx := Lib.hid hSx
          have HWx := Lib.hid hWx
          have HEx := Lib.hid hEx
          have hP := hAx.P
          clear hFx hAx hSx hWx hEx
          rcases hRx.next 0 with ⟨hall, hrun⟩ | ⟨j, v, w3, hjw, hv, hrun, hR3, hF3, hent, hsz⟩
          · have hrun2 : ∀ ty, (Instr.next (.pointer (some ⟨wy.heap.size, 0, none⟩)) false ty).run Try.prog wr = .ok (.tuple #[.bool false]) wr := fun ty => hrun
            have HALL := Lib.hid hall
            obtain ⟨c0, cc1, c2⟩ := cells3 hP
            clear hrun hall hRx hP
            go_wp2_with fail
            go_ret2
            rw [HR.out, HX.out]
            have hops : ∀ t, S.op t = none := fun t => by
              have := HALL.out t
              unfold opF at this
              cases hh : S.op t with
              | none => rfl
              | some m => rw [hh] at this; cases this
            have hend := sim_end HSx.out hops
            rw [HEx.out] at hend
            refine ⟨a1, c1, ?_, HFx.out, ?_⟩
            · dsimp only; rw [← hend]; rfl
            · dsimp only; rw [← hend]; exact HAx.out.G
          · have hrun2 : ∀ ty, (Instr.next (.pointer (some ⟨wy.heap.size, 0, none⟩)) false ty).run Try.prog wr = .ok (.tuple #[.bool true, .int .i64 j, v]) w3 := fun ty => hrun
            have HV := Lib.hid hv
            have HR3 := Lib.hid hR3
            have HF3 := Lib.hid hF3
            have HSZ := Lib.hid hsz
            have hnin := hRx.notin HAx.out
            have HA3 := Lib.hid (HAx.out.frm hF3 (fun x hx => by simp; intro e; subst e; exact hnin hx))
            have HNIN := Lib.hid hnin
            have HCL := Lib.hid (close_any HA3.out j hjw HWx.out.1)
            clear hrun hv hR3 hF3 hsz hnin hRx hP hjw
            go_wp2_with fail
            refine HCL.out.mono ?_
            rintro e w4 ⟨rfl, hA4, hF4, hD4⟩
            obtain ⟨m, hm⟩ : ∃ m, S.op j = some m := by
              have := HV.out
              unfold opF at this
              cases hh : S.op j with
              | none => rw [hh] at this; cases this
              | some m => exact ⟨m, rfl⟩
            obtain ⟨hR4, hlt4⟩ := HR3.out.struck (hD4 m hm) hF4 HNIN.out HV.out
            have hcl : opF (cls S j) = updI (opF S) j none := by unfold cls; rw [hm]; exact (opF_del S j _).symm
            rw [← hcl] at hR4
            have HR4 := Lib.hid hR4
            have HA4 := Lib.hid hA4
            have HF4 := Lib.hid ((HFx.out.trans_new HF3.out (fun x hx => by simp at hx; subst hx; exact .inr HF.out.size)).trans_new hF4 (fun x hx => .inr ((HAx.out.lts.1 x hx).1)))
            have HLT4 := Lib.hid (show mapSz w4 w1.heap.size < mapSz wr w1.heap.size by rw [← HSZ.out]; exact hlt4)
            clear hA4 hF4 hD4 hm hR4 hlt4 hcl hent hrun2
            go_wp2_with fail
            go_roundw
            case rel => exact ⟨cls S j, E.map (clo j), HF4.out, HA4.out, HR4.out, cls_sim HSx.out j, cls_ww HWx.out j, by rw [clo_map]; exact HEx.out⟩
            case measure => exact HLT4.out
  · have hb : (wro l != 0) = true := by simpa using h0
    have HX := Lib.hid (show waR l = ([], wro l) by unfold waR; rw [if_pos h0])
    clear h0
    go_enter Try.func31, Try.ntmps31
    go_wp2_with fail
    refine HWR.out.mono ?_
    rintro e w1 ⟨rfl, hF⟩
    go_wp2_with fail
    go_ret2
    rw [HR.out, HX.out]
    exact ⟨none, 0, rfl, hF, Gr.nil _ _ _ _ _⟩
end
end Go.Proofs.Ytfkikaoojelddaa
