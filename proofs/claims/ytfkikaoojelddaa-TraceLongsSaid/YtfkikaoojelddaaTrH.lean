/- Stage 13: the indices of the things that change a word; the law's of and changes. (By gen_trh.py.) -/
import Derived.Test.YtfkikaoojelddaaTrG
namespace Go.Proofs.Ytfkikaoojelddaa
open Go.ChangeShapes Go.WideShapes Go.ChangeAt Go.RowKit
set_option linter.unusedVariables false
set_option linter.unusedSimpArgs false
theorem u_int : Try.prog.underlying 34 = some (.slice 3) := by kernel_rfl
theorem i_int : (Try.prog.info? 3).map (fun i => (i.zero, i.size, i.bytes)) = some (some (.int .i64 0), 1, 8) := by kernel_rfl
theorem ix_int {a : Option Addr} {n c b o k : Nat} (ha : 0 < n → a = some ⟨b, o, none⟩) (hk : k < n) (w : World) : (Instr.indexAt 34 (.slice a n c) (.int .i64 (k : Int))).run Try.prog w = .ok (.pointer (some ⟨b, o + k, none⟩)) w := by
  obtain rfl := ha (by omega)
  have h1 : (k : Int) < (n : Int) := by omega
  simp [go_sem, h1]
def inF (l : List Int) (i : Nat) : List Value := [.int .i64 (l.getD i 0)]
theorem inF_app (l : List Int) (d : Int) {k : Nat} (hk : k < l.length + 1) : inF (l ++ [d]) k = upd (inF l) l.length [.int .i64 d] k := by
  unfold inF
  by_cases e : k = l.length
  · subst e
    rw [upd_eq, List.getD_eq_getElem?_getD, List.getElem?_append_right (Nat.le_refl _), Nat.sub_self]; rfl
  · rw [upd_ne _ _ e, List.getD_eq_getElem?_getD, List.getElem?_append_left (by omega), List.getD_eq_getElem?_getD]
theorem Gr.li {B : Nat} {w : World} {a : Option Addr} {n c : Nat} {l : List Int} (h : Gr 3 1 B w a n c (inF l)) (hl : l.length = n) : ∃ b, Li .i64 w a n c b 0 l := by
  by_cases hp : 0 < n
  · obtain ⟨g, rfl, _, _, _, hc⟩ := h.at_ hp
    refine ⟨g, hl, fun _ => rfl, fun j v hv => ?_, h.2.1⟩
    have hj := (List.getElem?_eq_some_iff.1 hv).1
    have := hc j (by omega) 0 (.int .i64 (l.getD j 0)) rfl
    rw [Nat.zero_add]
    rw [List.getD_eq_getElem?_getD, hv, Nat.mul_one, Nat.add_zero] at this
    exact this
  · obtain rfl : n = 0 := by omega
    obtain rfl : l = [] := List.eq_nil_of_length_eq_zero hl
    exact ⟨match a with | some x => x.block | none => 0, rfl, fun h => by omega, fun j v hv => by simp at hv, h.2.1⟩
/-- The indices of the things that change a word. -/
def chG (l : List Dd) (x : Int) (k : Nat) : Option Int := match l[k]? with | some d => if chW d x = true then some (k : Int) else none | none => none
def chs (l : List Dd) (x : Int) : List Int := (List.range l.length).filterMap (chG l x)
theorem chs_length (l : List Dd) (x : Int) : (chs l x).length ≤ l.length := by
  have := List.length_filterMap_le (chG l x) (List.range l.length)
  rw [List.length_range] at this
  exact this
theorem fm_congr {α β : Type} {f g : α → Option β} : ∀ {l : List α}, (∀ j ∈ l, f j = g j) → l.filterMap f = l.filterMap g
  | [], _ => rfl
  | x :: l, h => by rw [List.filterMap_cons, List.filterMap_cons, h x (by simp), fm_congr (fun j hj => h j (by simp [hj]))]
theorem chs_take {l : List Dd} {k : Nat} {d : Dd} (hd : l[k]? = some d) (x : Int) : chs (l.take (k + 1)) x = if chW d x = true then chs (l.take k) x ++ [(k : Int)] else chs (l.take k) x := by
  have hk : k < l.length := (List.getElem?_eq_some_iff.1 hd).1
  unfold chs
  rw [List.length_take, List.length_take, Nat.min_eq_left (by omega), Nat.min_eq_left (by omega), List.range_succ, List.filterMap_append]
  have e : ∀ j ∈ List.range k, chG (l.take (k + 1)) x j = chG (l.take k) x j := fun j hj => by
    have hj := List.mem_range.1 hj
    unfold chG
    rw [List.getElem?_take, List.getElem?_take, if_pos (by omega), if_pos hj]
  rw [fm_congr e]
  have e2 : (l.take (k + 1))[k]? = some d := by rw [List.getElem?_take, if_pos (by omega)]; exact hd
  by_cases h : chW d x = true <;> simp [chG, e2, h]
theorem chP_of {d : Dd} (h : may d = true) (x : Int) : (d.a.w == x && chg d.a) = chW d x := by
  unfold chW
  by_cases hk : d.a.k = 0
  · have : chg d.a = false := by
      unfold may isAc at h
      simp [hk] at h
      unfold chg
      simp [h]
    rw [this]; simp
  · have e : (d.a.k != 0) = true := by simpa using hk
    rw [e]; simp
theorem may_of {l : List Dd} (h : wro l = 0) {k : Nat} {d : Dd} (hd : l[k]? = some d) : may d = true := by
  unfold wro at h
  split at h
  · cases h
  · split at h
    · rename_i hv
      have := vldT_iff.1 hv k (List.getElem?_eq_some_iff.1 hd).1
      unfold okAt at this
      rw [hd] at this
      simp at this
      exact this.1
    · cases h
/-- What Changes returns. -/
def chR (l : List Dd) (x : Int) : List Int × Int := if wro l ≠ 0 then ([], wro l) else if isWd x = false then ([], 2) else (chs l x, 0)
def ChQ (w : World) (R : List Int × Int) (e : Ending) (w' : World) : Prop :=
  ∃ a c b, Ret (.tuple #[.slice a R.1.length c, .int .i64 R.2]) (fun w' => Frm [] w w' ∧ Li .i64 w' a R.1.length c b 0 R.1) e w'
theorem li_nil (w : World) : Li .i64 w none 0 0 0 0 [] := ⟨rfl, fun h => by omega, fun i x hx => by simp at hx, Nat.le_refl _⟩
section
variable {w : World} {a a' : Option Addr} {n c b o c' b' o' : Nat} {l : List Dd}
set_option maxRecDepth 100000 in
set_option maxHeartbeats 3200000 in
/-- Changes. -/
theorem Changes_any (h : DL w a n c b o l) (x : Int) : Calls Try.prog 37 #[.slice a n c, .int .i64 x] w (ChQ w (chR l x)) := by
  obtain ⟨R, hR⟩ : ∃ R, R = chR l x := ⟨_, rfl⟩
  rw [← hR]
  have HR := Lib.hid hR
  have HWR := Lib.hid (wrong_any h)
  have HTH := Lib.hid (fun w => isWord_any x w)
  have HL := Lib.hid h.len
  have H := Lib.hid h
  clear hR h
  by_cases h0 : wro l = 0
  · rw [h0] at HWR
    have HN := Lib.hid (show n ≤ 100000 by unfold wro at h0; rw [HL.out] at h0; split at h0; cases h0; omega)
    have hn2 : (n : Int) ≤ 100000 := by have := HN.out; omega
    have HMAY := Lib.hid (fun k d => may_of h0 (k := k) (d := d))
    cases ht : isWd x
    · have HX := Lib.hid (show chR l x = ([], 2) by unfold chR; rw [if_neg (by simp [h0]), if_pos ht])
      have HT := Lib.hid ht
      clear h0 ht
      go_enter Try.func37, Try.ntmps37
      go_wp2_with fail
      refine HWR.out.mono ?_
      rintro e w1 ⟨rfl, hF⟩
      go_wp2_with fail
      refine (HTH.out _).mono ?_
      rintro e w2 ⟨rfl, hF2⟩
      rw [HT.out]
      go_wp2_with fail
      go_ret2
      rw [HR.out, HX.out]
      exact ⟨none, 0, 0, rfl, hF.trans hF2, li_nil _⟩
    · have HX := Lib.hid (show chR l x = (chs l x, 0) by unfold chR; rw [if_neg (by simp [h0]), if_neg (by simp [ht])])
      have HT := Lib.hid ht
      clear h0 ht
      go_enter Try.func37, Try.ntmps37
      go_wp2_with fail
      refine HWR.out.mono ?_
      rintro e w1 ⟨rfl, hF⟩
      go_wp2_with fail
      refine (HTH.out _).mono ?_
      rintro e w2 ⟨rfl, hF2⟩
      rw [HT.out]
      have HFS := Lib.hid (hF.trans hF2)
      clear hF hF2
      go_wp2_with fail
      go_loopw [7, 20] (fun sl i wr => ∃ (k : Nat) (a1 : Option Addr) (c1 : Nat), k ≤ n ∧ i = .int .i64 k ∧ sl = .slice a1 (chs (l.take k) x).length c1 ∧ Frm [] w wr ∧ Gr 3 1 w.heap.size wr a1 (chs (l.take k) x).length c1 (inF (chs (l.take k) x))) (fun _ i _ => n - (intOf i).toNat)
      case atStart => exact ⟨0, none, 0, Nat.zero_le _, rfl, rfl, HFS.out, Gr.nil _ _ _ _ _⟩
      case round =>
        obtain ⟨k, a1, c1, hk, rfl, rfl, hF, hG⟩ := hrel
        by_cases hlt : k < n
        · obtain ⟨d, hd⟩ : ∃ d, l[k]? = some d := ⟨_, List.getElem?_eq_getElem (by rw [HL.out]; exact hlt)⟩
          have hL1 := H.out.frm0 hF
          have hi1 := ix_did (c := c) hL1.ad hlt
          have p0 := hL1.get hd 0 _ rfl
          have p1 := hL1.get hd 1 _ rfl
          have p2 := hL1.get hd 2 _ rfl
          have p3 := hL1.get hd 3 _ rfl
          have p4 := hL1.get hd 4 _ rfl
          have p5 := hL1.get hd 5 _ rfl
          have p6 := hL1.get hd 6 _ rfl
          rw [Nat.add_zero] at p0
          have HF := Lib.hid hF
          have HG := Lib.hid hG
          have hww := hF.size
          have HCH := Lib.hid (fun w => changes_any d.a.k d.a.w d.a.b d.a.a w)
          have HCP := Lib.hid (chP_of (HMAY.out _ _ hd) x)
          have HLEN := Lib.hid (show (chs (l.take k) x).length ≤ 1000000 from by have := chs_length (l.take k) x; have : (l.take k).length ≤ k := List.length_take_le _ _; have := HN.out; omega)
          have HOT := Lib.hid (chs_take hd x)
          have HSZ := Lib.hid hww
          have HA0 := Lib.hid (show Frm [] wr (wr.alloc (.cells #[.int .i64 d.i, .int .i64 d.a.k, .int .i64 d.a.w, .int .u64 d.a.b, .int .u64 d.a.a, .bool d.wt, .bool d.en] 40)) from (Frm.refl [] wr).alloc _)
          clear hF hG hL1 hd hww
          by_cases hi : chW d x = true
          · have HO := Lib.hid (show chs (l.take (k + 1)) x = chs (l.take k) x ++ [(k : Int)] by rw [HOT.out, if_pos hi])
            have hi2 := hi
            rw [← HCP.out] at hi2
            obtain ⟨hb, hg⟩ := Bool.and_eq_true_iff.1 hi2
            have HG1 := Lib.hid hg
            clear hi hi2 hg
            generalize chs (l.take k) x = L at *
            go_wp2_with (first | ((with_reducible refine (HCH.out _).mono ?_); rintro e w1 ⟨rfl, hF1⟩; rw [show (⟨d.a.k, d.a.w, d.a.b, d.a.a⟩ : Acc) = d.a from rfl, HG1.out]; have HF1 := Lib.hid (HA0.out.trans hF1); clear hF1; have HROW := Lib.hid (HG.out.frm0 (HF1.out.alloc (.cells #[.int .i64 (k : Int)] 3))); have HGG := Lib.hid (heap_alloc_new w1 (.cells #[.int .i64 (k : Int)] 3)); have HWW := Lib.hid (show w.heap.size ≤ (w1.alloc (.cells #[.int .i64 (k : Int)] 3)).heap.size by have := HF1.out.size; have := HSZ.out; simp; omega)) | (at_builtin; refine wpl_gr u_int i_int rfl (by decide) (by decide) rfl (.tmp 35) (.tmp 37) rfl (B := w.heap.size) (g2 := w1.heap.size) (l := [.int .i64 (k : Int)]) (by simp [Act.eval]) (by simp [Act.eval]) HROW.out rfl (by simp [Value.oneCell']) HGG.out HLEN.out HWW.out ?_; intro a2 c2 w3 hG3 hF3 hb3; have HG3 := Lib.hid hG3; have HF3 := Lib.hid hF3; clear hG3 hF3 hb3))
            go_roundw
            case rel =>
              refine ⟨k + 1, a2, c2, by omega, by go_num, by rw [HO.out]; simp, (HF.out.trans (HF1.out.alloc _)).trans_new HF3.out (fun x hx => .inr (HROW.out.from_ x hx).1), ?_⟩
              rw [HO.out, List.length_append, List.length_singleton]
              exact HG3.out.congr fun k hk => inF_app _ _ hk
            case measure => simp [intOf]; omega
          · have HO := Lib.hid (show chs (l.take (k + 1)) x = chs (l.take k) x by rw [HOT.out, if_neg hi])
            have hi2 : (d.a.w == x && chg d.a) = false := by rw [HCP.out]; simpa using hi
            clear hi
            generalize chs (l.take k) x = L at *
            cases hb : d.a.w == x
            · clear hi2
              go_wp2_with fail
              go_roundw
              case rel => exact ⟨k + 1, a1, c1, by omega, by go_num, by rw [HO.out], HF.out.trans HA0.out, by rw [HO.out]; exact HG.out.frm0 HA0.out⟩
              case measure => simp [intOf]; omega
            · have HG1 := Lib.hid (show chg d.a = false by rw [hb] at hi2; simpa using hi2)
              clear hi2
              go_wp2_with ((with_reducible refine (HCH.out _).mono ?_); rintro e w1 ⟨rfl, hF1⟩; rw [show (⟨d.a.k, d.a.w, d.a.b, d.a.a⟩ : Acc) = d.a from rfl, HG1.out]; have HF1 := Lib.hid (HA0.out.trans hF1); clear hF1)
              go_roundw
              case rel => exact ⟨k + 1, a1, c1, by omega, by go_num, by rw [HO.out], HF.out.trans HF1.out, by rw [HO.out]; exact HG.out.frm0 HF1.out⟩
              case measure => simp [intOf]; omega
        · have hkn : k = n := by omega
          have HT := Lib.hid (show l.take k = l from List.take_of_length_le (by rw [HL.out]; omega))
          have HF := Lib.hid hF
          have HG := Lib.hid hG
          clear hF hG hkn
          rw [HT.out] at HG
          rw [HT.out]
          generalize chs l x = L at *
          go_wp2_with fail
          go_ret2
          rw [HR.out, HX.out]
          obtain ⟨b1, hD⟩ := HG.out.li rfl
          exact ⟨a1, c1, b1, rfl, HF.out, hD⟩
  · have hb : (wro l != 0) = true := by simpa using h0
    have HX := Lib.hid (show chR l x = ([], wro l) by unfold chR; rw [if_pos h0])
    clear h0
    go_enter Try.func37, Try.ntmps37
    go_wp2_with fail
    refine HWR.out.mono ?_
    rintro e w1 ⟨rfl, hF⟩
    go_wp2_with fail
    go_ret2
    rw [HR.out, HX.out]
    exact ⟨none, 0, 0, rfl, hF, li_nil _⟩
set_option maxRecDepth 100000 in
set_option maxHeartbeats 3200000 in
/-- The law's changes: what is right is told right. -/
theorem lchanges_any (h : DL w a n c b o l) (x : Int) {e0 : Int} (hn : n ≤ 100002) (h2 : Li .i64 w a' (chR l x).1.length c' b' o' (chR l x).1) (he : e0 = (chR l x).2) : Calls Try.prog 12 #[.slice a n c, .int .i64 x, .int .i64 e0, .slice a' (chR l x).1.length c'] w (Ret (.bool true) (fun w' => Frm [] w w')) := by
  subst he
  have HC := Lib.hid (Changes_any h x)
  have hlen : (chR l x).1.length ≤ 100002 := by
    have hl := h.len
    have := chs_length l x
    unfold chR
    split
    · simp
    · split
      · simp
      · simp; omega
  clear h hn
  generalize chR l x = R at *
  obtain ⟨L, er⟩ := R
  dsimp only at *
  generalize hm : L.length = m at *
  have HM := Lib.hid hm
  have H2 := Lib.hid h2
  have hl2 : (m : Int) ≤ 100002 := by omega
  clear hm h2 hlen
  go_enter Try.func12, Try.ntmps12
  go_wp2_with fail
  refine HC.out.mono ?_
  rintro e w1 ⟨a1, c1, b1, rfl, hF, hL1⟩
  dsimp only at hL1 ⊢
  rw [HM.out] at hL1 ⊢
  have HF := Lib.hid hF
  have HL1 := Lib.hid hL1
  clear hF hL1
  go_wp2_with fail
  go_loopw [30] (fun i wr => ∃ k : Nat, k ≤ m ∧ i = .int .i64 k ∧ Frm [] w1 wr) (fun i _ => m - (intOf i).toNat)
  case atStart => exact ⟨0, Nat.zero_le _, rfl, Frm.refl _ _⟩
  case round =>
    obtain ⟨k, hk, rfl, hF⟩ := hrel
    by_cases hlt : k < m
    · have hA := HL1.out.frm0 hF
      have hB := H2.out.frm0 (HF.out.trans hF)
      have hi1 := ix_int (c := c1) hA.ad hlt
      have hi2 := ix_int (c := c') hB.ad hlt
      obtain ⟨y, hy, _, hc1⟩ := hA.get hlt
      have hc2 := hB.cell k y hy
      simp only [Nat.zero_add] at hc1 hi1
      have HFF := Lib.hid hF
      clear hF hA hB hy
      go_wp2_with fail
      go_quiet (fail)
      go_wp2_with fail
      go_roundw
      case rel => exact ⟨k + 1, by omega, by go_num, HFF.out.trans ((Frm.refl [] _).drewN _)⟩
      case measure => simp [intOf]; omega
    · have hkn : k = m := by omega
      have HFF := Lib.hid hF
      clear hF
      go_wp2_with fail
      go_ret
      exact ⟨rfl, HF.out.trans HFF.out⟩
set_option maxRecDepth 100000 in
set_option maxHeartbeats 3200000 in
/-- The law's of. -/
theorem lof_any (h : DL w a n c b o l) (t : Int) {e0 : Int} (hn : n ≤ 100002) (h2 : DL w a' (ofR l t).1.length c' b' o' (ofR l t).1) (he : e0 = (ofR l t).2) : Calls Try.prog 13 #[.slice a n c, .int .i64 t, .int .i64 e0, .slice a' (ofR l t).1.length c'] w (Ret (.bool true) (fun w' => Frm [] w w')) := by
  subst he
  have HC := Lib.hid (Of_any h t)
  have hlen : (ofR l t).1.length ≤ 100000 := by
    have hl := h.len
    have := ofs_length l t
    unfold ofR
    split
    · simp
    · rename_i hw
      split
      · simp
      · have hw : wro l = 0 := by simpa using hw
        unfold wro at hw
        split at hw
        · cases hw
        · simp; omega
  clear h hn
  generalize ofR l t = R at *
  obtain ⟨L, er⟩ := R
  dsimp only at *
  generalize hm : L.length = m at *
  have HM := Lib.hid hm
  have H2 := Lib.hid h2
  have HLE := Lib.hid hlen
  clear hm h2 hlen
  go_enter Try.func13, Try.ntmps13
  go_wp2_with fail
  refine HC.out.mono ?_
  rintro e w1 ⟨a1, c1, b1, rfl, hF, hL1, _⟩
  dsimp only at hL1 ⊢
  rw [HM.out] at hL1 ⊢
  have HF := Lib.hid hF
  have HSM := Lib.hid (same_did HLE.out hL1 (H2.out.frm0 hF))
  clear hF hL1
  go_wp2_with fail
  refine HSM.out.mono ?_
  rintro e w2 ⟨rfl, hF2⟩
  go_wp2_with fail
  go_ret
  exact ⟨rfl, HF.out.trans hF2⟩
end
end Go.Proofs.Ytfkikaoojelddaa
