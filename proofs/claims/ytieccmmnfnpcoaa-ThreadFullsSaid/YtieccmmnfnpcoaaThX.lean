/- Stage 12: Put, takeBack and Waits of a machine. -/
import Derived.Test.YtieccmmnfnpcoaaThW
namespace Go.Proofs.Ytieccmmnfnpcoaa
open Go.ChangeShapes Go.WideShapes Go.ChangeAt Go.RowKit
set_option linter.unusedVariables false
theorem Load_ok {w : World} {p d c : Nat} {ws : List Int} (hM : MemAt w p d c ws) (x : Nat) (v : Int) (hx : ws[x]? = some v) :
    Calls Try.prog 44 #[.pointer (some ⟨p, 0, none⟩), .int .i64 x] w (Ret (.tuple #[.int .u64 v, .int .i64 0]) (fun w' => Frm [d] w w' ∧ MemAt w' p d c ws)) := by
  have hl : x < ws.length := (List.getElem?_eq_some_iff.1 hx).1
  have h0 : mErr ws.length 1 x = 0 := by unfold mErr; rw [if_neg (by omega), if_neg (by omega)]
  have hg : ws.getD (x : Int).toNat 0 = v := by rw [List.getD_eq_getElem?_getD, Int.toNat_natCast, hx]; rfl
  have h1 : mWs ws ⟨1, x, 0, 0⟩ = ws := by
    unfold mWs; simp only []; rw [if_pos h0, hg]; simp only [aft]
    rw [if_neg (by decide), if_neg (by decide)]
    apply List.ext_getElem?; intro j; rw [List.getElem?_set]; split
    · rename_i e; subst e; rw [if_pos (by simpa using hl)]; simpa using hx.symm
    · rfl
  have h2 : (mRes ws ⟨1, x, 0, 0⟩).b = v := by unfold mRes; simp only []; rw [if_pos h0]; exact hg
  refine (Load_mem hM x).mono fun e w' hh => ?_
  rw [h0, h1, h2] at hh
  exact hh
theorem Load_out {w : World} {p d c : Nat} {ws : List Int} (hM : MemAt w p d c ws) (x : Nat) (hx : ws.length ≤ x) :
    Calls Try.prog 44 #[.pointer (some ⟨p, 0, none⟩), .int .i64 x] w (Ret (.tuple #[.int .u64 0, .int .i64 3]) (fun w' => Frm [d] w w' ∧ MemAt w' p d c ws)) := by
  have h0 : mErr ws.length 1 x = 3 := by unfold mErr; rw [if_neg (by omega), if_pos (by omega)]
  have h1 : mWs ws ⟨1, x, 0, 0⟩ = ws := by unfold mWs; simp only []; rw [h0]; rfl
  have h2 : (mRes ws ⟨1, x, 0, 0⟩).b = 0 := by unfold mRes; simp only []; rw [h0]; rfl
  refine (Load_mem hM x).mono fun e w' hh => ?_
  rw [h0, h1, h2] at hh
  exact hh
theorem Store_ok {w : World} {p d c : Nat} {ws : List Int} (hM : MemAt w p d c ws) (x : Nat) (v : Int) (hx : x < ws.length) :
    Calls Try.prog 52 #[.pointer (some ⟨p, 0, none⟩), .int .i64 x, .int .u64 v] w (Ret (.int .i64 0) (fun w' => Frm [d] w w' ∧ MemAt w' p d c (ws.set x v))) := by
  have h0 : mErr ws.length 2 x = 0 := by unfold mErr; rw [if_neg (by omega), if_neg (by omega)]
  have h1 : mWs ws ⟨2, x, 0, v⟩ = ws.set x v := by unfold mWs; simp only []; rw [if_pos h0]; simp [aft]
  refine (Store_mem hM x v).mono fun e w' hh => ?_
  rw [h0, h1] at hh
  exact hh
theorem Store_out {w : World} {p d c : Nat} {ws : List Int} (hM : MemAt w p d c ws) (x : Nat) (v : Int) (hx : ws.length ≤ x) :
    Calls Try.prog 52 #[.pointer (some ⟨p, 0, none⟩), .int .i64 x, .int .u64 v] w (Ret (.int .i64 3) (fun w' => Frm [d] w w' ∧ MemAt w' p d c ws)) := by
  have h0 : mErr ws.length 2 x = 3 := by unfold mErr; rw [if_neg (by omega), if_pos (by omega)]
  have h1 : mWs ws ⟨2, x, 0, v⟩ = ws := by unfold mWs; simp only []; rw [h0]; rfl
  refine (Store_mem hM x v).mono fun e w' hh => ?_
  rw [h0, h1] at hh
  exact hh
section
variable {w : World} {X : Mb}
theorem mPut_nil (h : MbAt w X) (i : Int) : Calls Try.prog 35 #[.pointer (some ⟨X.q, 0, none⟩), .int .i64 i, .nilIface] w (Ret (.int .i64 1) (fun w' => Frm [] w w')) := by
  have H := Lib.hid h
  clear h
  go_enter Try.func35, Try.ntmps35
  go_wp2_with fail
  refine (copyOf_nil _).mono ?_
  rintro e w1 ⟨rfl, hF1⟩
  have HN := Lib.hid (mnone_at (H.out.frm0 hF1))
  have HF1 := Lib.hid hF1
  clear hF1
  go_wp2_with fail
  refine HN.out.mono ?_
  rintro e w' ⟨rfl, rfl⟩
  go_wp2
  go_ret
  exact ⟨rfl, HF1.out⟩
theorem mPut_no (h : MbAt w X) (i : Int) (hi : noTh X.tv.length i = true) {v : Value} {T2 : TypeId} {S : Nat → World → Prop}
    (hc : Calls Try.prog 57 #[v] w (fun e w' => ∃ q', Ret (.iface T2 (.pointer (some ⟨q', 0, none⟩))) (fun w' => Frm [] w w' ∧ S q' w') e w')) :
    Calls Try.prog 35 #[.pointer (some ⟨X.q, 0, none⟩), .int .i64 i, v] w (Ret (.int .i64 2) (fun w' => Frm [] w w')) := by
  have H := Lib.hid h
  have HC := Lib.hid hc
  have HI := Lib.hid hi
  clear h hc hi
  go_enter Try.func35, Try.ntmps35
  go_wp2_with fail
  refine HC.out.mono ?_
  rintro e w1 ⟨q', rfl, hF1, hS1⟩
  have hA1 := H.out.frm0 hF1
  have HN := Lib.hid (mnone_at hA1)
  have hno := mno_at hA1 i
  rw [HI.out] at hno
  have HNO := Lib.hid hno
  have HF1 := Lib.hid hF1
  clear hF1 hS1 hA1 hno
  go_wp2_with fail
  refine HN.out.mono ?_
  rintro e w' ⟨rfl, rfl⟩
  go_wp2_with fail
  refine HNO.out.mono ?_
  rintro e w' ⟨rfl, rfl⟩
  go_wp2
  go_ret
  exact ⟨rfl, HF1.out⟩
theorem mPut_state (h : MbAt w X) {i : Nat} {t : Tv} (ht : X.tv[i]? = some t) {v : Value} {T2 : TypeId} {S : Nat → World → Prop}
    (hc : Calls Try.prog 57 #[v] w (fun e w' => ∃ q', Ret (.iface T2 (.pointer (some ⟨q', 0, none⟩))) (fun w' => Frm [] w w' ∧ S q' w') e w'))
    (HE : ∀ w1, Frm [] w w1 → Calls Try.prog 61 #[.iface t.T (.pointer (some ⟨t.a, 0, none⟩))] w1 (Ret (.bool false) (fun w' => Frm [] w1 w'))) :
    Calls Try.prog 35 #[.pointer (some ⟨X.q, 0, none⟩), .int .i64 (i : Int), v] w (Ret (.int .i64 8) (fun w' => Frm [] w w')) := by
  have hi : i < X.tv.length := (List.getElem?_eq_some_iff.1 ht).1
  have H := Lib.hid h
  have HC := Lib.hid hc
  have HEE := Lib.hid HE
  have HT := Lib.hid ht
  clear h hc HE ht
  go_enter Try.func35, Try.ntmps35
  go_wp2_with fail
  refine HC.out.mono ?_
  rintro e w1 ⟨q', rfl, hF1, hS1⟩
  have hA1 := H.out.frm0 hF1
  have HN := Lib.hid (mnone_at hA1)
  have hno := mno_at hA1 i
  rw [noTh_nat hi] at hno
  have HNO := Lib.hid hno
  have HD := Lib.hid (mDone_at hA1 HT.out (HEE.out _ hF1))
  have HF1 := Lib.hid hF1
  clear hF1 hS1 hA1 hno
  go_wp2_with fail
  refine HN.out.mono ?_
  rintro e w' ⟨rfl, rfl⟩
  go_wp2_with fail
  refine HNO.out.mono ?_
  rintro e w' ⟨rfl, rfl⟩
  go_wp2_with fail
  refine HD.out.mono ?_
  rintro e w2 ⟨rfl, hF2⟩
  have HF2 := Lib.hid (HF1.out.trans hF2)
  clear hF2
  go_wp2
  go_ret
  exact ⟨rfl, HF2.out⟩
set_option maxRecDepth 100000 in
theorem mPut_ok (h : MbAt w X) {i : Nat} {t : Tv} (ht : X.tv[i]? = some t) {v : Value} {T2 : TypeId} {S S' : Nat → World → Prop}
    (hc : Calls Try.prog 57 #[v] w (fun e w' => ∃ q', Ret (.iface T2 (.pointer (some ⟨q', 0, none⟩))) (fun w' => Frm [] w w' ∧ S q' w') e w'))
    (HE : ∀ w1, Frm [] w w1 → Calls Try.prog 61 #[.iface t.T (.pointer (some ⟨t.a, 0, none⟩))] w1 (Ret (.bool true) (fun w' => Frm [] w1 w')))
    (Hst0 : ∀ q' w1 w2, S q' w1 → Frm [] w1 w2 → S q' w2)
    (Hst : ∀ q' D w1 w2, S q' w1 → Frm D w1 w2 → (∀ x ∈ D, x ∈ bkG X.ta ∧ NI w1 x) → S' q' w2) :
    Calls Try.prog 35 #[.pointer (some ⟨X.q, 0, none⟩), .int .i64 (i : Int), v] w
      (fun e w' => ∃ q', Ret (.int .i64 0) (fun w' => Frm (bkG X.ta) w w' ∧ MbAt w' { X with tv := X.tv.set i { t with T := T2, a := q' } } ∧ S' q' w') e w') := by
  have hi : i < X.tv.length := (List.getElem?_eq_some_iff.1 ht).1
  have H := Lib.hid h
  have HC := Lib.hid hc
  have HST0 := Lib.hid Hst0
  have HST := Lib.hid Hst
  have HEE := Lib.hid HE
  have HT := Lib.hid ht
  clear h hc Hst0 Hst HE ht
  go_enter Try.func35, Try.ntmps35
  go_wp2_with fail
  refine HC.out.mono ?_
  rintro e w1 ⟨q', rfl, hF1, hS1⟩
  have hA1 := H.out.frm0 hF1
  have HN := Lib.hid (mnone_at hA1)
  have hno := mno_at hA1 i
  rw [noTh_nat hi] at hno
  have HNO := Lib.hid hno
  have HD := Lib.hid (mDone_at hA1 HT.out (HEE.out _ hF1))
  have HF1 := Lib.hid hF1
  have HS1 := Lib.hid hS1
  have HA1 := Lib.hid hA1
  clear hF1 hS1 hA1 hno
  go_wp2_with fail
  refine HN.out.mono ?_
  rintro e w' ⟨rfl, rfl⟩
  go_wp2_with fail
  refine HNO.out.mono ?_
  rintro e w' ⟨rfl, rfl⟩
  go_wp2_with fail
  refine HD.out.mono ?_
  rintro e w2 ⟨rfl, hF2⟩
  have hA2 := HA1.out.frm0 hF2
  have HS2 := Lib.hid (HST0.out _ _ _ HS1.out hF2)
  obtain ⟨g, hg, hgl, hz, k0, k1, k2⟩ := hA2.thr HT.out
  have h1 := hA2.c1
  rw [hg] at h1
  have hix := ix_run (b := g) (c := X.tc) hi
  have hA3 := hA2.put (i := i) (t := t) (t' := { t with T := T2, a := q' }) (j := 0) (v := .iface T2 (.pointer (some ⟨q', 0, none⟩))) HT.out hg (by omega) rfl
  have hF3 : Frm (bkG X.ta) w2 (w2.setCell ⟨g, i * 3, none⟩ (.iface T2 (.pointer (some ⟨q', 0, none⟩)))) := (Frm.refl _ _).setCell _ _ (.inl (by rw [hg]; simp [bkG]))
  have hgni : ∀ x ∈ bkG X.ta, x ∈ bkG X.ta ∧ NI w2 x := fun x hx => by
    refine ⟨hx, ?_⟩
    obtain ⟨_, _, ⟨hh, _⟩ | ⟨g2, cs, hg2, _, hb, _⟩⟩ := hA2.row
    · rw [hh] at hx; simp [bkG] at hx
    · rw [hg2] at hx; simp [bkG] at hx; subst hx; exact ni_of hb (by decide)
  have HS3 := Lib.hid (HST.out _ _ _ _ HS2.out hF3 hgni)
  have HA3 := Lib.hid hA3
  have HF := Lib.hid ((HF1.out.trans hF2).nil.trans hF3)
  clear hF2 hA2 hg hA3 hF3 hgni k1 k2 HS1 HA1 HF1
  go_wp2
  go_ret
  exact ⟨q', rfl, HF.out, HA3.out, HS3.out⟩
theorem take_0 (h : MbAt w X) (a : Acc) (ha : a.k = 0) : Calls Try.prog 74 #[.pointer (some ⟨X.q, 0, none⟩), .agg #[.int .i64 a.k, .int .i64 a.w, .int .u64 a.b, .int .u64 a.a]] w (Ret (.tuple #[]) (fun w' => Frm [] w w')) := by
  obtain ⟨k, wd, b, af⟩ := a
  dsimp only at ha
  subst ha
  clear h
  go_enter Try.func74, Try.ntmps74
  go_wp2
  go_end0
  exact ⟨rfl, (Frm.refl _ _).alloc _⟩
set_option maxRecDepth 100000 in
theorem take_1 (h : MbAt w X) (k : Int) (wd : Nat) (b af : Int) (hk : k ≠ 0) (hw : wd < X.ws.length) : Calls Try.prog 74 #[.pointer (some ⟨X.q, 0, none⟩), .agg #[.int .i64 k, .int .i64 (wd : Int), .int .u64 b, .int .u64 af]] w
    (Ret (.tuple #[]) (fun w' => Frm [X.d] w w' ∧ MemAt w' X.p X.d X.c (X.ws.set wd b))) := by
  have hb : (k != 0) = true := by simp [hk]
  obtain ⟨X0, hX0⟩ : ∃ X0, X0 = w.alloc (.cells #[.int .i64 k, .int .i64 (wd : Int), .int .u64 b, .int .u64 af] 43) := ⟨_, rfl⟩
  have hF0 : Frm [] w X0 := by rw [hX0]; exact (Frm.refl _ _).alloc _
  have hR0 : X0.heap[w.heap.size]? = some (.cells #[.int .i64 k, .int .i64 (wd : Int), .int .u64 b, .int .u64 af] 43 (0, 0)) := by rw [hX0]; exact heap_alloc_new _ _
  obtain ⟨r0, r1, r2, r3⟩ := cells4 hR0
  have h0 := (h.frm0 hF0).c0
  have HM := Lib.hid (h.mem.frm hF0 (by simp) (by simp))
  have HF0 := Lib.hid hF0
  clear h hF0 hR0 hk
  go_enter Try.func74, Try.ntmps74
  go_wp2_with fail
  rw [← hX0]
  clear hX0
  go_still_tail 8, (by kernel_rfl)
  change wpList _ _ _ _ _ X0.drew
  have hM2 : MemAt X0.drew X.p X.d X.c X.ws := HM.out.drew
  have hF2 : Frm [] w X0.drew := HF0.out.drew
  generalize X0.drew = X2 at hM2 hF2 ⊢
  have HM2 := Lib.hid hM2
  have HF2 := Lib.hid hF2
  clear hM2 hF2 HM HF0
  go_wp2_with fail
  refine (Store_ok HM2.out wd b hw).mono ?_
  rintro e w3 ⟨rfl, hF3, hM3⟩
  have HF3 := Lib.hid (HF2.out.nil.trans hF3)
  have HM3 := Lib.hid hM3
  clear hF3 hM3
  go_wp2
  go_end0
  exact ⟨rfl, HF3.out, HM3.out⟩
set_option maxRecDepth 100000 in
set_option maxHeartbeats 2000000 in
theorem mWaits_at (h : MbAt w X) {i : Nat} {t : Tv} (ht : X.tv[i]? = some t) {T2 : TypeId} {S : Nat → World → Prop} {wt : Bool} {e : Int} {did : Acc} {ws' : List Int}
    (HE : Calls Try.prog 61 #[.iface t.T (.pointer (some ⟨t.a, 0, none⟩))] w (Ret (.bool false) (fun w' => Frm [] w w')))
    (HC : ∀ w1, Frm [] w w1 → Calls Try.prog 57 #[.iface t.T (.pointer (some ⟨t.a, 0, none⟩))] w1 (fun e w' => ∃ q', Ret (.iface T2 (.pointer (some ⟨q', 0, none⟩))) (fun w' => Frm [] w1 w' ∧ S q' w') e w'))
    (HS : ∀ q' w2 w3 q1, Frm [] w w2 → S q' w2 → Frm [] w2 w3 → w2.heap.size ≤ q1 → Mm true w3 X.p X.d X.c q1 acc0 X.ws → Calls Try.prog 73 #[.iface T2 (.pointer (some ⟨q', 0, none⟩)), .iface 134 (.pointer (some ⟨q1, 0, none⟩))] w3
      (Ret (.tuple #[.bool wt, .int .i64 e]) (fun w' => (∃ D, Frm (X.d :: q1 :: D) w3 w' ∧ ∀ x ∈ D, w.heap.size ≤ x) ∧ Mm true w' X.p X.d X.c q1 did ws')))
    (hd : (did.k = 0 ∧ ws' = X.ws) ∨ (did.k ≠ 0 ∧ ∃ n : Nat, did.w = n ∧ n < X.ws.length ∧ ws'.length = X.ws.length ∧ ws'.set n did.b = X.ws)) :
    Calls Try.prog 36 #[.pointer (some ⟨X.q, 0, none⟩), .int .i64 (i : Int)] w (Ret (.bool wt) (fun w' => Frm [X.d] w w' ∧ MbAt w' X)) := by
  have hi : i < X.tv.length := (List.getElem?_eq_some_iff.1 ht).1
  have hno := mno_at h i
  rw [noTh_nat hi] at hno
  have HNO := Lib.hid hno
  have HD := Lib.hid (mDone_at h ht HE)
  have H := Lib.hid h
  have HCC := Lib.hid HC
  have HSS := Lib.hid HS
  have HT := Lib.hid ht
  have HDD := Lib.hid hd
  have hql := h.lt
  have hpl := h.mem.plt
  have hdl := h.mem.dlt
  clear h hno HE HC HS ht hd
  go_enter Try.func36, Try.ntmps36
  go_wp2_with fail
  refine HNO.out.mono ?_
  rintro e1 w' ⟨rfl, rfl⟩
  go_wp2_with fail
  refine HD.out.mono ?_
  rintro e1 w1 ⟨rfl, hF1⟩
  have hA1 := H.out.frm0 hF1
  obtain ⟨g, hg, hgl, hz, k0, k1, k2⟩ := hA1.thr HT.out
  have h1 := hA1.c1
  rw [hg] at h1
  have hix := ix_run (b := g) (c := X.tc) hi
  have HCC1 := Lib.hid (HCC.out _ hF1)
  have HF1 := Lib.hid hF1
  have HA1 := Lib.hid hA1
  clear hF1 hA1 hg
  go_wp2_with fail
  refine HCC1.out.mono ?_
  rintro e1 w2 ⟨q', rfl, hF2, hS2⟩
  have hA2 := HA1.out.frm0 hF2
  have h0 := hA2.c0
  have HNW := Lib.hid (newonce_ok hA2.mem)
  have HF2 := Lib.hid (HF1.out.trans hF2)
  have HA2 := Lib.hid hA2
  have HS2 := Lib.hid hS2
  clear hF2 hA2 hS2 k0 k1 k2 h1 hz hix HCC1 HF1 HA1 hgl
  go_wp2_with fail
  refine HNW.out.mono ?_
  rintro e1 w3 ⟨q1, rfl, hF3, hO3, hq1⟩
  have hA3 := HA2.out.frm0 hF3
  have hs2 := HF2.out.size
  have HST := Lib.hid (HSS.out q' w2 w3 q1 HF2.out HS2.out hF3 hq1 (Mm.ofOnce hA3.mem hO3 (by omega) (by omega)))
  have HF3 := Lib.hid (HF2.out.trans hF3)
  have HO3 := Lib.hid hO3
  have HA3 := Lib.hid hA3
  clear hF3 hO3 hA3 h0 HF2 HA2 HS2 HNW
  go_wp2_with fail
  refine HST.out.mono ?_
  rintro e1 w4 ⟨rfl, ⟨D, hF4, hD⟩, hM4⟩
  have hqn : X.q ∉ X.d :: q1 :: D := by
    obtain ⟨ds, hds, _⟩ := HA3.out.mem.arr
    simp only [List.mem_cons, not_or]
    exact ⟨blk_ne HA3.out.obj hds (by decide), by omega, fun hx => by have := hD _ hx; omega⟩
  have htn : ∀ x ∈ bkG X.ta, x ∉ X.d :: q1 :: D := fun x hx => by
    have hxl := (H.out.row.from_ x hx).2
    obtain ⟨ds, hds, _⟩ := HA3.out.mem.arr
    simp only [List.mem_cons, not_or]
    exact ⟨HA3.out.row.ne hds (by decide) x hx, by omega, fun hx => by have := hD _ hx; omega⟩
  have hA4 : MbAt w4 { X with ws := ws' } := ⟨hF4.heap HA3.out.obj hqn, hM4.mem, HA3.out.row.frm hF4 htn, HA3.out.le⟩
  have hO4 := (hM4.once rfl).1
  have hFw : Frm [X.d] w w4 := HF3.out.nil.trans_new hF4 (by
    intro x hx; simp only [List.mem_cons] at hx
    rcases hx with h | h | h
    · exact .inl (by simp [h])
    · right; omega
    · exact .inr (hD x h))
  have HA4 := Lib.hid hA4
  have HO4 := Lib.hid hO4
  have HFw := Lib.hid hFw
  clear hF4 hM4 hqn htn hA4 hO4 hFw hD HO3 HA3 HST HF3
  go_wp2_with fail
  refine (oaccess_ok HO4.out).mono ?_
  rintro e1 w5 ⟨rfl, hF5⟩
  have hA5 := HA4.out.frm0 hF5
  have HFw5 := Lib.hid (HFw.out.trans hF5.nil)
  have HA5 := Lib.hid hA5
  clear hF5 hA5 HO4 HA4 HFw
  rcases HDD.out with ⟨hk, hws⟩ | ⟨hk, n, hw, hn, hl, hs⟩
  · have HT5 := Lib.hid (take_0 HA5.out did hk)
    have HWS := Lib.hid hws
    clear hk hws
    go_wp2_with fail
    refine HT5.out.mono ?_
    rintro e1 w6 ⟨rfl, hF6⟩
    have HF6 := Lib.hid hF6
    clear hF6
    go_wp2
    go_ret
    have := HA5.out.frm0 HF6.out
    rw [HWS.out] at this
    exact ⟨rfl, HFw5.out.trans HF6.out.nil, this⟩
  · have HT5 := Lib.hid (take_1 HA5.out did.k n did.b did.a hk (by show n < ws'.length; omega))
    have HW := Lib.hid hs
    have HL := Lib.hid hl
    rw [← hw] at HT5
    clear hk hw hn hl hs
    go_wp2_with fail
    refine HT5.out.mono ?_
    rintro e1 w6 ⟨rfl, hF6, hM6⟩
    have HF6 := Lib.hid hF6
    have HM6 := Lib.hid hM6
    clear hF6 hM6
    go_wp2
    go_ret
    obtain ⟨ds, hds, _⟩ := HA5.out.mem.arr
    have hM := HM6.out
    rw [show ({ X with ws := ws' } : Mb).ws.set n did.b = X.ws from HW.out] at hM
    refine ⟨rfl, HFw5.out.trans HF6.out, HF6.out.heap HA5.out.obj ?_, hM, HA5.out.row.frm HF6.out ?_, HA5.out.le⟩
    · simp only [List.mem_singleton]; exact blk_ne HA5.out.obj hds (by decide)
    · intro x hx; simp only [List.mem_singleton]; exact HA5.out.row.ne hds (by decide) x hx
theorem mWaits_end (h : MbAt w X) {i : Nat} {t : Tv} (ht : X.tv[i]? = some t)
    (HE : Calls Try.prog 61 #[.iface t.T (.pointer (some ⟨t.a, 0, none⟩))] w (Ret (.bool true) (fun w' => Frm [] w w'))) :
    Calls Try.prog 36 #[.pointer (some ⟨X.q, 0, none⟩), .int .i64 (i : Int)] w (Ret (.bool false) (fun w' => Frm [] w w')) := by
  have hi : i < X.tv.length := (List.getElem?_eq_some_iff.1 ht).1
  have hno := mno_at h i
  rw [noTh_nat hi] at hno
  have HNO := Lib.hid hno
  have HD := Lib.hid (mDone_at h ht HE)
  clear h hno HE ht
  go_enter Try.func36, Try.ntmps36
  go_wp2_with fail
  refine HNO.out.mono ?_
  rintro e1 w' ⟨rfl, rfl⟩
  go_wp2_with fail
  refine HD.out.mono ?_
  rintro e1 w1 ⟨rfl, hF1⟩
  have HF := Lib.hid hF1
  clear hF1
  go_wp2
  go_ret
  exact ⟨rfl, HF.out⟩
end
end Go.Proofs.Ytieccmmnfnpcoaa
