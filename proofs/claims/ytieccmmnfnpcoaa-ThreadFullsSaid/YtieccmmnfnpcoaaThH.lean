/- Stage 12: the step of a code. -/
import Derived.Test.YtieccmmnfnpcoaaThG
namespace Go.Proofs.Ytieccmmnfnpcoaa
open Go.ChangeShapes Go.WideShapes Go.ChangeAt Go.RowKit
set_option linter.unusedVariables false
theorem mWs_load (ws : List Int) (z : Int) : mWs ws ⟨1, z, 0, 0⟩ = ws := by
  unfold mWs
  split
  · simp only [aft]
    rw [if_neg (by decide), if_neg (by decide)]
    rename_i h
    dsimp only at h
    have hz : 0 ≤ z ∧ z < ws.length := by unfold mErr at h; rw [if_neg (by omega)] at h; split at h <;> simp_all
    apply List.ext_getElem?; intro j; rw [List.getElem?_set]; split
    · rename_i e; subst e; rw [if_pos (by omega), List.getD_eq_getElem?_getD, List.getElem?_eq_getElem (by omega)]; rfl
    · rfl
  · rfl
def Cd.reg (x : Cd) (y : Ins) (did : Acc) : Cd :=
  if y.k ≤ 4 then { x with g := x.g.set y.r.toNat (ival y x.g did) }
  else if y.k = 6 then { x with g := x.g.set y.r.toNat y.v }
  else if y.k = 7 then { x with g := x.g.set y.r.toNat (IntKind.u64.wrap (x.g.getD y.r.toNat 0 + y.v)) }
  else x
/-- What a step comes to: whether it has waited, the error, the code, the words, the access. -/
structure Rs where
  wt : Bool
  e : Int
  x : Cd
  ws : List Int
  did : Acc
def cErr (ws : List Int) (x : Cd) (y : Ins) : Int := if y.k ≤ 5 then mErr ws.length (iacc y x.g).k (iacc y x.g).w else 0
def cstep (ws : List Int) (x : Cd) (y : Ins) : Rs :=
  if cErr ws x y ≠ 0 then ⟨false, cErr ws x y, x, ws, acc0⟩
  else if y.k = 5 ∧ (mRes ws (iacc y x.g)).b ≠ y.v then ⟨true, 0, x, ws, mRes ws (iacc y x.g)⟩
  else ⟨false, 0, (x.reg y (mRes ws (iacc y x.g))).go y, mWs ws (iacc y x.g), mRes ws (iacc y x.g)⟩
def CsQ (K : Bool) (w : World) (p d cm q qc b c : Nat) (R : Rs) (e : Ending) (w' : World) : Prop :=
  Ret (.tuple #[.bool R.wt, .int .i64 R.e]) (fun w' => Frm [d, q, qc] w w' ∧ Mm K w' p d cm q (nAcc K R.did) R.ws ∧ CodeAt w' qc b c R.x) e w'
section
variable {K : Bool} {w : World} {p d cm q b c qc : Nat} {ws : List Int} {x : Cd}


set_option maxRecDepth 100000 in
theorem step_8 (h : CodeAt w qc b c x) (hM : Mm K w p d cm q acc0 ws) (y : Ins) (hn : x.l[x.nx]? = some y) (hk : y.k = 8) :
    Calls Try.prog 71 #[.pointer (some ⟨qc, 0, none⟩), .iface (tMm K) (.pointer (some ⟨aMm K p q, 0, none⟩))] w (CsQ K w p d cm q qc b c (cstep ws x y)) := by
  have hy := h.ok _ _ hn
  have hnl : x.nx < x.l.length := (List.getElem?_eq_some_iff.1 hn).1
  obtain ⟨i0, i1, i2, i3⟩ := h.ins hn
  obtain ⟨k, r, w0, v⟩ := y
  dsimp only at hk i0 i1 i2 i3
  subst hk
  have h0 := h.c0
  have h5 := h.c5
  have hix := ix_ins (b := b) (c := c) hnl
  obtain ⟨e1, e2, e3⟩ := hM.ne h.obj (by decide) (by decide) (by decide)
  obtain ⟨f1, f2, f3⟩ : b ≠ p ∧ b ≠ d ∧ b ≠ q := by
    obtain ⟨_, _, ⟨hh, _⟩ | ⟨g, cs, hg, _, hb, _⟩⟩ := h.row
    · cases hh
    · cases hg; exact hM.ne hb (by decide) (by decide) (by decide)
  have hbl := h.blt
  have hql := h.lt
  have hpl := hM.plt
  have hdl := hM.dlt
  have hqm := hM.qlt
  have H := Lib.hid h
  have HM := Lib.hid hM
  have HY := Lib.hid hy
  have HN := Lib.hid hnl
  clear h hM hn hy
  go_enter Try.func71, Try.ntmps71
  go_wp2_with fail
  go_region
  have hF : Frm [] w (w.alloc (.cells #[.int .i64 8, .int .i64 r, .int .i64 w0, .int .u64 v] 74)).drew := ((Frm.refl _ _).alloc _).drew
  have hB : (w.alloc (.cells #[.int .i64 8, .int .i64 r, .int .i64 w0, .int .u64 v] 74)).drew.heap[w.heap.size]? = some (.cells #[.int .i64 8, .int .i64 r, .int .i64 w0, .int .u64 v] 74 (0, 0)) := heap_alloc_new _ _
  generalize (w.alloc (.cells #[.int .i64 8, .int .i64 r, .int .i64 w0, .int .u64 v] 74)).drew = X at hF hB ⊢
  obtain ⟨x0, x1, x2, x3⟩ := cells4 hB
  have hA := H.out.frm0 hF
  have hMX := HM.out.frm0 hF
  have HB := Lib.hid hB
  have HA := Lib.hid hA
  have HMX := Lib.hid hMX
  have HF := Lib.hid hF
  have hR : cstep ws x ⟨8, r, w0, v⟩ = ⟨false, 0, x.go ⟨8, r, w0, v⟩, ws, acc0⟩ := rfl
  have HR := Lib.hid hR
  clear hR hF hB hA hMX h0 h5
  go_wp2_with fail
  refine (cgo_at HA.out ⟨8, r, w0, v⟩ HY.out HN.out).mono ?_
  rintro e w3 ⟨rfl, hF3, hA3⟩
  have HF3 := Lib.hid hF3
  have HA3 := Lib.hid hA3
  clear hF3 hA3
  go_wp2
  go_ret2
  unfold CsQ
  rw [HR.out]
  exact ⟨rfl, HF.out.nil.trans (HF3.out.weak (by simp)), (by have := HMX.out.frm HF3.out (by simpa using e1.symm) (by simpa using e2.symm) (by simpa using e3.symm); cases K <;> exact this), HA3.out⟩

set_option maxRecDepth 100000 in
theorem step_9 (h : CodeAt w qc b c x) (hM : Mm K w p d cm q acc0 ws) (y : Ins) (hn : x.l[x.nx]? = some y) (hk : y.k = 9) :
    Calls Try.prog 71 #[.pointer (some ⟨qc, 0, none⟩), .iface (tMm K) (.pointer (some ⟨aMm K p q, 0, none⟩))] w (CsQ K w p d cm q qc b c (cstep ws x y)) := by
  have hy := h.ok _ _ hn
  have hnl : x.nx < x.l.length := (List.getElem?_eq_some_iff.1 hn).1
  obtain ⟨i0, i1, i2, i3⟩ := h.ins hn
  obtain ⟨k, r, w0, v⟩ := y
  dsimp only at hk i0 i1 i2 i3
  subst hk
  have h0 := h.c0
  have h5 := h.c5
  have hix := ix_ins (b := b) (c := c) hnl
  obtain ⟨e1, e2, e3⟩ := hM.ne h.obj (by decide) (by decide) (by decide)
  obtain ⟨f1, f2, f3⟩ : b ≠ p ∧ b ≠ d ∧ b ≠ q := by
    obtain ⟨_, _, ⟨hh, _⟩ | ⟨g, cs, hg, _, hb, _⟩⟩ := h.row
    · cases hh
    · cases hg; exact hM.ne hb (by decide) (by decide) (by decide)
  have hbl := h.blt
  have hql := h.lt
  have hpl := hM.plt
  have hdl := hM.dlt
  have hqm := hM.qlt
  have H := Lib.hid h
  have HM := Lib.hid hM
  have HY := Lib.hid hy
  have HN := Lib.hid hnl
  clear h hM hn hy
  go_enter Try.func71, Try.ntmps71
  go_wp2_with fail
  go_region
  have hF : Frm [] w (w.alloc (.cells #[.int .i64 9, .int .i64 r, .int .i64 w0, .int .u64 v] 74)).drew := ((Frm.refl _ _).alloc _).drew
  have hB : (w.alloc (.cells #[.int .i64 9, .int .i64 r, .int .i64 w0, .int .u64 v] 74)).drew.heap[w.heap.size]? = some (.cells #[.int .i64 9, .int .i64 r, .int .i64 w0, .int .u64 v] 74 (0, 0)) := heap_alloc_new _ _
  generalize (w.alloc (.cells #[.int .i64 9, .int .i64 r, .int .i64 w0, .int .u64 v] 74)).drew = X at hF hB ⊢
  obtain ⟨x0, x1, x2, x3⟩ := cells4 hB
  have hA := H.out.frm0 hF
  have hMX := HM.out.frm0 hF
  have HB := Lib.hid hB
  have HA := Lib.hid hA
  have HMX := Lib.hid hMX
  have HF := Lib.hid hF
  have hR : cstep ws x ⟨9, r, w0, v⟩ = ⟨false, 0, x.go ⟨9, r, w0, v⟩, ws, acc0⟩ := rfl
  have HR := Lib.hid hR
  clear hR hF hB hA hMX h0 h5
  go_wp2_with fail
  refine (cgo_at HA.out ⟨9, r, w0, v⟩ HY.out HN.out).mono ?_
  rintro e w3 ⟨rfl, hF3, hA3⟩
  have HF3 := Lib.hid hF3
  have HA3 := Lib.hid hA3
  clear hF3 hA3
  go_wp2
  go_ret2
  unfold CsQ
  rw [HR.out]
  exact ⟨rfl, HF.out.nil.trans (HF3.out.weak (by simp)), (by have := HMX.out.frm HF3.out (by simpa using e1.symm) (by simpa using e2.symm) (by simpa using e3.symm); cases K <;> exact this), HA3.out⟩

set_option maxRecDepth 100000 in
theorem step_6 (h : CodeAt w qc b c x) (hM : Mm K w p d cm q acc0 ws) (y : Ins) (hn : x.l[x.nx]? = some y) (hk : y.k = 6) :
    Calls Try.prog 71 #[.pointer (some ⟨qc, 0, none⟩), .iface (tMm K) (.pointer (some ⟨aMm K p q, 0, none⟩))] w (CsQ K w p d cm q qc b c (cstep ws x y)) := by
  have hy := h.ok _ _ hn
  have hnl : x.nx < x.l.length := (List.getElem?_eq_some_iff.1 hn).1
  obtain ⟨i0, i1, i2, i3⟩ := h.ins hn
  have hr := alw_r hy (by omega)
  obtain ⟨k, r, w0, v⟩ := y
  dsimp only at hk i0 i1 i2 i3
  subst hk
  dsimp only at hr
  obtain ⟨r, rfl⟩ := Int.eq_ofNat_of_zero_le hr.1
  have hr4 : r < 4 := by omega
  have hixr := ix_reg (q := qc) hr4
  clear hr
  have h0 := h.c0
  have h5 := h.c5
  have hix := ix_ins (b := b) (c := c) hnl
  obtain ⟨e1, e2, e3⟩ := hM.ne h.obj (by decide) (by decide) (by decide)
  obtain ⟨f1, f2, f3⟩ : b ≠ p ∧ b ≠ d ∧ b ≠ q := by
    obtain ⟨_, _, ⟨hh, _⟩ | ⟨g, cs, hg, _, hb, _⟩⟩ := h.row
    · cases hh
    · cases hg; exact hM.ne hb (by decide) (by decide) (by decide)
  have hbl := h.blt
  have hql := h.lt
  have hpl := hM.plt
  have hdl := hM.dlt
  have hqm := hM.qlt
  have H := Lib.hid h
  have HM := Lib.hid hM
  have HY := Lib.hid hy
  have HN := Lib.hid hnl
  clear h hM hn hy
  go_enter Try.func71, Try.ntmps71
  go_wp2_with fail
  go_region
  have hF : Frm [] w (w.alloc (.cells #[.int .i64 6, .int .i64 r, .int .i64 w0, .int .u64 v] 74)).drew := ((Frm.refl _ _).alloc _).drew
  have hB : (w.alloc (.cells #[.int .i64 6, .int .i64 r, .int .i64 w0, .int .u64 v] 74)).drew.heap[w.heap.size]? = some (.cells #[.int .i64 6, .int .i64 r, .int .i64 w0, .int .u64 v] 74 (0, 0)) := heap_alloc_new _ _
  generalize (w.alloc (.cells #[.int .i64 6, .int .i64 r, .int .i64 w0, .int .u64 v] 74)).drew = X at hF hB ⊢
  obtain ⟨x0, x1, x2, x3⟩ := cells4 hB
  have hA := H.out.frm0 hF
  have hMX := HM.out.frm0 hF
  have HB := Lib.hid hB
  have HA := Lib.hid hA
  have HMX := Lib.hid hMX
  have HF := Lib.hid hF
  have hR : cstep ws x ⟨6, r, w0, v⟩ = ⟨false, 0, ({ x with g := x.g.set r v } : Cd).go ⟨6, r, w0, v⟩, ws, acc0⟩ := rfl
  have HR := Lib.hid hR
  have hfz := hA.frz (1 + r)
  have hcr := hA.cr hr4
  have hA4 := Lib.hid ((hA.setR hr4 v).drewN 1)
  have hF4 := Lib.hid ((((Frm.refl [qc] X).setCell ⟨qc, 1 + r, none⟩ (.int .u64 v) (.inl (by simp)))).drewN 1)
  have hB4 := Lib.hid (heap_setCell_far ⟨qc, 1 + r, none⟩ (.int .u64 v) (show qc ≠ w.heap.size by omega) hB)
  clear hR hF hB hA hMX h0 h5
  go_wp2_with fail
  go_region
  have hB5 : (X.setCell ⟨qc, 1 + r, none⟩ (.int .u64 v)).drew.heap[w.heap.size]? = _ := hB4.out
  have hA5 : CodeAt (X.setCell ⟨qc, 1 + r, none⟩ (.int .u64 v)).drew qc b c _ := hA4.out
  have hF5 : Frm [qc] X (X.setCell ⟨qc, 1 + r, none⟩ (.int .u64 v)).drew := hF4.out
  clear hA4 hF4 hB4
  generalize (X.setCell ⟨qc, 1 + r, none⟩ (.int .u64 v)).drew = X5 at hB5 hA5 hF5 ⊢
  clear x0 x1 x2 x3 hfz hcr
  obtain ⟨x0, x1, x2, x3⟩ := cells4 hB5
  have HA5 := Lib.hid hA5
  have HF5 := Lib.hid hF5
  clear hA5 hF5 hB5
  go_wp2_with fail
  refine (cgo_at HA5.out ⟨6, r, w0, v⟩ HY.out HN.out).mono ?_
  rintro e w3 ⟨rfl, hF3, hA3⟩
  have HF3 := Lib.hid hF3
  have HA3 := Lib.hid hA3
  clear hF3 hA3
  go_wp2
  go_ret2
  unfold CsQ
  rw [HR.out]
  have hT := HF5.out.trans HF3.out
  exact ⟨rfl, HF.out.nil.trans (hT.weak (by simp)), (by have := HMX.out.frm hT (by simpa using e1.symm) (by simpa using e2.symm) (by simpa using e3.symm); cases K <;> exact this), HA3.out⟩

set_option maxRecDepth 100000 in
theorem step_7 (h : CodeAt w qc b c x) (hM : Mm K w p d cm q acc0 ws) (y : Ins) (hn : x.l[x.nx]? = some y) (hk : y.k = 7) :
    Calls Try.prog 71 #[.pointer (some ⟨qc, 0, none⟩), .iface (tMm K) (.pointer (some ⟨aMm K p q, 0, none⟩))] w (CsQ K w p d cm q qc b c (cstep ws x y)) := by
  have hy := h.ok _ _ hn
  have hnl : x.nx < x.l.length := (List.getElem?_eq_some_iff.1 hn).1
  obtain ⟨i0, i1, i2, i3⟩ := h.ins hn
  have hr := alw_r hy (by omega)
  obtain ⟨k, r, w0, v⟩ := y
  dsimp only at hk i0 i1 i2 i3
  subst hk
  dsimp only at hr
  obtain ⟨r, rfl⟩ := Int.eq_ofNat_of_zero_le hr.1
  have hr4 : r < 4 := by omega
  have hixr := ix_reg (q := qc) hr4
  clear hr
  have h0 := h.c0
  have h5 := h.c5
  have hix := ix_ins (b := b) (c := c) hnl
  obtain ⟨e1, e2, e3⟩ := hM.ne h.obj (by decide) (by decide) (by decide)
  obtain ⟨f1, f2, f3⟩ : b ≠ p ∧ b ≠ d ∧ b ≠ q := by
    obtain ⟨_, _, ⟨hh, _⟩ | ⟨g, cs, hg, _, hb, _⟩⟩ := h.row
    · cases hh
    · cases hg; exact hM.ne hb (by decide) (by decide) (by decide)
  have hbl := h.blt
  have hql := h.lt
  have hpl := hM.plt
  have hdl := hM.dlt
  have hqm := hM.qlt
  have H := Lib.hid h
  have HM := Lib.hid hM
  have HY := Lib.hid hy
  have HN := Lib.hid hnl
  clear h hM hn hy
  go_enter Try.func71, Try.ntmps71
  go_wp2_with fail
  go_region
  have hF : Frm [] w (w.alloc (.cells #[.int .i64 7, .int .i64 r, .int .i64 w0, .int .u64 v] 74)).drew := ((Frm.refl _ _).alloc _).drew
  have hB : (w.alloc (.cells #[.int .i64 7, .int .i64 r, .int .i64 w0, .int .u64 v] 74)).drew.heap[w.heap.size]? = some (.cells #[.int .i64 7, .int .i64 r, .int .i64 w0, .int .u64 v] 74 (0, 0)) := heap_alloc_new _ _
  generalize (w.alloc (.cells #[.int .i64 7, .int .i64 r, .int .i64 w0, .int .u64 v] 74)).drew = X at hF hB ⊢
  obtain ⟨x0, x1, x2, x3⟩ := cells4 hB
  have hA := H.out.frm0 hF
  have hMX := HM.out.frm0 hF
  have HB := Lib.hid hB
  have HA := Lib.hid hA
  have HMX := Lib.hid hMX
  have HF := Lib.hid hF
  obtain ⟨u, hu⟩ : ∃ u, x.g.getD r 0 = u := ⟨_, rfl⟩
  have hR : cstep ws x ⟨7, r, w0, v⟩ = ⟨false, 0, ({ x with g := x.g.set r (IntKind.u64.wrap (u + v)) } : Cd).go ⟨7, r, w0, v⟩, ws, acc0⟩ := by rw [← hu]; rfl
  have HR := Lib.hid hR
  have hfz := hA.frz (1 + r)
  have hcr := hA.cr hr4
  rw [hu] at hcr
  have hA4 := Lib.hid ((hA.setR hr4 (IntKind.u64.wrap (u + v))).drewN 1)
  have hF4 := Lib.hid ((((Frm.refl [qc] X).setCell ⟨qc, 1 + r, none⟩ (.int .u64 (IntKind.u64.wrap (u + v))) (.inl (by simp)))).drewN 1)
  have hB4 := Lib.hid (heap_setCell_far ⟨qc, 1 + r, none⟩ (.int .u64 (IntKind.u64.wrap (u + v))) (show qc ≠ w.heap.size by omega) hB)
  clear hR hF hB hA hMX h0 h5 hu
  go_wp2_with fail
  go_region
  have hB5 : (X.setCell ⟨qc, 1 + r, none⟩ (.int .u64 (IntKind.u64.wrap (u + v)))).drew.heap[w.heap.size]? = _ := hB4.out
  have hA5 : CodeAt (X.setCell ⟨qc, 1 + r, none⟩ (.int .u64 (IntKind.u64.wrap (u + v)))).drew qc b c _ := hA4.out
  have hF5 : Frm [qc] X (X.setCell ⟨qc, 1 + r, none⟩ (.int .u64 (IntKind.u64.wrap (u + v)))).drew := hF4.out
  clear hA4 hF4 hB4
  generalize (X.setCell ⟨qc, 1 + r, none⟩ (.int .u64 (IntKind.u64.wrap (u + v)))).drew = X5 at hB5 hA5 hF5 ⊢
  clear x0 x1 x2 x3 hfz hcr
  obtain ⟨x0, x1, x2, x3⟩ := cells4 hB5
  have HA5 := Lib.hid hA5
  have HF5 := Lib.hid hF5
  clear hA5 hF5 hB5
  go_wp2_with fail
  refine (cgo_at HA5.out ⟨7, r, w0, v⟩ HY.out HN.out).mono ?_
  rintro e w3 ⟨rfl, hF3, hA3⟩
  have HF3 := Lib.hid hF3
  have HA3 := Lib.hid hA3
  clear hF3 hA3
  go_wp2
  go_ret2
  unfold CsQ
  rw [HR.out]
  have hT := HF5.out.trans HF3.out
  exact ⟨rfl, HF.out.nil.trans (hT.weak (by simp)), (by have := HMX.out.frm hT (by simpa using e1.symm) (by simpa using e2.symm) (by simpa using e3.symm); cases K <;> exact this), HA3.out⟩

set_option maxRecDepth 100000 in
theorem step_5 (h : CodeAt w qc b c x) (hM : Mm K w p d cm q acc0 ws) (y : Ins) (hn : x.l[x.nx]? = some y) (hk : y.k = 5) :
    Calls Try.prog 71 #[.pointer (some ⟨qc, 0, none⟩), .iface (tMm K) (.pointer (some ⟨aMm K p q, 0, none⟩))] w (CsQ K w p d cm q qc b c (cstep ws x y)) := by
  have hy := h.ok _ _ hn
  have hnl : x.nx < x.l.length := (List.getElem?_eq_some_iff.1 hn).1
  obtain ⟨i0, i1, i2, i3⟩ := h.ins hn
  obtain ⟨k, r, w0, v⟩ := y
  dsimp only at hk i0 i1 i2 i3
  subst hk
  have h0 := h.c0
  have h5 := h.c5
  have hix := ix_ins (b := b) (c := c) hnl
  obtain ⟨e1, e2, e3⟩ := hM.ne h.obj (by decide) (by decide) (by decide)
  obtain ⟨f1, f2, f3⟩ : b ≠ p ∧ b ≠ d ∧ b ≠ q := by
    obtain ⟨_, _, ⟨hh, _⟩ | ⟨g, cs, hg, _, hb, _⟩⟩ := h.row
    · cases hh
    · cases hg; exact hM.ne hb (by decide) (by decide) (by decide)
  have hbl := h.blt
  have hql := h.lt
  have hpl := hM.plt
  have hdl := hM.dlt
  have hqm := hM.qlt
  have H := Lib.hid h
  have HM := Lib.hid hM
  have HY := Lib.hid hy
  have HN := Lib.hid hnl
  clear h hM hn hy
  go_enter Try.func71, Try.ntmps71
  go_wp2_with fail
  go_region
  have hF : Frm [] w (w.alloc (.cells #[.int .i64 5, .int .i64 r, .int .i64 w0, .int .u64 v] 74)).drew := ((Frm.refl _ _).alloc _).drew
  have hB : (w.alloc (.cells #[.int .i64 5, .int .i64 r, .int .i64 w0, .int .u64 v] 74)).drew.heap[w.heap.size]? = some (.cells #[.int .i64 5, .int .i64 r, .int .i64 w0, .int .u64 v] 74 (0, 0)) := heap_alloc_new _ _
  generalize (w.alloc (.cells #[.int .i64 5, .int .i64 r, .int .i64 w0, .int .u64 v] 74)).drew = X at hF hB ⊢
  obtain ⟨x0, x1, x2, x3⟩ := cells4 hB
  have hA := H.out.frm0 hF
  have hMX := HM.out.frm0 hF
  have HB := Lib.hid hB
  have HA := Lib.hid hA
  have HMX := Lib.hid hMX
  have HF := Lib.hid hF
  have ha : iacc ⟨5, r, w0, v⟩ x.g = ⟨1, w0, 0, 0⟩ := rfl
  have hE : cErr ws x ⟨5, r, w0, v⟩ = mErr ws.length 1 w0 := by unfold cErr; rw [ha]; rfl
  have hm := m_Load K (aMm K p q)
  have hc := c_Load K
  clear hF hB hA hMX h0 h5
  go_wp2_with fail
  refine (Load_m0 HMX.out _).mono ?_
  rintro e w4 ⟨rfl, hF4, hM4⟩
  have hB4 := hF4.heap HB.out (by simp; omega)
  have hA4 := HA.out.frm hF4 (by simp [e2, e3]) (by simp [f2, f3])
  clear x0 x1 x2 x3
  obtain ⟨x0, x1, x2, x3⟩ := cells4 hB4
  have hFF := HF.out.nil.trans hF4
  have HA4 := Lib.hid hA4
  have HF4 := Lib.hid hFF
  have HM4 := Lib.hid hM4
  clear hB4 hA4 hF4 hM4 hFF
  by_cases he : mErr ws.length 1 w0 = 0
  · have hb0 : (mErr ws.length 1 w0 != 0) = false := by simp [he]
    have hw : mWs ws ⟨1, w0, 0, 0⟩ = ws := mWs_load _ _
    by_cases hb : (mRes ws ⟨1, w0, 0, 0⟩).b = v
    · have hb1 : ((mRes ws ⟨1, w0, 0, 0⟩).b != v) = false := by simp [hb]
      have hR : cstep ws x ⟨5, r, w0, v⟩ = ⟨false, 0, x.go ⟨5, r, w0, v⟩, ws, mRes ws ⟨1, w0, 0, 0⟩⟩ := by
        unfold cstep; rw [hE, ha, if_neg (by simp [he]), if_neg (by simp [hb]), hw]; rfl
      rw [hw] at HM4
      have HR := Lib.hid hR
      clear hR hb he hE ha hw
      go_wp2_with fail
      refine (cgo_at HA4.out ⟨5, r, w0, v⟩ HY.out HN.out).mono ?_
      rintro e w3 ⟨rfl, hF3, hA3⟩
      have HF3 := Lib.hid hF3
      have HA3 := Lib.hid hA3
      clear hF3 hA3
      go_wp2
      go_ret2
      unfold CsQ
      rw [HR.out]
      exact ⟨rfl, (HF4.out.weak (by simp)).trans (HF3.out.weak (by simp)), HM4.out.frm HF3.out (by simpa using e1.symm) (by simpa using e2.symm) (by simpa using e3.symm), HA3.out⟩
    · have hb1 : ((mRes ws ⟨1, w0, 0, 0⟩).b != v) = true := by simp [hb]
      have hR : cstep ws x ⟨5, r, w0, v⟩ = ⟨true, 0, x, ws, mRes ws ⟨1, w0, 0, 0⟩⟩ := by
        unfold cstep; rw [hE, ha, if_neg (by simp [he]), if_pos ⟨rfl, hb⟩]
      rw [hw] at HM4
      have HR := Lib.hid hR
      clear hR hb he hE ha hw
      go_wp2
      go_ret2
      unfold CsQ
      rw [HR.out]
      exact ⟨rfl, HF4.out.weak (by simp), HM4.out, HA4.out⟩
  · have hb0 : (mErr ws.length 1 w0 != 0) = true := by simp [he]
    have hR : cstep ws x ⟨5, r, w0, v⟩ = ⟨false, mErr ws.length 1 w0, x, ws, acc0⟩ := by
      unfold cstep; rw [hE, if_pos he]
    have hr0 : mRes ws ⟨1, w0, 0, 0⟩ = acc0 := by unfold mRes; rw [if_neg he]; rfl
    have hw : mWs ws ⟨1, w0, 0, 0⟩ = ws := mWs_load _ _
    rw [hr0, hw] at HM4
    have HR := Lib.hid hR
    clear hR he hE ha hw hr0
    go_wp2
    go_ret2
    unfold CsQ
    rw [HR.out]
    exact ⟨rfl, HF4.out.weak (by simp), HM4.out, HA4.out⟩

set_option maxRecDepth 100000 in
theorem step_1 (h : CodeAt w qc b c x) (hM : Mm K w p d cm q acc0 ws) (y : Ins) (hn : x.l[x.nx]? = some y) (hk : y.k = 1) :
    Calls Try.prog 71 #[.pointer (some ⟨qc, 0, none⟩), .iface (tMm K) (.pointer (some ⟨aMm K p q, 0, none⟩))] w (CsQ K w p d cm q qc b c (cstep ws x y)) := by
  have hy := h.ok _ _ hn
  have hnl : x.nx < x.l.length := (List.getElem?_eq_some_iff.1 hn).1
  obtain ⟨i0, i1, i2, i3⟩ := h.ins hn
  have hr := alw_r hy (by omega)
  obtain ⟨k, r, w0, v⟩ := y
  dsimp only at hk i0 i1 i2 i3
  subst hk
  dsimp only at hr
  obtain ⟨r, rfl⟩ := Int.eq_ofNat_of_zero_le hr.1
  have hr4 : r < 4 := by omega
  have hixr := ix_reg (q := qc) hr4
  clear hr
  have h0 := h.c0
  have h5 := h.c5
  have hix := ix_ins (b := b) (c := c) hnl
  obtain ⟨e1, e2, e3⟩ := hM.ne h.obj (by decide) (by decide) (by decide)
  obtain ⟨f1, f2, f3⟩ : b ≠ p ∧ b ≠ d ∧ b ≠ q := by
    obtain ⟨_, _, ⟨hh, _⟩ | ⟨g, cs, hg, _, hb, _⟩⟩ := h.row
    · cases hh
    · cases hg; exact hM.ne hb (by decide) (by decide) (by decide)
  have hbl := h.blt
  have hql := h.lt
  have hpl := hM.plt
  have hdl := hM.dlt
  have hqm := hM.qlt
  have H := Lib.hid h
  have HM := Lib.hid hM
  have HY := Lib.hid hy
  have HN := Lib.hid hnl
  clear h hM hn hy
  go_enter Try.func71, Try.ntmps71
  go_wp2_with fail
  go_region
  have hF : Frm [] w (w.alloc (.cells #[.int .i64 1, .int .i64 r, .int .i64 w0, .int .u64 v] 74)).drew := ((Frm.refl _ _).alloc _).drew
  have hB : (w.alloc (.cells #[.int .i64 1, .int .i64 r, .int .i64 w0, .int .u64 v] 74)).drew.heap[w.heap.size]? = some (.cells #[.int .i64 1, .int .i64 r, .int .i64 w0, .int .u64 v] 74 (0, 0)) := heap_alloc_new _ _
  generalize (w.alloc (.cells #[.int .i64 1, .int .i64 r, .int .i64 w0, .int .u64 v] 74)).drew = X at hF hB ⊢
  obtain ⟨x0, x1, x2, x3⟩ := cells4 hB
  have hA := H.out.frm0 hF
  have hMX := HM.out.frm0 hF
  have HB := Lib.hid hB
  have HA := Lib.hid hA
  have HMX := Lib.hid hMX
  have HF := Lib.hid hF
  clear hF hB hA hMX h0 h5
  have hE : cErr ws x ⟨1, r, w0, v⟩ = mErr ws.length (iacc ⟨1, r, w0, v⟩ x.g).k (iacc ⟨1, r, w0, v⟩ x.g).w := rfl
  go_wp2_with fail
  refine (cacc_at HA.out HMX.out ⟨1, r, w0, v⟩ ⟨by show (1 : Int) ≤ 1; decide, by show (1 : Int) ≤ 4; decide⟩ ⟨by simp, by show (r : Int) < 4; omega⟩).mono ?_
  rintro e w4 ⟨u, ⟨rfl, hF4, hM4⟩, hv⟩
  have hB4 := hF4.heap HB.out (by simp; omega)
  have hA4 := HA.out.frm hF4 (by simp [e2, e3]) (by simp [f2, f3])
  clear x0 x1 x2 x3
  obtain ⟨x0, x1, x2, x3⟩ := cells4 hB4
  have hFF := HF.out.nil.trans hF4
  have HB4 := Lib.hid hB4
  have HA4 := Lib.hid hA4
  have HF4 := Lib.hid hFF
  have HM4 := Lib.hid hM4
  clear hB4 hA4 hF4 hM4 hFF
  by_cases he : cErr ws x ⟨1, r, w0, v⟩ = 0
  · have hv1 := hv (by rw [← hE]; exact he)
    have hR : cstep ws x ⟨1, r, w0, v⟩ = ⟨false, 0, ({ x with g := x.g.set r u } : Cd).go ⟨1, r, w0, v⟩, mWs ws (iacc ⟨1, r, w0, v⟩ x.g), mRes ws (iacc ⟨1, r, w0, v⟩ x.g)⟩ := by
      rw [hv1]; unfold cstep; rw [if_neg (by simp [he]), if_neg (by simp)]; rfl
    rw [← hE, he]
    have HR := Lib.hid hR
    have hfz := HA4.out.frz (1 + r)
    have hcr := HA4.out.cr hr4
    have hA5 := Lib.hid ((HA4.out.setR hr4 u).drewN 1)
    have hF5 := Lib.hid ((((Frm.refl [qc] w4).setCell ⟨qc, 1 + r, none⟩ (.int .u64 u) (.inl (by simp)))).drewN 1)
    have hB5 := Lib.hid (heap_setCell_far ⟨qc, 1 + r, none⟩ (.int .u64 u) (show qc ≠ w.heap.size by omega) HB4.out)
    clear hR he hE hv hv1
    go_wp2_with fail
    go_region
    have hB6 : (w4.setCell ⟨qc, 1 + r, none⟩ (.int .u64 u)).drew.heap[w.heap.size]? = _ := hB5.out
    have hA6 : CodeAt (w4.setCell ⟨qc, 1 + r, none⟩ (.int .u64 u)).drew qc b c _ := hA5.out
    have hF6 : Frm [qc] w4 (w4.setCell ⟨qc, 1 + r, none⟩ (.int .u64 u)).drew := hF5.out
    clear hA5 hF5 hB5
    generalize (w4.setCell ⟨qc, 1 + r, none⟩ (.int .u64 u)).drew = X5 at hB6 hA6 hF6 ⊢
    clear x0 x1 x2 x3 hfz hcr
    obtain ⟨x0, x1, x2, x3⟩ := cells4 hB6
    have HA5 := Lib.hid hA6
    have HF5 := Lib.hid hF6
    clear hA6 hF6 hB6
    go_wp2_with fail
    refine (cgo_at HA5.out ⟨1, r, w0, v⟩ HY.out HN.out).mono ?_
    rintro e w3 ⟨rfl, hF3, hA3⟩
    have HF3 := Lib.hid hF3
    have HA3 := Lib.hid hA3
    clear hF3 hA3
    go_wp2
    go_ret2
    unfold CsQ
    rw [HR.out]
    have hT := HF5.out.trans HF3.out
    exact ⟨rfl, (HF4.out.weak (by simp)).trans (hT.weak (by simp)), HM4.out.frm hT (by simpa using e1.symm) (by simpa using e2.symm) (by simpa using e3.symm), HA3.out⟩
  · have hb0 : (cErr ws x ⟨1, r, w0, v⟩ != 0) = true := by simp [he]
    have hR : cstep ws x ⟨1, r, w0, v⟩ = ⟨false, cErr ws x ⟨1, r, w0, v⟩, x, ws, acc0⟩ := by
      unfold cstep; rw [if_pos he]
    have he2 : mErr ws.length (iacc ⟨1, r, w0, v⟩ x.g).k (iacc ⟨1, r, w0, v⟩ x.g).w ≠ 0 := by rw [← hE]; exact he
    have hr0 : mRes ws (iacc ⟨1, r, w0, v⟩ x.g) = acc0 := by unfold mRes; rw [if_neg he2]; rfl
    have hw : mWs ws (iacc ⟨1, r, w0, v⟩ x.g) = ws := by unfold mWs; rw [if_neg he2]
    rw [hr0, hw] at HM4
    rw [← hE]
    have HR := Lib.hid hR
    clear hR he hE hw hr0 he2 hv
    go_wp2
    go_ret2
    unfold CsQ
    rw [HR.out]
    exact ⟨rfl, HF4.out.weak (by simp), HM4.out, HA4.out⟩

set_option maxRecDepth 100000 in
theorem step_2 (h : CodeAt w qc b c x) (hM : Mm K w p d cm q acc0 ws) (y : Ins) (hn : x.l[x.nx]? = some y) (hk : y.k = 2) :
    Calls Try.prog 71 #[.pointer (some ⟨qc, 0, none⟩), .iface (tMm K) (.pointer (some ⟨aMm K p q, 0, none⟩))] w (CsQ K w p d cm q qc b c (cstep ws x y)) := by
  have hy := h.ok _ _ hn
  have hnl : x.nx < x.l.length := (List.getElem?_eq_some_iff.1 hn).1
  obtain ⟨i0, i1, i2, i3⟩ := h.ins hn
  have hr := alw_r hy (by omega)
  obtain ⟨k, r, w0, v⟩ := y
  dsimp only at hk i0 i1 i2 i3
  subst hk
  dsimp only at hr
  obtain ⟨r, rfl⟩ := Int.eq_ofNat_of_zero_le hr.1
  have hr4 : r < 4 := by omega
  have hixr := ix_reg (q := qc) hr4
  clear hr
  have h0 := h.c0
  have h5 := h.c5
  have hix := ix_ins (b := b) (c := c) hnl
  obtain ⟨e1, e2, e3⟩ := hM.ne h.obj (by decide) (by decide) (by decide)
  obtain ⟨f1, f2, f3⟩ : b ≠ p ∧ b ≠ d ∧ b ≠ q := by
    obtain ⟨_, _, ⟨hh, _⟩ | ⟨g, cs, hg, _, hb, _⟩⟩ := h.row
    · cases hh
    · cases hg; exact hM.ne hb (by decide) (by decide) (by decide)
  have hbl := h.blt
  have hql := h.lt
  have hpl := hM.plt
  have hdl := hM.dlt
  have hqm := hM.qlt
  have H := Lib.hid h
  have HM := Lib.hid hM
  have HY := Lib.hid hy
  have HN := Lib.hid hnl
  clear h hM hn hy
  go_enter Try.func71, Try.ntmps71
  go_wp2_with fail
  go_region
  have hF : Frm [] w (w.alloc (.cells #[.int .i64 2, .int .i64 r, .int .i64 w0, .int .u64 v] 74)).drew := ((Frm.refl _ _).alloc _).drew
  have hB : (w.alloc (.cells #[.int .i64 2, .int .i64 r, .int .i64 w0, .int .u64 v] 74)).drew.heap[w.heap.size]? = some (.cells #[.int .i64 2, .int .i64 r, .int .i64 w0, .int .u64 v] 74 (0, 0)) := heap_alloc_new _ _
  generalize (w.alloc (.cells #[.int .i64 2, .int .i64 r, .int .i64 w0, .int .u64 v] 74)).drew = X at hF hB ⊢
  obtain ⟨x0, x1, x2, x3⟩ := cells4 hB
  have hA := H.out.frm0 hF
  have hMX := HM.out.frm0 hF
  have HB := Lib.hid hB
  have HA := Lib.hid hA
  have HMX := Lib.hid hMX
  have HF := Lib.hid hF
  clear hF hB hA hMX h0 h5
  have hE : cErr ws x ⟨2, r, w0, v⟩ = mErr ws.length (iacc ⟨2, r, w0, v⟩ x.g).k (iacc ⟨2, r, w0, v⟩ x.g).w := rfl
  go_wp2_with fail
  refine (cacc_at HA.out HMX.out ⟨2, r, w0, v⟩ ⟨by show (1 : Int) ≤ 2; decide, by show (2 : Int) ≤ 4; decide⟩ ⟨by simp, by show (r : Int) < 4; omega⟩).mono ?_
  rintro e w4 ⟨u, ⟨rfl, hF4, hM4⟩, hv⟩
  have hB4 := hF4.heap HB.out (by simp; omega)
  have hA4 := HA.out.frm hF4 (by simp [e2, e3]) (by simp [f2, f3])
  clear x0 x1 x2 x3
  obtain ⟨x0, x1, x2, x3⟩ := cells4 hB4
  have hFF := HF.out.nil.trans hF4
  have HB4 := Lib.hid hB4
  have HA4 := Lib.hid hA4
  have HF4 := Lib.hid hFF
  have HM4 := Lib.hid hM4
  clear hB4 hA4 hF4 hM4 hFF
  by_cases he : cErr ws x ⟨2, r, w0, v⟩ = 0
  · have hv1 := hv (by rw [← hE]; exact he)
    have hR : cstep ws x ⟨2, r, w0, v⟩ = ⟨false, 0, ({ x with g := x.g.set r u } : Cd).go ⟨2, r, w0, v⟩, mWs ws (iacc ⟨2, r, w0, v⟩ x.g), mRes ws (iacc ⟨2, r, w0, v⟩ x.g)⟩ := by
      rw [hv1]; unfold cstep; rw [if_neg (by simp [he]), if_neg (by simp)]; rfl
    rw [← hE, he]
    have HR := Lib.hid hR
    have hfz := HA4.out.frz (1 + r)
    have hcr := HA4.out.cr hr4
    have hA5 := Lib.hid ((HA4.out.setR hr4 u).drewN 1)
    have hF5 := Lib.hid ((((Frm.refl [qc] w4).setCell ⟨qc, 1 + r, none⟩ (.int .u64 u) (.inl (by simp)))).drewN 1)
    have hB5 := Lib.hid (heap_setCell_far ⟨qc, 1 + r, none⟩ (.int .u64 u) (show qc ≠ w.heap.size by omega) HB4.out)
    clear hR he hE hv hv1
    go_wp2_with fail
    go_region
    have hB6 : (w4.setCell ⟨qc, 1 + r, none⟩ (.int .u64 u)).drew.heap[w.heap.size]? = _ := hB5.out
    have hA6 : CodeAt (w4.setCell ⟨qc, 1 + r, none⟩ (.int .u64 u)).drew qc b c _ := hA5.out
    have hF6 : Frm [qc] w4 (w4.setCell ⟨qc, 1 + r, none⟩ (.int .u64 u)).drew := hF5.out
    clear hA5 hF5 hB5
    generalize (w4.setCell ⟨qc, 1 + r, none⟩ (.int .u64 u)).drew = X5 at hB6 hA6 hF6 ⊢
    clear x0 x1 x2 x3 hfz hcr
    obtain ⟨x0, x1, x2, x3⟩ := cells4 hB6
    have HA5 := Lib.hid hA6
    have HF5 := Lib.hid hF6
    clear hA6 hF6 hB6
    go_wp2_with fail
    refine (cgo_at HA5.out ⟨2, r, w0, v⟩ HY.out HN.out).mono ?_
    rintro e w3 ⟨rfl, hF3, hA3⟩
    have HF3 := Lib.hid hF3
    have HA3 := Lib.hid hA3
    clear hF3 hA3
    go_wp2
    go_ret2
    unfold CsQ
    rw [HR.out]
    have hT := HF5.out.trans HF3.out
    exact ⟨rfl, (HF4.out.weak (by simp)).trans (hT.weak (by simp)), HM4.out.frm hT (by simpa using e1.symm) (by simpa using e2.symm) (by simpa using e3.symm), HA3.out⟩
  · have hb0 : (cErr ws x ⟨2, r, w0, v⟩ != 0) = true := by simp [he]
    have hR : cstep ws x ⟨2, r, w0, v⟩ = ⟨false, cErr ws x ⟨2, r, w0, v⟩, x, ws, acc0⟩ := by
      unfold cstep; rw [if_pos he]
    have he2 : mErr ws.length (iacc ⟨2, r, w0, v⟩ x.g).k (iacc ⟨2, r, w0, v⟩ x.g).w ≠ 0 := by rw [← hE]; exact he
    have hr0 : mRes ws (iacc ⟨2, r, w0, v⟩ x.g) = acc0 := by unfold mRes; rw [if_neg he2]; rfl
    have hw : mWs ws (iacc ⟨2, r, w0, v⟩ x.g) = ws := by unfold mWs; rw [if_neg he2]
    rw [hr0, hw] at HM4
    rw [← hE]
    have HR := Lib.hid hR
    clear hR he hE hw hr0 he2 hv
    go_wp2
    go_ret2
    unfold CsQ
    rw [HR.out]
    exact ⟨rfl, HF4.out.weak (by simp), HM4.out, HA4.out⟩

set_option maxRecDepth 100000 in
theorem step_3 (h : CodeAt w qc b c x) (hM : Mm K w p d cm q acc0 ws) (y : Ins) (hn : x.l[x.nx]? = some y) (hk : y.k = 3) :
    Calls Try.prog 71 #[.pointer (some ⟨qc, 0, none⟩), .iface (tMm K) (.pointer (some ⟨aMm K p q, 0, none⟩))] w (CsQ K w p d cm q qc b c (cstep ws x y)) := by
  have hy := h.ok _ _ hn
  have hnl : x.nx < x.l.length := (List.getElem?_eq_some_iff.1 hn).1
  obtain ⟨i0, i1, i2, i3⟩ := h.ins hn
  have hr := alw_r hy (by omega)
  obtain ⟨k, r, w0, v⟩ := y
  dsimp only at hk i0 i1 i2 i3
  subst hk
  dsimp only at hr
  obtain ⟨r, rfl⟩ := Int.eq_ofNat_of_zero_le hr.1
  have hr4 : r < 4 := by omega
  have hixr := ix_reg (q := qc) hr4
  clear hr
  have h0 := h.c0
  have h5 := h.c5
  have hix := ix_ins (b := b) (c := c) hnl
  obtain ⟨e1, e2, e3⟩ := hM.ne h.obj (by decide) (by decide) (by decide)
  obtain ⟨f1, f2, f3⟩ : b ≠ p ∧ b ≠ d ∧ b ≠ q := by
    obtain ⟨_, _, ⟨hh, _⟩ | ⟨g, cs, hg, _, hb, _⟩⟩ := h.row
    · cases hh
    · cases hg; exact hM.ne hb (by decide) (by decide) (by decide)
  have hbl := h.blt
  have hql := h.lt
  have hpl := hM.plt
  have hdl := hM.dlt
  have hqm := hM.qlt
  have H := Lib.hid h
  have HM := Lib.hid hM
  have HY := Lib.hid hy
  have HN := Lib.hid hnl
  clear h hM hn hy
  go_enter Try.func71, Try.ntmps71
  go_wp2_with fail
  go_region
  have hF : Frm [] w (w.alloc (.cells #[.int .i64 3, .int .i64 r, .int .i64 w0, .int .u64 v] 74)).drew := ((Frm.refl _ _).alloc _).drew
  have hB : (w.alloc (.cells #[.int .i64 3, .int .i64 r, .int .i64 w0, .int .u64 v] 74)).drew.heap[w.heap.size]? = some (.cells #[.int .i64 3, .int .i64 r, .int .i64 w0, .int .u64 v] 74 (0, 0)) := heap_alloc_new _ _
  generalize (w.alloc (.cells #[.int .i64 3, .int .i64 r, .int .i64 w0, .int .u64 v] 74)).drew = X at hF hB ⊢
  obtain ⟨x0, x1, x2, x3⟩ := cells4 hB
  have hA := H.out.frm0 hF
  have hMX := HM.out.frm0 hF
  have HB := Lib.hid hB
  have HA := Lib.hid hA
  have HMX := Lib.hid hMX
  have HF := Lib.hid hF
  clear hF hB hA hMX h0 h5
  have hE : cErr ws x ⟨3, r, w0, v⟩ = mErr ws.length (iacc ⟨3, r, w0, v⟩ x.g).k (iacc ⟨3, r, w0, v⟩ x.g).w := rfl
  go_wp2_with fail
  refine (cacc_at HA.out HMX.out ⟨3, r, w0, v⟩ ⟨by show (1 : Int) ≤ 3; decide, by show (3 : Int) ≤ 4; decide⟩ ⟨by simp, by show (r : Int) < 4; omega⟩).mono ?_
  rintro e w4 ⟨u, ⟨rfl, hF4, hM4⟩, hv⟩
  have hB4 := hF4.heap HB.out (by simp; omega)
  have hA4 := HA.out.frm hF4 (by simp [e2, e3]) (by simp [f2, f3])
  clear x0 x1 x2 x3
  obtain ⟨x0, x1, x2, x3⟩ := cells4 hB4
  have hFF := HF.out.nil.trans hF4
  have HB4 := Lib.hid hB4
  have HA4 := Lib.hid hA4
  have HF4 := Lib.hid hFF
  have HM4 := Lib.hid hM4
  clear hB4 hA4 hF4 hM4 hFF
  by_cases he : cErr ws x ⟨3, r, w0, v⟩ = 0
  · have hv1 := hv (by rw [← hE]; exact he)
    have hR : cstep ws x ⟨3, r, w0, v⟩ = ⟨false, 0, ({ x with g := x.g.set r u } : Cd).go ⟨3, r, w0, v⟩, mWs ws (iacc ⟨3, r, w0, v⟩ x.g), mRes ws (iacc ⟨3, r, w0, v⟩ x.g)⟩ := by
      rw [hv1]; unfold cstep; rw [if_neg (by simp [he]), if_neg (by simp)]; rfl
    rw [← hE, he]
    have HR := Lib.hid hR
    have hfz := HA4.out.frz (1 + r)
    have hcr := HA4.out.cr hr4
    have hA5 := Lib.hid ((HA4.out.setR hr4 u).drewN 1)
    have hF5 := Lib.hid ((((Frm.refl [qc] w4).setCell ⟨qc, 1 + r, none⟩ (.int .u64 u) (.inl (by simp)))).drewN 1)
    have hB5 := Lib.hid (heap_setCell_far ⟨qc, 1 + r, none⟩ (.int .u64 u) (show qc ≠ w.heap.size by omega) HB4.out)
    clear hR he hE hv hv1
    go_wp2_with fail
    go_region
    have hB6 : (w4.setCell ⟨qc, 1 + r, none⟩ (.int .u64 u)).drew.heap[w.heap.size]? = _ := hB5.out
    have hA6 : CodeAt (w4.setCell ⟨qc, 1 + r, none⟩ (.int .u64 u)).drew qc b c _ := hA5.out
    have hF6 : Frm [qc] w4 (w4.setCell ⟨qc, 1 + r, none⟩ (.int .u64 u)).drew := hF5.out
    clear hA5 hF5 hB5
    generalize (w4.setCell ⟨qc, 1 + r, none⟩ (.int .u64 u)).drew = X5 at hB6 hA6 hF6 ⊢
    clear x0 x1 x2 x3 hfz hcr
    obtain ⟨x0, x1, x2, x3⟩ := cells4 hB6
    have HA5 := Lib.hid hA6
    have HF5 := Lib.hid hF6
    clear hA6 hF6 hB6
    go_wp2_with fail
    refine (cgo_at HA5.out ⟨3, r, w0, v⟩ HY.out HN.out).mono ?_
    rintro e w3 ⟨rfl, hF3, hA3⟩
    have HF3 := Lib.hid hF3
    have HA3 := Lib.hid hA3
    clear hF3 hA3
    go_wp2
    go_ret2
    unfold CsQ
    rw [HR.out]
    have hT := HF5.out.trans HF3.out
    exact ⟨rfl, (HF4.out.weak (by simp)).trans (hT.weak (by simp)), HM4.out.frm hT (by simpa using e1.symm) (by simpa using e2.symm) (by simpa using e3.symm), HA3.out⟩
  · have hb0 : (cErr ws x ⟨3, r, w0, v⟩ != 0) = true := by simp [he]
    have hR : cstep ws x ⟨3, r, w0, v⟩ = ⟨false, cErr ws x ⟨3, r, w0, v⟩, x, ws, acc0⟩ := by
      unfold cstep; rw [if_pos he]
    have he2 : mErr ws.length (iacc ⟨3, r, w0, v⟩ x.g).k (iacc ⟨3, r, w0, v⟩ x.g).w ≠ 0 := by rw [← hE]; exact he
    have hr0 : mRes ws (iacc ⟨3, r, w0, v⟩ x.g) = acc0 := by unfold mRes; rw [if_neg he2]; rfl
    have hw : mWs ws (iacc ⟨3, r, w0, v⟩ x.g) = ws := by unfold mWs; rw [if_neg he2]
    rw [hr0, hw] at HM4
    rw [← hE]
    have HR := Lib.hid hR
    clear hR he hE hw hr0 he2 hv
    go_wp2
    go_ret2
    unfold CsQ
    rw [HR.out]
    exact ⟨rfl, HF4.out.weak (by simp), HM4.out, HA4.out⟩

set_option maxRecDepth 100000 in
theorem step_4 (h : CodeAt w qc b c x) (hM : Mm K w p d cm q acc0 ws) (y : Ins) (hn : x.l[x.nx]? = some y) (hk : y.k = 4) :
    Calls Try.prog 71 #[.pointer (some ⟨qc, 0, none⟩), .iface (tMm K) (.pointer (some ⟨aMm K p q, 0, none⟩))] w (CsQ K w p d cm q qc b c (cstep ws x y)) := by
  have hy := h.ok _ _ hn
  have hnl : x.nx < x.l.length := (List.getElem?_eq_some_iff.1 hn).1
  obtain ⟨i0, i1, i2, i3⟩ := h.ins hn
  have hr := alw_r hy (by omega)
  obtain ⟨k, r, w0, v⟩ := y
  dsimp only at hk i0 i1 i2 i3
  subst hk
  dsimp only at hr
  obtain ⟨r, rfl⟩ := Int.eq_ofNat_of_zero_le hr.1
  have hr4 : r < 4 := by omega
  have hixr := ix_reg (q := qc) hr4
  clear hr
  have h0 := h.c0
  have h5 := h.c5
  have hix := ix_ins (b := b) (c := c) hnl
  obtain ⟨e1, e2, e3⟩ := hM.ne h.obj (by decide) (by decide) (by decide)
  obtain ⟨f1, f2, f3⟩ : b ≠ p ∧ b ≠ d ∧ b ≠ q := by
    obtain ⟨_, _, ⟨hh, _⟩ | ⟨g, cs, hg, _, hb, _⟩⟩ := h.row
    · cases hh
    · cases hg; exact hM.ne hb (by decide) (by decide) (by decide)
  have hbl := h.blt
  have hql := h.lt
  have hpl := hM.plt
  have hdl := hM.dlt
  have hqm := hM.qlt
  have H := Lib.hid h
  have HM := Lib.hid hM
  have HY := Lib.hid hy
  have HN := Lib.hid hnl
  clear h hM hn hy
  go_enter Try.func71, Try.ntmps71
  go_wp2_with fail
  go_region
  have hF : Frm [] w (w.alloc (.cells #[.int .i64 4, .int .i64 r, .int .i64 w0, .int .u64 v] 74)).drew := ((Frm.refl _ _).alloc _).drew
  have hB : (w.alloc (.cells #[.int .i64 4, .int .i64 r, .int .i64 w0, .int .u64 v] 74)).drew.heap[w.heap.size]? = some (.cells #[.int .i64 4, .int .i64 r, .int .i64 w0, .int .u64 v] 74 (0, 0)) := heap_alloc_new _ _
  generalize (w.alloc (.cells #[.int .i64 4, .int .i64 r, .int .i64 w0, .int .u64 v] 74)).drew = X at hF hB ⊢
  obtain ⟨x0, x1, x2, x3⟩ := cells4 hB
  have hA := H.out.frm0 hF
  have hMX := HM.out.frm0 hF
  have HB := Lib.hid hB
  have HA := Lib.hid hA
  have HMX := Lib.hid hMX
  have HF := Lib.hid hF
  clear hF hB hA hMX h0 h5
  have hE : cErr ws x ⟨4, r, w0, v⟩ = mErr ws.length (iacc ⟨4, r, w0, v⟩ x.g).k (iacc ⟨4, r, w0, v⟩ x.g).w := rfl
  go_wp2_with fail
  refine (cacc_at HA.out HMX.out ⟨4, r, w0, v⟩ ⟨by show (1 : Int) ≤ 4; decide, by show (4 : Int) ≤ 4; decide⟩ ⟨by simp, by show (r : Int) < 4; omega⟩).mono ?_
  rintro e w4 ⟨u, ⟨rfl, hF4, hM4⟩, hv⟩
  have hB4 := hF4.heap HB.out (by simp; omega)
  have hA4 := HA.out.frm hF4 (by simp [e2, e3]) (by simp [f2, f3])
  clear x0 x1 x2 x3
  obtain ⟨x0, x1, x2, x3⟩ := cells4 hB4
  have hFF := HF.out.nil.trans hF4
  have HB4 := Lib.hid hB4
  have HA4 := Lib.hid hA4
  have HF4 := Lib.hid hFF
  have HM4 := Lib.hid hM4
  clear hB4 hA4 hF4 hM4 hFF
  by_cases he : cErr ws x ⟨4, r, w0, v⟩ = 0
  · have hv1 := hv (by rw [← hE]; exact he)
    have hR : cstep ws x ⟨4, r, w0, v⟩ = ⟨false, 0, ({ x with g := x.g.set r u } : Cd).go ⟨4, r, w0, v⟩, mWs ws (iacc ⟨4, r, w0, v⟩ x.g), mRes ws (iacc ⟨4, r, w0, v⟩ x.g)⟩ := by
      rw [hv1]; unfold cstep; rw [if_neg (by simp [he]), if_neg (by simp)]; rfl
    rw [← hE, he]
    have HR := Lib.hid hR
    have hfz := HA4.out.frz (1 + r)
    have hcr := HA4.out.cr hr4
    have hA5 := Lib.hid ((HA4.out.setR hr4 u).drewN 1)
    have hF5 := Lib.hid ((((Frm.refl [qc] w4).setCell ⟨qc, 1 + r, none⟩ (.int .u64 u) (.inl (by simp)))).drewN 1)
    have hB5 := Lib.hid (heap_setCell_far ⟨qc, 1 + r, none⟩ (.int .u64 u) (show qc ≠ w.heap.size by omega) HB4.out)
    clear hR he hE hv hv1
    go_wp2_with fail
    go_region
    have hB6 : (w4.setCell ⟨qc, 1 + r, none⟩ (.int .u64 u)).drew.heap[w.heap.size]? = _ := hB5.out
    have hA6 : CodeAt (w4.setCell ⟨qc, 1 + r, none⟩ (.int .u64 u)).drew qc b c _ := hA5.out
    have hF6 : Frm [qc] w4 (w4.setCell ⟨qc, 1 + r, none⟩ (.int .u64 u)).drew := hF5.out
    clear hA5 hF5 hB5
    generalize (w4.setCell ⟨qc, 1 + r, none⟩ (.int .u64 u)).drew = X5 at hB6 hA6 hF6 ⊢
    clear x0 x1 x2 x3 hfz hcr
    obtain ⟨x0, x1, x2, x3⟩ := cells4 hB6
    have HA5 := Lib.hid hA6
    have HF5 := Lib.hid hF6
    clear hA6 hF6 hB6
    go_wp2_with fail
    refine (cgo_at HA5.out ⟨4, r, w0, v⟩ HY.out HN.out).mono ?_
    rintro e w3 ⟨rfl, hF3, hA3⟩
    have HF3 := Lib.hid hF3
    have HA3 := Lib.hid hA3
    clear hF3 hA3
    go_wp2
    go_ret2
    unfold CsQ
    rw [HR.out]
    have hT := HF5.out.trans HF3.out
    exact ⟨rfl, (HF4.out.weak (by simp)).trans (hT.weak (by simp)), HM4.out.frm hT (by simpa using e1.symm) (by simpa using e2.symm) (by simpa using e3.symm), HA3.out⟩
  · have hb0 : (cErr ws x ⟨4, r, w0, v⟩ != 0) = true := by simp [he]
    have hR : cstep ws x ⟨4, r, w0, v⟩ = ⟨false, cErr ws x ⟨4, r, w0, v⟩, x, ws, acc0⟩ := by
      unfold cstep; rw [if_pos he]
    have he2 : mErr ws.length (iacc ⟨4, r, w0, v⟩ x.g).k (iacc ⟨4, r, w0, v⟩ x.g).w ≠ 0 := by rw [← hE]; exact he
    have hr0 : mRes ws (iacc ⟨4, r, w0, v⟩ x.g) = acc0 := by unfold mRes; rw [if_neg he2]; rfl
    have hw : mWs ws (iacc ⟨4, r, w0, v⟩ x.g) = ws := by unfold mWs; rw [if_neg he2]
    rw [hr0, hw] at HM4
    rw [← hE]
    have HR := Lib.hid hR
    clear hR he hE hw hr0 he2 hv
    go_wp2
    go_ret2
    unfold CsQ
    rw [HR.out]
    exact ⟨rfl, HF4.out.weak (by simp), HM4.out, HA4.out⟩

theorem cstep_at (h : CodeAt w qc b c x) (hM : Mm K w p d cm q acc0 ws) (y : Ins) (hn : x.l[x.nx]? = some y) :
    Calls Try.prog 71 #[.pointer (some ⟨qc, 0, none⟩), .iface (tMm K) (.pointer (some ⟨aMm K p q, 0, none⟩))] w (CsQ K w p d cm q qc b c (cstep ws x y)) := by
  have hk := alw_k (h.ok _ _ hn)
  have : y.k = 1 ∨ y.k = 2 ∨ y.k = 3 ∨ y.k = 4 ∨ y.k = 5 ∨ y.k = 6 ∨ y.k = 7 ∨ y.k = 8 ∨ y.k = 9 := by omega
  rcases this with e | e | e | e | e | e | e | e | e
  · exact step_1 h hM y hn e
  · exact step_2 h hM y hn e
  · exact step_3 h hM y hn e
  · exact step_4 h hM y hn e
  · exact step_5 h hM y hn e
  · exact step_6 h hM y hn e
  · exact step_7 h hM y hn e
  · exact step_8 h hM y hn e
  · exact step_9 h hM y hn e
end
#print axioms cstep_at
end Go.Proofs.Ytieccmmnfnpcoaa
