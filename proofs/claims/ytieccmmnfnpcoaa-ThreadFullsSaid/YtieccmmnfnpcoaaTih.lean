/- Stage 12: allowed; NewCode. -/
import Derived.Test.YtieccmmnfnpcoaaTig
namespace Go.Proofs.Ytieccmmnfnpcoaa
open Go.ChangeShapes Go.WideShapes Go.ChangeAt Go.RowKit
set_option linter.unusedVariables false
theorem alw_val (x : Ins) (n : Nat) (w : World) {b : Bool} (hb : alw x n = b) (H : Calls Try.prog 63 #[.agg #[.int .i64 x.k, .int .i64 x.r, .int .i64 x.w, .int .u64 x.v], .int .i64 n] w (Ret (.bool b) (fun w' => Frm [] w w'))) :
    Calls Try.prog 63 #[.agg #[.int .i64 x.k, .int .i64 x.r, .int .i64 x.w, .int .u64 x.v], .int .i64 n] w (Ret (.bool (alw x n)) (fun w' => Frm [] w w')) := by rw [hb]; exact H
set_option maxRecDepth 100000 in
set_option maxHeartbeats 4000000 in
theorem alw_any (x : Ins) (n : Nat) (w : World) : Calls Try.prog 63 #[.agg #[.int .i64 x.k, .int .i64 x.r, .int .i64 x.w, .int .u64 x.v], .int .i64 n] w (Ret (.bool (alw x n)) (fun w' => Frm [] w w')) := by
  obtain ⟨k, r, wd, v⟩ := x
  dsimp only
  obtain ⟨R, hR⟩ : ∃ R, (decide (0 ≤ r) && decide (r < 4)) = R := ⟨_, rfl⟩
  obtain ⟨W, hW⟩ : ∃ W, (decide (0 ≤ wd) && decide (wd < 65536)) = W := ⟨_, rfl⟩
  obtain ⟨J, hJ⟩ : ∃ J, (decide (0 ≤ wd) && decide (wd < n)) = J := ⟨_, rfl⟩
  have hcase : k = 1 ∨ k = 2 ∨ k = 3 ∨ k = 4 ∨ k = 5 ∨ k = 6 ∨ k = 7 ∨ k = 8 ∨ k = 9 ∨ (k < 1 ∨ 9 < k) := by omega
  rcases hcase with rfl | rfl | rfl | rfl | rfl | rfl | rfl | rfl | rfl | hk
  · have hA : alw ⟨1, r, wd, v⟩ n = (R && W) := by rw [← hR, ← hW]; rfl
    rw [hA]
    have HR := Lib.hid hR
    have HW := Lib.hid hW
    have HJ := Lib.hid hJ
    clear hA hR hW hJ
    go_enter Try.func63, Try.ntmps63
    go_wp2
    all_goals go_ret
    all_goals (have h1 := HR.out; have h2 := HW.out; have h3 := HJ.out; refine ⟨?_, (Frm.refl _ _).alloc _⟩; subst h1 h2 h3; first | rfl | (congr 2; (simp_all <;> omega)))
  · have hA : alw ⟨2, r, wd, v⟩ n = (R && W) := by rw [← hR, ← hW]; rfl
    rw [hA]
    have HR := Lib.hid hR
    have HW := Lib.hid hW
    have HJ := Lib.hid hJ
    clear hA hR hW hJ
    go_enter Try.func63, Try.ntmps63
    go_wp2
    all_goals go_ret
    all_goals (have h1 := HR.out; have h2 := HW.out; have h3 := HJ.out; refine ⟨?_, (Frm.refl _ _).alloc _⟩; subst h1 h2 h3; first | rfl | (congr 2; (simp_all <;> omega)))
  · have hA : alw ⟨3, r, wd, v⟩ n = (R && W) := by rw [← hR, ← hW]; rfl
    rw [hA]
    have HR := Lib.hid hR
    have HW := Lib.hid hW
    have HJ := Lib.hid hJ
    clear hA hR hW hJ
    go_enter Try.func63, Try.ntmps63
    go_wp2
    all_goals go_ret
    all_goals (have h1 := HR.out; have h2 := HW.out; have h3 := HJ.out; refine ⟨?_, (Frm.refl _ _).alloc _⟩; subst h1 h2 h3; first | rfl | (congr 2; (simp_all <;> omega)))
  · have hA : alw ⟨4, r, wd, v⟩ n = (R && W) := by rw [← hR, ← hW]; rfl
    rw [hA]
    have HR := Lib.hid hR
    have HW := Lib.hid hW
    have HJ := Lib.hid hJ
    clear hA hR hW hJ
    go_enter Try.func63, Try.ntmps63
    go_wp2
    all_goals go_ret
    all_goals (have h1 := HR.out; have h2 := HW.out; have h3 := HJ.out; refine ⟨?_, (Frm.refl _ _).alloc _⟩; subst h1 h2 h3; first | rfl | (congr 2; (simp_all <;> omega)))
  · have hA : alw ⟨5, r, wd, v⟩ n = W := by rw [← hW]; rfl
    rw [hA]
    have HR := Lib.hid hR
    have HW := Lib.hid hW
    have HJ := Lib.hid hJ
    clear hA hR hW hJ
    go_enter Try.func63, Try.ntmps63
    go_wp2
    all_goals go_ret
    all_goals (have h1 := HR.out; have h2 := HW.out; have h3 := HJ.out; refine ⟨?_, (Frm.refl _ _).alloc _⟩; subst h1 h2 h3; first | rfl | (congr 2; (simp_all <;> omega)))
  · have hA : alw ⟨6, r, wd, v⟩ n = R := by rw [← hR]; rfl
    rw [hA]
    have HR := Lib.hid hR
    have HW := Lib.hid hW
    have HJ := Lib.hid hJ
    clear hA hR hW hJ
    go_enter Try.func63, Try.ntmps63
    go_wp2
    all_goals go_ret
    all_goals (have h1 := HR.out; have h2 := HW.out; have h3 := HJ.out; refine ⟨?_, (Frm.refl _ _).alloc _⟩; subst h1 h2 h3; first | rfl | (congr 2; (simp_all <;> omega)))
  · have hA : alw ⟨7, r, wd, v⟩ n = R := by rw [← hR]; rfl
    rw [hA]
    have HR := Lib.hid hR
    have HW := Lib.hid hW
    have HJ := Lib.hid hJ
    clear hA hR hW hJ
    go_enter Try.func63, Try.ntmps63
    go_wp2
    all_goals go_ret
    all_goals (have h1 := HR.out; have h2 := HW.out; have h3 := HJ.out; refine ⟨?_, (Frm.refl _ _).alloc _⟩; subst h1 h2 h3; first | rfl | (congr 2; (simp_all <;> omega)))
  · have hA : alw ⟨8, r, wd, v⟩ n = (R && J) := by rw [← hR, ← hJ]; rfl
    rw [hA]
    have HR := Lib.hid hR
    have HW := Lib.hid hW
    have HJ := Lib.hid hJ
    clear hA hR hW hJ
    go_enter Try.func63, Try.ntmps63
    go_wp2
    all_goals go_ret
    all_goals (have h1 := HR.out; have h2 := HW.out; have h3 := HJ.out; refine ⟨?_, (Frm.refl _ _).alloc _⟩; subst h1 h2 h3; first | rfl | (congr 2; (simp_all <;> omega)))
  · have hA : alw ⟨9, r, wd, v⟩ n = R := by rw [← hR]; rfl
    rw [hA]
    have HR := Lib.hid hR
    have HW := Lib.hid hW
    have HJ := Lib.hid hJ
    clear hA hR hW hJ
    go_enter Try.func63, Try.ntmps63
    go_wp2
    all_goals go_ret
    all_goals (have h1 := HR.out; have h2 := HW.out; have h3 := HJ.out; refine ⟨?_, (Frm.refl _ _).alloc _⟩; subst h1 h2 h3; first | rfl | (congr 2; (simp_all <;> omega)))
  · have t1 : (k == 1) = false := by simp; omega
    have t2 : (k == 2) = false := by simp; omega
    have t3 : (k == 3) = false := by simp; omega
    have t4 : (k == 4) = false := by simp; omega
    have t5 : (k == 5) = false := by simp; omega
    have t6 : (k == 6) = false := by simp; omega
    have t7 : (k == 7) = false := by simp; omega
    have t8 : (k == 8) = false := by simp; omega
    have t9 : (k == 9) = false := by simp; omega
    have hA : alw ⟨k, r, wd, v⟩ n = false := by unfold alw; rw [if_neg (by dsimp only; omega), if_neg (by dsimp only; omega), if_neg (by dsimp only; omega), if_neg (by dsimp only; omega)]
    clear hk
    rw [hA]
    have HR := Lib.hid hR
    have HW := Lib.hid hW
    have HJ := Lib.hid hJ
    clear hA hR hW hJ
    go_enter Try.func63, Try.ntmps63
    go_wp2
    all_goals go_ret
    all_goals (have h1 := HR.out; have h2 := HW.out; have h3 := HJ.out; refine ⟨?_, (Frm.refl _ _).alloc _⟩; subst h1 h2 h3; first | rfl | (congr 2; (simp_all <;> omega)))
/-- Instructions that are read alone: n of them, from the cell o of the block b on. -/
structure InL (w : World) (a : Option Addr) (n c b o : Nat) (l : List Ins) : Prop where
  len : l.length = n
  ad : 0 < n → a = some ⟨b, o, none⟩
  cell : ∀ (i : Nat) (x : Ins), l[i]? = some x → ∀ (j : Nat) (v : Value), x.cells[j]? = some v → w.cell? ⟨b, o + (i * 4 + j), none⟩ = some v
  cap : n ≤ c
theorem InL.lt {w : World} {a : Option Addr} {n c b o : Nat} {l : List Ins} (h : InL w a n c b o l) (hn : 0 < n) : b < w.heap.size := by
  have hl := h.len
  exact World.block_lt_of_cell? w _ (h.cell 0 (l[0]'(by omega)) (List.getElem?_eq_getElem _) 0 _ rfl)
theorem InL.frm {D : List Nat} {w w' : World} {a : Option Addr} {n c b o : Nat} {l : List Ins} (h : InL w a n c b o l) (hf : Frm D w w') (hd : 0 < n → b ∉ D) : InL w' a n c b o l :=
  ⟨h.len, h.ad, fun i x hx j v hv => by
    have hn : 0 < n := by have := (List.getElem?_eq_some_iff.1 hx).1; have := h.len; omega
    rw [hf.cell (h.lt hn) (hd hn)]; exact h.cell i x hx j v hv, h.cap⟩
theorem InL.frm0 {w w' : World} {a : Option Addr} {n c b o : Nat} {l : List Ins} (h : InL w a n c b o l) (hf : Frm [] w w') : InL w' a n c b o l := h.frm hf (by simp)
theorem InL.get {w : World} {a : Option Addr} {n c b o : Nat} {l : List Ins} (h : InL w a n c b o l) {i : Nat} {x : Ins} (hx : l[i]? = some x) :
    w.cell? ⟨b, o + i * 4, none⟩ = some (.int .i64 x.k) ∧ w.cell? ⟨b, o + i * 4 + 1, none⟩ = some (.int .i64 x.r) ∧ w.cell? ⟨b, o + i * 4 + 2, none⟩ = some (.int .i64 x.w) ∧ w.cell? ⟨b, o + i * 4 + 3, none⟩ = some (.int .u64 x.v) :=
  ⟨h.cell i x hx 0 _ rfl, h.cell i x hx 1 _ rfl, h.cell i x hx 2 _ rfl, h.cell i x hx 3 _ rfl⟩
theorem ix_inl {a : Option Addr} {n c b o k : Nat} (ha : 0 < n → a = some ⟨b, o, none⟩) (hk : k < n) (w : World) : (Instr.indexAt 71 (.slice a n c) (.int .i64 (k : Int))).run Try.prog w = .ok (.pointer (some ⟨b, o + k * 4, none⟩)) w := by
  obtain rfl := ha (by omega)
  obtain ⟨i0, hi, hz0, hz1, hz2⟩ := info_parts i_ins
  have h1 : (k : Int) < (n : Int) := by omega
  simp [go_sem, h1, sizeOf, typeInfo, hi, hz1]
/-- All the first ones are allowed; n of all. -/
def okTo (l : List Ins) (k : Nat) : Prop := ∀ (j : Nat) (y : Ins), j < k → l[j]? = some y → alw y l.length = true
/-- What NewCode leaves. -/
def NcQ (w : World) (l : List Ins) (e : Ending) (w' : World) : Prop := ∃ q b c, Ret (.tuple #[.pointer (some ⟨q, 0, none⟩), .int .i64 0]) (fun w' => Frm [] w w' ∧ CodeAt w' q b c (fr l) ∧ w.heap.size ≤ q ∧ w.heap.size ≤ b) e w'
theorem flt_ins (l : List Ins) : ∀ i, i < l.length → (insF l i).length = 4 := fun i _ => rfl
theorem ins_one (l : List Ins) (i : Nat) : ∀ u ∈ insF l i, u.oneCell' = true := by
  intro u hu
  unfold insF Ins.cells at hu
  simp only [List.mem_cons, List.not_mem_nil, or_false] at hu
  rcases hu with rfl | rfl | rfl | rfl <;> rfl
theorem insF_get {l : List Ins} {i : Nat} {x : Ins} (h : l[i]? = some x) : insF l i = x.cells := by unfold insF; rw [List.getD_eq_getElem?_getD, h]; rfl
section
variable {w : World} {a : Option Addr} {n c b o : Nat} {l : List Ins}
theorem clone_inl (h : InL w a n c b o l) (hp : 0 < n) (hn : n ≤ 1000000) : Calls Try.prog 64 #[.slice (some ⟨b, o, none⟩) n c] w
    (fun e w' => ∃ g c', Ret (.slice (some ⟨g, 0, none⟩) n c') (fun w' => Frm [] w w' ∧ InsAt w' g c' l ∧ w.heap.size ≤ g) e w') := by
  have hl := h.len
  refine (clone_ins (xs := flt l.length (insF l)) (b := b) (o := o) (by rw [flt_len (flt_ins l), hl]) (fun j u hj => ?_) (fun u hu => ?_) hn (h.lt hp) c).mono ?_
  · have hjl := (List.getElem?_eq_some_iff.1 hj).1
    rw [flt_len (flt_ins l)] at hjl
    have hjd : j / 4 < l.length := Nat.div_lt_of_lt_mul (by omega)
    have hjm : j % 4 < 4 := Nat.mod_lt _ (by omega)
    have hjj : j / 4 * 4 + j % 4 = j := by omega
    rw [← hjj, flt_get (flt_ins l) hjd hjm] at hj
    rw [insF_get (List.getElem?_eq_getElem hjd)] at hj
    have := h.cell (j / 4) _ (List.getElem?_eq_getElem hjd) (j % 4) u hj
    rw [hjj] at this; exact this
  · obtain ⟨i, _, hi⟩ := List.mem_flatMap.1 hu
    exact ins_one _ _ u hi
  · rintro e w' ⟨v, rfl, hF, hO⟩
    rw [← hl] at hO
    obtain ⟨a', c', rfl, hG⟩ := gr_of_own (by omega) hO (flt_ins l) (fun i hi j v hv => by
      have hj : j < 4 := by have := (List.getElem?_eq_some_iff.1 hv).1; have := flt_ins l i hi; omega
      rw [flt_get (flt_ins l) hi hj]; exact hv)
    obtain ⟨m1, m2, ⟨_, m3, _⟩ | ⟨g', cs', hg', hB', r⟩⟩ := hG
    · omega
    · subst hg'
      refine ⟨g', c', by rw [hl], hF, ⟨m1, m2, .inr ⟨g', cs', rfl, Nat.zero_le _, r⟩⟩, hB'⟩
set_option maxRecDepth 100000 in
set_option maxHeartbeats 2000000 in
theorem newcode_ok (h : InL w a n c b o l) (hl : Lok l) : Calls Try.prog 26 #[.slice a n c] w (NcQ w l) := by
  obtain ⟨hp, hle, hall⟩ := hl
  have hlen := h.len
  have hb1 : decide ((n : Int) < 1) = false := by simp; omega
  have hb2 : decide ((256 : Int) < (n : Int)) = false := by simp; omega
  have hn256 : (n : Int) ≤ 256 := by omega
  have hap := h.ad (by omega)
  subst hap
  have H := Lib.hid h
  have HA := Lib.hid hall
  have HLEN := Lib.hid hlen
  have HP := Lib.hid hp
  have HLE := Lib.hid hle
  clear h hall hlen hp hle
  go_enter Try.func26, Try.ntmps26
  go_wp2_with fail
  go_loopw [16] (fun i wr => ∃ k : Nat, k ≤ n ∧ i = .int .i64 k ∧ Frm [] w wr) (fun i _ => n - (intOf i).toNat)
  case atStart => exact ⟨0, Nat.zero_le _, rfl, Frm.refl _ _⟩
  case round =>
    obtain ⟨k, hk, rfl, hF⟩ := hrel
    by_cases hlt : k < n
    · obtain ⟨x, hx⟩ : ∃ x, l[k]? = some x := ⟨_, List.getElem?_eq_getElem (by rw [HLEN.out]; exact hlt)⟩
      obtain ⟨c0, c1, c2, c3⟩ := (H.out.frm0 hF).get hx
      have hix := ix_inl (c := c) (fun _ => rfl : 0 < n → some (⟨b, o, none⟩ : Addr) = some ⟨b, o, none⟩) hlt
      have hal := alw_any x n
      rw [← HLEN.out, HA.out k x hx, HLEN.out] at hal
      have HAL := Lib.hid hal
      have HF := Lib.hid hF
      clear hal hF hx
      go_wp2_with fail
      refine (HAL.out _).mono ?_
      rintro e w1 ⟨rfl, hF1⟩
      have HF1 := Lib.hid ((HF.out.alloc _).trans hF1)
      clear hF1
      go_wp2
      go_roundw
      case rel => exact ⟨k + 1, by omega, by go_num, HF1.out⟩
      case measure => simp [intOf]; omega
    · have HC := Lib.hid (clone_inl (H.out.frm0 hF) (by have := HLEN.out; have := HP.out; omega) (by omega))
      have HF := Lib.hid hF
      clear hF
      go_wp2_with fail
      refine HC.out.mono ?_
      rintro e w1 ⟨g, c', rfl, hF1, hI, hg⟩
      have HI := Lib.hid hI
      have HF1 := Lib.hid (HF.out.trans hF1)
      have hs := HF.out.size
      clear hI hF1
      go_wp2
      go_ret2
      refine ⟨_, g, c', rfl, HF1.out.alloc _, ⟨?_, HI.out.frm0 ((Frm.refl _ _).alloc _), rfl, HP.out, HLE.out, Nat.zero_le _, HA.out⟩, by have := HF1.out.size; omega, by omega⟩
      rw [heap_alloc_new]; unfold cdArr fr; rw [HLEN.out]; rfl
set_option maxRecDepth 100000 in
set_option maxHeartbeats 2000000 in
theorem newcode_bad (h : InL w a n c b o l) (hl : ¬ Lok l) (hbig : n ≤ 2147483647) : Calls Try.prog 26 #[.slice a n c] w (Ret (.tuple #[.pointer none, .int .i64 2]) (fun w' => Frm [] w w')) := by
  have hlen := h.len
  by_cases h1 : n < 1
  · have hb1 : decide ((n : Int) < 1) = true := by simp; omega
    clear h hl hlen h1
    go_enter Try.func26, Try.ntmps26
    go_wp2
    go_ret2
    exact ⟨rfl, Frm.refl _ _⟩
  by_cases h2 : 256 < n
  · have hb1 : decide ((n : Int) < 1) = false := by simp; omega
    have hb2 : decide ((256 : Int) < (n : Int)) = true := by simp; omega
    clear h hl hlen h1 h2
    go_enter Try.func26, Try.ntmps26
    go_wp2
    go_ret2
    exact ⟨rfl, Frm.refl _ _⟩
  have hb1 : decide ((n : Int) < 1) = false := by simp; omega
  have hb2 : decide ((256 : Int) < (n : Int)) = false := by simp; omega
  have hn256 : (n : Int) ≤ 256 := by omega
  have hap := h.ad (by omega)
  subst hap
  have H := Lib.hid h
  have HLEN := Lib.hid hlen
  have hex : ¬ okTo l n := fun ho => hl ⟨by omega, by omega, fun i y hy => ho i y (by have := (List.getElem?_eq_some_iff.1 hy).1; omega) hy⟩
  have HEX := Lib.hid hex
  clear h hlen hl hex h1 h2
  go_enter Try.func26, Try.ntmps26
  go_wp2_with fail
  go_loopw [16] (fun i wr => ∃ k : Nat, k ≤ n ∧ i = .int .i64 k ∧ Frm [] w wr ∧ okTo l k) (fun i _ => n - (intOf i).toNat)
  case atStart => exact ⟨0, Nat.zero_le _, rfl, Frm.refl _ _, fun j y hj => by omega⟩
  case round =>
    obtain ⟨k, hk, rfl, hF, hok⟩ := hrel
    by_cases hlt : k < n
    · obtain ⟨x, hx⟩ : ∃ x, l[k]? = some x := ⟨_, List.getElem?_eq_getElem (by rw [HLEN.out]; exact hlt)⟩
      obtain ⟨c0, c1, c2, c3⟩ := (H.out.frm0 hF).get hx
      have hix := ix_inl (c := c) (fun _ => rfl : 0 < n → some (⟨b, o, none⟩ : Addr) = some ⟨b, o, none⟩) hlt
      have hal := alw_any x n
      have HOK := Lib.hid hok
      have HX := Lib.hid hx
      have HF := Lib.hid hF
      clear hF hx hok
      cases hax : alw x n with
      | true =>
        rw [hax] at hal
        have HAX := Lib.hid hax
        have HAL := Lib.hid hal
        clear hal hax
        go_wp2_with fail
        refine (HAL.out _).mono ?_
        rintro e w1 ⟨rfl, hF1⟩
        have HF1 := Lib.hid ((HF.out.alloc _).trans hF1)
        clear hF1
        go_wp2
        go_roundw
        case rel => exact ⟨k + 1, by omega, by go_num, HF1.out, fun j y hj hy => by
          by_cases e : j = k
          · subst e; have := HX.out.symm.trans hy; cases this; rw [HLEN.out]; exact HAX.out
          · exact HOK.out j y (by omega) hy⟩
        case measure => simp [intOf]; omega
      | false =>
        rw [hax] at hal
        have HAL := Lib.hid hal
        clear hal hax
        go_wp2_with fail
        refine (HAL.out _).mono ?_
        rintro e w1 ⟨rfl, hF1⟩
        have HF1 := Lib.hid ((HF.out.alloc _).trans hF1)
        clear hF1
        go_wp2
        go_ret2
        exact ⟨rfl, HF1.out⟩
    · have hkn : k = n := by omega
      subst hkn
      exact absurd hok HEX.out
end
#print axioms newcode_bad
end Go.Proofs.Ytieccmmnfnpcoaa
