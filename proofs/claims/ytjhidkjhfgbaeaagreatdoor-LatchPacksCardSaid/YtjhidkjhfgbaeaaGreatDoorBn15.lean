/- LxE, LxF, LxG, LxL in one text (by mkbundle.py). -/
import Derived.Test.YtjhidkjhfgbaeaaGreatDoorLxD
import Derived.Deep.WholeRow
import Derived.Test.YtjhidkjhfgbaeaaGreatDoorBn14
/- The reference's Words. -/
namespace Go.Proofs.YtjhidkjhfgbaeaaGreatDoor
open Go.ChangeShapes Go.WideShapes Go.ChangeAt Go.RowKit
set_option linter.unusedVariables false
set_option linter.unusedSimpArgs false
attribute [local go_sem ↓] ldS_eq
theorem bit_step (x j : Nat) : x / 2 ^ j = x / 2 ^ (j + 1) * 2 + (if x.testBit j = true then 1 else 0) := by
  have h1 : x / 2 ^ (j + 1) = x / 2 ^ j / 2 := by rw [Nat.pow_succ, Nat.div_div_eq_div_mul]
  have h2 : x.testBit j = decide (x / 2 ^ j % 2 = 1) := Nat.testBit_eq_decide_div_mod_eq
  rw [h1, h2]
  by_cases h : x / 2 ^ j % 2 = 1
  · rw [if_pos (by simpa using h)]; omega
  · rw [if_neg (by simpa using h)]; omega
theorem bit_step_t {x j : Nat} (h : x.testBit j = true) : x / 2 ^ j = x / 2 ^ (j + 1) * 2 + 1 := by rw [bit_step x j, if_pos h]
theorem bit_step_f {x j : Nat} (h : x.testBit j = false) : x / 2 ^ j = x / 2 ^ (j + 1) * 2 := by rw [bit_step x j, if_neg (by simp [h])]; rfl
/-- The third word, from its end on. -/
def wz (s : LS) : Nat → Int
  | 0 => 0
  | 1 => s.gr
  | 2 => s.gr * 256 + (s.la + 1)
  | 3 => s.gr * 65536 + (s.la + 1) * 256 + (s.fi + 1)
  | 4 => s.gr * 16777216 + (s.la + 1) * 65536 + (s.fi + 1) * 256 + (s.wa + 1)
  | 5 => s.gr * 4294967296 + (s.la + 1) * 16777216 + (s.fi + 1) * 65536 + (s.wa + 1) * 256 + (s.ex + 1)
  | _ => s.gr * 1099511627776 + (s.la + 1) * 4294967296 + (s.fi + 1) * 16777216 + (s.wa + 1) * 65536 + (s.ex + 1) * 256 + (s.up + 1)
/-- The numbers, from the end on. -/
def wn (s : LS) : List Int := [s.gr, s.la + 1, s.fi + 1, s.wa + 1, s.ex + 1, s.up + 1]
section
variable {w : World}
set_option maxRecDepth 100000 in
set_option maxHeartbeats 4000000 in
theorem Words_any {s : LS} (hf : s.Fit) :
    Calls Tryz.prog 11 #[.agg (rsC s).toArray] w (Ret (.agg #[.int .u64 s.sh, .int .u64 s.w1]) (fun w' => Frm [] w w')) := by
  obtain ⟨X, hX⟩ : ∃ X, X = (w.alloc (.cells (rsC s).toArray 31)).alloc (.cells #[.int .u64 0, .int .u64 0] 27) := ⟨_, rfl⟩
  have hFX : Frm [] w X := by rw [hX]; exact ((Frm.refl _ _).alloc _).alloc _
  have hR : RsAt X w.heap.size s := by rw [hX]; exact heap_alloc_old _ (rs_new w s)
  have g1 : X.heap[w.heap.size + 1]? = some (.cells #[.int .u64 0, .int .u64 0] 27 (0, 0)) := by rw [hX]; exact heap_alloc_at _ (by simp)
  have hl := lt_of_heap hR
  have hl1 := lt_of_heap g1
  have HR := Lib.hid hR
  have HFX := Lib.hid hFX
  have HFT := Lib.hid hf
  have G1 := Lib.hid g1
  clear hR hFX hf g1
  go_enter Tryz.func11, Tryz.ntmps11
  go_wp2_with fail
  rw [← hX]
  clear hX
  go_loopw [3, 4] (fun b i wr => ∃ k : Nat, k ≤ 64 ∧ i = .int .i64 ((k : Int) - 1) ∧ b = .int .u64 ((s.sh / 2 ^ k : Nat) : Int) ∧ wr = X) (fun b i _ => (intOf i + 1).toNat)
  case atStart => exact ⟨64, by decide, rfl, by rw [Nat.div_eq_of_lt HFT.out.sh]; rfl, rfl⟩
  case round =>
    obtain ⟨k, hk, rfl, rfl, rfl⟩ := hrel
    match k, hk with
    | j + 1, hk =>
      have e0 : ((j + 1 : Nat) : Int) - 1 = (j : Int) := by omega
      rw [e0]
      have hj : j < 64 := by omega
      have c := HR.out.bit hj
      have hle : s.sh / 2 ^ j < 18446744073709551616 := Nat.lt_of_le_of_lt (Nat.div_le_self _ _) HFT.out.sh
      cases hb : s.sh.testBit j with
      | true =>
        rw [hb] at c
        have hs := bit_step_t hb
        generalize s.sh / 2 ^ (j + 1) = A at hs ⊢
        have hA : A * 2 + 1 < 18446744073709551616 := by omega
        have HS := Lib.hid hs
        clear hs hle hb
        go_wp2_with fail
        go_roundw
        case rel => exact ⟨j, by omega, by go_num, by rw [HS.out]; go_num, by first | rfl | trivial⟩
        case measure => simp [intOf]
      | false =>
        rw [hb] at c
        have hs := bit_step_f hb
        generalize s.sh / 2 ^ (j + 1) = A at hs ⊢
        have hA : A * 2 < 18446744073709551616 := by omega
        have HS := Lib.hid hs
        clear hs hle hb
        go_wp2_with fail
        go_roundw
        case rel => exact ⟨j, by omega, by go_num, by rw [HS.out]; go_num, by first | rfl | trivial⟩
        case measure => simp [intOf]
    | 0, _ =>
      have e0 : ((0 : Nat) : Int) - 1 = -1 := by decide
      rw [e0]
      have hd : s.sh / 2 ^ 0 = s.sh := by simp
      rw [hd]
      obtain ⟨n0, n1, n2, n3, n4, n5⟩ := HR.out.nums
      go_wp2_with fail
      obtain ⟨Y, hY⟩ : ∃ Y, Y = wr.alloc (.cells #[.int .i64 s.gr, .int .i64 (s.la + 1), .int .i64 (s.fi + 1), .int .i64 (s.wa + 1), .int .i64 (s.ex + 1), .int .i64 (s.up + 1)] 3) := ⟨_, rfl⟩
      have hFY : Frm [] wr Y := by rw [hY]; exact (Frm.refl _ _).alloc _
      have g2 : Y.heap[wr.heap.size]? = some (.cells #[.int .i64 s.gr, .int .i64 (s.la + 1), .int .i64 (s.fi + 1), .int .i64 (s.wa + 1), .int .i64 (s.ex + 1), .int .i64 (s.up + 1)] 3 (0, 0)) := by rw [hY]; exact heap_alloc_new _ _
      obtain ⟨s0, s1, s2, s3, s4, s5⟩ := cells6L g2
      have hl2 := lt_of_heap g2
      have hb := hFY.heap G1.out (by simp)
      have z0 : Y.frozen? ⟨w.heap.size + 1, 0, none⟩ = false := frozen_of_heap hb
      have z1 : Y.frozen? ⟨w.heap.size + 1, 1, none⟩ = false := frozen_of_heap hb
      obtain ⟨q0, q1⟩ := cells2L hb
      have hl3 := lt_of_heap hb
      have HB := Lib.hid hb
      have HFY := Lib.hid (HFX.out.trans hFY)
      have hfu := HFT.out.up
      have hfe := HFT.out.ex
      have hfw := HFT.out.wa
      have hff := HFT.out.fi
      have hfl := HFT.out.la
      have hfg := HFT.out.gr
      rw [← hY]
      clear hY hFY g2 hb n0 n1 n2 n3 n4 n5 HR HFX G1
      go_loopw [5, 7] (fun b i ww => ∃ k : Nat, k ≤ 6 ∧ i = .int .i64 (k : Int) ∧ b = .int .u64 (wz s k) ∧ ww = Y) (fun b i _ => (6 - intOf i).toNat)
      case atStart => exact ⟨0, by decide, rfl, rfl, rfl⟩
      case round =>
        obtain ⟨k, hk, rfl, rfl, rfl⟩ := hrel
        match k, hk with
        | 0, _ | 1, _ | 2, _ | 3, _ | 4, _ | 5, _ =>
          simp only [wz]
          go_wp2_with fail
          go_roundw
          case rel => refine ⟨_, ?_, rfl, ?_, by first | rfl | trivial⟩ <;> first | decide | rfl | (simp only [wz]; go_num) | (simp only [wz]; done)
          case measure => simp [intOf]
        | 6, _ =>
          have hw1 : s.w1 = s.gr * 1099511627776 + (s.la + 1) * 4294967296 + (s.fi + 1) * 16777216 + (s.wa + 1) * 65536 + (s.ex + 1) * 256 + (s.up + 1) := by unfold LS.w1; omega
          simp only [wz]
          rw [← hw1]
          clear hw1
          go_wp2_with fail
          have hW0 := setCells2 HB.out (.int .u64 (s.sh : Int)) (.int .u64 s.w1)
          have hWF := ((Frm.refl [w.heap.size + 1] wr).setCell ⟨w.heap.size + 1, 0, none⟩ (.int .u64 (s.sh : Int)) (.inl (by simp))).setCell ⟨w.heap.size + 1, 1, none⟩ (.int .u64 s.w1) (.inl (by simp))
          generalize ((wr.setCell ⟨w.heap.size + 1, 0, none⟩ (.int .u64 (s.sh : Int))).setCell ⟨w.heap.size + 1, 1, none⟩ (.int .u64 s.w1)) = Z at hW0 hWF ⊢
          obtain ⟨y0, y1⟩ := cells2L hW0
          exact bodyPost_ret (v := .agg #[.int .u64 (s.sh : Int), .int .u64 s.w1]) (by simp [results, Tryz.results11, go_sem, y0, y1]) rfl ⟨rfl, HFY.out.trans_new hWF (fun x hx => .inr (by simp at hx; omega))⟩
end
end Go.Proofs.YtjhidkjhfgbaeaaGreatDoor

/- The reference's State: a whole store, a build, its zero, one bit. -/
namespace Go.Proofs.YtjhidkjhfgbaeaaGreatDoor
open Go.ChangeShapes Go.WideShapes Go.ChangeAt Go.RowKit
set_option linter.unusedVariables false
set_option linter.unusedSimpArgs false
/-- A store of the whole State, a build, as one thing. -/
def stS (a : Addr) (v : Value) : Sem Unit := storeVar 31 a v
theorem stS_eq (a : Addr) (v : Value) : storeVar 31 a v = stS a v := rfl
def blS (l : Array (Nat × Value)) : Sem Value := Instr.build 31 l
theorem blS_eq (l : Array (Nat × Value)) : Instr.build 31 l = blS l := rfl
/-- The State without anything. -/
def zS : LS := ⟨0, -1, -1, -1, 0, -1, -1⟩
theorem rsC_one (s : LS) : (rsC s).toArray.all (·.oneCell') = true := by
  rw [Array.all_eq_true_iff_forall_mem]
  intro v hv
  simp only [List.mem_toArray, rsC, List.mem_append, List.mem_map] at hv
  rcases hv with ⟨t, _, rfl⟩ | hv
  · rfl
  · simp [rsN] at hv
    rcases hv with rfl | rfl | rfl | rfl | rfl | rfl <;> rfl
theorem RsAt.store {w : World} {b : Nat} {s : LS} (h : RsAt w b s) (s' : LS) : (stS ⟨b, 0, none⟩ (.agg (rsC s').toArray)).run Tryz.prog w = .ok () (w.setRow b (rsC s').toArray) :=
  run_storeVar_row w b _ _ _ _ h (by rw [List.size_toArray, rsC_len]; kernel_rfl) (by simp [rsC_len]) (rsC_one s')
theorem RsAt.row {w : World} {b : Nat} {s : LS} (h : RsAt w b s) (s' : LS) : RsAt (w.setRow b (rsC s').toArray) b s' := setRow_heap w b _ _ _ _ h
theorem frm_row (w : World) (b : Nat) (cs : Array Value) : Frm [b] w (w.setRow b cs) :=
  ⟨rfl, rfl, rfl, by simp [World.setRow], fun k _ hd => setRow_other w b k cs (by simpa using hd)⟩
theorem zero_s : (∀ w, (zeroValue 31).run Tryz.prog w = .ok (.agg (rsC zS).toArray) w) ∧ (Tryz.prog.info? 31).map (·.size) = some 70 :=
  zero_of_info (by kernel_rfl)
theorem build_0 (w : World) : (blS #[]).run Tryz.prog w = .ok (.agg (rsC zS).toArray) w := by
  have hz := zero_s.1
  unfold blS
  simp [Instr.build, go_sem, hz, Instr.fill]
theorem rsC_set6 (x : Nat) (u e v f l g : Int) : ((((((rsC zS).toArray.setIfInBounds 64 (.int .i64 (u + 1))).setIfInBounds 65 (.int .i64 (e + 1))).setIfInBounds 66 (.int .i64 (v + 1))).setIfInBounds 67 (.int .i64 (f + 1))).setIfInBounds 68 (.int .i64 (l + 1))).setIfInBounds 69 (.int .i64 g) = (rsC ⟨0, u, e, v, g, f, l⟩).toArray := by
  kernel_rfl
theorem build_6 (w : World) (u e v f l g : Int) : (blS #[(1, .int .i64 (u + 1)), (2, .int .i64 (e + 1)), (3, .int .i64 (v + 1)), (4, .int .i64 (f + 1)), (5, .int .i64 (l + 1)), (6, .int .i64 g)]).run Tryz.prog w = .ok (.agg (rsC ⟨0, u, e, v, g, f, l⟩).toArray) w := by
  have hz := zero_s.1
  have hl : (rsC zS).toArray.size = 70 := by simp [rsC_len]
  unfold blS
  rw [← rsC_set6 0]
  generalize (rsC zS).toArray = Z at hz hl ⊢
  simp [Instr.build, go_sem, hz, Instr.fill, hl, List.zipIdx]
theorem RsAt.setBit {w : World} {b t : Nat} {s : LS} (h : RsAt w b s) (ht : t < 64) : RsAt (w.setCell ⟨b, t, none⟩ (.bool true)) b { s with sh := s.sh ||| 2 ^ t } := by
  have := heap_setCell_at (i := t) (.bool true) h
  unfold RsAt
  rw [this]
  congr 2
  apply Array.ext_getElem?
  intro i
  rw [Array.getElem?_setIfInBounds]
  simp only [List.size_toArray, rsC_len, List.getElem?_toArray]
  by_cases e : t = i
  · subst e
    rw [if_pos rfl, if_pos (by omega), rsC_bit _ ht]
    simp [Nat.testBit_or, Nat.testBit_two_pow]
  · rw [if_neg e]
    by_cases hi : i < 64
    · rw [rsC_bit _ hi, rsC_bit _ hi]
      simp [Nat.testBit_or, Nat.testBit_two_pow, e]
    · obtain ⟨j, rfl⟩ : ∃ j, i = 64 + j := ⟨i - 64, by omega⟩
      rw [rsC_num, rsC_num]; rfl
theorem results_st {fn : Func} {i j : Tmp} (h : fn.results = #[.cell i 31, .tmp j]) (tmps : Array Value) {w : World} {b : Nat} {s : LS} {v : Bool} (hi : tmps.getD i undef = .pointer (some ⟨b, 0, none⟩)) (hj : tmps.getD j undef = .bool v) (hR : RsAt w b s) :
    (results fn tmps).run Tryz.prog w = .ok (.tuple #[.agg (rsC s).toArray, .bool v]) w := by
  have hl : (loadVar 31 ⟨b, 0, none⟩).run Tryz.prog w = .ok (.agg (rsC s).toArray) w := hR.load
  simp only [Array.getD_eq_getD_getElem?] at hi hj
  simp [results, h, hi, hj, asAddr, hl]
end Go.Proofs.YtjhidkjhfgbaeaaGreatDoor

/- The reference's From. -/
namespace Go.Proofs.YtjhidkjhfgbaeaaGreatDoor
open Go.ChangeShapes Go.WideShapes Go.ChangeAt Go.RowKit
set_option linter.unusedVariables false
set_option linter.unusedSimpArgs false
attribute [local go_sem ↓] ldS_eq stS_eq blS_eq
/-- What From checks first. -/
def frOk (up ex wa fi la : Int) : Prop := -1 ≤ up ∧ up ≤ 63 ∧ -1 ≤ ex ∧ ex ≤ 63 ∧ -1 ≤ wa ∧ wa ≤ 63 ∧ -1 ≤ fi ∧ fi ≤ 127 ∧ -1 ≤ la ∧ la ≤ 127
theorem pkO_far {xs : List Int} {up ex wa gr fi la : Int} (h : ¬ frOk up ex wa fi la) : pkO xs up ex wa gr fi la = none := by
  unfold pkO
  split
  · split
    · rename_i hm
      have hg := may_gd (Nat.le_refl 64) hm
      exact absurd ⟨hg.fit (by decide) |>.up.1, by have := (hg.fit (by decide)).up.2; exact Int.le_of_lt_add_one this, (hg.fit (by decide)).ex.1, by have := (hg.fit (by decide)).ex.2; exact Int.le_of_lt_add_one this,
        (hg.fit (by decide)).wa.1, by have := (hg.fit (by decide)).wa.2; exact Int.le_of_lt_add_one this, (hg.fit (by decide)).fi.1, by have := (hg.fit (by decide)).fi.2; exact Int.le_of_lt_add_one this,
        (hg.fit (by decide)).la.1, by have := (hg.fit (by decide)).la.2; exact Int.le_of_lt_add_one this⟩ h
    · rfl
  · rfl
theorem pkO_none {xs : List Int} (up ex wa gr fi la : Int) (h : btF (-1) 0 xs = none) : pkO xs up ex wa gr fi la = none := by unfold pkO; rw [h]
theorem pkO_some {xs : List Int} {x : Nat} (up ex wa gr fi la : Int) (h : btF (-1) 0 xs = some x) : pkO xs up ex wa gr fi la = if (pkS x up ex wa gr fi la).may 64 = true then some (pkS x up ex wa gr fi la) else none := by unfold pkO; rw [h]
noncomputable def frT (k : Nat) : Code := dropS k (Tryz.f9.body.getD .skip)
/-- What From returns. -/
def FrQ (w : World) (xs : List Int) (up ex wa gr fi la : Int) (e : Ending) (w' : World) : Prop :=
  ∃ s', Ret (.tuple #[.agg (rsC s').toArray, .bool (pkO xs up ex wa gr fi la).isSome]) (fun w' => Frm [] w w') e w' ∧ ∀ s, pkO xs up ex wa gr fi la = some s → s' = s
section
variable {w : World} {a e2 : Option Addr} {n c b o m f2 : Nat} {xs : List Int}
set_option maxRecDepth 100000 in
set_option maxHeartbeats 4000000 in
theorem From_any (h : Li .i64 w a n c b o xs) (hn : n ≤ 1000000) (up ex wa gr fi la : Int) :
    Calls Tryz.prog 9 #[.agg #[.slice a n c, .int .i64 up, .int .i64 ex, .int .i64 wa, .int .i64 gr, .slice e2 m f2], .int .i64 fi, .int .i64 la] w (FrQ w xs up ex wa gr fi la) := by
  have hz := zero_s.1
  obtain ⟨X, hX⟩ : ∃ X, X = (w.alloc (.cells #[.slice a n c, .int .i64 up, .int .i64 ex, .int .i64 wa, .int .i64 gr, .slice e2 m f2] 25)).alloc (.cells (rsC zS).toArray 31) := ⟨_, rfl⟩
  have hFX : Frm [] w X := by rw [hX]; exact ((Frm.refl _ _).alloc _).alloc _
  have g0 : X.heap[w.heap.size]? = some (.cells #[.slice a n c, .int .i64 up, .int .i64 ex, .int .i64 wa, .int .i64 gr, .slice e2 m f2] 25 (0, 0)) := by rw [hX]; exact heap_alloc_old _ (heap_alloc_new _ _)
  have g1 : RsAt X (w.heap.size + 1) zS := by rw [hX]; exact heap_alloc_at _ (by simp)
  obtain ⟨s0, s1, s2, s3, s4, s5⟩ := cells6L g0
  have hl0 := lt_of_heap g0
  have hl1 := lt_of_heap g1
  have HFX := Lib.hid hFX
  have G0 := Lib.hid g0
  have G1 := Lib.hid g1
  have HLI := Lib.hid (h.frm0 hFX)
  clear h hFX g0 g1
  go_enter Tryz.func9, Tryz.ntmps9
  refine wp_seq_k ?_
  intro K hK
  have HK := Lib.hid hK
  clear hK
  go_wp2_with fail
  refine HK.out _ _ ?_
  clear HK K
  rw [← hX]
  clear hX
  refine wp_seq_k ?_
  intro K hK
  have HK := Lib.hid hK
  clear hK
  have hb0 := build_0
  have hst := G1.out.store zS
  by_cases hok : frOk up ex wa fi la
  · unfold frOk at hok
    have d1 : decide (up < -1) = false := by simp; omega
    have d2 : decide (63 < up) = false := by simp; omega
    have d3 : decide (ex < -1) = false := by simp; omega
    have d4 : decide (63 < ex) = false := by simp; omega
    have d5 : decide (wa < -1) = false := by simp; omega
    have d6 : decide (63 < wa) = false := by simp; omega
    have d7 : decide (fi < -1) = false := by simp; omega
    have d8 : decide (127 < fi) = false := by simp; omega
    have d9 : decide (la < -1) = false := by simp; omega
    have d10 : decide (127 < la) = false := by simp; omega
    go_wp2_with fail
    refine HK.out _ _ ?_
    clear HK K d1 d2 d3 d4 d5 d6 d7 d8 d9 d10
    have hb6 := fun W => build_6 W up ex wa fi la gr
    have hst6 : (stS ⟨X.heap.size, 0, none⟩ (.agg (rsC ⟨0, up, ex, wa, gr, fi, la⟩).toArray)).run Tryz.prog (X.alloc (.cells (rsC zS).toArray 31)) = .ok () (X.alloc (.cells (rsC ⟨0, up, ex, wa, gr, fi, la⟩).toArray 31)) := by
      rw [(rs_new X zS).store _, World.setRow_alloc_new]
    have HOK := Lib.hid hok
    go_wp2_with fail
    have hF0 : Frm [] X (X.alloc (.cells (rsC ⟨0, up, ex, wa, gr, fi, la⟩).toArray 31)) := (Frm.refl _ _).alloc _
    have hR0 : RsAt (X.alloc (.cells (rsC ⟨0, up, ex, wa, gr, fi, la⟩).toArray 31)) X.heap.size (pkS 0 up ex wa gr fi la) := rs_new _ _
    generalize X.alloc (.cells (rsC ⟨0, up, ex, wa, gr, fi, la⟩).toArray 31) = Y at hF0 hR0 ⊢
    clear s0 s1 s2 s3 s4 s5 hst6 hst
    go_loopw [9, 10] (fun i q wr => ∃ (k acc : Nat) (bf : Int), k ≤ n ∧ i = .int .i64 (k : Int) ∧ -1 ≤ bf ∧ bf < 64 ∧ (0 < k → 0 ≤ bf ∧ xs[k - 1]? = some bf) ∧ (k = 0 → bf = -1) ∧ acc < 18446744073709551616 ∧ btF bf acc (xs.drop k) = btF (-1) 0 xs ∧ Frm [] X wr ∧ RsAt wr X.heap.size (pkS acc up ex wa gr fi la)) (fun i _ _ => n - (intOf i).toNat)
    case atStart => exact ⟨0, 0, -1, Nat.zero_le _, rfl, by decide, by decide, by omega, fun _ => rfl, by decide, by simp, hF0, hR0⟩
    case round =>
      obtain ⟨k, acc, bf, hk, rfl, hb1, hb2, hb3, hb4, hacc, hbt, hF, hR⟩ := hrel
      clear hF0 hR0 hok hb6
      have HL := Lib.hid (HLI.out.frm0 hF)
      obtain ⟨s0, s1, s2, s3, s4, s5⟩ := cells6L (hF.heap G0.out (by simp))
      have hlr0 := Nat.lt_of_lt_of_le hl0 hF.size
      have hlr1 := Nat.lt_of_lt_of_le hl1 hF.size
      have hlr2 := lt_of_heap hR
      have hR1 := G1.out.frm hF (by simp)
      have hst := hR1.store zS
      have HF := Lib.hid hF
      have HR := Lib.hid hR
      have HR1 := Lib.hid hR1
      clear hF hR hR1
      by_cases hlt : k < n
      · obtain ⟨x, hx, _, cx⟩ := HL.out.get hlt
        have i1 := fun W => ix_in (c := c) HL.out.ad hlt W
        have hd : xs.drop k = x :: xs.drop (k + 1) := List.drop_eq_getElem_cons (by have := HL.out.len; omega) |>.trans (by rw [(List.getElem?_eq_some_iff.1 hx).2])
        rw [hd] at hbt
        simp only [btF] at hbt
        have bl1 := World.block_lt_of_cell? wr _ cx
        rcases k with _ | j
        · obtain rfl := hb4 rfl
          have e0 : ((0 : Nat) : Int) = 0 := rfl
          rw [e0]
          rw [e0, Nat.add_zero] at i1
          rw [Nat.add_zero] at cx
          by_cases hx0 : x < 0
          · rw [if_pos (.inl (by omega))] at hbt
            have hn0 : decide (x < 0) = true := by simpa using hx0
            have HBT := Lib.hid hbt
            clear hx hd hbt
            have HPN := Lib.hid (pkO_none up ex wa gr fi la HBT.out.symm)
            clear HBT
            go_wp2_with fail
            have hR2 := HR1.out.row zS
            have hF2 := (HFX.out.trans HF.out).trans_new (frm_row wr (w.heap.size + 1) (rsC zS).toArray) (fun x hx => .inr (by simp at hx; omega))
            generalize wr.setRow (w.heap.size + 1) (rsC zS).toArray = Z at hR2 hF2 ⊢
            exact bodyPost_ret (results_st rfl _ rfl rfl hR2) rfl ⟨zS, ⟨by rw [HPN.out]; rfl, hF2⟩, by rw [HPN.out]; intro s h; cases h⟩
          · by_cases hx1 : 63 < x
            · rw [if_pos (.inr (by omega))] at hbt
              have hn0 : decide (x < 0) = false := by simp; omega
              have hn1 : decide (63 < x) = true := by simpa using hx1
              have HBT := Lib.hid hbt
              clear hx hd hbt
              have HPN := Lib.hid (pkO_none up ex wa gr fi la HBT.out.symm)
              clear HBT
              go_wp2_with fail
              have hR2 := HR1.out.row zS
              have hF2 := (HFX.out.trans HF.out).trans_new (frm_row wr (w.heap.size + 1) (rsC zS).toArray) (fun x hx => .inr (by simp at hx; omega))
              generalize wr.setRow (w.heap.size + 1) (rsC zS).toArray = Z at hR2 hF2 ⊢
              exact bodyPost_ret (results_st rfl _ rfl rfl hR2) rfl ⟨zS, ⟨by rw [HPN.out]; rfl, hF2⟩, by rw [HPN.out]; intro s h; cases h⟩
            · have hb3 := True.intro
              rw [if_neg (by omega)] at hbt
              have hn0 : decide (x < 0) = false := by simp; omega
              have hn1 : decide (63 < x) = false := by simp; omega
              obtain ⟨t, rfl⟩ := Int.eq_ofNat_of_zero_le (show 0 ≤ x by omega)
              have ht : t < 64 := by omega
              have hc := HR.out.bit ht
              have hz2 : wr.frozen? ⟨X.heap.size, t, none⟩ = false := frozen_of_heap HR.out
              have hF4 := HF.out.setCell ⟨X.heap.size, t, none⟩ (.bool true) (.inr (by simp))
              have hR4 := HR.out.setBit ht
              rw [Int.toNat_natCast] at hbt
              have hor : acc ||| 2 ^ t < 18446744073709551616 := Nat.or_lt_two_pow (n := 64) hacc (two_lt t ht)
              have HBT := Lib.hid hbt
              have HOR := Lib.hid hor
              have HF4 := Lib.hid hF4
              have HR4 := Lib.hid hR4
              have HX := Lib.hid hx
              clear hbt hor hF4 hR4 hx hd
              go_wp2_with fail
              go_roundw
              case rel => exact ⟨0 + 1, acc ||| 2 ^ t, (t : Int), by omega, by go_num, by omega, by omega, fun _ => ⟨by omega, HX.out⟩, by omega, HOR.out, HBT.out, HF4.out, HR4.out⟩
              case measure => simp [intOf]; omega
        · obtain ⟨hp0, hp⟩ := hb3 (by omega)
          have e0 : ((j + 1 : Nat) : Int) = (j : Int) + 1 := by omega
          rw [e0]
          rw [e0] at i1
          rw [Nat.add_sub_cancel] at hp
          have i2 := fun W => ix_in (c := c) HL.out.ad (show j < n by omega) W
          obtain ⟨y, hy, _, cy⟩ := HL.out.get (show j < n by omega)
          obtain rfl : bf = y := by rw [hp] at hy; cases hy; rfl
          have bl2 := World.block_lt_of_cell? wr _ cy
          clear hy hp hb3 hb4
          by_cases hx0 : x < 0
          · rw [if_pos (.inl (by omega))] at hbt
            have hn0 : decide (x < 0) = true := by simpa using hx0
            have HBT := Lib.hid hbt
            clear hx hd hbt
            have HPN := Lib.hid (pkO_none up ex wa gr fi la HBT.out.symm)
            clear HBT
            go_wp2_with fail
            have hR2 := HR1.out.row zS
            have hF2 := (HFX.out.trans HF.out).trans_new (frm_row wr (w.heap.size + 1) (rsC zS).toArray) (fun x hx => .inr (by simp at hx; omega))
            generalize wr.setRow (w.heap.size + 1) (rsC zS).toArray = Z at hR2 hF2 ⊢
            exact bodyPost_ret (results_st rfl _ rfl rfl hR2) rfl ⟨zS, ⟨by rw [HPN.out]; rfl, hF2⟩, by rw [HPN.out]; intro s h; cases h⟩
          · by_cases hx1 : 63 < x
            · rw [if_pos (.inr (by omega))] at hbt
              have hn0 : decide (x < 0) = false := by simp; omega
              have hn1 : decide (63 < x) = true := by simpa using hx1
              have HBT := Lib.hid hbt
              clear hx hd hbt
              have HPN := Lib.hid (pkO_none up ex wa gr fi la HBT.out.symm)
              clear HBT
              go_wp2_with fail
              have hR2 := HR1.out.row zS
              have hF2 := (HFX.out.trans HF.out).trans_new (frm_row wr (w.heap.size + 1) (rsC zS).toArray) (fun x hx => .inr (by simp at hx; omega))
              generalize wr.setRow (w.heap.size + 1) (rsC zS).toArray = Z at hR2 hF2 ⊢
              exact bodyPost_ret (results_st rfl _ rfl rfl hR2) rfl ⟨zS, ⟨by rw [HPN.out]; rfl, hF2⟩, by rw [HPN.out]; intro s h; cases h⟩
            · by_cases hx2 : x ≤ bf
              · rw [if_pos (.inl hx2)] at hbt
                have hn0 : decide (x < 0) = false := by simp; omega
                have hn1 : decide (63 < x) = false := by simp; omega
                have hn2 : decide (x ≤ bf) = true := by simpa using hx2
                have HBT := Lib.hid hbt
                clear hx hd hbt
                have HPN := Lib.hid (pkO_none up ex wa gr fi la HBT.out.symm)
                clear HBT
                go_wp2_with fail
                have hR2 := HR1.out.row zS
                have hF2 := (HFX.out.trans HF.out).trans_new (frm_row wr (w.heap.size + 1) (rsC zS).toArray) (fun x hx => .inr (by simp at hx; omega))
                generalize wr.setRow (w.heap.size + 1) (rsC zS).toArray = Z at hR2 hF2 ⊢
                exact bodyPost_ret (results_st rfl _ rfl rfl hR2) rfl ⟨zS, ⟨by rw [HPN.out]; rfl, hF2⟩, by rw [HPN.out]; intro s h; cases h⟩
              · have hn2 : decide (x ≤ bf) = false := by simp; omega
                rw [if_neg (by omega)] at hbt
                have hn0 : decide (x < 0) = false := by simp; omega
                have hn1 : decide (63 < x) = false := by simp; omega
                obtain ⟨t, rfl⟩ := Int.eq_ofNat_of_zero_le (show 0 ≤ x by omega)
                have ht : t < 64 := by omega
                have hc := HR.out.bit ht
                have hz2 : wr.frozen? ⟨X.heap.size, t, none⟩ = false := frozen_of_heap HR.out
                have hF4 := HF.out.setCell ⟨X.heap.size, t, none⟩ (.bool true) (.inr (by simp))
                have hR4 := HR.out.setBit ht
                rw [Int.toNat_natCast] at hbt
                have hor : acc ||| 2 ^ t < 18446744073709551616 := Nat.or_lt_two_pow (n := 64) hacc (two_lt t ht)
                have HBT := Lib.hid hbt
                have HOR := Lib.hid hor
                have HF4 := Lib.hid hF4
                have HR4 := Lib.hid hR4
                have HX := Lib.hid hx
                clear hbt hor hF4 hR4 hx hd
                go_wp2_with fail
                go_roundw
                case rel => exact ⟨(j + 1) + 1, acc ||| 2 ^ t, (t : Int), by omega, by go_num, by omega, by omega, fun _ => ⟨by omega, HX.out⟩, by omega, HOR.out, HBT.out, HF4.out, HR4.out⟩
                case measure => simp [intOf]; omega
      · obtain rfl : k = n := by omega
        have hd : xs.drop k = [] := List.drop_eq_nil_of_le (by have := HL.out.len; omega)
        rw [hd] at hbt
        simp only [btF] at hbt
        have HBT := Lib.hid (pkO_some up ex wa gr fi la hbt.symm)
        clear hbt hd hb3 hb4 hst
        have hst : ∀ w', RsAt w' (w.heap.size + 1) zS → (stS ⟨w.heap.size + 1, 0, none⟩ (.agg (rsC (pkS acc up ex wa gr fi la)).toArray)).run Tryz.prog w' = .ok () (w'.setRow (w.heap.size + 1) (rsC (pkS acc up ex wa gr fi la)).toArray) := fun w' h => h.store _
        have hr0 := HR1.out
        have hr1 : ∀ n, RsAt (wr.drewN n) (w.heap.size + 1) zS := fun n => HR1.out
        have hr2 : RsAt wr.drew (w.heap.size + 1) zS := HR1.out
        go_wp2_with fail
        refine wp_region_noPanic ?_
        refine wp_region_held_drew (S := fun w' => Frm [w.heap.size + 1] wr w') (by kernel_rfl) ((Frm.refl _ _).drew) (fun hHeld => ?_)
        refine take_in (i := 0) (d := 108) (v := .agg (rsC (pkS acc up ex wa gr fi la)).toArray) rfl rfl (by kernel_rfl) (by kernel_rfl) (by kernel_rfl) (fun _ _ _ h => h) (by kernel_rfl) (fun w' hS => by have hS' : Frm [w.heap.size + 1] wr w' := hS; have hh := (HR.out.frm hS' (by simp; omega)).load; go_simp) (by assumption) ?_
        try simp only [Act.put, List.setIfInBounds_toArray, List.set_cons_zero, List.set_cons_succ]
        refine take_in (i := 1) (d := 109) (v := .agg (rsC (pkS acc up ex wa gr fi la)).toArray) rfl rfl (by kernel_rfl) (by kernel_rfl) (by kernel_rfl) (fun _ _ _ h => h) (by kernel_rfl) (fun w' hS => by have hS' : Frm [w.heap.size + 1] wr w' := hS; have hh := (HR.out.frm hS' (by simp; omega)).load; go_simp) (by assumption) ?_
        try simp only [Act.put, List.setIfInBounds_toArray, List.set_cons_zero, List.set_cons_succ]
        refine wpAnyH_ready (rs := [2]) (by kernel_rfl) (by simp) ?_
        refine AllReadyH.cons rfl (fun K hK => ?_) AllReadyH.nil
        go_simp
        go_at_call 44
        have hok := HOK.out
        refine (Right_any (s := (pkS acc up ex wa gr fi la)) (by exact hacc) (by simp only [pkS]; omega) (by simp only [pkS]; omega) (by simp only [pkS]; omega) (by simp only [pkS]; omega) (by simp only [pkS]; omega)).mono ?_
        rintro e w2 ⟨rfl, g1⟩
        have hr0 : RsAt w2 (w.heap.size + 1) zS := RsAt.frm (by exact HR1.out) g1 (by simp)
        have hr1 : ∀ n, RsAt (w2.drewN n) (w.heap.size + 1) zS := fun n => hr0
        have hr2 : RsAt w2.drew (w.heap.size + 1) zS := hr0
        have s2 : Frm [w.heap.size + 1] wr w2 := Frm.trans (by (repeat' (first | assumption | exact Frm.refl _ _ | apply Frm.drew | apply Frm.drewN))) g1.nil
        refine hK.out _ _ (by exact s2) (fun hHeld => ?_)
        clear hK K
        try change wpAnyH _ _ _ _ _ _ _ (Act.put _ (some 110) _) _
        try simp only [Act.put, List.setIfInBounds_toArray, List.set_cons_zero, List.set_cons_succ]
        refine wpAnyH_ready (rs := [3]) (by kernel_rfl) (by simp) ?_
        refine AllReadyH.cons rfl (fun K hK => ?_) AllReadyH.nil
        go_simp
        refine hK.out _ _ (Frm.trans (by (repeat' (first | assumption | exact Frm.refl _ _ | apply Frm.drew | apply Frm.drewN))) (frm_row _ _ _)) (fun hHeld => ?_)
        clear hK K
        try simp only [Act.put, List.setIfInBounds_toArray, List.set_cons_zero, List.set_cons_succ]
        refine take_in (i := 4) (d := 7) (v := .bool ((pkS acc up ex wa gr fi la).may 64)) rfl rfl (by kernel_rfl) (by kernel_rfl) (by kernel_rfl) (fun _ _ _ h => h) (by kernel_rfl) (fun _ _ => rfl) (by assumption) ?_
        try simp only [Act.put, List.setIfInBounds_toArray, List.set_cons_zero, List.set_cons_succ]
        refine wpAnyH_done (by kernel_rfl) ?_ _
        refine NoPanic.normal ?_
        go_wp2
        first
          | exact bodyPost_ret (results_st rfl _ rfl rfl (hr0.row (pkS acc up ex wa gr fi la))) rfl ⟨(pkS acc up ex wa gr fi la), ⟨by rw [HBT.out]; cases (pkS acc up ex wa gr fi la).may 64 <;> rfl, (HFX.out.trans HF.out).trans_new hHeld (fun x hx => .inr (by simp at hx; omega))⟩, by rw [HBT.out]; intro s h; split at h <;> cases h; rfl⟩
          | exact bodyPost_ret (results_st rfl _ rfl rfl hB2) rfl ⟨(pkS acc up ex wa gr fi la), ⟨by rw [HBT.out]; cases (pkS acc up ex wa gr fi la).may 64 <;> rfl, (HFX.out.trans HF.out).trans_new hHeld (fun x hx => .inr (by simp at hx; omega))⟩, by rw [HBT.out]; intro s h; split at h <;> cases h; rfl⟩
  · have hr := pkO_far (xs := xs) (gr := gr) hok
    unfold frOk at hok
    have HR := Lib.hid hr
    clear hr
    go_wp2_with fail
    all_goals
      have hR2 := G1.out.row zS
      have hF2 := HFX.out.trans_new (frm_row X (w.heap.size + 1) (rsC zS).toArray) (fun x hx => .inr (by simp at hx; omega))
      generalize X.setRow (w.heap.size + 1) (rsC zS).toArray = Z at hR2 hF2 ⊢
      exact bodyPost_ret (results_st rfl _ rfl rfl hR2) rfl ⟨zS, ⟨by rw [HR.out]; rfl, hF2⟩, by rw [HR.out]; intro s h; cases h⟩
end
end Go.Proofs.YtjhidkjhfgbaeaaGreatDoor

/- The reference's Plain. -/
namespace Go.Proofs.YtjhidkjhfgbaeaaGreatDoor
open Go.ChangeShapes Go.WideShapes Go.ChangeAt Go.RowKit
set_option linter.unusedVariables false
set_option linter.unusedSimpArgs false
attribute [local go_sem ↓] ldS_eq
/-- The first k threads' bits. -/
def bitsP (x k : Nat) : List Int := ((List.range' 0 k).filter (fun i => x.testBit i)).map (fun i => ((i : Nat) : Int))
theorem bitsP_yes {x k : Nat} (h : x.testBit k = true) : bitsP x (k + 1) = bitsP x k ++ [(k : Int)] := by
  unfold bitsP
  rw [List.range'_1_concat, List.filter_append, List.map_append]
  simp [h]
theorem bitsP_no {x k : Nat} (h : x.testBit k = false) : bitsP x (k + 1) = bitsP x k := by
  unfold bitsP
  rw [List.range'_1_concat, List.filter_append, List.map_append]
  simp [h]
theorem bitsP_len (x k : Nat) : (bitsP x k).length ≤ k := by
  unfold bitsP
  rw [List.length_map]
  exact Nat.le_trans (List.length_filter_le _ _) (by simp)
section
variable {w : World}
set_option maxRecDepth 100000 in
set_option maxHeartbeats 4000000 in
theorem Plain_any {s : LS} (hu : -1 ≤ s.up ∧ s.up < 255) (hx : -1 ≤ s.ex ∧ s.ex < 255) (hw : -1 ≤ s.wa ∧ s.wa < 255) :
    Calls Tryz.prog 14 #[.agg (rsC s).toArray] w (fun e w' => ∃ a n c, Ret (.agg #[.slice a n c, .int .i64 s.up, .int .i64 s.ex, .int .i64 s.wa, .int .i64 s.gr, .slice none 0 0]) (fun w' => Frm [] w w' ∧ Row .i64 3 w.heap.size w' a n c (bitsL s.sh)) e w') := by
  obtain ⟨X, hX⟩ : ∃ X, X = (w.alloc (.cells (rsC s).toArray 31)).alloc (.cells #[.slice none 0 0, .int .i64 0, .int .i64 0, .int .i64 0, .int .i64 0, .slice none 0 0] 25) := ⟨_, rfl⟩
  have hFX : Frm [] w X := by rw [hX]; exact ((Frm.refl _ _).alloc _).alloc _
  have hR : RsAt X w.heap.size s := by rw [hX]; exact heap_alloc_old _ (rs_new w s)
  have g1 : X.heap[w.heap.size + 1]? = some (.cells #[.slice none 0 0, .int .i64 0, .int .i64 0, .int .i64 0, .int .i64 0, .slice none 0 0] 25 (0, 0)) := by rw [hX]; exact heap_alloc_at _ (by simp)
  have hl := lt_of_heap hR
  have hl1 := lt_of_heap g1
  obtain ⟨n0, n1, n2, n3, n4, n5⟩ := hR.nums
  have HR := Lib.hid hR
  have HFX := Lib.hid hFX
  have G1 := Lib.hid g1
  clear hR hFX g1
  go_enter Tryz.func14, Tryz.ntmps14
  refine wp_seq_k ?_
  intro K hK
  have HK := Lib.hid hK
  clear hK
  go_wp2_with fail
  refine HK.out _ _ ?_
  clear HK K
  rw [← hX]
  clear hX
  go_wp2_with fail
  have f0 : Frm [] X (X.alloc (.cells #[.slice none 0 0, .int .i64 s.up, .int .i64 s.ex, .int .i64 s.wa, .int .i64 s.gr, .slice none 0 0] 25)) := (Frm.refl _ _).alloc _
  have b1 : (X.alloc (.cells #[.slice none 0 0, .int .i64 s.up, .int .i64 s.ex, .int .i64 s.wa, .int .i64 s.gr, .slice none 0 0] 25)).heap[X.heap.size]? = some (.cells #[.slice none 0 0, .int .i64 s.up, .int .i64 s.ex, .int .i64 s.wa, .int .i64 s.gr, .slice none 0 0] 25 (0, 0)) := heap_alloc_new _ _
  generalize X.alloc (.cells #[.slice none 0 0, .int .i64 s.up, .int .i64 s.ex, .int .i64 s.wa, .int .i64 s.gr, .slice none 0 0] 25) = Y at f0 b1 ⊢
  clear n0 n1 n2 n3 n4 n5
  go_loopw [4] (fun i wr => ∃ (k : Nat) (a : Option Addr) (n c : Nat), k ≤ 64 ∧ i = .int .i64 (k : Int) ∧ Frm [] X wr ∧ Hid (wr.heap[X.heap.size]? = some (.cells #[.slice a n c, .int .i64 s.up, .int .i64 s.ex, .int .i64 s.wa, .int .i64 s.gr, .slice none 0 0] 25 (0, 0))) ∧ Hid (Row .i64 3 X.heap.size wr a n c (bitsP s.sh k))) (fun i _ => 64 - (intOf i).toNat)
  case atStart => exact ⟨0, none, 0, 0, by decide, rfl, f0, Lib.hid b1, Lib.hid (Row.nil _ _ _ _)⟩
  case round =>
    obtain ⟨k, a, n, c, hk, rfl, hF, HB1, HRW⟩ := hrel
    clear f0 b1
    have hl2 := lt_of_heap HB1.out
    obtain ⟨x0, x1, x2, x3, x4, x5⟩ := cells6L HB1.out
    have z0 : wr.frozen? ⟨X.heap.size, 0, none⟩ = false := frozen_of_heap HB1.out
    have hq := row_lat HB1.out HRW.out
    have HF := Lib.hid hF
    have hsz := hF.size
    by_cases hlt : k < 64
    · have hc := (HR.out.frm hF (by simp)).bit hlt
      have hlr := Nat.lt_of_lt_of_le hl hF.size
      clear hF
      cases hb : s.sh.testBit k with
      | true =>
        rw [hb] at hc
        have HBY := Lib.hid (bitsP_yes hb)
        have hln := bitsP_len s.sh k
        go_wp2_with (at_builtin; refine wpl_app Tryz.underlying22 info_int (by decide) (by decide) rfl (.tmp 26) (.tmp 28) rfl (B := X.heap.size) (a := a) (n := n) (c := c) (m := 1) (l := bitsP s.sh k) (l2 := [(k : Int)]) (by simp [Act.eval]) (by simp [Act.eval]) (HRW.out.frm0 ((Frm.refl _ _).alloc _)) (li_new rfl (heap_alloc_new _ _)) (by omega) (by simp; omega) ?_; intro a1 k1 w1 hR1 f1; have F1 : Frm (blk (.slice a n c)) wr w1 := Frm.trans (Frm.nil ((Frm.refl _ _).alloc _)) f1; have HC1 := Lib.hid ((F1.block _ hl2 hq).trans HB1.out); have HF1 := Lib.hid (HF.out.trans_new F1 (fun x hx => .inr ((HRW.out.blk x hx).1))); have HR1 := Lib.hid hR1; have hk1 := lt_of_heap HC1.out; have HX1 := Lib.hid (row_lat HC1.out HR1.out); obtain ⟨q0, q1, q2, q3, q4, q5⟩ := cells6L HC1.out; have t0 : w1.frozen? ⟨X.heap.size, 0, none⟩ = false := frozen_of_heap HC1.out; clear hR1 f1 F1)
        go_roundw
        case rel => exact ⟨k + 1, a1, n + 1, k1, by omega, by go_num, HF1.out.setCell _ _ (.inr (by simp)), Lib.hid (heap_setCell_at _ HC1.out), Lib.hid (HBY.out ▸ HR1.out.frm ((Frm.refl [X.heap.size] _).setCell _ _ (.inl (by simp))) (fun x hx => by have := HX1.out; intro h2; simp at h2; exact this (h2 ▸ hx)))⟩
        case measure => simp [intOf]; omega
      | false =>
        rw [hb] at hc
        have HBY := Lib.hid (bitsP_no hb)
        go_wp2_with fail
        go_roundw
        case rel => exact ⟨k + 1, a, n, c, by omega, by go_num, HF.out, HB1, Lib.hid (HBY.out ▸ HRW.out)⟩
        case measure => simp [intOf]; omega
    · obtain rfl : k = 64 := by omega
      have g1' := hF.heap G1.out (by simp)
      obtain ⟨y0, y1, y2, y3, y4, y5⟩ := cells6L g1'
      have hlr := Nat.lt_of_lt_of_le hl1 hF.size
      have v0 : wr.frozen? ⟨w.heap.size + 1, 0, none⟩ = false := frozen_of_heap g1'
      have v1 : wr.frozen? ⟨w.heap.size + 1, 1, none⟩ = false := frozen_of_heap g1'
      have v2 : wr.frozen? ⟨w.heap.size + 1, 2, none⟩ = false := frozen_of_heap g1'
      have v3 : wr.frozen? ⟨w.heap.size + 1, 3, none⟩ = false := frozen_of_heap g1'
      have v4 : wr.frozen? ⟨w.heap.size + 1, 4, none⟩ = false := frozen_of_heap g1'
      have v5 : wr.frozen? ⟨w.heap.size + 1, 5, none⟩ = false := frozen_of_heap g1'
      have HG := Lib.hid g1'
      clear hF g1'
      go_wp2_with fail
      have hW0 := setCells6 HG.out (.slice a n c) (.int .i64 s.up) (.int .i64 s.ex) (.int .i64 s.wa) (.int .i64 s.gr) (.slice none 0 0)
      have hWF := (HFX.out.trans HF.out).set6 (w.heap.size + 1) (.slice a n c) (.int .i64 s.up) (.int .i64 s.ex) (.int .i64 s.wa) (.int .i64 s.gr) (.slice none 0 0) (.inr (Nat.le_succ _))
      have hWR := HRW.out.frm ((Frm.refl [w.heap.size + 1] _).set6 (w.heap.size + 1) (.slice a n c) (.int .i64 s.up) (.int .i64 s.ex) (.int .i64 s.wa) (.int .i64 s.gr) (.slice none 0 0) (.inl (by simp))) (fun x hx => by have := (HRW.out.blk x hx).1; simp; omega)
      generalize ((((((wr.setCell ⟨w.heap.size + 1, 0, none⟩ (.slice a n c)).setCell ⟨w.heap.size + 1, 1, none⟩ (.int .i64 s.up)).setCell ⟨w.heap.size + 1, 2, none⟩ (.int .i64 s.ex)).setCell ⟨w.heap.size + 1, 3, none⟩ (.int .i64 s.wa)).setCell ⟨w.heap.size + 1, 4, none⟩ (.int .i64 s.gr)).setCell ⟨w.heap.size + 1, 5, none⟩ (.slice none 0 0)) = W at hW0 hWF hWR ⊢
      obtain ⟨y0, y1, y2, y3, y4, y5⟩ := cells6L hW0
      exact bodyPost_ret (v := .agg #[.slice a n c, .int .i64 s.up, .int .i64 s.ex, .int .i64 s.wa, .int .i64 s.gr, .slice none 0 0]) (by simp [results, Tryz.results14, go_sem, y0, y1, y2, y3, y4, y5]) rfl ⟨a, n, c, rfl, hWF, ⟨own_low hWR.1 HFX.out.size, hWR.2⟩⟩
end
end Go.Proofs.YtjhidkjhfgbaeaaGreatDoor
