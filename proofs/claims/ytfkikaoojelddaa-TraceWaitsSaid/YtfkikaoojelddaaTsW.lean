/- Stage 13: the law TraceWaits. (By gen_tsw.py.) -/
import Derived.Test.YtfkikaoojelddaaTrZ
namespace Go.Proofs.Ytfkikaoojelddaa
open Go.ChangeShapes Go.WideShapes Go.ChangeAt Go.RowKit
set_option linter.unusedVariables false
set_option linter.unusedSimpArgs false
def mkD (i : Nat) (x : Int) : Dd :=
  if x / 3 % 8 = 0 then ⟨x % 3, ⟨1, 0, 0, 0⟩, true, false⟩ else if x / 3 % 8 = 1 then ⟨x % 3, ⟨1, 1, 0, 0⟩, true, false⟩ else if x / 3 % 8 = 2 then ⟨x % 3, ⟨1, 0, 0, 0⟩, true, false⟩ else if x / 3 % 8 = 3 then ⟨x % 3, ⟨4, 1, 0, (i : Int) + 1⟩, false, false⟩ else if x / 3 % 8 = 4 then ⟨x % 3, ⟨4, 0, 0, (i : Int) + 1⟩, false, false⟩ else if x / 3 % 8 = 5 then ⟨x % 3, ⟨2, 1, 3, 3⟩, false, false⟩ else if x / 3 % 8 = 6 then ⟨x % 3, ⟨1, 1, 0, 0⟩, false, false⟩ else ⟨x % 3, ⟨0, 0, 0, 0⟩, (Go.bits BinOp.and IntKind.u8 x 1 == 1), false⟩
def mkL (xs : List Int) (k : Nat) : List Dd := (List.range k).map (fun j => mkD j (xs.getD j 0))
theorem mkL_succ (xs : List Int) (k : Nat) : mkL xs (k + 1) = mkL xs k ++ [mkD k (xs.getD k 0)] := by
  unfold mkL; rw [List.range_succ, List.map_append]; rfl
theorem mkL_length (xs : List Int) (k : Nat) : (mkL xs k).length = k := by unfold mkL; simp
theorem mkL_get {xs : List Int} {k j : Nat} (h : j < k) : (mkL xs k)[j]? = some (mkD j (xs.getD j 0)) := by
  unfold mkL; simp [h]
set_option maxRecDepth 100000 in
theorem mkD_ok (i : Nat) (hi : i < 60) {x : Int} (h0 : 0 ≤ x) (h1 : x < 256) : may (mkD i x) = true ∧ (mkD i x).en = false ∧ DdOk (mkD i x) := by
  have ht : 0 ≤ x % 3 ∧ x % 3 < 3 := by omega
  have hw : ∀ y : Int, 0 ≤ y → y < 100 → (Lit.int .i64 y).wf = true := fun y a b => WalkArith.wf_i64 (by omega)
  have hu : ∀ y : Int, 0 ≤ y → y < 100 → (Lit.int .u64 y).wf = true := fun y a b => by
    have e1 : IntKind.u64.min = 0 := by decide
    have e2 : IntKind.u64.max = 18446744073709551615 := by decide
    simp only [Lit.wf, Bool.and_eq_true, decide_eq_true_eq]
    rw [e1, e2]
    omega
  have hb : x / 3 % 8 = 0 ∨ x / 3 % 8 = 1 ∨ x / 3 % 8 = 2 ∨ x / 3 % 8 = 3 ∨ x / 3 % 8 = 4 ∨ x / 3 % 8 = 5 ∨ x / 3 % 8 = 6 ∨ x / 3 % 8 = 7 := by omega
  rcases hb with h | h | h | h | h | h | h | h
  · rw [show mkD i x = ⟨x % 3, ⟨1, 0, 0, 0⟩, true, false⟩ by unfold mkD; simp [h]]
    refine ⟨?_, rfl, hw (x % 3) ht.1 (by have := ht.2; omega), hw 1 (by decide) (by decide), hw 0 (by decide) (by decide), hu 0 (by decide) (by decide), hu (0) (by omega) (by omega)⟩
    obtain ⟨T, hT⟩ : ∃ T, x % 3 = T := ⟨_, rfl⟩
    rw [hT] at ht ⊢
    have h1 := ht.1
    have h2 : T < 64 := by have := ht.2; omega
    unfold may isTh isAc isWd
    simp [h1, h2]
  · rw [show mkD i x = ⟨x % 3, ⟨1, 1, 0, 0⟩, true, false⟩ by unfold mkD; simp [h]]
    refine ⟨?_, rfl, hw (x % 3) ht.1 (by have := ht.2; omega), hw 1 (by decide) (by decide), hw 1 (by decide) (by decide), hu 0 (by decide) (by decide), hu (0) (by omega) (by omega)⟩
    obtain ⟨T, hT⟩ : ∃ T, x % 3 = T := ⟨_, rfl⟩
    rw [hT] at ht ⊢
    have h1 := ht.1
    have h2 : T < 64 := by have := ht.2; omega
    unfold may isTh isAc isWd
    simp [h1, h2]
  · rw [show mkD i x = ⟨x % 3, ⟨1, 0, 0, 0⟩, true, false⟩ by unfold mkD; simp [h]]
    refine ⟨?_, rfl, hw (x % 3) ht.1 (by have := ht.2; omega), hw 1 (by decide) (by decide), hw 0 (by decide) (by decide), hu 0 (by decide) (by decide), hu (0) (by omega) (by omega)⟩
    obtain ⟨T, hT⟩ : ∃ T, x % 3 = T := ⟨_, rfl⟩
    rw [hT] at ht ⊢
    have h1 := ht.1
    have h2 : T < 64 := by have := ht.2; omega
    unfold may isTh isAc isWd
    simp [h1, h2]
  · rw [show mkD i x = ⟨x % 3, ⟨4, 1, 0, (i : Int) + 1⟩, false, false⟩ by unfold mkD; simp [h]]
    refine ⟨?_, rfl, hw (x % 3) ht.1 (by have := ht.2; omega), hw 4 (by decide) (by decide), hw 1 (by decide) (by decide), hu 0 (by decide) (by decide), hu ((i : Int) + 1) (by omega) (by omega)⟩
    obtain ⟨T, hT⟩ : ∃ T, x % 3 = T := ⟨_, rfl⟩
    rw [hT] at ht ⊢
    have h1 := ht.1
    have h2 : T < 64 := by have := ht.2; omega
    unfold may isTh isAc isWd
    simp [h1, h2]
  · rw [show mkD i x = ⟨x % 3, ⟨4, 0, 0, (i : Int) + 1⟩, false, false⟩ by unfold mkD; simp [h]]
    refine ⟨?_, rfl, hw (x % 3) ht.1 (by have := ht.2; omega), hw 4 (by decide) (by decide), hw 0 (by decide) (by decide), hu 0 (by decide) (by decide), hu ((i : Int) + 1) (by omega) (by omega)⟩
    obtain ⟨T, hT⟩ : ∃ T, x % 3 = T := ⟨_, rfl⟩
    rw [hT] at ht ⊢
    have h1 := ht.1
    have h2 : T < 64 := by have := ht.2; omega
    unfold may isTh isAc isWd
    simp [h1, h2]
  · rw [show mkD i x = ⟨x % 3, ⟨2, 1, 3, 3⟩, false, false⟩ by unfold mkD; simp [h]]
    refine ⟨?_, rfl, hw (x % 3) ht.1 (by have := ht.2; omega), hw 2 (by decide) (by decide), hw 1 (by decide) (by decide), hu 3 (by decide) (by decide), hu (3) (by omega) (by omega)⟩
    obtain ⟨T, hT⟩ : ∃ T, x % 3 = T := ⟨_, rfl⟩
    rw [hT] at ht ⊢
    have h1 := ht.1
    have h2 : T < 64 := by have := ht.2; omega
    unfold may isTh isAc isWd
    simp [h1, h2]
  · rw [show mkD i x = ⟨x % 3, ⟨1, 1, 0, 0⟩, false, false⟩ by unfold mkD; simp [h]]
    refine ⟨?_, rfl, hw (x % 3) ht.1 (by have := ht.2; omega), hw 1 (by decide) (by decide), hw 1 (by decide) (by decide), hu 0 (by decide) (by decide), hu (0) (by omega) (by omega)⟩
    obtain ⟨T, hT⟩ : ∃ T, x % 3 = T := ⟨_, rfl⟩
    rw [hT] at ht ⊢
    have h1 := ht.1
    have h2 : T < 64 := by have := ht.2; omega
    unfold may isTh isAc isWd
    simp [h1, h2]
  · rw [show mkD i x = ⟨x % 3, ⟨0, 0, 0, 0⟩, (Go.bits BinOp.and IntKind.u8 x 1 == 1), false⟩ by unfold mkD; simp [h]]
    refine ⟨?_, rfl, hw (x % 3) ht.1 (by have := ht.2; omega), hw 0 (by decide) (by decide), hw 0 (by decide) (by decide), hu 0 (by decide) (by decide), hu (0) (by omega) (by omega)⟩
    obtain ⟨T, hT⟩ : ∃ T, x % 3 = T := ⟨_, rfl⟩
    rw [hT] at ht ⊢
    have h1 := ht.1
    have h2 : T < 64 := by have := ht.2; omega
    unfold may isTh isAc isWd
    simp [h1, h2]
theorem mkL_mem {xs : List Int} {n : Nat} {d : Dd} (h : d ∈ mkL xs n) : ∃ j, j < n ∧ d = mkD j (xs.getD j 0) := by
  unfold mkL at h
  obtain ⟨j, hj, rfl⟩ := List.mem_map.1 h
  exact ⟨j, List.mem_range.1 hj, rfl⟩
theorem mkL_ok {xs : List Int} {n : Nat} (hn : n ≤ 60) (hx : ∀ j, j < n → 0 ≤ xs.getD j 0 ∧ xs.getD j 0 < 256) : vldT (mkL xs n) = true ∧ ∀ d ∈ mkL xs n, DdOk d := by
  have hm : ∀ d ∈ mkL xs n, may d = true ∧ d.en = false ∧ DdOk d := fun d hd => by
    obtain ⟨j, hj, rfl⟩ := mkL_mem hd
    exact mkD_ok j (by omega) (hx j hj).1 (hx j hj).2
  refine ⟨vldT_iff.2 fun k hk => ?_, fun d hd => (hm d hd).2.2⟩
  unfold okAt
  cases hd : (mkL xs n)[k]? with
  | none => rfl
  | some d =>
    have h1 := (hm d (List.mem_of_getElem? hd)).1
    have h2 : endd ((mkL xs n).take k) d.i = false := by
      unfold endd
      rw [List.any_eq_false]
      intro e he
      rw [(hm e (List.mem_of_mem_take he)).2.1]
      simp
    simp only [h1, h2, Bool.not_false, Bool.and_self]
set_option maxRecDepth 100000 in
set_option maxHeartbeats 12800000 in
theorem walk_TraceWaits (a : Option Addr) (n c : Nat) (zs : List Int) (w : World) (hz : IsRow .u8 w a n c zs) :
    Calls Try.prog 5 #[.slice a n c] w (Ret (.bool true) (fun w' => Below w.heap.size w w')) := by
  obtain ⟨b, o, hL, hwf, _⟩ := li_of_row hz
  generalize zs.take n = xs at hL hwf
  have HL := Lib.hid hL
  have HWF := Lib.hid hwf
  clear hz hL hwf
  by_cases hlong : 60 < n
  · have hb : decide ((60 : Int) < (n : Int)) = true := by simp; omega
    clear hlong
    go_enter Try.func5, Try.ntmps5
    go_wp2_with fail
    refine (known_true _).mono ?_
    rintro e9 w9 ⟨rfl, f9⟩
    go_wp2_with fail
    go_ret
    exact ⟨rfl, ((Frm.refl [] w).trans f9).below (Nat.le_refl _) (fun x hx => by simp at hx)⟩
  · have hb : decide ((60 : Int) < (n : Int)) = false := by simp; omega
    have HN := Lib.hid (show n ≤ 60 by omega)
    have hn2 : (n : Int) ≤ 60 := by omega
    clear hlong
    go_enter Try.func5, Try.ntmps5
    go_wp2_with fail
    go_loopw [3, 14] (fun sl i wr => ∃ (k : Nat) (a1 : Option Addr) (c1 : Nat), k ≤ n ∧ i = .int .i64 k ∧ sl = .slice a1 k c1 ∧ Frm [] w wr ∧ Gr 40 7 w.heap.size wr a1 k c1 (ddF (mkL xs k))) (fun _ i _ => n - (intOf i).toNat)
    case atStart => exact ⟨0, none, 0, Nat.zero_le _, rfl, rfl, Frm.refl _ _, Gr.nil _ _ _ _ _⟩
    case round =>
      obtain ⟨k, a1, c1, hk, rfl, rfl, hF, hG⟩ := hrel
      by_cases hlt : k < n
      · have hL1 := HL.out.frm0 hF
        have hix := ix_u8 (c := c) hL1.ad hlt
        obtain ⟨x, hx, hxd, hxc⟩ := hL1.get hlt
        have hxw := HWF.out x (List.mem_of_getElem? hx)
        have hx0 : 0 ≤ x ∧ x < 256 := by
          have e1 : IntKind.u8.min = 0 := by decide
          have e2 : IntKind.u8.max = 255 := by decide
          simp only [Lit.wf, Bool.and_eq_true, decide_eq_true_eq] at hxw
          rw [e1, e2] at hxw
          omega
        obtain ⟨hx0, hx1⟩ := hx0
        have HX := Lib.hid hxd
        have HF := Lib.hid hF
        have HG := Lib.hid hG
        have hk60 : (k : Int) < 60 := by omega
        have hb0 : Go.bits BinOp.and IntKind.i64 0 1 = 0 := by decide
        have hb1 : Go.bits BinOp.and IntKind.i64 1 1 = 1 := by decide
        have hb2 : Go.bits BinOp.and IntKind.i64 2 1 = 0 := by decide
        have hb3 : Go.bits BinOp.and IntKind.i64 3 1 = 1 := by decide
        have hb4 : Go.bits BinOp.and IntKind.i64 4 1 = 0 := by decide
        have hK8 : x / 3 % 8 = 0 ∨ x / 3 % 8 = 1 ∨ x / 3 % 8 = 2 ∨ x / 3 % 8 = 3 ∨ x / 3 % 8 = 4 ∨ x / 3 % 8 = 5 ∨ x / 3 % 8 = 6 ∨ x / 3 % 8 = 7 := by omega
        clear hF hG hL1 hx hxd hxw
        rcases hK8 with hK | hK | hK | hK | hK | hK | hK | hK
        · have HD := Lib.hid (show mkD k x = ⟨x % 3, ⟨1, 0, 0, 0⟩, true, false⟩ by unfold mkD; simp [hK])
          obtain ⟨T, hT⟩ : ∃ T, x % 3 = T := ⟨_, rfl⟩
          have hT0 : 0 ≤ T := by omega
          have hT1 : T < 3 := by omega
          have HAL := Lib.hid ((HF.out.alloc (.cells #[.int .i64 T, .int .i64 1, .int .i64 0, .int .u64 0, .int .u64 (0), .bool true, .bool false] 40)).alloc (.cells #[.int .i64 T, .int .i64 1, .int .i64 0, .int .u64 0, .int .u64 (0), .bool true, .bool false] 40))
          have HROW := Lib.hid (HG.out.frm0 (((Frm.refl [] wr).alloc (.cells #[.int .i64 T, .int .i64 1, .int .i64 0, .int .u64 0, .int .u64 (0), .bool true, .bool false] 40)).alloc (.cells #[.int .i64 T, .int .i64 1, .int .i64 0, .int .u64 0, .int .u64 (0), .bool true, .bool false] 40)))
          have HWW := Lib.hid (show w.heap.size ≤ ((wr.alloc (.cells #[.int .i64 T, .int .i64 1, .int .i64 0, .int .u64 0, .int .u64 (0), .bool true, .bool false] 40)).alloc (.cells #[.int .i64 T, .int .i64 1, .int .i64 0, .int .u64 0, .int .u64 (0), .bool true, .bool false] 40)).heap.size by have := HF.out.size; simp; omega)
          have HK6 := Lib.hid (show k ≤ 1000000 by have := HN.out; omega)
          have HO := Lib.hid (show mkL xs (k + 1) = mkL xs k ++ [⟨T, ⟨1, 0, 0, 0⟩, true, false⟩] by rw [mkL_succ, HX.out, HD.out, hT])
          have HA := Lib.hid (show ∀ j, j < k + 1 → ddF (mkL xs (k + 1)) j = upd (ddF (mkL xs k)) k [.int .i64 T, .int .i64 1, .int .i64 0, .int .u64 0, .int .u64 (0), .bool true, .bool false] j from fun j hj => by rw [HO.out]; have := ddF_app (mkL xs k) ⟨T, ⟨1, 0, 0, 0⟩, true, false⟩ (k := j) (by rw [mkL_length]; exact hj); rw [mkL_length] at this; exact this)
          go_wp2_with (at_builtin; refine wpl_gr u_did i_did (by decide) (by decide) (by decide) rfl (.tmp 59) (.tmp 61) rfl (B := w.heap.size) (g2 := (wr.alloc (.cells #[.int .i64 T, .int .i64 1, .int .i64 0, .int .u64 0, .int .u64 (0), .bool true, .bool false] 40)).heap.size) (l := [.int .i64 T, .int .i64 1, .int .i64 0, .int .u64 0, .int .u64 (0), .bool true, .bool false]) (by simp [Act.eval]) (by simp [Act.eval]) HROW.out rfl (by simp [Value.oneCell']) (heap_alloc_new _ _) HK6.out HWW.out ?_; intro a2 c2 w3 hG3 hF3 hb3; have HG3 := Lib.hid hG3; have HF3 := Lib.hid hF3; clear hG3 hF3 hb3)
          go_roundw
          case rel =>
            refine ⟨k + 1, a2, c2, by omega, by go_num, by simp, HAL.out.trans_new HF3.out (fun x hx => .inr (HROW.out.from_ x hx).1), ?_⟩
            exact HG3.out.congr HA.out
          case measure => simp [intOf]; omega
        · have HD := Lib.hid (show mkD k x = ⟨x % 3, ⟨1, 1, 0, 0⟩, true, false⟩ by unfold mkD; simp [hK])
          obtain ⟨T, hT⟩ : ∃ T, x % 3 = T := ⟨_, rfl⟩
          have hT0 : 0 ≤ T := by omega
          have hT1 : T < 3 := by omega
          have HAL := Lib.hid ((HF.out.alloc (.cells #[.int .i64 T, .int .i64 1, .int .i64 1, .int .u64 0, .int .u64 (0), .bool true, .bool false] 40)).alloc (.cells #[.int .i64 T, .int .i64 1, .int .i64 1, .int .u64 0, .int .u64 (0), .bool true, .bool false] 40))
          have HROW := Lib.hid (HG.out.frm0 (((Frm.refl [] wr).alloc (.cells #[.int .i64 T, .int .i64 1, .int .i64 1, .int .u64 0, .int .u64 (0), .bool true, .bool false] 40)).alloc (.cells #[.int .i64 T, .int .i64 1, .int .i64 1, .int .u64 0, .int .u64 (0), .bool true, .bool false] 40)))
          have HWW := Lib.hid (show w.heap.size ≤ ((wr.alloc (.cells #[.int .i64 T, .int .i64 1, .int .i64 1, .int .u64 0, .int .u64 (0), .bool true, .bool false] 40)).alloc (.cells #[.int .i64 T, .int .i64 1, .int .i64 1, .int .u64 0, .int .u64 (0), .bool true, .bool false] 40)).heap.size by have := HF.out.size; simp; omega)
          have HK6 := Lib.hid (show k ≤ 1000000 by have := HN.out; omega)
          have HO := Lib.hid (show mkL xs (k + 1) = mkL xs k ++ [⟨T, ⟨1, 1, 0, 0⟩, true, false⟩] by rw [mkL_succ, HX.out, HD.out, hT])
          have HA := Lib.hid (show ∀ j, j < k + 1 → ddF (mkL xs (k + 1)) j = upd (ddF (mkL xs k)) k [.int .i64 T, .int .i64 1, .int .i64 1, .int .u64 0, .int .u64 (0), .bool true, .bool false] j from fun j hj => by rw [HO.out]; have := ddF_app (mkL xs k) ⟨T, ⟨1, 1, 0, 0⟩, true, false⟩ (k := j) (by rw [mkL_length]; exact hj); rw [mkL_length] at this; exact this)
          go_wp2_with (at_builtin; refine wpl_gr u_did i_did (by decide) (by decide) (by decide) rfl (.tmp 59) (.tmp 61) rfl (B := w.heap.size) (g2 := (wr.alloc (.cells #[.int .i64 T, .int .i64 1, .int .i64 1, .int .u64 0, .int .u64 (0), .bool true, .bool false] 40)).heap.size) (l := [.int .i64 T, .int .i64 1, .int .i64 1, .int .u64 0, .int .u64 (0), .bool true, .bool false]) (by simp [Act.eval]) (by simp [Act.eval]) HROW.out rfl (by simp [Value.oneCell']) (heap_alloc_new _ _) HK6.out HWW.out ?_; intro a2 c2 w3 hG3 hF3 hb3; have HG3 := Lib.hid hG3; have HF3 := Lib.hid hF3; clear hG3 hF3 hb3)
          go_roundw
          case rel =>
            refine ⟨k + 1, a2, c2, by omega, by go_num, by simp, HAL.out.trans_new HF3.out (fun x hx => .inr (HROW.out.from_ x hx).1), ?_⟩
            exact HG3.out.congr HA.out
          case measure => simp [intOf]; omega
        · have HD := Lib.hid (show mkD k x = ⟨x % 3, ⟨1, 0, 0, 0⟩, true, false⟩ by unfold mkD; simp [hK])
          obtain ⟨T, hT⟩ : ∃ T, x % 3 = T := ⟨_, rfl⟩
          have hT0 : 0 ≤ T := by omega
          have hT1 : T < 3 := by omega
          have HAL := Lib.hid ((HF.out.alloc (.cells #[.int .i64 T, .int .i64 1, .int .i64 0, .int .u64 0, .int .u64 (0), .bool true, .bool false] 40)).alloc (.cells #[.int .i64 T, .int .i64 1, .int .i64 0, .int .u64 0, .int .u64 (0), .bool true, .bool false] 40))
          have HROW := Lib.hid (HG.out.frm0 (((Frm.refl [] wr).alloc (.cells #[.int .i64 T, .int .i64 1, .int .i64 0, .int .u64 0, .int .u64 (0), .bool true, .bool false] 40)).alloc (.cells #[.int .i64 T, .int .i64 1, .int .i64 0, .int .u64 0, .int .u64 (0), .bool true, .bool false] 40)))
          have HWW := Lib.hid (show w.heap.size ≤ ((wr.alloc (.cells #[.int .i64 T, .int .i64 1, .int .i64 0, .int .u64 0, .int .u64 (0), .bool true, .bool false] 40)).alloc (.cells #[.int .i64 T, .int .i64 1, .int .i64 0, .int .u64 0, .int .u64 (0), .bool true, .bool false] 40)).heap.size by have := HF.out.size; simp; omega)
          have HK6 := Lib.hid (show k ≤ 1000000 by have := HN.out; omega)
          have HO := Lib.hid (show mkL xs (k + 1) = mkL xs k ++ [⟨T, ⟨1, 0, 0, 0⟩, true, false⟩] by rw [mkL_succ, HX.out, HD.out, hT])
          have HA := Lib.hid (show ∀ j, j < k + 1 → ddF (mkL xs (k + 1)) j = upd (ddF (mkL xs k)) k [.int .i64 T, .int .i64 1, .int .i64 0, .int .u64 0, .int .u64 (0), .bool true, .bool false] j from fun j hj => by rw [HO.out]; have := ddF_app (mkL xs k) ⟨T, ⟨1, 0, 0, 0⟩, true, false⟩ (k := j) (by rw [mkL_length]; exact hj); rw [mkL_length] at this; exact this)
          go_wp2_with (at_builtin; refine wpl_gr u_did i_did (by decide) (by decide) (by decide) rfl (.tmp 59) (.tmp 61) rfl (B := w.heap.size) (g2 := (wr.alloc (.cells #[.int .i64 T, .int .i64 1, .int .i64 0, .int .u64 0, .int .u64 (0), .bool true, .bool false] 40)).heap.size) (l := [.int .i64 T, .int .i64 1, .int .i64 0, .int .u64 0, .int .u64 (0), .bool true, .bool false]) (by simp [Act.eval]) (by simp [Act.eval]) HROW.out rfl (by simp [Value.oneCell']) (heap_alloc_new _ _) HK6.out HWW.out ?_; intro a2 c2 w3 hG3 hF3 hb3; have HG3 := Lib.hid hG3; have HF3 := Lib.hid hF3; clear hG3 hF3 hb3)
          go_roundw
          case rel =>
            refine ⟨k + 1, a2, c2, by omega, by go_num, by simp, HAL.out.trans_new HF3.out (fun x hx => .inr (HROW.out.from_ x hx).1), ?_⟩
            exact HG3.out.congr HA.out
          case measure => simp [intOf]; omega
        · have HD := Lib.hid (show mkD k x = ⟨x % 3, ⟨4, 1, 0, (k : Int) + 1⟩, false, false⟩ by unfold mkD; simp [hK])
          obtain ⟨T, hT⟩ : ∃ T, x % 3 = T := ⟨_, rfl⟩
          have hT0 : 0 ≤ T := by omega
          have hT1 : T < 3 := by omega
          have HAL := Lib.hid ((HF.out.alloc (.cells #[.int .i64 T, .int .i64 4, .int .i64 1, .int .u64 0, .int .u64 ((k : Int) + 1), .bool false, .bool false] 40)).alloc (.cells #[.int .i64 T, .int .i64 4, .int .i64 1, .int .u64 0, .int .u64 ((k : Int) + 1), .bool false, .bool false] 40))
          have HROW := Lib.hid (HG.out.frm0 (((Frm.refl [] wr).alloc (.cells #[.int .i64 T, .int .i64 4, .int .i64 1, .int .u64 0, .int .u64 ((k : Int) + 1), .bool false, .bool false] 40)).alloc (.cells #[.int .i64 T, .int .i64 4, .int .i64 1, .int .u64 0, .int .u64 ((k : Int) + 1), .bool false, .bool false] 40)))
          have HWW := Lib.hid (show w.heap.size ≤ ((wr.alloc (.cells #[.int .i64 T, .int .i64 4, .int .i64 1, .int .u64 0, .int .u64 ((k : Int) + 1), .bool false, .bool false] 40)).alloc (.cells #[.int .i64 T, .int .i64 4, .int .i64 1, .int .u64 0, .int .u64 ((k : Int) + 1), .bool false, .bool false] 40)).heap.size by have := HF.out.size; simp; omega)
          have HK6 := Lib.hid (show k ≤ 1000000 by have := HN.out; omega)
          have HO := Lib.hid (show mkL xs (k + 1) = mkL xs k ++ [⟨T, ⟨4, 1, 0, (k : Int) + 1⟩, false, false⟩] by rw [mkL_succ, HX.out, HD.out, hT])
          have HA := Lib.hid (show ∀ j, j < k + 1 → ddF (mkL xs (k + 1)) j = upd (ddF (mkL xs k)) k [.int .i64 T, .int .i64 4, .int .i64 1, .int .u64 0, .int .u64 ((k : Int) + 1), .bool false, .bool false] j from fun j hj => by rw [HO.out]; have := ddF_app (mkL xs k) ⟨T, ⟨4, 1, 0, (k : Int) + 1⟩, false, false⟩ (k := j) (by rw [mkL_length]; exact hj); rw [mkL_length] at this; exact this)
          go_wp2_with (at_builtin; refine wpl_gr u_did i_did (by decide) (by decide) (by decide) rfl (.tmp 59) (.tmp 61) rfl (B := w.heap.size) (g2 := (wr.alloc (.cells #[.int .i64 T, .int .i64 4, .int .i64 1, .int .u64 0, .int .u64 ((k : Int) + 1), .bool false, .bool false] 40)).heap.size) (l := [.int .i64 T, .int .i64 4, .int .i64 1, .int .u64 0, .int .u64 ((k : Int) + 1), .bool false, .bool false]) (by simp [Act.eval]) (by simp [Act.eval]) HROW.out rfl (by simp [Value.oneCell']) (heap_alloc_new _ _) HK6.out HWW.out ?_; intro a2 c2 w3 hG3 hF3 hb3; have HG3 := Lib.hid hG3; have HF3 := Lib.hid hF3; clear hG3 hF3 hb3)
          go_roundw
          case rel =>
            refine ⟨k + 1, a2, c2, by omega, by go_num, by simp, HAL.out.trans_new HF3.out (fun x hx => .inr (HROW.out.from_ x hx).1), ?_⟩
            exact HG3.out.congr HA.out
          case measure => simp [intOf]; omega
        · have HD := Lib.hid (show mkD k x = ⟨x % 3, ⟨4, 0, 0, (k : Int) + 1⟩, false, false⟩ by unfold mkD; simp [hK])
          obtain ⟨T, hT⟩ : ∃ T, x % 3 = T := ⟨_, rfl⟩
          have hT0 : 0 ≤ T := by omega
          have hT1 : T < 3 := by omega
          have HAL := Lib.hid ((HF.out.alloc (.cells #[.int .i64 T, .int .i64 4, .int .i64 0, .int .u64 0, .int .u64 ((k : Int) + 1), .bool false, .bool false] 40)).alloc (.cells #[.int .i64 T, .int .i64 4, .int .i64 0, .int .u64 0, .int .u64 ((k : Int) + 1), .bool false, .bool false] 40))
          have HROW := Lib.hid (HG.out.frm0 (((Frm.refl [] wr).alloc (.cells #[.int .i64 T, .int .i64 4, .int .i64 0, .int .u64 0, .int .u64 ((k : Int) + 1), .bool false, .bool false] 40)).alloc (.cells #[.int .i64 T, .int .i64 4, .int .i64 0, .int .u64 0, .int .u64 ((k : Int) + 1), .bool false, .bool false] 40)))
          have HWW := Lib.hid (show w.heap.size ≤ ((wr.alloc (.cells #[.int .i64 T, .int .i64 4, .int .i64 0, .int .u64 0, .int .u64 ((k : Int) + 1), .bool false, .bool false] 40)).alloc (.cells #[.int .i64 T, .int .i64 4, .int .i64 0, .int .u64 0, .int .u64 ((k : Int) + 1), .bool false, .bool false] 40)).heap.size by have := HF.out.size; simp; omega)
          have HK6 := Lib.hid (show k ≤ 1000000 by have := HN.out; omega)
          have HO := Lib.hid (show mkL xs (k + 1) = mkL xs k ++ [⟨T, ⟨4, 0, 0, (k : Int) + 1⟩, false, false⟩] by rw [mkL_succ, HX.out, HD.out, hT])
          have HA := Lib.hid (show ∀ j, j < k + 1 → ddF (mkL xs (k + 1)) j = upd (ddF (mkL xs k)) k [.int .i64 T, .int .i64 4, .int .i64 0, .int .u64 0, .int .u64 ((k : Int) + 1), .bool false, .bool false] j from fun j hj => by rw [HO.out]; have := ddF_app (mkL xs k) ⟨T, ⟨4, 0, 0, (k : Int) + 1⟩, false, false⟩ (k := j) (by rw [mkL_length]; exact hj); rw [mkL_length] at this; exact this)
          go_wp2_with (at_builtin; refine wpl_gr u_did i_did (by decide) (by decide) (by decide) rfl (.tmp 59) (.tmp 61) rfl (B := w.heap.size) (g2 := (wr.alloc (.cells #[.int .i64 T, .int .i64 4, .int .i64 0, .int .u64 0, .int .u64 ((k : Int) + 1), .bool false, .bool false] 40)).heap.size) (l := [.int .i64 T, .int .i64 4, .int .i64 0, .int .u64 0, .int .u64 ((k : Int) + 1), .bool false, .bool false]) (by simp [Act.eval]) (by simp [Act.eval]) HROW.out rfl (by simp [Value.oneCell']) (heap_alloc_new _ _) HK6.out HWW.out ?_; intro a2 c2 w3 hG3 hF3 hb3; have HG3 := Lib.hid hG3; have HF3 := Lib.hid hF3; clear hG3 hF3 hb3)
          go_roundw
          case rel =>
            refine ⟨k + 1, a2, c2, by omega, by go_num, by simp, HAL.out.trans_new HF3.out (fun x hx => .inr (HROW.out.from_ x hx).1), ?_⟩
            exact HG3.out.congr HA.out
          case measure => simp [intOf]; omega
        · have HD := Lib.hid (show mkD k x = ⟨x % 3, ⟨2, 1, 3, 3⟩, false, false⟩ by unfold mkD; simp [hK])
          obtain ⟨T, hT⟩ : ∃ T, x % 3 = T := ⟨_, rfl⟩
          have hT0 : 0 ≤ T := by omega
          have hT1 : T < 3 := by omega
          have HAL := Lib.hid ((HF.out.alloc (.cells #[.int .i64 T, .int .i64 2, .int .i64 1, .int .u64 3, .int .u64 (3), .bool false, .bool false] 40)).alloc (.cells #[.int .i64 T, .int .i64 2, .int .i64 1, .int .u64 3, .int .u64 (3), .bool false, .bool false] 40))
          have HROW := Lib.hid (HG.out.frm0 (((Frm.refl [] wr).alloc (.cells #[.int .i64 T, .int .i64 2, .int .i64 1, .int .u64 3, .int .u64 (3), .bool false, .bool false] 40)).alloc (.cells #[.int .i64 T, .int .i64 2, .int .i64 1, .int .u64 3, .int .u64 (3), .bool false, .bool false] 40)))
          have HWW := Lib.hid (show w.heap.size ≤ ((wr.alloc (.cells #[.int .i64 T, .int .i64 2, .int .i64 1, .int .u64 3, .int .u64 (3), .bool false, .bool false] 40)).alloc (.cells #[.int .i64 T, .int .i64 2, .int .i64 1, .int .u64 3, .int .u64 (3), .bool false, .bool false] 40)).heap.size by have := HF.out.size; simp; omega)
          have HK6 := Lib.hid (show k ≤ 1000000 by have := HN.out; omega)
          have HO := Lib.hid (show mkL xs (k + 1) = mkL xs k ++ [⟨T, ⟨2, 1, 3, 3⟩, false, false⟩] by rw [mkL_succ, HX.out, HD.out, hT])
          have HA := Lib.hid (show ∀ j, j < k + 1 → ddF (mkL xs (k + 1)) j = upd (ddF (mkL xs k)) k [.int .i64 T, .int .i64 2, .int .i64 1, .int .u64 3, .int .u64 (3), .bool false, .bool false] j from fun j hj => by rw [HO.out]; have := ddF_app (mkL xs k) ⟨T, ⟨2, 1, 3, 3⟩, false, false⟩ (k := j) (by rw [mkL_length]; exact hj); rw [mkL_length] at this; exact this)
          go_wp2_with (at_builtin; refine wpl_gr u_did i_did (by decide) (by decide) (by decide) rfl (.tmp 59) (.tmp 61) rfl (B := w.heap.size) (g2 := (wr.alloc (.cells #[.int .i64 T, .int .i64 2, .int .i64 1, .int .u64 3, .int .u64 (3), .bool false, .bool false] 40)).heap.size) (l := [.int .i64 T, .int .i64 2, .int .i64 1, .int .u64 3, .int .u64 (3), .bool false, .bool false]) (by simp [Act.eval]) (by simp [Act.eval]) HROW.out rfl (by simp [Value.oneCell']) (heap_alloc_new _ _) HK6.out HWW.out ?_; intro a2 c2 w3 hG3 hF3 hb3; have HG3 := Lib.hid hG3; have HF3 := Lib.hid hF3; clear hG3 hF3 hb3)
          go_roundw
          case rel =>
            refine ⟨k + 1, a2, c2, by omega, by go_num, by simp, HAL.out.trans_new HF3.out (fun x hx => .inr (HROW.out.from_ x hx).1), ?_⟩
            exact HG3.out.congr HA.out
          case measure => simp [intOf]; omega
        · have HD := Lib.hid (show mkD k x = ⟨x % 3, ⟨1, 1, 0, 0⟩, false, false⟩ by unfold mkD; simp [hK])
          obtain ⟨T, hT⟩ : ∃ T, x % 3 = T := ⟨_, rfl⟩
          have hT0 : 0 ≤ T := by omega
          have hT1 : T < 3 := by omega
          have HAL := Lib.hid ((HF.out.alloc (.cells #[.int .i64 T, .int .i64 1, .int .i64 1, .int .u64 0, .int .u64 (0), .bool false, .bool false] 40)).alloc (.cells #[.int .i64 T, .int .i64 1, .int .i64 1, .int .u64 0, .int .u64 (0), .bool false, .bool false] 40))
          have HROW := Lib.hid (HG.out.frm0 (((Frm.refl [] wr).alloc (.cells #[.int .i64 T, .int .i64 1, .int .i64 1, .int .u64 0, .int .u64 (0), .bool false, .bool false] 40)).alloc (.cells #[.int .i64 T, .int .i64 1, .int .i64 1, .int .u64 0, .int .u64 (0), .bool false, .bool false] 40)))
          have HWW := Lib.hid (show w.heap.size ≤ ((wr.alloc (.cells #[.int .i64 T, .int .i64 1, .int .i64 1, .int .u64 0, .int .u64 (0), .bool false, .bool false] 40)).alloc (.cells #[.int .i64 T, .int .i64 1, .int .i64 1, .int .u64 0, .int .u64 (0), .bool false, .bool false] 40)).heap.size by have := HF.out.size; simp; omega)
          have HK6 := Lib.hid (show k ≤ 1000000 by have := HN.out; omega)
          have HO := Lib.hid (show mkL xs (k + 1) = mkL xs k ++ [⟨T, ⟨1, 1, 0, 0⟩, false, false⟩] by rw [mkL_succ, HX.out, HD.out, hT])
          have HA := Lib.hid (show ∀ j, j < k + 1 → ddF (mkL xs (k + 1)) j = upd (ddF (mkL xs k)) k [.int .i64 T, .int .i64 1, .int .i64 1, .int .u64 0, .int .u64 (0), .bool false, .bool false] j from fun j hj => by rw [HO.out]; have := ddF_app (mkL xs k) ⟨T, ⟨1, 1, 0, 0⟩, false, false⟩ (k := j) (by rw [mkL_length]; exact hj); rw [mkL_length] at this; exact this)
          go_wp2_with (at_builtin; refine wpl_gr u_did i_did (by decide) (by decide) (by decide) rfl (.tmp 59) (.tmp 61) rfl (B := w.heap.size) (g2 := (wr.alloc (.cells #[.int .i64 T, .int .i64 1, .int .i64 1, .int .u64 0, .int .u64 (0), .bool false, .bool false] 40)).heap.size) (l := [.int .i64 T, .int .i64 1, .int .i64 1, .int .u64 0, .int .u64 (0), .bool false, .bool false]) (by simp [Act.eval]) (by simp [Act.eval]) HROW.out rfl (by simp [Value.oneCell']) (heap_alloc_new _ _) HK6.out HWW.out ?_; intro a2 c2 w3 hG3 hF3 hb3; have HG3 := Lib.hid hG3; have HF3 := Lib.hid hF3; clear hG3 hF3 hb3)
          go_roundw
          case rel =>
            refine ⟨k + 1, a2, c2, by omega, by go_num, by simp, HAL.out.trans_new HF3.out (fun x hx => .inr (HROW.out.from_ x hx).1), ?_⟩
            exact HG3.out.congr HA.out
          case measure => simp [intOf]; omega
        · have HD := Lib.hid (show mkD k x = ⟨x % 3, ⟨0, 0, 0, 0⟩, (Go.bits BinOp.and IntKind.u8 x 1 == 1), false⟩ by unfold mkD; simp [hK])
          obtain ⟨β, hβ⟩ : ∃ β, (Go.bits BinOp.and IntKind.u8 x 1 == 1) = β := ⟨_, rfl⟩
          obtain ⟨T, hT⟩ : ∃ T, x % 3 = T := ⟨_, rfl⟩
          have hT0 : 0 ≤ T := by omega
          have hT1 : T < 3 := by omega
          have HAL := Lib.hid ((HF.out.alloc (.cells #[.int .i64 T, .int .i64 0, .int .i64 0, .int .u64 0, .int .u64 (0), .bool β, .bool false] 40)).alloc (.cells #[.int .i64 T, .int .i64 0, .int .i64 0, .int .u64 0, .int .u64 (0), .bool β, .bool false] 40))
          have HROW := Lib.hid (HG.out.frm0 (((Frm.refl [] wr).alloc (.cells #[.int .i64 T, .int .i64 0, .int .i64 0, .int .u64 0, .int .u64 (0), .bool β, .bool false] 40)).alloc (.cells #[.int .i64 T, .int .i64 0, .int .i64 0, .int .u64 0, .int .u64 (0), .bool β, .bool false] 40)))
          have HWW := Lib.hid (show w.heap.size ≤ ((wr.alloc (.cells #[.int .i64 T, .int .i64 0, .int .i64 0, .int .u64 0, .int .u64 (0), .bool β, .bool false] 40)).alloc (.cells #[.int .i64 T, .int .i64 0, .int .i64 0, .int .u64 0, .int .u64 (0), .bool β, .bool false] 40)).heap.size by have := HF.out.size; simp; omega)
          have HK6 := Lib.hid (show k ≤ 1000000 by have := HN.out; omega)
          have HO := Lib.hid (show mkL xs (k + 1) = mkL xs k ++ [⟨T, ⟨0, 0, 0, 0⟩, β, false⟩] by rw [mkL_succ, HX.out, HD.out, hT, hβ])
          have HA := Lib.hid (show ∀ j, j < k + 1 → ddF (mkL xs (k + 1)) j = upd (ddF (mkL xs k)) k [.int .i64 T, .int .i64 0, .int .i64 0, .int .u64 0, .int .u64 (0), .bool β, .bool false] j from fun j hj => by rw [HO.out]; have := ddF_app (mkL xs k) ⟨T, ⟨0, 0, 0, 0⟩, β, false⟩ (k := j) (by rw [mkL_length]; exact hj); rw [mkL_length] at this; exact this)
          go_wp2_with (at_builtin; refine wpl_gr u_did i_did (by decide) (by decide) (by decide) rfl (.tmp 59) (.tmp 61) rfl (B := w.heap.size) (g2 := (wr.alloc (.cells #[.int .i64 T, .int .i64 0, .int .i64 0, .int .u64 0, .int .u64 (0), .bool β, .bool false] 40)).heap.size) (l := [.int .i64 T, .int .i64 0, .int .i64 0, .int .u64 0, .int .u64 (0), .bool β, .bool false]) (by simp [Act.eval]) (by simp [Act.eval]) HROW.out rfl (by simp [Value.oneCell']) (heap_alloc_new _ _) HK6.out HWW.out ?_; intro a2 c2 w3 hG3 hF3 hb3; have HG3 := Lib.hid hG3; have HF3 := Lib.hid hF3; clear hG3 hF3 hb3)
          go_roundw
          case rel =>
            refine ⟨k + 1, a2, c2, by omega, by go_num, by simp, HAL.out.trans_new HF3.out (fun x hx => .inr (HROW.out.from_ x hx).1), ?_⟩
            exact HG3.out.congr HA.out
          case measure => simp [intOf]; omega
      · have hkn : k = n := by omega
        subst hkn
        have hx := HL.out
        have hxb : ∀ j, j < k → 0 ≤ xs.getD j 0 ∧ xs.getD j 0 < 256 := fun j hj => by
          obtain ⟨x, hx, hxd, _⟩ := hx.get hj
          have hxw := HWF.out x (List.mem_of_getElem? hx)
          have e1 : IntKind.u8.min = 0 := by decide
          have e2 : IntKind.u8.max = 255 := by decide
          simp only [Lit.wf, Bool.and_eq_true, decide_eq_true_eq] at hxw
          rw [e1, e2] at hxw
          rw [hxd]
          omega
        obtain ⟨hv, hok⟩ := mkL_ok HN.out hxb
        obtain ⟨b1, hD⟩ := hG.dl (mkL_length xs k)
        have HV := Lib.hid (show vld (mkL xs k) = true by unfold vld; rw [hv, mkL_length]; simp; have := HN.out; omega)
        have HWR := Lib.hid (show waR (mkL xs k) = (wts (mkL xs k), 0) by unfold waR; rw [if_neg]; unfold wro; rw [if_neg (by rw [mkL_length]; have := HN.out; omega), if_pos hv]; simp)
        have HWN := Lib.hid (show (wts (mkL xs k)).length ≤ 100000 by unfold wts; rw [List.length_map]; have := eag_length (mkL xs k) (mkL xs k).length; rw [mkL_length] at this; have := HN.out; rw [mkL_length]; omega)
        have HOK := Lib.hid hok
        have HD := Lib.hid hD
        have HF := Lib.hid hF
        have HN5 := Lib.hid (show k ≤ 100000 by have := HN.out; omega)
        clear hx hxb hv hok hD hF hG
        generalize mkL xs k = l at *
        go_wp2_with fail
        refine (Valid_any HD.out).mono ?_
        rintro e5 w5 ⟨rfl, f5⟩
        rw [HV.out]
        have HD5 := Lib.hid (HD.out.frm0 f5)
        have HRW := Lib.hid (rWaits_any HD5.out HN5.out)
        have F5 := HF.out.trans f5
        go_wp2_with fail
        refine HRW.out.mono ?_
        rintro e6 w6 ⟨a6, c6, rfl, f6, hG6⟩
        have HLW := Lib.hid (lwaits_any (HD5.out.frm0 f6) HOK.out HWR.out rfl HWN.out hG6)
        have F6 := F5.trans f6
        clear hG6
        go_wp2_with fail
        refine HLW.out.mono ?_
        rintro e7 w7 ⟨rfl, f7⟩
        have F7 := F6.trans f7
        go_wp2_with fail
        refine (known_true _).mono ?_
        rintro e9 w9 ⟨rfl, f9⟩
        go_wp2_with fail
        go_ret
        exact ⟨rfl, (F7.trans f9).below (Nat.le_refl _) (fun x hx => by simp at hx)⟩
end Go.Proofs.Ytfkikaoojelddaa
