/- VersionLongs. (By gen_vet.py.) -/
import Derived.Test.YtbhnijkphkkalaaVeR
import Derived.Test.YtbhnijkphkkalaaVeS1
namespace Go.Proofs.Ytbhnijkphkkalaa
open Go.ChangeShapes Go.WideShapes Go.ChangeAt Go.RowKit
set_option linter.unusedVariables false

def zer (n : Nat) : List Int := List.replicate n 0
theorem zer_len (n : Nat) : (zer n).length = n := by simp [zer]
theorem zer_get {n i : Nat} (h : i < n) : (zer n)[i]? = some 0 := by simp [zer, h]
def fv (v : Int) (k n : Nat) : List Int := (List.range n).map (fun i => if i < k then IntKind.u64.wrap (v + i) else 0)
theorem fv_len (v : Int) (k n : Nat) : (fv v k n).length = n := by simp [fv]
theorem fv_zero (v : Int) (n : Nat) : fv v 0 n = zer n := by
  apply List.ext_getElem <;> simp [fv, zer]
theorem fv_step (v : Int) {k n : Nat} (h : k < n) : (fv v k n).set k (IntKind.u64.wrap (v + k)) = fv v (k + 1) n := by
  apply List.ext_getElem?
  intro i
  rw [List.getElem?_set, fv_len]
  by_cases e : k = i
  · subst e; rw [if_pos rfl, if_pos h]; simp [fv, h]
  · rw [if_neg e]
    by_cases hi : i < n
    · simp only [fv, List.getElem?_map, List.getElem?_range hi, Option.map_some]
      by_cases h2 : i < k
      · rw [if_pos h2, if_pos (by omega)]
      · rw [if_neg h2, if_neg (by omega)]
    · rw [List.getElem?_eq_none (by rw [fv_len]; omega), List.getElem?_eq_none (by rw [fv_len]; omega)]
theorem set_u64s (l : List Int) (i : Nat) (v : Int) : (u64s l).toArray.setIfInBounds i (.int .u64 v) = (u64s (l.set i v)).toArray := by
  simp [u64s, List.map_set]
theorem fv_nn (v : Int) (k n : Nat) : ∀ x ∈ fv v k n, 0 ≤ x := by
  intro x hx
  obtain ⟨i, _, rfl⟩ := List.mem_map.1 hx
  split
  · rw [IntKind.wrap_u64]; omega
  · omega

set_option maxRecDepth 100000 in
set_option maxHeartbeats 8000000 in
theorem long_no (n : Nat) (h1 : 254 ≤ n) (h2 : n ≤ 258) (h3 : 256 < n) (v : Int) (h0 : 0 ≤ v) (w : World) :
    Calls Try.prog 5 #[.int .i64 n, .int .u64 v] w (Ret (.bool true) (fun w' => Frm [] w w')) := by
  have d1 : decide ((n : Int) < 254) = false := by simp; omega
  have d2 : decide ((258 : Int) < n) = false := by simp; omega
  have d3 : decide ((256 : Int) < n) = true := by simp; omega
  have hmk : ∀ w, (Instr.makeSlice 23 (.int .i64 300) (.int .i64 300)).run Try.prog w = .ok (.slice (some ⟨w.heap.size, 0, none⟩) 300 300) (w.alloc (.cells (u64s (zer 300)).toArray 22)) := fun w => make_u64 300 (by omega) w
  have hmk2 : ∀ w, (Instr.makeSlice 23 (.int .i64 n) (.int .i64 n)).run Try.prog w = .ok (.slice (some ⟨w.heap.size, 0, none⟩) n n) (w.alloc (.cells (u64s (zer n)).toArray 22)) := fun w => make_u64 n (by omega) w
  obtain ⟨V, hV⟩ : ∃ V, V = (w.alloc (.cells (u64s (zer 300)).toArray 22)) := ⟨_, rfl⟩
  have hFV : Frm [] w V := by rw [hV]; exact (Frm.refl _ _).alloc _
  have hVb : V.heap[w.heap.size]? = some (.cells (u64s (zer 300)).toArray 22 (0, 0)) := by rw [hV]; exact heap_alloc_new _ _
  have H0 := Lib.hid (made_any (rd_u64 (zer_len 300) hVb) (by rw [zer_len]; omega) (by rw [zer_len]; omega))
  have HFV := Lib.hid hFV
  have HV := Lib.hid hV
  clear hFV hVb hV
  go_enter Try.func5, Try.ntmps5
  go_wp2_with fail
  rw [← HV.out]
  clear hmk HV
  refine H0.out.mono ?_
  rintro e w1 ⟨p, d, c, rfl, hF, hM, hp, hd⟩
  clear H0
  have HF1 : Hid (Frm [] w w1) := Lib.hid (HFV.out.trans hF)
  have HM1 := Lib.hid hM
  have hpw : w.heap.size ≤ p := Nat.le_trans HFV.out.size hp
  have hdw : w.heap.size ≤ d := Nat.le_trans HFV.out.size hd
  clear hF hM hp hd HFV
  go_wp2_with fail
  obtain ⟨X, hX⟩ : ∃ X, X = (w1.alloc (.cells (u64s (zer n)).toArray 22)) := ⟨_, rfl⟩
  rw [← hX]
  have hFX : Frm [] w1 X := by rw [hX]; exact (Frm.refl _ _).alloc _
  have hXb : X.heap[w1.heap.size]? = some (.cells (u64s (fv v 0 n)).toArray 22 (0, 0)) := by rw [hX, fv_zero]; exact heap_alloc_new _ _
  have HFX := Lib.hid hFX
  have HXB := Lib.hid hXb
  generalize hg : w1.heap.size = g at *
  have hgw : w.heap.size ≤ g := by rw [← hg]; exact HF1.out.size
  have HG := Lib.hid hg
  clear hX hFX hXb hmk2 hg
  go_loopw [25] (fun i wr => ∃ k : Nat, k ≤ n ∧ i = .int .i64 k ∧ Hid (Frm [g] X wr) ∧ Hid (wr.heap[g]? = some (.cells (u64s (fv v k n)).toArray 22 (0, 0)))) (fun i _ => n - (intOf i).toNat)
  case atStart => exact ⟨0, Nat.zero_le _, rfl, Lib.hid (Frm.refl _ _), HXB⟩
  case round =>
    clear HXB
    obtain ⟨k, hk, rfl, HFR, HB⟩ := hrel
    by_cases hlt : k < n
    · have hx : (fv v k n)[k]? = some 0 := by simp [fv, hlt]
      have hc : wr.cell? ⟨g, k, none⟩ = some (.int .u64 0) := by rw [cell_of_heap HB.out, List.getElem?_toArray, u64s, List.getElem?_map, hx]; rfl
      have hz : wr.frozen? ⟨g, k, none⟩ = false := frozen_of_heap HB.out
      have hB2 : (wr.setCell ⟨g, k, none⟩ (.int .u64 (IntKind.u64.wrap (v + k)))).heap[g]? = some (.cells (u64s (fv v (k + 1) n)).toArray 22 (0, 0)) := by
        have := heap_setCell_at (i := k) (.int .u64 (IntKind.u64.wrap (v + k))) HB.out
        rw [set_u64s, fv_step v hlt] at this; exact this
      have HB2 := Lib.hid hB2
      clear hx hB2
      go_wp2
      go_roundw
      case rel => exact ⟨k + 1, by omega, by go_num, Lib.hid (HFR.out.setCell _ _ (.inl (by simp))), HB2⟩
      case measure => simp [intOf]; omega
    · obtain rfl : k = n := by omega
      have hFa : Frm [] w wr := (HF1.out.trans HFX.out).trans_new HFR.out (by simp only [List.mem_cons, List.not_mem_nil, or_false]; rintro x rfl; right; omega)
      have hpg : p ≠ g := by have := HM1.out.plt; have := HG.out; omega
      have hdg : d ≠ g := by have := HM1.out.dlt; have := HG.out; omega
      have hMa : MemAt wr p d c (zer 300) := (HM1.out.frm HFX.out (by simp) (by simp)).frm HFR.out (by simpa using hpg) (by simpa using hdg)
      have hLi : Li .u64 wr (some ⟨g, 0, none⟩) k k g 0 (fv v k k) := li_u64 (fv_len _ _ _) HB.out
      have HFA := Lib.hid hFa
      have HMA := Lib.hid hMa
      have HLI := Lib.hid hLi
      have hmx : k ≤ maxLen := by unfold maxLen; omega
      have HMX := Lib.hid hmx
      clear hFa hMa hLi hmx HFR HF1 HM1 HFX HG
      have HW := Lib.hid (newWrite_bad HLI.out HMX.out 299 3 (by unfold rOk; omega))
      go_wp2_with fail
      refine HW.out.mono ?_
      rintro e w2 ⟨rfl, hF2⟩
      have HF2 := Lib.hid (HFA.out.trans hF2)
      have HR := Lib.hid (newRead_bad 299 3 (k : Int) 1 w2 (by unfold rOk; omega))
      clear hF2 HW
      go_wp2_with fail
      refine HR.out.mono ?_
      rintro e w3 ⟨rfl, hF3⟩
      have HF3 := Lib.hid (HF2.out.trans hF3)
      clear hF3 HR
      go_wp2_with fail
      refine (known_true _).mono ?_
      rintro e w6 ⟨rfl, hF6⟩
      go_wp2
      go_ret
      exact ⟨rfl, HF3.out.trans hF6⟩

set_option maxRecDepth 100000 in
set_option maxHeartbeats 8000000 in
theorem long_yes (n : Nat) (h1 : 254 ≤ n) (h2 : n ≤ 256)  (v : Int) (h0 : 0 ≤ v) (w : World) :
    Calls Try.prog 5 #[.int .i64 n, .int .u64 v] w (Ret (.bool true) (fun w' => Frm [] w w')) := by
  have d1 : decide ((n : Int) < 254) = false := by simp; omega
  have d2 : decide ((258 : Int) < n) = false := by simp; omega
  have d3 : decide ((256 : Int) < n) = false := by simp; omega
  have hmk : ∀ w, (Instr.makeSlice 23 (.int .i64 300) (.int .i64 300)).run Try.prog w = .ok (.slice (some ⟨w.heap.size, 0, none⟩) 300 300) (w.alloc (.cells (u64s (zer 300)).toArray 22)) := fun w => make_u64 300 (by omega) w
  have hmk2 : ∀ w, (Instr.makeSlice 23 (.int .i64 n) (.int .i64 n)).run Try.prog w = .ok (.slice (some ⟨w.heap.size, 0, none⟩) n n) (w.alloc (.cells (u64s (zer n)).toArray 22)) := fun w => make_u64 n (by omega) w
  obtain ⟨V, hV⟩ : ∃ V, V = (w.alloc (.cells (u64s (zer 300)).toArray 22)) := ⟨_, rfl⟩
  have hFV : Frm [] w V := by rw [hV]; exact (Frm.refl _ _).alloc _
  have hVb : V.heap[w.heap.size]? = some (.cells (u64s (zer 300)).toArray 22 (0, 0)) := by rw [hV]; exact heap_alloc_new _ _
  have H0 := Lib.hid (made_any (rd_u64 (zer_len 300) hVb) (by rw [zer_len]; omega) (by rw [zer_len]; omega))
  have HFV := Lib.hid hFV
  have HV := Lib.hid hV
  clear hFV hVb hV
  go_enter Try.func5, Try.ntmps5
  go_wp2_with fail
  rw [← HV.out]
  clear hmk HV
  refine H0.out.mono ?_
  rintro e w1 ⟨p, d, c, rfl, hF, hM, hp, hd⟩
  clear H0
  have HF1 : Hid (Frm [] w w1) := Lib.hid (HFV.out.trans hF)
  have HM1 := Lib.hid hM
  have hpw : w.heap.size ≤ p := Nat.le_trans HFV.out.size hp
  have hdw : w.heap.size ≤ d := Nat.le_trans HFV.out.size hd
  clear hF hM hp hd HFV
  go_wp2_with fail
  obtain ⟨X, hX⟩ : ∃ X, X = (w1.alloc (.cells (u64s (zer n)).toArray 22)) := ⟨_, rfl⟩
  rw [← hX]
  have hFX : Frm [] w1 X := by rw [hX]; exact (Frm.refl _ _).alloc _
  have hXb : X.heap[w1.heap.size]? = some (.cells (u64s (fv v 0 n)).toArray 22 (0, 0)) := by rw [hX, fv_zero]; exact heap_alloc_new _ _
  have HFX := Lib.hid hFX
  have HXB := Lib.hid hXb
  generalize hg : w1.heap.size = g at *
  have hgw : w.heap.size ≤ g := by rw [← hg]; exact HF1.out.size
  have HG := Lib.hid hg
  clear hX hFX hXb hmk2 hg
  go_loopw [25] (fun i wr => ∃ k : Nat, k ≤ n ∧ i = .int .i64 k ∧ Hid (Frm [g] X wr) ∧ Hid (wr.heap[g]? = some (.cells (u64s (fv v k n)).toArray 22 (0, 0)))) (fun i _ => n - (intOf i).toNat)
  case atStart => exact ⟨0, Nat.zero_le _, rfl, Lib.hid (Frm.refl _ _), HXB⟩
  case round =>
    clear HXB
    obtain ⟨k, hk, rfl, HFR, HB⟩ := hrel
    by_cases hlt : k < n
    · have hx : (fv v k n)[k]? = some 0 := by simp [fv, hlt]
      have hc : wr.cell? ⟨g, k, none⟩ = some (.int .u64 0) := by rw [cell_of_heap HB.out, List.getElem?_toArray, u64s, List.getElem?_map, hx]; rfl
      have hz : wr.frozen? ⟨g, k, none⟩ = false := frozen_of_heap HB.out
      have hB2 : (wr.setCell ⟨g, k, none⟩ (.int .u64 (IntKind.u64.wrap (v + k)))).heap[g]? = some (.cells (u64s (fv v (k + 1) n)).toArray 22 (0, 0)) := by
        have := heap_setCell_at (i := k) (.int .u64 (IntKind.u64.wrap (v + k))) HB.out
        rw [set_u64s, fv_step v hlt] at this; exact this
      have HB2 := Lib.hid hB2
      clear hx hB2
      go_wp2
      go_roundw
      case rel => exact ⟨k + 1, by omega, by go_num, Lib.hid (HFR.out.setCell _ _ (.inl (by simp))), HB2⟩
      case measure => simp [intOf]; omega
    · obtain rfl : k = n := by omega
      have hFa : Frm [] w wr := (HF1.out.trans HFX.out).trans_new HFR.out (by simp only [List.mem_cons, List.not_mem_nil, or_false]; rintro x rfl; right; omega)
      have hpg : p ≠ g := by have := HM1.out.plt; have := HG.out; omega
      have hdg : d ≠ g := by have := HM1.out.dlt; have := HG.out; omega
      have hMa : MemAt wr p d c (zer 300) := (HM1.out.frm HFX.out (by simp) (by simp)).frm HFR.out (by simpa using hpg) (by simpa using hdg)
      have hLi : Li .u64 wr (some ⟨g, 0, none⟩) k k g 0 (fv v k k) := li_u64 (fv_len _ _ _) HB.out
      have HFA := Lib.hid hFa
      have HMA := Lib.hid hMa
      have HLI := Lib.hid hLi
      have hmx : k ≤ maxLen := by unfold maxLen; omega
      have HMX := Lib.hid hmx
      clear hFa hMa hLi hmx HFR HF1 HM1 HFX HG
      have hrok : rOk (299 : Nat) 3 (k : Int) := by unfold rOk mOk; omega
      have HW := Lib.hid (newWrite_yes HLI.out 299 3 hrok)
      have HRO := Lib.hid hrok
      clear hrok
      go_wp2_with fail
      refine HW.out.mono ?_
      rintro e w2 ⟨qa, ba, rfl, hF, hP, hq, hb⟩
      have hbl := hP.blt
      have hql := hP.qlt
      have HF2 : Hid (Frm [] w w2) := Lib.hid (HFA.out.trans hF)
      have HSA : Hid (Sit w2 p d c qa ba k ⟨false, 299, 3, fv v k k, 0, 1, 0, 0, 0⟩ (zer 300)) := Lib.hid (Sit.new HMA.out hF hP hq hb (Ok.new false 299 3 _ 0 (fun h => by cases h)) (rep0 300) (fv_nn _ _ _))
      have HLB : Hid (w2.heap[g]? = some (.cells (u64s (fv v k k)).toArray 22 (0, 0))) := Lib.hid (hF.heap HB.out (by simp))
      have hgl := lt_of_heap HB.out
      have hqg : qa ≠ g := by omega
      have hbg : ba ≠ g := by omega
      have hqa : w.heap.size ≤ qa := Nat.le_trans HFA.out.size hq
      have hba : w.heap.size ≤ ba := Nat.le_trans HFA.out.size hb
      have HR := Lib.hid (newRead_yes 299 3 k 1 w2 HRO.out (by omega))
      clear hF hP hq hb hgl HW HMA HFA HLI HB
      go_wp2_with fail
      refine HR.out.mono ?_
      rintro e w3 ⟨qb, bb, rfl, hF, hP, hq, hb⟩
      have HF3 : Hid (Frm [] w w3) := Lib.hid (HF2.out.trans hF)
      have HSB : Hid (Sit w3 p d c qb bb k ⟨true, 299, 3, List.replicate k 0, 0, 1, 0, 0, 1⟩ (zer 300)) := Lib.hid (Sit.new HSA.out.mem hF hP hq hb (Ok.new true 299 3 _ 1 (fun h => by omega)) (rep0 300) (rep0 _))
      have HSA3 := Lib.hid (HSA.out.frm0 hF)
      have HLB3 : Hid (w3.heap[g]? = some (.cells (u64s (fv v k k)).toArray 22 (0, 0))) := Lib.hid (hF.heap HLB.out (by simp))
      have hgl := lt_of_heap HLB.out
      have hne : qb ≠ qa ∧ qb ≠ ba ∧ bb ≠ qa ∧ bb ≠ ba := ⟨by omega, by omega, by omega, by omega⟩
      have hqbg : qb ≠ g := by omega
      have hbbg : bb ≠ g := by omega
      have hqb : w.heap.size ≤ qb := Nat.le_trans HF2.out.size hq
      have hbb : w.heap.size ≤ bb := Nat.le_trans HF2.out.size hb
      have hfl := fv_len v k k
      have hrun := write_run 299 3 (fv v k k) (zer 300) 0 (by rw [hfl, zer_len]; omega) (zer_get (by omega)) rfl
      rw [hfl] at hrun
      have HE := Lib.hid (ends_lit ((k : Int) + 3) (by omega) HSA3.out (by omega) hrun)
      clear hF hP hq hb hgl HR HSA HLB HF2 hrun hql hbl
      have hs3 : IntKind.i64.wrap ((k : Int) + 3) = (k : Int) + 3 := by rw [IntWalk.i64_in _ (by omega)]
      have hs2 : IntKind.i64.wrap ((k : Int) + 2) = (k : Int) + 2 := by rw [IntWalk.i64_in _ (by omega)]
      go_wp2_with fail
      refine HE.out.mono ?_
      rintro e w4 ⟨rfl, hF4, hS4⟩
      have hSB4 := HSB.out.other hF4 hS4 hne.1 hne.2.1 hne.2.2.1 hne.2.2.2
      generalize hws : (put ((zer 300).set 299 (IntKind.u64.wrap (0 + 1))) 3 (fv v k k)).set 299 (IntKind.u64.wrap (0 + 2)) = ws4 at hS4 hSB4
      have hlen4 : ws4.length = 300 := by rw [← hws, List.length_set, put_len, List.length_set, zer_len]
      have hv4 : ws4[299]? = some 2 := by rw [← hws, List.getElem?_set, if_pos rfl, if_pos (by rw [put_len, List.length_set, zer_len]; omega)]; rfl
      have hw4 : (ws4.drop 3).take k = fv v k k := by
        apply List.ext_getElem?
        intro i
        rw [List.getElem?_take]
        split
        · rename_i hi
          rw [List.getElem?_drop, ← hws, List.getElem?_set, if_neg (by omega), put_get _ _ _ _ (by rw [hfl, List.length_set, zer_len]; omega), if_pos (by rw [hfl]; omega)]
          congr 1; omega
        · rw [List.getElem?_eq_none (by rw [hfl]; omega)]
      have hrun := read_run 299 3 k 2 1 (List.replicate k 0) ws4 (by simp) hv4 rfl (by omega)
      rw [hw4] at hrun
      have HE2 := Lib.hid (ends_lit ((k : Int) + 2) (by omega) hSB4 (by omega) hrun)
      have HF4 : Hid (Frm [] w w4) := Lib.hid (HF3.out.trans_new hF4 (by simp only [List.mem_cons, List.not_mem_nil, or_false]; rintro x (rfl | rfl | rfl) <;> right <;> omega))
      have hdg2 : d ≠ g := hdg
      have HLB4 : Hid (w4.heap[g]? = some (.cells (u64s (fv v k k)).toArray 22 (0, 0))) := Lib.hid (hF4.heap HLB3.out (by simp only [List.mem_cons, List.not_mem_nil, or_false]; omega))
      clear hF4 hS4 hSB4 hws hv4 hw4 hrun HE HSB HSA3 HF3 HLB3 hlen4
      go_wp2_with fail
      refine HE2.out.mono ?_
      rintro e w5 ⟨rfl, hF5, hS5⟩
      have HF5 : Hid (Frm [] w w5) := Lib.hid (HF4.out.trans_new hF5 (by simp only [List.mem_cons, List.not_mem_nil, or_false]; rintro x (rfl | rfl | rfl) <;> right <;> omega))
      have HLB5 : Hid (w5.heap[g]? = some (.cells (u64s (fv v k k)).toArray 22 (0, 0))) := Lib.hid (hF5.heap HLB4.out (by simp only [List.mem_cons, List.not_mem_nil, or_false]; omega))
      have HWO := Lib.hid (Words_1 hS5.pg)
      have HS5 := Lib.hid hS5
      clear hF5 hS5 HE2 HF4 HLB4
      go_wp2_with fail
      refine HWO.out.mono ?_
      rintro e w6 ⟨gw, cw, rfl, hF6, hSl⟩
      rw [hfl] at hSl ⊢
      have hr1 := hSl.rd
      have hr2 := rd_u64 hfl (hF6.heap HLB5.out (by simp))
      have HSA6 := Lib.hid (same_any hr1 hr2 (by rw [hfl]; omega) (by rw [hfl]; omega))
      have HF6 := Lib.hid (HF5.out.trans hF6)
      have HS6 := Lib.hid (HS5.out.frm0 hF6)
      clear hF6 hSl hr1 hr2 HWO HS5 HF5 HLB5
      go_wp2_with fail
      refine HSA6.out.mono ?_
      rintro e w7 ⟨m7, rfl, hw7⟩
      have hF7 : Frm [] w6 w7 := by rw [hw7]; exact (Frm.refl _ _).drewN _
      have HVE := Lib.hid (Version_1 (HS6.out.frm0 hF7).pg)
      have HF7 := Lib.hid (HF6.out.trans hF7)
      clear hF7 hw7 HSA6 HS6 HF6
      go_wp2_with fail
      refine HVE.out.mono ?_
      rintro e w' ⟨rfl, rfl⟩
      go_wp2_with fail
      refine (known_true _).mono ?_
      rintro e w9 ⟨rfl, hF9⟩
      go_wp2
      go_ret
      exact ⟨rfl, HF7.out.trans hF9⟩

theorem walk_VersionLongs (n : Int) (_wn : (Lit.int .i64 n).wf = true) (v : Int) (wv : (Lit.int .u64 v).wf = true) (w : World) :
    Calls Try.prog 5 #[.int .i64 n, .int .u64 v] w (Ret (.bool true) (fun w' => Below w.heap.size w w')) := by
  have h0 := u_nn wv
  by_cases h1 : n < 254 ∨ 258 < n
  · obtain ⟨b1, b2, e1, e2, hb⟩ : ∃ b1 b2 : Bool, decide (n < 254) = b1 ∧ decide (258 < n) = b2 ∧ (b1 || b2) = true := ⟨_, _, rfl, rfl, by simp; omega⟩
    clear h1 _wn wv
    cases b1 <;> cases b2 <;> first | (exfalso; revert hb; decide) | skip
    all_goals
      clear hb
      go_enter Try.func5, Try.ntmps5
      go_wp2_with fail
      refine (known_true _).mono ?_
      rintro e w6 ⟨rfl, hF6⟩
      go_wp2
      go_ret
      exact ⟨rfl, bel hF6⟩
  · obtain ⟨n, rfl⟩ := Int.eq_ofNat_of_zero_le (show 0 ≤ n by omega)
    by_cases h2 : n ≤ 256
    · exact (long_yes n (by omega) h2 v h0 w).mono fun _ _ hh => ⟨hh.1, bel hh.2⟩
    · exact (long_no n (by omega) (by omega) (by omega) v h0 w).mono fun _ _ hh => ⟨hh.1, bel hh.2⟩
#print axioms walk_VersionLongs
end Go.Proofs.Ytbhnijkphkkalaa
