/- Stage 12: the law's machine, runs, word, bad. -/
import Derived.Test.YtieccmmnfnpcoaaTij
namespace Go.Proofs.Ytieccmmnfnpcoaa
open Go.ChangeShapes Go.WideShapes Go.ChangeAt Go.RowKit
set_option linter.unusedVariables false
theorem adds_ok : Lok addsL := ⟨by decide, by decide, fun i y hy => by
  rcases i with _ | _ | _ | _ | i <;> simp [addsL] at hy <;> subst hy <;> decide⟩
theorem awaits_ok : Lok awaitsL := ⟨by decide, by decide, fun i y hy => by
  rcases i with _ | _ | i <;> simp [awaitsL] at hy <;> subst hy <;> decide⟩
def mk3 : List Td := [⟨rp0 [addsL], 0, 0⟩, ⟨rp0 [addsL], 0, 0⟩, ⟨rp0 [awaitsL], 0, 0⟩]
def M0 : Md := ⟨[0, 0, 0, 0], mk3⟩
def ls3 : List (List Ins) := [addsL, addsL, awaitsL]
/-- A block with one slice of instructions. -/
theorem lsl_one {w : World} {g : Nat} {a' : Option Addr} {n' c' b' o' : Nat} {l : List Ins} (hg : w.heap[g]? = some (.cells #[.slice a' n' c'] 71 (0, 0))) (h : InL w a' n' c' b' o' l) : LsL w (some ⟨g, 0, none⟩) 1 1 g 0 [l] :=
  ⟨rfl, fun _ => rfl, fun i l' hl => by
    rcases i with _ | i
    · simp at hl; subst hl; exact ⟨a', n', c', b', o', by rw [cell_of_heap hg]; rfl, h⟩
    · simp at hl, Nat.le_refl _⟩
set_option maxRecDepth 100000 in
set_option maxHeartbeats 2000000 in
theorem machine_any (w : World) : Calls Try.prog 45 #[] w
    (fun e w' => ∃ q F, Ret (.pointer (some ⟨q, 0, none⟩)) (fun w' => Frm [] w w' ∧ MAt w' F q M0 ∧ ∀ x ∈ F, w.heap.size ≤ x) e w') := by
  have hmk : ∀ w : World, (Instr.makeSlice 22 (.int .i64 4) (.int .i64 4)).run Try.prog w = .ok (.slice (some ⟨w.heap.size, 0, none⟩) 4 4) (w.alloc (.cells #[.int .u64 0, .int .u64 0, .int .u64 0, .int .u64 0] 28)) := fun w => make_u64 4 (by omega) w
  go_enter Try.func45, Try.ntmps45
  go_wp2_with fail
  have hrd : Rd (w.alloc (.cells #[.int .u64 0, .int .u64 0, .int .u64 0, .int .u64 0] 28)) (.slice (some ⟨w.heap.size, 0, none⟩) 4 4) (u64s [0, 0, 0, 0]) :=
    .inr ⟨w.heap.size, 0, 4, rfl, by simp [u64s], by simp, fun i u hu => by rw [Nat.zero_add, cell_of_heap (heap_alloc_new _ _)]; simpa [u64s] using hu⟩
  refine (arena_any hrd (by simp) (by simp)).mono ?_
  rintro e w1 ⟨p, d, c, rfl, hF1, hM1, hp1, hd1⟩
  have HM1 := Lib.hid (mat_New hM1)
  have HF1 := Lib.hid (((Frm.refl [] w).alloc _).trans hF1)
  clear hrd hF1 hM1 hmk
  go_wp2_with fail
  refine HM1.out.mono ?_
  rintro e w2 ⟨q, F, rfl, hF2, hm2, hn2⟩
  have hs1 := HF1.out.size
  have HF2 := Lib.hid (HF1.out.trans hF2)
  have HM2 := Lib.hid hm2
  have HN2 := Lib.hid (show ∀ x ∈ F, w.heap.size ≤ x from fun x hx => by have := hn2 x hx; omega)
  clear hF2 hm2 hn2 hs1 hp1 hd1 HM1 HF1
  go_wp2_with fail
  refine (adds_any _).mono ?_
  rintro e w3 ⟨g1, rfl, hF3, hI3, hg3⟩
  go_wp2_with fail
  refine (adds_any _).mono ?_
  rintro e w4 ⟨g2, rfl, hF4, hI4, hg4⟩
  go_wp2_with fail
  refine (awaits_any _).mono ?_
  rintro e w5 ⟨g3, rfl, hF5, hI5, hg5⟩
  have hF35 := (hF3.trans hF4).trans hF5
  have hFl := HM2.out.lt
  have hs3 := hF3.size
  have hs4 := hF4.size
  have hs5 := hF5.size
  have HL := Lib.hid (show ∀ w6, Frm F w5 w6 → ∀ (i : Nat) (l : List Ins), ls3[i]? = some l → ∃ (g n : Nat), InL w6 (some ⟨g, 0, none⟩) n n g 0 l ∧ (#[.slice (some ⟨g1, 0, none⟩) 4 4, .slice (some ⟨g2, 0, none⟩) 4 4, .slice (some ⟨g3, 0, none⟩) 2 2] : Array Value)[i]? = some (.slice (some ⟨g, 0, none⟩) n n) from fun w6 hf i l hl => by
    rcases i with _ | _ | _ | i
    · simp [ls3] at hl; subst hl; exact ⟨g1, 4, ((hI3.frm0 hF4).frm0 hF5).frm hf (fun _ hx => by have := hFl _ hx; omega), rfl⟩
    · simp [ls3] at hl; subst hl; exact ⟨g2, 4, (hI4.frm0 hF5).frm hf (fun _ hx => by have := hFl _ hx; omega), rfl⟩
    · simp [ls3] at hl; subst hl; exact ⟨g3, 2, hI5.frm hf (fun _ hx => by have := hFl _ hx; omega), rfl⟩
    · simp [ls3] at hl)
  have HSZ := Lib.hid (show ∀ x ∈ F, x < w5.heap.size from fun x hx => by have := hFl x hx; omega)
  have HF5 := Lib.hid (HF2.out.trans hF35)
  have HM5 := Lib.hid (HM2.out.quiet hF35)
  have hFb : Frm [] w5 (w5.alloc (.cells #[.slice (some ⟨g1, 0, none⟩) 4 4, .slice (some ⟨g2, 0, none⟩) 4 4, .slice (some ⟨g3, 0, none⟩) 2 2] 71)) := (Frm.refl _ _).alloc _
  have hbk := heap_alloc_new w5 (.cells #[.slice (some ⟨g1, 0, none⟩) 4 4, .slice (some ⟨g2, 0, none⟩) 4 4, .slice (some ⟨g3, 0, none⟩) 2 2] 71)
  have HFB := Lib.hid hFb
  have HBK := Lib.hid hbk
  clear hF3 hF4 hF5 hF35 hI3 hI4 hI5 hg3 hg4 hg5 hFb hbk HF2 HM2 hFl hs3 hs4 hs5
  go_wp2_with fail
  generalize w5.alloc (.cells #[.slice (some ⟨g1, 0, none⟩) 4 4, .slice (some ⟨g2, 0, none⟩) 4 4, .slice (some ⟨g3, 0, none⟩) 2 2] 71) = W at HFB HBK ⊢
  go_loopw [25] (fun i wr => ∃ (k : Nat) (F' : List Nat), k ≤ 3 ∧ i = .int .i64 k ∧ Frm F W wr ∧ MAt wr F' q ⟨[0, 0, 0, 0], mk3.take k⟩ ∧ ∀ x ∈ F', x ∈ F ∨ W.heap.size ≤ x) (fun i _ => 3 - (intOf i).toNat)
  case atStart => exact ⟨0, F, by omega, rfl, Frm.refl _ _, HM5.out.quiet HFB.out, fun x hx => .inl hx⟩
  case round =>
    obtain ⟨k, F', hk, rfl, hF, hm, hn⟩ := hrel
    by_cases hlt : k < 3
    · obtain ⟨l, hl⟩ : ∃ l, ls3[k]? = some l := ⟨_, List.getElem?_eq_getElem (by show k < 3; exact hlt)⟩
      have hFF : Frm F w5 wr := HFB.out.nil.trans hF
      obtain ⟨g, n, hin, hcs⟩ := HL.out wr hFF k l hl
      have hrow := hF.heap HBK.out (fun hx => by have := HSZ.out _ hx; omega)
      have hcell : wr.cell? ⟨w5.heap.size, k, none⟩ = some (.slice (some ⟨g, 0, none⟩) n n) := by rw [cell_of_heap hrow]; exact hcs
      have hix := ix_lsl (n := 3) (c := 3) (fun _ => rfl : 0 < 3 → some (⟨w5.heap.size, 0, none⟩ : Addr) = some ⟨w5.heap.size, 0, none⟩) hlt
      rw [Nat.zero_add] at hix
      have hal : Frm [] wr (wr.alloc (.cells #[.slice (some ⟨g, 0, none⟩) n n] 71)) := (Frm.refl _ _).alloc _
      have hlok : Lok l := by
        rcases k with _ | _ | _ | k
        · simp [ls3] at hl; subst hl; exact adds_ok
        · simp [ls3] at hl; subst hl; exact adds_ok
        · simp [ls3] at hl; subst hl; exact awaits_ok
        · omega
      have HP := Lib.hid (program_any (lsl_one (heap_alloc_new wr (.cells #[.slice (some ⟨g, 0, none⟩) n n] 71)) (hin.frm0 hal)) (fun l' hl' => by simp at hl'; subst hl'; exact hlok) (by omega) (by omega))
      have HAL := Lib.hid hal
      have HF := Lib.hid hF
      have HM := Lib.hid hm
      have HNN := Lib.hid hn
      have hnx : mk3.take (k + 1) = mk3.take k ++ [⟨rp0 [l], 0, 0⟩] := by
        rcases k with _ | _ | _ | k
        · simp [ls3] at hl; subst hl; rfl
        · simp [ls3] at hl; subst hl; rfl
        · simp [ls3] at hl; subst hl; rfl
        · omega
      have hlen3 : (mk3.take k).length = k := by simp [mk3]; omega
      have HNX := Lib.hid hnx
      have HL3 := Lib.hid hlen3
      clear hl hFF hin hcs hrow hal hlok hF hm hn hnx hlen3
      go_wp2_with fail
      refine HP.out.mono ?_
      rintro e w7 ⟨ch, qp, B, rfl, hF7, hp7, hB7⟩
      have hm7 := (HM.out.quiet HAL.out).quiet hF7
      have hA := mat_Add hm7 (by rw [show ({ ws := [0, 0, 0, 0], ts := mk3.take k } : Md).ts.length = k from HL3.out]; omega) hp7
      rw [show ({ ws := [0, 0, 0, 0], ts := mk3.take k } : Md).ts.length = k from HL3.out] at hA
      have HA := Lib.hid hA
      have HF7 := Lib.hid (HAL.out.trans hF7)
      clear hF7 hp7 hB7 hm7 hA
      go_wp2_with fail
      refine HA.out.mono ?_
      rintro e w8 ⟨F8, rfl, hg8, hm8, hn8⟩
      have hsz : W.heap.size ≤ w7.heap.size := Nat.le_trans HF.out.size HF7.out.size
      have HF8 := Lib.hid ((HF.out.trans HF7.out.nil).trans_new hg8.frm (fun x hx => HNN.out x hx))
      have HM8 := Lib.hid hm8
      have HN8 := Lib.hid (show ∀ x ∈ F8, x ∈ F ∨ W.heap.size ≤ x from fun x hx => by rcases hn8 x hx with h | h; exact HNN.out x h; exact .inr (by omega))
      clear hg8 hm8 hn8 hsz
      go_wp2
      go_roundw
      case rel => exact ⟨k + 1, F8, by omega, by go_num, HF8.out, by rw [HNX.out]; exact HM8.out, HN8.out⟩
      case measure => simp [intOf]; omega
    · obtain rfl : k = 3 := by omega
      have HF := Lib.hid (HF5.out.trans_new (HFB.out.nil.trans hF) (fun x hx => .inr (HN2.out x hx)))
      have hws : w.heap.size ≤ W.heap.size := Nat.le_trans HF5.out.size HFB.out.size
      have HM := Lib.hid hm
      have HNN := Lib.hid (show ∀ x ∈ F', w.heap.size ≤ x from fun x hx => by rcases hn x hx with h | h; exact HN2.out x h; omega)
      clear hF hm hn hws
      go_wp2
      go_ret
      exact ⟨q, F', rfl, HF.out, HM.out, HNN.out⟩
section
variable {w : World} {F : List Nat} {q : Nat} {M : Md} {a : Option Addr} {n c b o : Nat} {l : List Int}
/-- A run that goes through. -/
theorem runs_ok (h : MAt w F q M) {m : Nat} (hfew : M.few m) (hL : Li .i64 w a n c b o l) (hn : n ≤ 2147483647) (hm : m < 900000000) (hbl : 0 < n → b < w.heap.size) {M' : Md} {r : List Dd} (hr : M.Run l = (M', r, 0)) {many : Int} (hmany : (r.length : Int) = many) :
    Calls Try.prog 46 #[.pointer (some ⟨q, 0, none⟩), .int .i64 many, .slice a n c] w (fun e w' => ∃ F', Ret (.bool true) (fun w' => Go F w w' ∧ MAt w' F' q M' ∧ ∀ x ∈ F', x ∈ F ∨ w.heap.size ≤ x) e w') := by
  have H := mat_Run h hfew hL hn hm hbl
  rw [hr] at H
  unfold RunR at H
  dsimp only at H
  have H2 : Calls Try.prog 27 #[.pointer (some ⟨q, 0, none⟩), .slice a n c] w (fun e w' => ∃ a c F', Ret (.tuple #[.slice a r.length c, .int .i64 0]) (fun w' => Go F w w' ∧ MAt w' F' q M' ∧ (∀ x ∈ F', x ∈ F ∨ w.heap.size ≤ x)) e w') :=
    H.mono fun e w' hh => by
      rw [if_pos rfl] at hh
      obtain ⟨a, c, F', h1, h2, h3, h4, _⟩ := hh
      exact ⟨a, c, F', h1, h2, h3, h4⟩
  have HH := Lib.hid H2
  have hb : ((r.length : Int) == many) = true := by simpa using hmany
  clear h hfew hL H H2 hr hmany
  go_enter Try.func46, Try.ntmps46
  go_wp2_with fail
  refine HH.out.mono ?_
  rintro e w1 ⟨a1, c1, F', rfl, hR⟩
  have HR := Lib.hid hR
  clear hR
  go_wp2
  go_ret
  exact ⟨F', rfl, HR.out⟩
theorem word_ok (h : MAt w F q M) {i : Nat} {v : Int} (hi : M.ws[i]? = some v) : Calls Try.prog 47 #[.pointer (some ⟨q, 0, none⟩), .int .i64 i, .int .u64 v] w (Ret (.bool true) (fun w' => Frm [] w w')) := by
  have HM := Lib.hid (mat_Mem h)
  have HI := Lib.hid hi
  have ht : (v == v) = true := by simp
  clear h hi
  go_enter Try.func47, Try.ntmps47
  go_wp2_with fail
  refine HM.out.mono ?_
  rintro e w1 ⟨p', d', c', rfl, hF1, hM1, hp1, hd1⟩
  have HL := Lib.hid (Load_ok hM1 i v HI.out)
  have HF := Lib.hid hF1
  have HD := Lib.hid hd1
  clear hF1 hM1 hp1 hd1
  go_wp2_with fail
  refine HL.out.mono ?_
  rintro e w2 ⟨rfl, hF2, hM2⟩
  have HF2 := Lib.hid (HF.out.trans_new hF2 (fun x hx => .inr (by simp at hx; subst hx; exact HD.out)))
  clear hF2 hM2
  go_wp2
  go_ret
  exact ⟨rfl, HF2.out⟩
theorem bad_ok {li : List Ins} (h : InL w a n c b o li) (hl : ¬ Lok li) (hbig : n ≤ 2147483647) : Calls Try.prog 49 #[.slice a n c] w (Ret (.bool true) (fun w' => Frm [] w w')) := by
  have H := Lib.hid (newcode_bad h hl hbig)
  clear h hl
  go_enter Try.func49, Try.ntmps49
  go_wp2_with fail
  refine H.out.mono ?_
  rintro e w1 ⟨rfl, hF1⟩
  have HF := Lib.hid hF1
  clear hF1
  go_wp2
  go_ret
  exact ⟨rfl, HF.out⟩
end
end Go.Proofs.Ytieccmmnfnpcoaa
