/- Package script: Key, Value. -/
import Derived.Test.YtegoggnocpgoiaaScrM
import Derived.Test.YtegoggnocpgoiaaScrS0
import Derived.Deep.RegionHeld3
import Derived.Laws.BytesArg
namespace Go.Proofs.Ytegoggnocpgoiaa
open Go.ChangeShapes Go.WideShapes Go.ChangeAt Go.RowKit

theorem frm_of_below {w w' : World} (h : Below w.heap.size w w') : Frm [] w w' := ⟨h.os, h.tape, h.output, h.size, fun k hk _ => h.block k hk⟩

theorem repExtra : Builder.Extra Try.prog lays105_ren where
  sizeBuilder := by kernel_rfl
  liesBuilder := by kernel_rfl
  t5 := lays105.t5
  a5 := lays105.a5
  z5 := lays105.z5
  v5 := lays105.v5
  infoByte := by kernel_rfl
  cellsByte := by kernel_rfl
  sizeByte := by kernel_rfl
  neB5 := by decide
theorem fRepeat : lays105_ren.f 105 = 24 := by kernel_rfl
/-- A letter, so many times. -/
def reps (x : UInt8) (c : Nat) : ByteArray := ⟨(List.replicate c x).toArray⟩
theorem rep_any (x : UInt8) (c : Int) (w : World) (hc0 : 0 ≤ c) (hc : c ≤ 1000) :
    Calls Try.prog 24 #[.string ⟨#[x]⟩, .int .i64 c] w (Ret (.string (reps x c.toNat)) (fun w' => Frm [] w w')) := by
  obtain ⟨c, rfl⟩ : ∃ n : Nat, c = (n : Int) := ⟨c.toNat, by omega⟩
  have h := Any.strings_Repeat lays105 repExtra ⟨#[x]⟩ c w (by omega) (by show 1 * c ≤ _; omega)
  rw [fRepeat] at h
  refine h.mono fun e w' ⟨he, hw⟩ => ⟨?_, frm_of_below hw⟩
  rw [he]
  have := Lib.repeatL_replicate x 1 c
  simp at this
  unfold reps
  rw [this]; rfl

theorem conv_u8s {w : World} {b o n c : Nat} (xs : List Int) (hl : xs.length = n) (hc : ∀ i, i < n → w.cell? ⟨b, o + i, none⟩ = some (.int .u8 (xs.getD i 0))) :
    (convert 22 9 (.slice (some ⟨b, o, none⟩) n c)).run Try.prog w = .ok (.string (strOfNums xs)) w :=
  run_convert_bytes_arg w 22 5 Try.underlying22 Try.underlying5 b o n c xs hl hc 9 Try.underlying9

theorem enc_byte {n : Int} (h0 : 0 ≤ n) (h1 : n < 128) : Utf8.encode n = ⟨#[UInt8.ofNat n.toNat]⟩ := by
  unfold Utf8.encode Utf8.valid
  have e : (0 ≤ n && n < 0xD800 || 0xE000 ≤ n && n ≤ 0x10FFFF) = true := by simp; omega
  simp only [e, if_true]
  rw [if_pos (by omega)]

set_option maxHeartbeats 1000000 in
theorem value_any (x : Int) (h0 : 0 ≤ x) (h1 : x ≤ 255) (w : World) :
    Calls Try.prog 19 #[.int .u8 x] w (Ret (.string (valB x)) (fun w' => Frm [] w w')) := by
  obtain ⟨b, hb⟩ : ∃ b, b = UInt8.ofNat (97 + x % 26).toNat := ⟨_, rfl⟩
  have he := enc_byte (n := 97 + x % 26) (by omega) (by omega)
  rw [← hb] at he
  have hR := rep_any b (x % 41) w (by omega) (by omega)
  have e : reps b (x % 41).toNat = valB x := by
    unfold reps valB valL
    rw [hb, show (97 + x % 26).toNat = 97 + x.toNat % 26 by omega, show (x % 41).toNat = x.toNat % 41 by omega]
  rw [e] at hR
  have HR := Lib.hid hR
  clear hR e hb
  go_enter Try.func19, Try.ntmps19
  go_wp2_with fail
  refine HR.out.mono ?_
  rintro e w1 ⟨rfl, hF⟩
  go_wp2
  go_ret
  exact ⟨rfl, hF⟩

theorem key_eq {x : Int} (h0 : 0 ≤ x) (h1 : x ≤ 255) : strOfNums [97 + x / 16, 97 + x % 16] ++ reps 120 (x % 23).toNat = keyB x := by
  have e1 : (97 + x / 16).toNat = 97 + x.toNat / 16 := by omega
  have e2 : (97 + x % 16).toNat = 97 + x.toNat % 16 := by omega
  have e3 : (x % 23).toNat = x.toNat % 23 := by omega
  unfold strOfNums reps keyB keyL
  rw [e3]
  apply ByteArray.ext
  simp only [List.map_cons, List.map_nil, e1, e2]
  rw [ByteArray.data_append]
  simp

set_option maxHeartbeats 1000000 in
theorem key_any (x : Int) (h0 : 0 ≤ x) (h1 : x ≤ 255) (w : World) :
    Calls Try.prog 17 #[.int .u8 x] w (Ret (.string (keyB x)) (fun w' => Frm [] w w')) := by
  have hR := fun w => rep_any 120 (x % 23) w (by omega) (by omega)
  have hC := fun (w : World) (b : Nat) (h : w.heap[b]? = some (.cells #[.int .u8 (97 + x / 16), .int .u8 (97 + x % 16)] 5 (0, 0))) => conv_u8s (w := w) (b := b) (o := 0) (n := 2) (c := 2) [97 + x / 16, 97 + x % 16] rfl (fun i hi => by
    rw [cell_of_heap h]
    match i, hi with
    | 0, _ => rfl
    | 1, _ => rfl)
  have hE := key_eq h0 h1
  have s1 : x.tdiv 16 = x / 16 := Int.tdiv_eq_ediv_of_nonneg h0
  have s2 : x.tmod 16 = x % 16 := Int.tmod_eq_emod_of_nonneg h0
  have s3 : x.tmod 23 = x % 23 := Int.tmod_eq_emod_of_nonneg h0
  have s4 : IntKind.u8.wrap (x / 16) = x / 16 := by unfold IntKind.wrap; simp [IntKind.bits, IntKind.signed]; omega
  have s5 : IntKind.u8.wrap (97 + x / 16) = 97 + x / 16 := by unfold IntKind.wrap; simp [IntKind.bits, IntKind.signed]; omega
  have s6 : IntKind.u8.wrap (97 + x % 16) = 97 + x % 16 := by unfold IntKind.wrap; simp [IntKind.bits, IntKind.signed]; omega
  have s7 : IntKind.i64.wrap (x % 23) = x % 23 := by unfold IntKind.wrap; simp [IntKind.bits, IntKind.signed]; omega
  have hX : ∀ W : World, (convert 22 9 (.slice (some ⟨W.heap.size, 0, none⟩) 2 2)).run Try.prog ((W.alloc (.cells #[.int .u8 (97 + x / 16), .int .u8 (97 + x % 16)] 5)).drew) = .ok (.string (strOfNums [97 + x / 16, 97 + x % 16])) ((W.alloc (.cells #[.int .u8 (97 + x / 16), .int .u8 (97 + x % 16)] 5)).drew) := fun W => hC _ _ (heap_alloc_new W _)
  have hY : ∀ W : World, (convert 22 9 (.slice (some ⟨W.heap.size, 0, none⟩) 2 2)).run Try.prog (W.alloc (.cells #[.int .u8 (97 + x / 16), .int .u8 (97 + x % 16)] 5)) = .ok (.string (strOfNums [97 + x / 16, 97 + x % 16])) (W.alloc (.cells #[.int .u8 (97 + x / 16), .int .u8 (97 + x % 16)] 5)) := fun W => hC _ _ (heap_alloc_new W _)
  have hsz : (strOfNums [97 + x / 16, 97 + x % 16]).size + (reps 120 (x % 23).toNat).size ≤ 9223372036854775807 := by
    rw [← ByteArray.size_append, hE, keyB_size]; omega
  generalize strOfNums [97 + x / 16, 97 + x % 16] = S1 at *
  generalize reps 120 (x % 23).toNat = S2 at *
  have HR := Lib.hid hR
  have HC := Lib.hid hC
  have HE := Lib.hid hE
  clear hR hC hE
  go_enter Try.func17, Try.ntmps17
  go_wp2_with fail
  go_region_with (first | (go_at_call 24; refine (HR.out _).mono ?_; rintro e w1 ⟨rfl, hF⟩; (try have hcv := HC.out w1 _ (hF.heap (heap_alloc_new _ _) (by simp)))))
  all_goals (go_wp2; go_ret; exact ⟨by rw [HE.out] <;> rfl, by first | exact ((((Frm.refl [] w).alloc _).drew).trans hF) | exact (((Frm.refl [] w).drew.trans hF).alloc _) | exact (hF.alloc _).drew | skip⟩)
#print axioms rep_any
end Go.Proofs.Ytegoggnocpgoiaa
