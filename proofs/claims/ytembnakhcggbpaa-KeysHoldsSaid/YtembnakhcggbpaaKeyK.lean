/- known: the examples of the chapter (by gen_keyk.py). -/
import Derived.Test.YtembnakhcggbpaaKeyW
namespace Go.Proofs.Ytembnakhcggbpaa
open Go.ChangeShapes Go.WideShapes Go.ChangeAt Go.RowKit

theorem pk_ab : pk ⟨#[97, 98]⟩ = [7017171169396654080] := by kernel_rfl
theorem pk_none : pk ⟨#[]⟩ = [] := by kernel_rfl
theorem pk_nine : pk (reps 1 9) = [72340172838076673, 72057594037927936] := by kernel_rfl
theorem aft_of {s r : ByteArray} (h : aft s = some r) : aftS s = r ∧ aftE s = 0 := ⟨by unfold aftS; rw [h]; rfl, by unfold aftE; rw [if_neg (by rw [h]; simp)]⟩
theorem aft_no {s : ByteArray} (h : aft s = none) : aftS s = noB ∧ aftE s = 9 := ⟨by unfold aftS; rw [h]; rfl, by unfold aftE; rw [if_pos h]⟩
theorem kn_after {s r : ByteArray} (hk : vk s = true) (h : aft s = some r) (w : World) : Calls Try.prog 24 #[.string s, .string r, .int .i64 0] w (Ret (.bool true) (fun w' => Frm [] w w')) := by
  have := after_any s w hk
  rw [(aft_of h).1, (aft_of h).2] at this
  exact after_of this
theorem kn_after_no {s : ByteArray} (hk : vk s = true) (h : aft s = none) (w : World) : Calls Try.prog 24 #[.string s, .string noB, .int .i64 9] w (Ret (.bool true) (fun w' => Frm [] w w')) := by
  have := after_any s w hk
  rw [(aft_no h).1, (aft_no h).2] at this
  exact after_of this
theorem kn_between {a b r : ByteArray} (ha : vk a = true) (hb : vk b = true) (h : cmp a b = -1) (hr : betS a b = r) (w : World) : Calls Try.prog 25 #[.string a, .string b, .string r, .int .i64 0] w (Ret (.bool true) (fun w' => Frm [] w w')) := by
  have := between_ok a b w ha hb h
  rw [hr] at this
  exact between_of this
theorem kn_key (s : ByteArray) (v : Bool) (h : vk s = v) (w : World) : Calls Try.prog 10 #[.string s] w (fun e w' => e = .returned (.bool v) ∧ w = w') := by rw [← h]; exact key_walk s w
theorem kn_val (s : ByteArray) (v : Bool) (h : vv s = v) (w : World) : Calls Try.prog 12 #[.string s] w (fun e w' => e = .returned (.bool v) ∧ w = w') := by rw [← h]; exact val_walk s w
theorem kn_cmp (a b : ByteArray) (v : Int) (h : cmp a b = v) (w : World) : Calls Try.prog 14 #[.string a, .string b] w (fun e w' => e = .returned (.int .i64 v) ∧ w = w') := by rw [← h]; exact cmp_walk a b w
theorem kn_words (n v : Int) (hn : (Lit.int .i64 n).wf = true) (h : wds n = v) (w : World) : Calls Try.prog 17 #[.int .i64 n] w (fun e w' => e = .returned (.int .i64 v) ∧ w = w') := by rw [← h]; exact words_walk n hn w
theorem kn_rep1 (w : World) : Calls Try.prog 31 #[.string ⟨#[97]⟩, .int .i64 22] w (Ret (.string (reps 97 22)) (fun w' => Frm [] w w')) := rep_any 97 22 w (by decide) (by decide)
theorem kn_rep2 (w : World) : Calls Try.prog 31 #[.string ⟨#[120]⟩, .int .i64 41] w (Ret (.string (reps 120 41)) (fun w' => Frm [] w w')) := rep_any 120 41 w (by decide) (by decide)
theorem kn_rep3 (w : World) : Calls Try.prog 31 #[.string ⟨#[1]⟩, .int .i64 9] w (Ret (.string (reps 1 9)) (fun w' => Frm [] w w')) := rep_any 1 9 w (by decide) (by decide)
theorem kn_rep4 (w : World) : Calls Try.prog 31 #[.string ⟨#[255]⟩, .int .i64 24] w (Ret (.string (reps 255 24)) (fun w' => Frm [] w w')) := rep_any 255 24 w (by decide) (by decide)
theorem kn_pf (w : World) : Calls Try.prog 16 #[.string ⟨#[97, 98, 99]⟩, .string ⟨#[97, 98, 100]⟩] w (fun e w' => Ret (.int .i64 2) (fun w' => Frm [] w w') e w') :=
  pf_walk ⟨#[97, 98, 99]⟩ ⟨#[97, 98, 100]⟩ w (by decide)
theorem kn_nine (w : World) : Calls Try.prog 28 #[.string (reps 1 9)] w (fun e w' => ∃ g, Ret (.tuple #[.slice (some ⟨g, 0, none⟩) 2 2, .int .i64 0]) (fun w' => Frm [] w w' ∧ Row .u64 43 w.heap.size w' (some ⟨g, 0, none⟩) 2 2 [72340172838076673, 72057594037927936]) e w') := by
  have h := pack_ok (reps 1 9) w (by rw [reps_size]; omega)
  rw [reps_size, pk_nine] at h
  exact h
section
variable {w : World} {g : Nat}
theorem kn_packs_ab (h : Li .u64 w (some ⟨g, 0, none⟩) 1 1 g 0 [7017171169396654080]) : Calls Try.prog 19 #[.string ⟨#[97, 98]⟩, .slice (some ⟨g, 0, none⟩) 1 1, .int .i64 0] w (Ret (.bool true) (fun w' => Frm [] w w')) :=
  packs_ok (by decide) (by rw [pk_ab]; exact h)
theorem kn_packs_none (w : World) : Calls Try.prog 19 #[.string ⟨#[]⟩, .slice none 0 0, .int .i64 0] w (Ret (.bool true) (fun w' => Frm [] w w')) :=
  packs_ok (by decide) (by rw [pk_none]; exact Li.nil w 0 0)
theorem kn_unp_2 (h : Li .u64 w (some ⟨g, 0, none⟩) 1 1 g 0 [7017171169396654080]) : Calls Try.prog 21 #[.slice (some ⟨g, 0, none⟩) 1 1, .int .i64 2, .string ⟨#[97, 98]⟩, .int .i64 0] w (Ret (.bool true) (fun w' => Frm [] w w')) := by
  have ht := tz_pk ⟨#[97, 98]⟩
  have hs := str_ubs ⟨#[97, 98]⟩
  rw [pk_ab] at ht hs
  have := unpacks_tz h 2 (by decide) (by decide) ht
  rw [show strOfNums (ubs [7017171169396654080] 2) = ⟨#[97, 98]⟩ from hs] at this
  exact this
theorem kn_unp_1 (h : Li .u64 w (some ⟨g, 0, none⟩) 1 1 g 0 [7017171169396654080]) : Calls Try.prog 21 #[.slice (some ⟨g, 0, none⟩) 1 1, .int .i64 1, .string ⟨#[]⟩, .int .i64 12] w (Ret (.bool true) (fun w' => Frm [] w w')) :=
  unpacks_bad h 1 (by decide) (by decide) (fun ht => by
    have := ht 1 (by decide) (by decide)
    revert this; decide)
theorem kn_unp_9 (w : World) (g : Nat) : Calls Try.prog 21 #[.slice (some ⟨g, 0, none⟩) 1 1, .int .i64 9, .string ⟨#[]⟩, .int .i64 12] w (Ret (.bool true) (fun w' => Frm [] w w')) :=
  unpacks_of (unpack_many w _ 1 1 9 (by decide) (by decide))
theorem kn_unp_0 (w : World) : Calls Try.prog 21 #[.slice none 0 0, .int .i64 0, .string ⟨#[]⟩, .int .i64 0] w (Ret (.bool true) (fun w' => Frm [] w w')) :=
  unpacks_tz (Li.nil w 0 0) 0 (by decide) (by decide) (fun i _ h => by simp at h)
theorem kn_unp_neg (w : World) : Calls Try.prog 21 #[.slice none 0 0, .int .i64 (-1), .string ⟨#[]⟩, .int .i64 2] w (Ret (.bool true) (fun w' => Frm [] w w')) :=
  unpacks_of (unpack_neg w _ (-1) (by decide))
theorem kn_unp_41 (w : World) : Calls Try.prog 21 #[.slice none 0 0, .int .i64 41, .string ⟨#[]⟩, .int .i64 5] w (Ret (.bool true) (fun w' => Frm [] w w')) :=
  unpacks_of (unpack_long w _ 41 (by decide))
end
theorem vk_app {x : UInt8} {n : Nat} {s : ByteArray} {v : Bool} (h : decide (1 ≤ n + s.size ∧ n + s.size ≤ 24) = v) : vk (reps x n ++ s) = v := by
  unfold vk; rw [ByteArray.size_append, reps_size]; exact h
theorem vk_reps {x : UInt8} {n : Nat} {v : Bool} (h : decide (1 ≤ n ∧ n ≤ 24) = v) : vk (reps x n) = v := by
  unfold vk; rw [reps_size]; exact h
theorem kn_key1 (w : World) : Calls Try.prog 10 #[.string ⟨#[]⟩] w (fun e w' => e = .returned (.bool false) ∧ w = w') := kn_key _ false (by decide) w
theorem kn_key2 (w : World) : Calls Try.prog 10 #[.string (reps 97 22 ++ ⟨#[97, 97]⟩)] w (fun e w' => e = .returned (.bool true) ∧ w = w') := kn_key _ true (vk_app (by decide)) w
theorem kn_key3 (w : World) : Calls Try.prog 10 #[.string (reps 97 22 ++ ⟨#[97, 97, 97]⟩)] w (fun e w' => e = .returned (.bool false) ∧ w = w') := kn_key _ false (vk_app (by decide)) w
theorem kn_val1 (w : World) : Calls Try.prog 12 #[.string ⟨#[]⟩] w (fun e w' => e = .returned (.bool true) ∧ w = w') := kn_val _ true (by decide) w
theorem kn_val2 (w : World) : Calls Try.prog 12 #[.string (reps 120 41)] w (fun e w' => e = .returned (.bool false) ∧ w = w') := kn_val _ false (by unfold vv; rw [reps_size]; decide) w
theorem kn_cmp1 (w : World) : Calls Try.prog 14 #[.string ⟨#[97]⟩, .string ⟨#[97, 98]⟩] w (fun e w' => e = .returned (.int .i64 (-1)) ∧ w = w') := kn_cmp _ _ (-1) (by decide) w
theorem kn_cmp2 (w : World) : Calls Try.prog 14 #[.string ⟨#[98]⟩, .string ⟨#[97, 98]⟩] w (fun e w' => e = .returned (.int .i64 1) ∧ w = w') := kn_cmp _ _ 1 (by decide) w
theorem kn_words0 (w : World) : Calls Try.prog 17 #[.int .i64 0] w (fun e w' => e = .returned (.int .i64 0) ∧ w = w') := kn_words 0 0 (by decide) (by decide) w
theorem kn_words8 (w : World) : Calls Try.prog 17 #[.int .i64 8] w (fun e w' => e = .returned (.int .i64 1) ∧ w = w') := kn_words 8 1 (by decide) (by decide) w
theorem kn_words9 (w : World) : Calls Try.prog 17 #[.int .i64 9] w (fun e w' => e = .returned (.int .i64 2) ∧ w = w') := kn_words 9 2 (by decide) (by decide) w
theorem kn_wordsn (w : World) : Calls Try.prog 17 #[.int .i64 (-1)] w (fun e w' => e = .returned (.int .i64 0) ∧ w = w') := kn_words (-1) 0 (by decide) (by decide) w
theorem kn_aft1 (w : World) : Calls Try.prog 24 #[.string ⟨#[97]⟩, .string ⟨#[97, 0]⟩, .int .i64 0] w (Ret (.bool true) (fun w' => Frm [] w w')) := kn_after (by decide) (by decide +kernel) w
theorem kn_aft2 (w : World) : Calls Try.prog 24 #[.string (reps 97 22 ++ ⟨#[97, 98]⟩), .string (reps 97 22 ++ ⟨#[97, 99]⟩), .int .i64 0] w (Ret (.bool true) (fun w' => Frm [] w w')) := kn_after (vk_app (by decide)) (by decide +kernel) w
theorem kn_aft3 (w : World) : Calls Try.prog 24 #[.string (reps 97 22 ++ ⟨#[97, 255]⟩), .string (reps 97 22 ++ ⟨#[98]⟩), .int .i64 0] w (Ret (.bool true) (fun w' => Frm [] w w')) := kn_after (vk_app (by decide)) (by decide +kernel) w
theorem kn_aft4 (w : World) : Calls Try.prog 24 #[.string (reps 255 24), .string ⟨#[]⟩, .int .i64 9] w (Ret (.bool true) (fun w' => Frm [] w w')) := kn_after_no (vk_reps (by decide)) (by decide +kernel) w
theorem kn_bet1 (w : World) : Calls Try.prog 25 #[.string ⟨#[97, 98]⟩, .string ⟨#[97, 100]⟩, .string ⟨#[97, 100]⟩, .int .i64 0] w (Ret (.bool true) (fun w' => Frm [] w w')) := kn_between (by decide) (by decide) (by decide) (by decide +kernel) w
theorem kn_bet2 (w : World) : Calls Try.prog 25 #[.string ⟨#[97]⟩, .string ⟨#[97, 98, 99]⟩, .string ⟨#[97, 98]⟩, .int .i64 0] w (Ret (.bool true) (fun w' => Frm [] w w')) := kn_between (by decide) (by decide) (by decide) (by decide +kernel) w
theorem kn_bet3 (w : World) : Calls Try.prog 25 #[.string ⟨#[97, 98, 99]⟩, .string ⟨#[98]⟩, .string ⟨#[98]⟩, .int .i64 0] w (Ret (.bool true) (fun w' => Frm [] w w')) := kn_between (by decide) (by decide) (by decide) (by decide +kernel) w
theorem kn_bet4 (w : World) : Calls Try.prog 25 #[.string ⟨#[98]⟩, .string ⟨#[97]⟩, .string ⟨#[]⟩, .int .i64 13] w (Ret (.bool true) (fun w' => Frm [] w w')) := between_of (between_order _ _ w (by decide) (by decide) (by decide))
theorem kn_bet5 (w : World) : Calls Try.prog 25 #[.string ⟨#[97]⟩, .string ⟨#[97]⟩, .string ⟨#[]⟩, .int .i64 13] w (Ret (.bool true) (fun w' => Frm [] w w')) := between_of (between_order _ _ w (by decide) (by decide) (by decide))

set_option maxRecDepth 100000 in
set_option maxHeartbeats 8000000 in
theorem known_true (w : World) : Calls Try.prog 8 #[] w (Ret (.bool true) (fun w' => Frm [] w w')) := by
  have hX : (reps 97 22).size ≤ 22 := by rw [reps_size]; omega
  have hF : Frm [] w w := Frm.refl _ _
  go_enter Try.func8, Try.ntmps8
  go_wp2_with fail
  refine (kn_rep1 _).mono ?_
  rintro e w1 ⟨rfl, g1⟩
  replace hF := hF.trans g1
  clear g1
  go_wp2_with fail
  refine (kn_key1 _).mono ?_
  rintro e w' ⟨rfl, rfl⟩
  go_wp2_with fail
  refine (kn_key2 _).mono ?_
  rintro e w' ⟨rfl, rfl⟩
  go_wp2_with fail
  refine (kn_key3 _).mono ?_
  rintro e w' ⟨rfl, rfl⟩
  go_wp2_with fail
  refine (kn_val1 _).mono ?_
  rintro e w' ⟨rfl, rfl⟩
  go_wp2_with fail
  refine (kn_rep2 _).mono ?_
  rintro e w2 ⟨rfl, g2⟩
  replace hF := hF.trans g2
  clear g2
  go_wp2_with fail
  refine (kn_val2 _).mono ?_
  rintro e w' ⟨rfl, rfl⟩
  go_wp2_with fail
  refine (kn_cmp1 _).mono ?_
  rintro e w' ⟨rfl, rfl⟩
  go_wp2_with fail
  refine (kn_cmp2 _).mono ?_
  rintro e w' ⟨rfl, rfl⟩
  go_wp2_with fail
  refine (kn_pf _).mono ?_
  rintro e w3 ⟨rfl, g3⟩
  replace hF := hF.trans g3
  clear g3
  go_wp2_with fail
  have hg := heap_alloc_new w3 (.cells #[.int .u64 7017171169396654080] 43)
  have hGa : Frm [] w (w3.alloc (.cells #[.int .u64 7017171169396654080] 43)) := hF.alloc _
  generalize w3.alloc (.cells #[.int .u64 7017171169396654080] 43) = wa at hg hGa ⊢
  generalize w3.heap.size = g at hg ⊢
  have hab0 : Li .u64 wa (some ⟨g, 0, none⟩) 1 1 g 0 [7017171169396654080] := li_new rfl hg
  have HAB := Lib.hid hab0
  clear hab0 hg hF
  refine (kn_rep3 _).mono ?_
  rintro e w4 ⟨rfl, g4⟩
  replace hGa := hGa.trans g4
  replace HAB := Lib.hid (HAB.out.frm0 g4)
  clear g4
  go_wp2_with fail
  refine (kn_nine _).mono ?_
  rintro e w5 ⟨g2, rfl, g5, hR⟩
  replace hGa := hGa.trans g5
  replace HAB := Lib.hid (HAB.out.frm0 g5)
  clear g5
  obtain ⟨b2, hni⟩ := hR.li
  obtain ⟨rfl⟩ := Option.some.inj (hni.ad (by omega))
  have HNI := Lib.hid hni
  clear hR hni
  go_wp2_with fail
  refine (kn_words0 _).mono ?_
  rintro e w' ⟨rfl, rfl⟩
  go_wp2_with fail
  refine (kn_words8 _).mono ?_
  rintro e w' ⟨rfl, rfl⟩
  go_wp2_with fail
  refine (kn_words9 _).mono ?_
  rintro e w' ⟨rfl, rfl⟩
  go_wp2_with fail
  refine (kn_wordsn _).mono ?_
  rintro e w' ⟨rfl, rfl⟩
  go_wp2_with fail
  refine (kn_packs_ab HAB.out).mono ?_
  rintro e w6 ⟨rfl, g6⟩
  replace hGa := hGa.trans g6
  replace HAB := Lib.hid (HAB.out.frm0 g6)
  replace HNI := Lib.hid (HNI.out.frm0 g6)
  clear g6
  go_wp2_with fail
  refine (kn_packs_none _).mono ?_
  rintro e w7 ⟨rfl, g7⟩
  replace hGa := hGa.trans g7
  replace HAB := Lib.hid (HAB.out.frm0 g7)
  replace HNI := Lib.hid (HNI.out.frm0 g7)
  clear g7
  have hc9 := HNI.out.cell 1 _ rfl
  simp only [Nat.zero_add] at hc9
  have hix9 := fun W => ix_u64 (a := some ⟨g2, 0, none⟩) (n := 2) (c := 2) (k := 1) (fun _ => rfl) (by omega) W
  simp only [Nat.zero_add] at hix9
  go_wp2_with fail
  refine (kn_unp_2 HAB.out).mono ?_
  rintro e w8 ⟨rfl, g8⟩
  replace hGa := hGa.trans g8
  replace HAB := Lib.hid (HAB.out.frm0 g8)
  clear g8
  go_wp2_with fail
  refine (kn_unp_1 HAB.out).mono ?_
  rintro e w9 ⟨rfl, g9⟩
  replace hGa := hGa.trans g9
  replace HAB := Lib.hid (HAB.out.frm0 g9)
  clear g9
  go_wp2_with fail
  refine (kn_unp_9 _ _).mono ?_
  rintro e w10 ⟨rfl, g10⟩
  replace hGa := hGa.trans g10
  replace HAB := Lib.hid (HAB.out.frm0 g10)
  clear g10
  go_wp2_with fail
  refine (kn_unp_0 _).mono ?_
  rintro e w11 ⟨rfl, g11⟩
  replace hGa := hGa.trans g11
  replace HAB := Lib.hid (HAB.out.frm0 g11)
  clear g11
  go_wp2_with fail
  refine (kn_unp_neg _).mono ?_
  rintro e w12 ⟨rfl, g12⟩
  replace hGa := hGa.trans g12
  replace HAB := Lib.hid (HAB.out.frm0 g12)
  clear g12
  go_wp2_with fail
  refine (kn_unp_41 _).mono ?_
  rintro e w13 ⟨rfl, g13⟩
  replace hGa := hGa.trans g13
  replace HAB := Lib.hid (HAB.out.frm0 g13)
  clear g13
  go_wp2_with fail
  refine (kn_aft1 _).mono ?_
  rintro e w14 ⟨rfl, g14⟩
  replace hGa := hGa.trans g14
  replace HAB := Lib.hid (HAB.out.frm0 g14)
  clear g14
  go_wp2_with fail
  refine (kn_aft2 _).mono ?_
  rintro e w15 ⟨rfl, g15⟩
  replace hGa := hGa.trans g15
  replace HAB := Lib.hid (HAB.out.frm0 g15)
  clear g15
  go_wp2_with fail
  refine (kn_aft3 _).mono ?_
  rintro e w16 ⟨rfl, g16⟩
  replace hGa := hGa.trans g16
  replace HAB := Lib.hid (HAB.out.frm0 g16)
  clear g16
  go_wp2_with fail
  refine (kn_rep4 _).mono ?_
  rintro e w17 ⟨rfl, g17⟩
  replace hGa := hGa.trans g17
  replace HAB := Lib.hid (HAB.out.frm0 g17)
  clear g17
  go_wp2_with fail
  refine (kn_aft4 _).mono ?_
  rintro e w18 ⟨rfl, g18⟩
  replace hGa := hGa.trans g18
  replace HAB := Lib.hid (HAB.out.frm0 g18)
  clear g18
  go_wp2_with fail
  refine (kn_bet1 _).mono ?_
  rintro e w19 ⟨rfl, g19⟩
  replace hGa := hGa.trans g19
  replace HAB := Lib.hid (HAB.out.frm0 g19)
  clear g19
  go_wp2_with fail
  refine (kn_bet2 _).mono ?_
  rintro e w20 ⟨rfl, g20⟩
  replace hGa := hGa.trans g20
  replace HAB := Lib.hid (HAB.out.frm0 g20)
  clear g20
  go_wp2_with fail
  refine (kn_bet3 _).mono ?_
  rintro e w21 ⟨rfl, g21⟩
  replace hGa := hGa.trans g21
  replace HAB := Lib.hid (HAB.out.frm0 g21)
  clear g21
  go_wp2_with fail
  refine (kn_bet4 _).mono ?_
  rintro e w22 ⟨rfl, g22⟩
  replace hGa := hGa.trans g22
  replace HAB := Lib.hid (HAB.out.frm0 g22)
  clear g22
  go_wp2_with fail
  refine (kn_bet5 _).mono ?_
  rintro e w23 ⟨rfl, g23⟩
  replace hGa := hGa.trans g23
  replace HAB := Lib.hid (HAB.out.frm0 g23)
  clear g23
  go_wp2
  go_ret
  exact ⟨rfl, hGa⟩
end Go.Proofs.Ytembnakhcggbpaa
