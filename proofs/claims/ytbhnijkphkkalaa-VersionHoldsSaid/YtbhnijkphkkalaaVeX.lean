/- VersionHolds: the whole. (By gen_vew.py.) -/
import Derived.Test.YtbhnijkphkkalaaVeW
namespace Go.Proofs.Ytbhnijkphkkalaa
open Go.ChangeShapes Go.WideShapes Go.ChangeAt Go.RowKit
set_option linter.unusedVariables false

set_option maxRecDepth 100000 in
set_option maxHeartbeats 2000000 in
theorem walk_VersionHolds (rd : Int) (wrd : (Lit.int .u8 rd).wf = true) (tr : Int) (wtr : (Lit.int .u8 tr).wf = true) (a : Option Addr) (n cl : Nat) (ls : List (List Int)) (a2 : Option Addr) (m c2 : Nat) (zs : List Int) (f : Int) (wf : (Lit.int .u64 f).wf = true) (w : World) (hL : IsArrs w a n ls) (hP : IsRow .u8 w a2 m c2 zs) :
    Calls Try.prog 7 #[.int .u8 rd, .int .u8 tr, .slice a n cl, .slice a2 m c2, .int .u64 f] w (Ret (.bool true) (fun w' => Below w.heap.size w w')) := by
  obtain ⟨b2, o2, hLi, hw, hpb⟩ := li_of_row hP
  obtain ⟨hf0, hf1⟩ := u64_bd wf
  have HF1 := Lib.hid hf1
  clear hf1
  by_cases t0 : rd < 1
  · have d0 : decide (rd < 1) = true := by simpa using t0
    clear t0
    clear hL hP hLi hw hpb wrd wtr wf
    go_enter Try.func7, Try.ntmps7
    go_wp2_with fail
    refine (known_true _).mono ?_
    rintro e w6 ⟨rfl, hF6⟩
    go_wp2
    go_ret
    exact ⟨rfl, bel hF6⟩
  have d0 : decide (rd < 1) = false := by simpa using t0
  by_cases t1 : 3 < rd
  · have d1 : decide (3 < rd) = true := by simpa using t1
    clear t1
    clear hL hP hLi hw hpb wrd wtr wf
    go_enter Try.func7, Try.ntmps7
    go_wp2_with fail
    refine (known_true _).mono ?_
    rintro e w6 ⟨rfl, hF6⟩
    go_wp2
    go_ret
    exact ⟨rfl, bel hF6⟩
  have d1 : decide (3 < rd) = false := by simpa using t1
  by_cases t2 : tr < 1
  · have d2 : decide (tr < 1) = true := by simpa using t2
    clear t2
    clear hL hP hLi hw hpb wrd wtr wf
    go_enter Try.func7, Try.ntmps7
    go_wp2_with fail
    refine (known_true _).mono ?_
    rintro e w6 ⟨rfl, hF6⟩
    go_wp2
    go_ret
    exact ⟨rfl, bel hF6⟩
  have d2 : decide (tr < 1) = false := by simpa using t2
  by_cases t3 : 5 < tr
  · have d3 : decide (5 < tr) = true := by simpa using t3
    clear t3
    clear hL hP hLi hw hpb wrd wtr wf
    go_enter Try.func7, Try.ntmps7
    go_wp2_with fail
    refine (known_true _).mono ?_
    rintro e w6 ⟨rfl, hF6⟩
    go_wp2
    go_ret
    exact ⟨rfl, bel hF6⟩
  have d3 : decide (5 < tr) = false := by simpa using t3
  by_cases t4 : 10 < (n : Int)
  · have d4 : decide ((10 : Int) < n) = true := by simpa using t4
    clear t4
    clear hL hP hLi hw hpb wrd wtr wf
    go_enter Try.func7, Try.ntmps7
    go_wp2_with fail
    refine (known_true _).mono ?_
    rintro e w6 ⟨rfl, hF6⟩
    go_wp2
    go_ret
    exact ⟨rfl, bel hF6⟩
  have d4 : decide ((10 : Int) < n) = false := by simpa using t4
  by_cases t5 : 200 < (m : Int)
  · have d5 : decide ((200 : Int) < m) = true := by simpa using t5
    clear t5
    clear hL hP hLi hw hpb wrd wtr wf
    go_enter Try.func7, Try.ntmps7
    go_wp2_with fail
    refine (known_true _).mono ?_
    rintro e w6 ⟨rfl, hF6⟩
    go_wp2
    go_ret
    exact ⟨rfl, bel hF6⟩
  have d5 : decide ((200 : Int) < m) = false := by simpa using t5
  by_cases t6 : f % 2 = 1
  · have d6 : (f % 2 == 1) = true := by simpa using t6
    clear t6
    clear hL hP hLi hw hpb wrd wtr wf
    go_enter Try.func7, Try.ntmps7
    go_wp2_with fail
    refine (known_true _).mono ?_
    rintro e w6 ⟨rfl, hF6⟩
    go_wp2
    go_ret
    exact ⟨rfl, bel hF6⟩
  clear d0 d1 d2 d3 d4 d5
  obtain ⟨rd, rfl⟩ := Int.eq_ofNat_of_zero_le (show 0 ≤ rd by omega)
  obtain ⟨hl1, hl2, hl3⟩ := hL
  have h44 : Four4 ls := fun l hl => ⟨(hl2 l hl).1, fun x hx => (u64_bd ((hl2 l hl).2 x hx)).1⟩
  have hIn : ∃ bl ol, InL w a n bl ol ls := by
    by_cases hn : 0 < n
    · obtain ⟨b, o, ha, hb, hc⟩ := hl3 hn
      exact ⟨b, o, hl1, fun _ => ⟨ha, hb⟩, hc⟩
    · exact ⟨0, 0, hl1, fun h => absurd h hn, fun i l hl => by have := (List.getElem?_eq_some_iff.1 hl).1; omega⟩
  obtain ⟨bl, ol, hIn⟩ := hIn
  exact (holds_main rd (by omega) (by omega) tr (by omega) (by omega) a n cl bl ol ls w hIn h44 (by omega) hLi hpb (u8_bd hw) (by omega) f hf0 HF1 (by omega)).mono fun _ _ hh => ⟨hh.1, bel hh.2⟩
#print axioms walk_VersionHolds
end Go.Proofs.Ytbhnijkphkkalaa
