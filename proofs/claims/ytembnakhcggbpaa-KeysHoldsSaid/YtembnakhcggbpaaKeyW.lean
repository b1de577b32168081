/- The statements' own helpers: after, between, packs, unpacks. -/
import Derived.Test.YtembnakhcggbpaaKeyV
namespace Go.Proofs.Ytembnakhcggbpaa
open Go.ChangeShapes Go.WideShapes Go.ChangeAt Go.RowKit

theorem after_of {w : World} {k S : ByteArray} {e : Int} (hc : Calls Try.prog 29 #[.string k] w (Ret (.tuple #[.string S, .int .i64 e]) (fun w' => Frm [] w w'))) :
    Calls Try.prog 24 #[.string k, .string S, .int .i64 e] w (Ret (.bool true) (fun w' => Frm [] w w')) := by
  have hee : (e == e) = true := by simp
  have hss : (S.toList == S.toList) = true := by simp
  have HC := Lib.hid hc
  clear hc
  go_enter Try.func24, Try.ntmps24
  go_wp2_with fail
  refine HC.out.mono ?_
  rintro e w1 ⟨rfl, hF1⟩
  go_wp2
  go_ret
  exact ⟨rfl, hF1⟩
theorem between_of {w : World} {a b S : ByteArray} {e : Int} (hc : Calls Try.prog 30 #[.string a, .string b] w (Ret (.tuple #[.string S, .int .i64 e]) (fun w' => Frm [] w w'))) :
    Calls Try.prog 25 #[.string a, .string b, .string S, .int .i64 e] w (Ret (.bool true) (fun w' => Frm [] w w')) := by
  have hee : (e == e) = true := by simp
  have hss : (S.toList == S.toList) = true := by simp
  have HC := Lib.hid hc
  clear hc
  go_enter Try.func25, Try.ntmps25
  go_wp2_with fail
  refine HC.out.mono ?_
  rintro e w1 ⟨rfl, hF1⟩
  go_wp2
  go_ret
  exact ⟨rfl, hF1⟩
theorem unpacks_of {w : World} {v : Value} {n : Int} {S : ByteArray} {e : Int} (hc : Calls Try.prog 34 #[v, .int .i64 n] w (Ret (.tuple #[.string S, .int .i64 e]) (fun w' => Frm [] w w'))) :
    Calls Try.prog 21 #[v, .int .i64 n, .string S, .int .i64 e] w (Ret (.bool true) (fun w' => Frm [] w w')) := by
  have hee : (e == e) = true := by simp
  have hss : (S.toList == S.toList) = true := by simp
  have HC := Lib.hid hc
  clear hc
  go_enter Try.func21, Try.ntmps21
  go_wp2_with fail
  refine HC.out.mono ?_
  rintro e w1 ⟨rfl, hF1⟩
  go_wp2
  go_ret
  exact ⟨rfl, hF1⟩
theorem pack_long (s : ByteArray) (w : World) (hs : 40 < s.size) :
    Calls Try.prog 28 #[.string s] w (Ret (.tuple #[.slice none 0 0, .int .i64 5]) (fun w' => Frm [] w w')) := by
  have d1 : decide ((40 : Int) < (s.size : Int)) = true := by simp; omega
  go_enter Try.func28, Try.ntmps28
  go_wp2_with fail
  go_ret2
  exact ⟨rfl, Frm.refl _ _⟩
theorem packs_ok {w : World} {s : ByteArray} (hs : s.size ≤ 40) {a : Option Addr} {n c b o : Nat} (hL : Li .u64 w a n c b o (pk s)) :
    Calls Try.prog 19 #[.string s, .slice a n c, .int .i64 0] w (Ret (.bool true) (fun w' => Frm [] w w')) := by
  have hn : n = wdsN s.size := by rw [← hL.len, pk_length]
  have hc := pack_ok s w hs
  rw [← hn] at hc
  have hn2 : n ≤ 100 := by rw [hn]; unfold wdsN; omega
  have HC := Lib.hid hc
  have HL := Lib.hid hL
  clear hc hL hn
  go_enter Try.func19, Try.ntmps19
  go_wp2_with fail
  refine HC.out.mono ?_
  rintro e w1 ⟨g, rfl, hF1, hR1⟩
  obtain ⟨b1, hL1⟩ := hR1.li
  have hsame := same_yes hL1 (HL.out.frm0 hF1) (by omega)
  have HS := Lib.hid hsame
  clear hR1 hL1 hsame
  go_wp2_with fail
  refine HS.out.mono ?_
  rintro e w2 ⟨rfl, hF2⟩
  go_wp2
  go_ret
  exact ⟨rfl, hF1.trans hF2⟩
theorem packs_long {w : World} {s : ByteArray} (hs : 40 < s.size) :
    Calls Try.prog 19 #[.string s, .slice none 0 0, .int .i64 5] w (Ret (.bool true) (fun w' => Frm [] w w')) := by
  have HC := Lib.hid (pack_long s w hs)
  go_enter Try.func19, Try.ntmps19
  go_wp2_with fail
  refine HC.out.mono ?_
  rintro e w1 ⟨rfl, hF1⟩
  have hsame := same_yes (Li.nil (k := .u64) w1 0 0) (Li.nil w1 0 0) (by omega)
  have HS := Lib.hid hsame
  clear hsame
  go_wp2_with fail
  refine HS.out.mono ?_
  rintro e w2 ⟨rfl, hF2⟩
  go_wp2
  go_ret
  exact ⟨rfl, hF1.trans hF2⟩
/-- Unpack of words that read as a list, as it is asked. -/
theorem unpacks_tz {w : World} {a : Option Addr} {m c b o : Nat} {l : List Int} (hL : Li .u64 w a m c b o l) (n : Nat) (hn : n ≤ 40) (hm : m = wdsN n) (hz : Tz l n) :
    Calls Try.prog 21 #[.slice a m c, .int .i64 n, .string (strOfNums (ubs l n)), .int .i64 0] w (Ret (.bool true) (fun w' => Frm [] w w')) :=
  unpacks_of ((unpack_main hL n hn hm).mono fun e w' h => by
    obtain ⟨hF, ⟨_, he⟩ | ⟨h2, _⟩⟩ := h
    · exact ⟨he, hF⟩
    · exact absurd hz h2)
theorem unpacks_bad {w : World} {a : Option Addr} {m c b o : Nat} {l : List Int} (hL : Li .u64 w a m c b o l) (n : Nat) (hn : n ≤ 40) (hm : m = wdsN n) (hz : ¬ Tz l n) :
    Calls Try.prog 21 #[.slice a m c, .int .i64 n, .string noB, .int .i64 12] w (Ret (.bool true) (fun w' => Frm [] w w')) :=
  unpacks_of ((unpack_main hL n hn hm).mono fun e w' h => by
    obtain ⟨hF, ⟨h2, _⟩ | ⟨_, he⟩⟩ := h
    · exact absurd h2 hz
    · exact ⟨he, hF⟩)
end Go.Proofs.Ytembnakhcggbpaa
