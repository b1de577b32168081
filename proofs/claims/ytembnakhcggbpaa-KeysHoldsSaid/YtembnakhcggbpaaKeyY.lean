/- Layer 5: the walk of KeysUnpacks. -/
import Derived.Test.YtembnakhcggbpaaKeyX
namespace Go.Proofs.Ytembnakhcggbpaa
open Go.ChangeShapes Go.WideShapes Go.ChangeAt Go.RowKit

/-- The package and its reference say the same of any words. -/
theorem unp_both {w : World} {a : Option Addr} {m c b o : Nat} {l : List Int} (hL : Li .u64 w a m c b o l) (hW : Wf l) (n : Int) :
    ∃ (S : ByteArray) (e : Int), (∀ W, Frm [] w W → Calls Try.prog 22 #[.slice a m c, .int .i64 n] W (Ret (.tuple #[.string S, .int .i64 e]) (fun w' => Frm [] W w'))) ∧
      (∀ (W : World) (a' : Option Addr) (c' b' o' : Nat), Li .u64 W a' m c' b' o' l → Calls Try.prog 21 #[.slice a' m c', .int .i64 n, .string S, .int .i64 e] W (Ret (.bool true) (fun w' => Frm [] W w'))) := by
  by_cases h0 : n < 0
  · exact ⟨noB, 2, fun W _ => runpack_neg W _ n h0, fun W a' c' b' o' _ => unpacks_of (unpack_neg W _ n h0)⟩
  · by_cases h1 : 40 < n
    · exact ⟨noB, 5, fun W _ => runpack_long W _ n h1, fun W a' c' b' o' _ => unpacks_of (unpack_long W _ n h1)⟩
    · obtain ⟨k, rfl⟩ : ∃ k : Nat, n = (k : Int) := ⟨n.toNat, by omega⟩
      have hk : k ≤ 40 := by omega
      by_cases hm : m = wdsN k
      · by_cases ht : Tz l k
        · refine ⟨strOfNums (ubs l k), 0, fun W hF => (runpack_main (hL.frm0 hF) hW k hk hm).mono fun e w' h => ?_, fun W a' c' b' o' hL' => unpacks_tz hL' k hk hm ht⟩
          obtain ⟨hF, ⟨_, he⟩ | ⟨h2, _⟩⟩ := h
          · exact ⟨he, hF⟩
          · exact absurd ht h2
        · refine ⟨noB, 12, fun W hF => (runpack_main (hL.frm0 hF) hW k hk hm).mono fun e w' h => ?_, fun W a' c' b' o' hL' => unpacks_bad hL' k hk hm ht⟩
          obtain ⟨hF, ⟨h2, _⟩ | ⟨_, he⟩⟩ := h
          · exact absurd h2 ht
          · exact ⟨he, hF⟩
      · exact ⟨noB, 12, fun W _ => runpack_many W a m c k hk hm, fun W a' c' b' o' _ => unpacks_of (unpack_many W a' m c' k hk hm)⟩

set_option maxRecDepth 100000 in
set_option maxHeartbeats 2000000 in
theorem unpacks_walk {w : World} {a : Option Addr} {m c b o : Nat} {l : List Int} (hL : Li .u64 w a m c b o l) (hW : Wf l) (n : Int) (hm : m ≤ 20) :
    Calls Try.prog 5 #[.slice a m c, .int .i64 n] w (Ret (.bool true) (fun w' => Frm [] w w')) := by
  obtain ⟨S, e, h1, h2⟩ := unp_both hL hW n
  have d1 : decide ((20 : Int) < (m : Int)) = false := by simp; omega
  have H1 := Lib.hid h1
  have H2 := Lib.hid h2
  have HL := Lib.hid hL
  clear h1 h2 hL hW
  go_enter Try.func5, Try.ntmps5
  go_wp2_with (at_builtin; refine wpl_app Try.underlying29 info_u64 (by decide) (by decide) rfl (.const (.slice none 0 0)) (.tmp 12) rfl (B := w.heap.size) (a := none) (n := 0) (c := 0) (m := m) (l := []) (l2 := l) (by simp [Act.eval]) (by simp [Act.eval]) (Row.nil _ _ _ _) HL.out (by simp; omega) (Nat.le_refl _) ?_; intro a3 c3 w3 hR3 hF3)
  rw [Nat.zero_add, List.nil_append] at hR3
  have hF : Frm [] w w3 := hF3.weak (fun x hx => by simp [blk] at hx)
  have HR := Lib.hid hR3
  clear hR3 hF3
  go_wp2_with fail
  refine (H1.out _ hF).mono ?_
  rintro e1 w4 ⟨rfl, hF4⟩
  obtain ⟨b4, hL4⟩ := (HR.out.frm0 hF4).li
  have HL4 := Lib.hid hL4
  clear hL4
  have hG := hF.trans hF4
  go_wp2_with fail
  refine (H2.out _ _ _ _ _ HL4.out).mono ?_
  rintro e1 w5 ⟨rfl, hF5⟩
  have hs := same_yes (HL4.out.frm0 hF5) (HL.out.frm0 (hG.trans hF5)) (by omega)
  have HS := Lib.hid hs
  clear hs
  go_wp2_with fail
  refine HS.out.mono ?_
  rintro e1 w6 ⟨rfl, hF6⟩
  go_wp2_with fail
  refine (known_true _).mono ?_
  rintro e1 w7 ⟨rfl, hF7⟩
  go_wp2
  go_ret
  exact ⟨rfl, ((hG.trans hF5).trans hF6).trans hF7⟩
theorem wf_row {l : List Int} (h : ∀ x ∈ l, (Lit.int .u64 x).wf = true) : Wf l := fun x hx => by
  have := h x hx
  simp [Lit.wf, IntKind.min, IntKind.max, IntKind.signed, IntKind.bits] at this
  omega
theorem walk_KeysUnpacks (a : Option Addr) (m c : Nat) (zs : List Int) (n : Int) (_wn : (Lit.int .i64 n).wf = true) (w : World) (h : IsRow .u64 w a m c zs) :
    Calls Try.prog 5 #[.slice a m c, .int .i64 n] w (Ret (.bool true) (fun w' => Below w.heap.size w w')) := by
  obtain ⟨b, o, hL, hw, _⟩ := li_of_row h
  by_cases hm : m ≤ 20
  · exact (unpacks_walk hL (wf_row hw) n hm).mono fun _ _ hh => ⟨hh.1, bel hh.2⟩
  · have d1 : decide ((20 : Int) < (m : Int)) = true := by simp; omega
    clear hL hw h _wn
    go_enter Try.func5, Try.ntmps5
    go_wp2_with fail
    refine (known_true _).mono ?_
    rintro e w6 ⟨rfl, hF6⟩
    go_wp2
    go_ret
    exact ⟨rfl, bel hF6⟩
end Go.Proofs.Ytembnakhcggbpaa
