/- Layer 5: the walk of KeysPacks. -/
import Derived.Test.YtembnakhcggbpaaKeyK
namespace Go.Proofs.Ytembnakhcggbpaa
open Go.ChangeShapes Go.WideShapes Go.ChangeAt Go.RowKit

theorem bel {w w' : World} (h : Frm [] w w') : Below w.heap.size w w' := h.below (Nat.le_refl _) (fun x hx => by cases hx)

set_option maxRecDepth 100000 in
set_option maxHeartbeats 2000000 in
theorem walk_KeysPacks (s : ByteArray) (_hs : s.size ≤ maxLen) (n : Int) (wn : (Lit.int .i64 n).wf = true) (w : World) :
    Calls Try.prog 4 #[.string s, .int .i64 n] w (Ret (.bool true) (fun w' => Below w.heap.size w w')) := by
  have h1 := fun W => words_walk n wn W
  have h2 := fun W => rwords_walk n wn W
  generalize wds n = x at *
  have hxx : (x != x) = false := by simp
  have h3 := fun W => rval_walk s W
  have H1 := Lib.hid h1
  have H2 := Lib.hid h2
  clear h1 h2 wn _hs
  by_cases h100 : 100 < s.size
  · have d1 : decide ((100 : Int) < (s.size : Int)) = true := by simp; omega
    clear h3
    go_enter Try.func4, Try.ntmps4
    go_wp2_with fail
    refine (known_true _).mono ?_
    rintro e w6 ⟨rfl, hF6⟩
    go_wp2
    go_ret
    exact ⟨rfl, bel hF6⟩
  · have d1 : decide ((100 : Int) < (s.size : Int)) = false := by simp; omega
    by_cases h40 : s.size ≤ 40
    · rw [vv_iff.2 h40] at h3
      have H3 := Lib.hid h3
      have h4 := fun W => rpack_any s W (by omega)
      have h5 : ∀ (W : World) (a : Option Addr) (c b o : Nat), Li .u64 W a (wdsN s.size) c b o (pk s) → Calls Try.prog 19 #[.string s, .slice a (wdsN s.size) c, .int .i64 0] W (Ret (.bool true) (fun w' => Frm [] W w')) := fun W a c b o hL => packs_ok h40 hL
      have h6 : ∀ (W : World) (a : Option Addr) (c b o : Nat), Li .u64 W a (wdsN s.size) c b o (pk s) → Calls Try.prog 21 #[.slice a (wdsN s.size) c, .int .i64 (s.size : Int), .string s, .int .i64 0] W (Ret (.bool true) (fun w' => Frm [] W w')) := fun W a c b o hL => by
        have := unpacks_tz hL s.size h40 rfl (tz_pk s)
        rw [str_ubs] at this
        exact this
      generalize wdsN s.size = m at *
      have H4 := Lib.hid h4
      have H5 := Lib.hid h5
      have H6 := Lib.hid h6
      clear h3 h4 h5 h6
      go_enter Try.func4, Try.ntmps4
      go_wp2_with fail
      refine (H1.out _).mono ?_
      rintro e w' ⟨rfl, rfl⟩
      go_wp2_with fail
      refine (H2.out _).mono ?_
      rintro e w' ⟨rfl, rfl⟩
      go_wp2_with fail
      refine (H3.out _).mono ?_
      rintro e w' ⟨rfl, rfl⟩
      go_wp2_with fail
      refine (H4.out _).mono ?_
      rintro e w1 ⟨a1, c1, rfl, hF1, hR1⟩
      obtain ⟨b1, hL1⟩ := hR1.li
      have HL1 := Lib.hid hL1
      clear hR1 hL1
      go_wp2_with fail
      refine (H5.out _ _ _ _ _ HL1.out).mono ?_
      rintro e w2 ⟨rfl, hF2⟩
      go_wp2_with fail
      refine (H4.out _).mono ?_
      rintro e w3 ⟨a3, c3, rfl, hF3, hR3⟩
      obtain ⟨b3, hL3⟩ := hR3.li
      have HL3 := Lib.hid hL3
      clear hR3 hL3
      go_wp2_with fail
      refine (H6.out _ _ _ _ _ HL3.out).mono ?_
      rintro e w4 ⟨rfl, hF4⟩
      go_wp2_with fail
      refine (known_true _).mono ?_
      rintro e w6 ⟨rfl, hF6⟩
      go_wp2
      go_ret
      exact ⟨rfl, bel ((((hF1.trans hF2).trans hF3).trans hF4).trans hF6)⟩
    · have hv : vv s = false := by
        cases h : vv s with
        | false => rfl
        | true => exact absurd (vv_iff.1 h) h40
      rw [hv] at h3
      have H3 := Lib.hid h3
      have h4 := fun W => packs_long (w := W) (s := s) (by omega)
      have H4 := Lib.hid h4
      clear h3 h4 hv
      go_enter Try.func4, Try.ntmps4
      go_wp2_with fail
      refine (H1.out _).mono ?_
      rintro e w' ⟨rfl, rfl⟩
      go_wp2_with fail
      refine (H2.out _).mono ?_
      rintro e w' ⟨rfl, rfl⟩
      go_wp2_with fail
      refine (H3.out _).mono ?_
      rintro e w' ⟨rfl, rfl⟩
      go_wp2_with fail
      refine (H4.out _).mono ?_
      rintro e w2 ⟨rfl, hF2⟩
      go_wp2_with fail
      refine (known_true _).mono ?_
      rintro e w6 ⟨rfl, hF6⟩
      go_wp2
      go_ret
      exact ⟨rfl, bel (hF2.trans hF6)⟩
end Go.Proofs.Ytembnakhcggbpaa
