/- The law's read and write; two programs on one arena. -/
import Derived.Test.YtbhnijkphkkalaaVeK
namespace Go.Proofs.Ytbhnijkphkkalaa
open Go.ChangeShapes Go.WideShapes Go.ChangeAt Go.RowKit
set_option linter.unusedVariables false

theorem read_yes (L : Nat) (F : Int) (n : Nat) (tr : Int) (w : World) (h : rOk L F n) (ht : 1 ≤ tr) :
    Calls Try.prog 28 #[.int .i64 L, .int .i64 F, .int .i64 n, .int .i64 tr] w (fun e w' => ∃ q b, Ret (.pointer (some ⟨q, 0, none⟩))
      (fun w' => Frm [] w w' ∧ At w' q b n ⟨true, L, F, List.replicate n 0, 0, 1, 0, 0, tr⟩ ∧ w.heap.size ≤ q ∧ w.heap.size ≤ b) e w') := by
  have H := Lib.hid (newRead_yes L F n tr w h ht)
  clear h ht
  go_enter Try.func28, Try.ntmps28
  go_wp2_with fail
  refine H.out.mono ?_
  rintro e w1 ⟨q, b, rfl, hF, hP, hq, hb⟩
  have HF := Lib.hid hF
  have HP := Lib.hid hP
  clear hF hP
  go_wp2
  go_ret
  exact ⟨q, b, rfl, HF.out, HP.out, hq, hb⟩
theorem read_no (L F n tr : Int) (w : World) (h : ¬ (rOk L F n ∧ 1 ≤ tr)) :
    Calls Try.prog 28 #[.int .i64 L, .int .i64 F, .int .i64 n, .int .i64 tr] w (Ret (.pointer none) (fun w' => Frm [] w w')) := by
  have H := Lib.hid (newRead_bad L F n tr w h)
  clear h
  go_enter Try.func28, Try.ntmps28
  go_wp2_with fail
  refine H.out.mono ?_
  rintro e w1 ⟨rfl, hF⟩
  have HF := Lib.hid hF
  clear hF
  go_wp2
  go_ret
  exact ⟨rfl, HF.out⟩
theorem write_yes {w : World} {a : Option Addr} {n c b o : Nat} {l : List Int} (hL : Li .u64 w a n c b o l) (L : Nat) (F : Int) (h : rOk L F n) :
    Calls Try.prog 29 #[.int .i64 L, .int .i64 F, .slice a n c] w (fun e w' => ∃ q b, Ret (.pointer (some ⟨q, 0, none⟩))
      (fun w' => Frm [] w w' ∧ At w' q b n ⟨false, L, F, l, 0, 1, 0, 0, 0⟩ ∧ w.heap.size ≤ q ∧ w.heap.size ≤ b) e w') := by
  have H := Lib.hid (newWrite_yes hL L F h)
  clear h hL
  go_enter Try.func29, Try.ntmps29
  go_wp2_with fail
  refine H.out.mono ?_
  rintro e w1 ⟨q, b, rfl, hF, hP, hq, hb⟩
  have HF := Lib.hid hF
  have HP := Lib.hid hP
  clear hF hP
  go_wp2
  go_ret
  exact ⟨q, b, rfl, HF.out, HP.out, hq, hb⟩

theorem li_u64 {w : World} {g n : Nat} {l : List Int} (hl : l.length = n) (h : w.heap[g]? = some (.cells (u64s l).toArray 22 (0, 0))) : Li .u64 w (some ⟨g, 0, none⟩) n n g 0 l :=
  ⟨hl, fun _ => rfl, fun i x hx => by rw [Nat.zero_add, cell_of_heap h, List.getElem?_toArray, u64s, List.getElem?_map, hx]; rfl, Nat.le_refl _⟩
theorem rd_u64 {w : World} {g n : Nat} {l : List Int} (hl : l.length = n) (h : w.heap[g]? = some (.cells (u64s l).toArray 22 (0, 0))) : Rd w (.slice (some ⟨g, 0, none⟩) n n) (u64s l) := by
  have hll : (u64s l).length = n := by simp [u64s, hl]
  refine .inr ⟨g, 0, n, by rw [hll], by rw [hll]; exact Nat.le_refl _, lt_of_heap h, fun i u hu => ?_⟩
  rw [Nat.zero_add, cell_of_heap h, List.getElem?_toArray]; exact hu
theorem Ok.new (R : Bool) (L : Nat) (F : Int) (buf : List Int) (tr : Int) (ht : R = true → 1 ≤ tr ∧ tr ≤ 9223372036854775807) : Ok ⟨R, L, F, buf, 0, 1, 0, 0, tr⟩ :=
  ⟨by show (1 : Int) ≤ 1; omega, by show (1 : Int) ≤ 5; omega, fun h => absurd h (by show (1 : Int) ≠ 2; omega), fun h => absurd h (by show (1 : Int) ≠ 3; omega), fun h _ => ht h, fun _ => rfl, .inl rfl⟩
theorem At.lt {w : World} {q b c : Nat} {P : Pg} (h : At w q b c P) : q < w.heap.size ∧ b < w.heap.size := ⟨PgAt.qlt h, PgAt.blt h⟩
theorem rep0 (n : Nat) : ∀ x ∈ List.replicate n (0 : Int), 0 ≤ x := fun x hx => by rw [(List.mem_replicate.1 hx).2]; omega
/-- A new program on an arena that lay there before. -/
theorem Sit.new {w w' : World} {p d c q b cq : Nat} {P : Pg} {ws : List Int} (hM : MemAt w p d c ws) (hF : Frm [] w w') (hP : At w' q b cq P) (hq : w.heap.size ≤ q) (hb : w.heap.size ≤ b) (hok : Ok P) (hw : ∀ x ∈ ws, 0 ≤ x) (hbf : ∀ x ∈ P.buf, 0 ≤ x) : Sit w' p d c q b cq P ws := by
  have h1 := hM.plt
  have h2 := hM.dlt
  exact ⟨hM.frm hF (by simp) (by simp), hP, ⟨by omega, by omega, by omega, by omega⟩, hok, hw, hbf⟩
/-- Another program while one goes on. -/
theorem Sit.other {w w' : World} {p d c q b cq q2 b2 c2 : Nat} {P P2 : Pg} {ws' ws0 : List Int} (h2 : Sit w p d c q2 b2 c2 P2 ws0) (hF : Frm [d, q, b] w w') (h : Sit w' p d c q b cq P ws') (n1 : q2 ≠ q) (n2 : q2 ≠ b) (n3 : b2 ≠ q) (n4 : b2 ≠ b) : Sit w' p d c q2 b2 c2 P2 ws' :=
  ⟨h.mem, h2.pg.frm hF (by simp [h2.ap.qd, n1, n2]) (by simp [h2.ap.bd, n3, n4]), h2.ap, h2.ok, h.nn, h2.nb⟩
theorem ends_lit {w : World} {p d c q b cq n : Nat} {P P' : Pg} {ws ws' : List Int} (i : Int) (hi : (n : Int) = i) (h : Sit w p d c q b cq P ws) (hn : n ≤ 300) (hE : Ends n P ws P' ws') :
    Calls Try.prog 27 #[.iface (Ip P.R) (.pointer (some ⟨q, 0, none⟩)), .pointer (some ⟨p, 0, none⟩)] w
      (Ret (.int .i64 i) (fun w' => Frm [d, q, b] w w' ∧ Sit w' p d c q b cq P' ws')) := by
  subst hi; exact ends_any h hn hE
theorem steps_lit {w : World} {p d c q b cq n : Nat} {P P' : Pg} {ws ws' : List Int} (i : Int) (hi : (n : Int) = i) (h : Sit w p d c q b cq P ws) (hn : n ≤ 300) (hE : Stps n P ws P' ws') :
    Calls Try.prog 32 #[.iface (Ip P.R) (.pointer (some ⟨q, 0, none⟩)), .pointer (some ⟨p, 0, none⟩), .int .i64 i] w
      (Ret (.bool true) (fun w' => Frm [d, q, b] w w' ∧ Sit w' p d c q b cq P' ws')) := by
  subst hi; exact steps_any h hn hE
#print axioms Sit.other
end Go.Proofs.Ytbhnijkphkkalaa
