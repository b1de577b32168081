/- Package clock: what a clock is in memory, and its plain functions. -/
import Derived.Test.YtamnhpcbflpabaaClkL
import Derived.Deep.RegionHeld3
import Derived.WalkLawsBesides
namespace Go.Proofs.Ytamnhpcbflpabaa
open Go.ChangeShapes Go.WideShapes Go.ChangeAt Go.RowKit

/-- The block of a slice. -/
def blk : Value → List Nat
  | .slice (some a) _ _ => [a.block]
  | _ => []

/-- A slice of alarms with its spare cells, in a block of its own. -/
def Own (w : World) (v : Value) (l : List Al) : Prop :=
  (v = .slice none 0 0 ∧ l = []) ∨
  ∃ d o c, v = .slice (some ⟨d, o, none⟩) l.length c ∧ l.length ≤ c ∧ c ≤ 9223372036854775807 ∧
    ∃ cs : Array Value, w.heap[d]? = some (.cells cs 62 (0, 0)) ∧ o + c * 2 ≤ cs.size ∧ ∀ (j : Nat) (u : Value), (flat l)[j]? = some u → cs[o + j]? = some u

/-- A slice of alarms that is read alone. -/
def Als (w : World) (v : Value) (l : List Al) : Prop :=
  (v = .slice none 0 0 ∧ l = []) ∨
  ∃ d o c, v = .slice (some ⟨d, o, none⟩) l.length c ∧ l.length ≤ c ∧ c ≤ 9223372036854775807 ∧ d < w.heap.size ∧ ∀ (j : Nat) (u : Value), (flat l)[j]? = some u → w.cell? ⟨d, o + j, none⟩ = some u

theorem Own.lt {w : World} {v : Value} {l : List Al} (h : Own w v l) : ∀ x ∈ blk v, x < w.heap.size := by
  intro x hx
  rcases h with ⟨rfl, _⟩ | ⟨d, o, c, rfl, _, _, cs, hd, _⟩
  · cases hx
  · simp [blk] at hx; subst hx; exact lt_of_heap hd
theorem Own.frm {D : List Nat} {w w' : World} {v : Value} {l : List Al} (h : Own w v l) (hf : Frm D w w') (hd : ∀ x ∈ blk v, x ∉ D) : Own w' v l := by
  rcases h with h | ⟨d, o, c, rfl, h1, h2, cs, h3, h4⟩
  · exact .inl h
  · exact .inr ⟨d, o, c, rfl, h1, h2, cs, hf.heap h3 (hd d (by simp [blk])), h4⟩
theorem Own.als {w : World} {v : Value} {l : List Al} (h : Own w v l) : Als w v l := by
  rcases h with h | ⟨d, o, c, rfl, h1, h2, cs, h3, h4, h5⟩
  · exact .inl h
  · exact .inr ⟨d, o, c, rfl, h1, h2, lt_of_heap h3, fun j u hu => by rw [cell_of_heap h3]; exact h5 j u hu⟩
theorem Als.frm {D : List Nat} {w w' : World} {v : Value} {l : List Al} (h : Als w v l) (hf : Frm D w w') (hd : ∀ x ∈ blk v, x ∉ D) : Als w' v l := by
  rcases h with h | ⟨d, o, c, rfl, h1, h2, h3, h4⟩
  · exact .inl h
  · exact .inr ⟨d, o, c, rfl, h1, h2, Nat.lt_of_lt_of_le h3 hf.size, fun j u hu => by rw [hf.cell h3 (hd d (by simp [blk]))]; exact h4 j u hu⟩
theorem Als.lt {w : World} {v : Value} {l : List Al} (h : Als w v l) : ∀ x ∈ blk v, x < w.heap.size := by
  intro x hx
  rcases h with ⟨rfl, _⟩ | ⟨d, o, c, rfl, _, _, hd, _⟩
  · cases hx
  · simp [blk] at hx; subst hx; exact hd
theorem Als.alloc {w : World} {v : Value} {l : List Al} (h : Als w v l) (o : Obj) : Als (w.alloc o) v l := h.frm ((Frm.refl [] w).alloc o) (by simp)
theorem Als.drewN {w : World} {v : Value} {l : List Al} (h : Als w v l) (n : Nat) : Als (w.drewN n) v l := h.frm ((Frm.refl [] w).drewN n) (by simp)
theorem Own.alloc {w : World} {v : Value} {l : List Al} (h : Own w v l) (o : Obj) : Own (w.alloc o) v l := h.frm ((Frm.refl [] w).alloc o) (by simp)
theorem Own.drewN {w : World} {v : Value} {l : List Al} (h : Own w v l) (n : Nat) : Own (w.drewN n) v l := h.frm ((Frm.refl [] w).drewN n) (by simp)
theorem Als.cell0 {w : World} {d o : Nat} {l : List Al} (hr : ∀ (j : Nat) (u : Value), (flat l)[j]? = some u → w.cell? ⟨d, o + j, none⟩ = some u) {i : Nat} {a : Al} (hi : l[i]? = some a) :
    w.cell? ⟨d, o + i * 2, none⟩ = some (.int .i64 a.1) ∧ w.cell? ⟨d, o + i * 2 + 1, none⟩ = some (.int .i64 a.2) :=
  ⟨hr _ _ (flat_get0 hi), by rw [Nat.add_assoc]; exact hr _ _ (flat_get1 hi)⟩

/-- A clock at block p. -/
structure ClockAt (w : World) (p : Nat) (now : Int) (v : Value) (l : List Al) : Prop where
  obj : w.heap[p]? = some (.cells #[.bool true, .int .i64 now, v] 53 (0, 0))
  own : Own w v l
  ne : p ∉ blk v

namespace ClockAt
variable {w w' : World} {p : Nat} {now : Int} {v : Value} {l : List Al}
theorem plt (h : ClockAt w p now v l) : p < w.heap.size := lt_of_heap h.obj
theorem c0 (h : ClockAt w p now v l) : w.cell? ⟨p, 0, none⟩ = some (.bool true) := by rw [cell_of_heap h.obj]; rfl
theorem c1 (h : ClockAt w p now v l) : w.cell? ⟨p, 1, none⟩ = some (.int .i64 now) := by rw [cell_of_heap h.obj]; rfl
theorem c2 (h : ClockAt w p now v l) : w.cell? ⟨p, 2, none⟩ = some v := by rw [cell_of_heap h.obj]; rfl
theorem fz (h : ClockAt w p now v l) (i : Nat) : w.frozen? ⟨p, i, none⟩ = false := frozen_of_heap h.obj
theorem frm {D : List Nat} (h : ClockAt w p now v l) (hf : Frm D w w') (hp : p ∉ D) (hd : ∀ x ∈ blk v, x ∉ D) : ClockAt w' p now v l :=
  ⟨hf.heap h.obj hp, h.own.frm hf hd, h.ne⟩
theorem frm0 (h : ClockAt w p now v l) (hf : Frm [] w w') : ClockAt w' p now v l := h.frm hf (by simp) (by simp)
theorem alloc (h : ClockAt w p now v l) (o : Obj) : ClockAt (w.alloc o) p now v l := h.frm0 ((Frm.refl [] w).alloc o)
theorem drewN (h : ClockAt w p now v l) (n : Nat) : ClockAt (w.drewN n) p now v l := h.frm0 ((Frm.refl [] w).drewN n)
theorem drew (h : ClockAt w p now v l) : ClockAt w.drew p now v l := h.drewN 1
theorem blt (h : ClockAt w p now v l) : ∀ x ∈ p :: blk v, x < w.heap.size := by
  intro x hx
  rcases List.mem_cons.1 hx with rfl | hx
  · exact h.plt
  · exact h.own.lt x hx
end ClockAt

/-- Whether a number is a tick. -/
def tk (n : Int) : Bool := decide (0 ≤ n ∧ n ≤ 4611686018427387904)
theorem tk_iff {n : Int} : tk n = true ↔ 0 ≤ n ∧ n ≤ 4611686018427387904 := by unfold tk; simp
theorem tk_not {n : Int} : tk n = false ↔ n < 0 ∨ 4611686018427387904 < n := by unfold tk; simp; omega

theorem istick_any (w : World) (n : Int) : Calls Try.prog 26 #[.int .i64 n] w (Ret (.bool (tk n)) (fun w' => w = w')) := by
  by_cases h0 : 0 ≤ n
  · have hb : decide (0 ≤ n) = true := by simpa using h0
    by_cases h1 : n ≤ 4611686018427387904
    · have ht : tk n = true := tk_iff.2 ⟨h0, h1⟩
      rw [ht]
      clear ht
      go_enter Try.func26, Try.ntmps26
      go_wp2
      go_ret
      exact ⟨rfl, rfl⟩
    · have ht : tk n = false := tk_not.2 (by omega)
      have hc : decide (n ≤ 4611686018427387904) = false := by simpa using h1
      rw [ht]
      clear ht
      go_enter Try.func26, Try.ntmps26
      go_wp2
      go_ret
      exact ⟨rfl, rfl⟩
  · have ht : tk n = false := tk_not.2 (by omega)
    have hc : decide (0 ≤ n) = false := by simpa using h0
    rw [ht]
    clear ht
    go_enter Try.func26, Try.ntmps26
    go_wp2
    go_ret
    exact ⟨rfl, rfl⟩

theorem ret_ti {a b c : Int} (h : a = b) : Ending.returned (.tuple #[.int .i64 a, .int .i64 c]) = Ending.returned (.tuple #[.int .i64 b, .int .i64 c]) := by rw [h]
/-- The deadline. -/
def dl (now n : Int) : Int := if 4611686018427387904 - now < n then 4611686018427387904 else now + n
/-- The error of Due. -/
def dErr (now n : Int) : Int := if tk now = true ∧ 0 ≤ n then 0 else 2
def dRes (now n : Int) : Int := if tk now = true ∧ 0 ≤ n then dl now n else 0

set_option maxHeartbeats 1000000 in
theorem due_any (w : World) (now n : Int) : Calls Try.prog 24 #[.int .i64 now, .int .i64 n] w (Ret (.tuple #[.int .i64 (dRes now n), .int .i64 (dErr now n)]) (fun w' => w = w')) := by
  by_cases ht : tk now = true
  · by_cases hn : 0 ≤ n
    · have h0 := (tk_iff.1 ht).1
      have h1 := (tk_iff.1 ht).2
      have hnb : decide (n < 0) = false := by simpa using hn
      have he : dErr now n = 0 := by unfold dErr; rw [if_pos ⟨ht, hn⟩]
      have hd : dRes now n = dl now n := by unfold dRes; rw [if_pos ⟨ht, hn⟩]
      rw [he, hd]
      have HT := Lib.hid ht
      clear he hd ht
      by_cases hc : 4611686018427387904 - now < n
      · have hd : dl now n = 4611686018427387904 := by unfold dl; rw [if_pos hc]
        rw [hd]
        clear hd
        go_enter Try.func24, Try.ntmps24
        go_wp2_with (go_at_call 26; refine (istick_any _ _).mono ?_; rintro e w' ⟨rfl, rfl⟩; rw [HT.out])
        go_ret2
        exact ⟨ret_ti (by omega), rfl⟩
      · have hd : dl now n = now + n := by unfold dl; rw [if_neg hc]
        rw [hd]
        clear hd
        have hc' : n ≤ 4611686018427387904 - now := by omega
        go_enter Try.func24, Try.ntmps24
        go_wp2_with (go_at_call 26; refine (istick_any _ _).mono ?_; rintro e w' ⟨rfl, rfl⟩; rw [HT.out])
        all_goals go_ret2
        all_goals first | exact ⟨rfl, rfl⟩ | exact ⟨ret_ti (by omega), rfl⟩
    · have hnb : decide (n < 0) = true := by simpa using hn
      have he : dErr now n = 2 := by unfold dErr; rw [if_neg (by omega)]
      have hd : dRes now n = 0 := by unfold dRes; rw [if_neg (by omega)]
      rw [he, hd]
      have HT := Lib.hid ht
      clear he hd ht
      go_enter Try.func24, Try.ntmps24
      go_wp2_with (go_at_call 26; refine (istick_any _ _).mono ?_; rintro e w' ⟨rfl, rfl⟩; rw [HT.out])
      go_ret2
      exact ⟨rfl, rfl⟩
  · have ht : tk now = false := by simpa using ht
    have he : dErr now n = 2 := by unfold dErr; rw [ht]; simp
    have hd : dRes now n = 0 := by unfold dRes; rw [ht]; simp
    rw [he, hd]
    have HT := Lib.hid ht
    clear he hd ht
    go_enter Try.func24, Try.ntmps24
    go_wp2_with (go_at_call 26; refine (istick_any _ _).mono ?_; rintro e w' ⟨rfl, rfl⟩; rw [HT.out])
    go_ret2
    exact ⟨rfl, rfl⟩

def psd (d n : Int) : Bool := decide (d < n ∧ d < 4611686018427387904)
theorem passed_any (w : World) (d n : Int) : Calls Try.prog 8 #[.int .i64 d, .int .i64 n] w (Ret (.bool (psd d n)) (fun w' => w = w')) := by
  by_cases h0 : d < n
  · have hb : decide (d < n) = true := by simpa using h0
    by_cases h1 : d < 4611686018427387904
    · have ht : psd d n = true := by unfold psd; simp; omega
      rw [ht]
      clear ht
      go_enter Try.func8, Try.ntmps8
      go_wp2
      go_ret
      exact ⟨rfl, rfl⟩
    · have ht : psd d n = false := by unfold psd; simp; omega
      have hc : decide (d < 4611686018427387904) = false := by simpa using h1
      rw [ht]
      clear ht
      go_enter Try.func8, Try.ntmps8
      go_wp2
      go_ret
      exact ⟨rfl, rfl⟩
  · have ht : psd d n = false := by unfold psd; simp; omega
    have hc : decide (d < n) = false := by simpa using h0
    rw [ht]
    clear ht
    go_enter Try.func8, Try.ntmps8
    go_wp2
    go_ret
    exact ⟨rfl, rfl⟩

theorem none_nil (w : World) : Calls Try.prog 27 #[.pointer none] w (Ret (.bool true) (fun w' => w = w')) := by
  go_enter Try.func27, Try.ntmps27
  go_wp2
  go_ret
  exact ⟨rfl, rfl⟩
theorem none_zero (w : World) (p : Nat) (h : w.cell? ⟨p, 0, none⟩ = some (.bool false)) : Calls Try.prog 27 #[.pointer (some ⟨p, 0, none⟩)] w (Ret (.bool true) (fun w' => w = w')) := by
  go_enter Try.func27, Try.ntmps27
  go_wp2
  go_ret
  exact ⟨rfl, rfl⟩
theorem none_clk {w : World} {p : Nat} {now : Int} {v : Value} {l : List Al} (h : ClockAt w p now v l) : Calls Try.prog 27 #[.pointer (some ⟨p, 0, none⟩)] w (Ret (.bool false) (fun w' => w = w')) := by
  have h1 := h.c0
  go_enter Try.func27, Try.ntmps27
  go_wp2
  go_ret
  exact ⟨rfl, rfl⟩
theorem now_clk {w : World} {p : Nat} {now : Int} {v : Value} {l : List Al} (h : ClockAt w p now v l) : Calls Try.prog 22 #[.pointer (some ⟨p, 0, none⟩)] w (Ret (.int .i64 now) (fun w' => w = w')) := by
  have h1 := h.c1
  go_enter Try.func22, Try.ntmps22
  go_wp2_with (go_at_call 27; refine (none_clk h).mono ?_; rintro e w' ⟨rfl, rfl⟩)
  go_ret
  exact ⟨rfl, rfl⟩
/-- The tick of the first alarm. -/
def nxt : List Al → Int
  | [] => 4611686018427387904
  | a :: _ => a.2
theorem next_clk {w : World} {p : Nat} {now : Int} {v : Value} {l : List Al} (h : ClockAt w p now v l) : Calls Try.prog 21 #[.pointer (some ⟨p, 0, none⟩)] w (Ret (.int .i64 (nxt l)) (fun w' => w = w')) := by
  have h1 := h.c2
  have H := h
  obtain ⟨_, hO, _⟩ := h
  rcases hO with ⟨rfl, rfl⟩ | ⟨d, o, c, rfl, hl, hc, cs, hd, hs, hr⟩
  · show Calls _ _ _ _ (Ret (.int .i64 4611686018427387904) _)
    go_enter Try.func21, Try.ntmps21
    go_wp2_with (go_at_call 27; refine (none_clk H).mono ?_; rintro e w' ⟨rfl, rfl⟩)
    go_ret
    exact ⟨rfl, rfl⟩
  · cases l with
    | nil =>
      show Calls _ _ _ _ (Ret (.int .i64 4611686018427387904) _)
      go_enter Try.func21, Try.ntmps21
      go_wp2_with (go_at_call 27; refine (none_clk H).mono ?_; rintro e w' ⟨rfl, rfl⟩)
      go_ret
      exact ⟨rfl, rfl⟩
    | cons a l =>
      show Calls _ _ _ _ (Ret (.int .i64 a.2) _)
      have hx : w.cell? ⟨d, o + 1, none⟩ = some (.int .i64 a.2) := by rw [cell_of_heap hd]; exact hr 1 _ rfl
      have hlen : (((a :: l).length : Int) == 0) = false := by simp; omega
      have hlen2 : 0 < (a :: l).length := by simp
      generalize (a :: l).length = n at *
      clear hr hd
      go_enter Try.func21, Try.ntmps21
      go_wp2_with (go_at_call 27; refine (none_clk H).mono ?_; rintro e w' ⟨rfl, rfl⟩)
      go_ret
      exact ⟨rfl, rfl⟩
theorem new_ok (w : World) (now : Int) (h : tk now = true) : Calls Try.prog 13 #[.int .i64 now] w
    (fun e w' => ∃ p, Ret (.tuple #[.pointer (some ⟨p, 0, none⟩), .int .i64 0]) (fun w' => Frm [] w w' ∧ ClockAt w' p now (.slice none 0 0) [] ∧ w.heap.size ≤ p) e w') := by
  have HT := Lib.hid h
  clear h
  go_enter Try.func13, Try.ntmps13
  go_wp2_with (go_at_call 26; refine (istick_any _ _).mono ?_; rintro e w' ⟨rfl, rfl⟩; rw [HT.out])
  go_ret2
  exact ⟨w.heap.size, rfl, (Frm.refl _ _).alloc _, ⟨heap_alloc_new _ _, .inl ⟨rfl, rfl⟩, by simp [blk]⟩, Nat.le_refl _⟩
theorem new_bad (w : World) (now : Int) (h : tk now = false) : Calls Try.prog 13 #[.int .i64 now] w
    (Ret (.tuple #[.pointer none, .int .i64 2]) (fun w' => w = w')) := by
  have HT := Lib.hid h
  clear h
  go_enter Try.func13, Try.ntmps13
  go_wp2_with (go_at_call 26; refine (istick_any _ _).mono ?_; rintro e w' ⟨rfl, rfl⟩; rw [HT.out])
  go_ret2
  exact ⟨rfl, rfl⟩
end Go.Proofs.Ytamnhpcbflpabaa
