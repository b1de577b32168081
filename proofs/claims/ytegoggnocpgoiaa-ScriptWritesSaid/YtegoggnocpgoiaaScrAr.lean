/- Arguments that came in: slices of operations. -/
import Derived.Test.YtegoggnocpgoiaaScrY
import Derived.Deep.Slices
import Derived.Deep.Fields
import Derived.Lib.SmallJoins
import Derived.ChangeSame
namespace Go.Proofs.Ytegoggnocpgoiaa
open Go.ChangeShapes Go.WideShapes Go.ChangeAt Go.RowKit Go.Joins Go.Deep

/-- What is known of a slice of operations that came in. -/
def IsOps (w : World) (a : Option Addr) (len : Nat) (xs : List Opr) : Prop :=
  xs.length = len ∧ (∀ x ∈ xs, OpOk x) ∧ (0 < len → ∃ b o, a = some ⟨b, o, none⟩ ∧ b < w.heap.size ∧ ∀ i x, xs[i]? = some x → OpAt w b (o + i * 8) x)
/-- .. and that it is no longer than its room. -/
def IsOpsC (cap : Nat) (w : World) (a : Option Addr) (len : Nat) (xs : List Opr) : Prop := IsOps w a len xs ∧ len ≤ cap
theorem list_of {α : Type} {P : Nat → α → Prop} : ∀ {n : Nat}, (∀ i, i < n → ∃ y, P i y) → ∃ xs : List α, xs.length = n ∧ ∀ i y, xs[i]? = some y → P i y
  | 0, _ => ⟨[], rfl, fun i y hy => by simp at hy⟩
  | n + 1, h => by
    obtain ⟨xs, hxl, hx⟩ := list_of (n := n) (fun i hi => h i (by omega))
    obtain ⟨y, hy⟩ := h n (by omega)
    refine ⟨xs ++ [y], by simp [hxl], fun i z hz => ?_⟩
    rw [List.getElem?_append] at hz
    split at hz
    · exact hx i z hz
    · rename_i hge
      have : i = n := by
        have := (List.getElem?_eq_some_iff.1 hz).1
        simp at this; omega
      subst this
      rw [hxl, Nat.sub_self] at hz
      cases hz
      exact hy
theorem op_trod {H : Type} {enc : TypeId × Value → H} {W : World} {base n : Nat} {spare : Nat → Bool} {held : Bool} {cs : List Value} {x : DataW H × List MemPlace}
    (h : DataW.trod enc Try.prog W base spare held n 30 cs = some x) : ∃ y : Opr, cs = opC y ∧ OpOk y := by
  obtain ⟨xs, m, _, _, hl, hxl, hg⟩ := DataW.trod_struct Try.underlying30 h
  have hC : Try.prog.cellsOf 30 = 8 := by kernel_rfl
  have ck : Try.prog.cellsOf 27 = 1 := by kernel_rfl
  have ci : Try.prog.cellsOf 3 = 1 := by kernel_rfl
  have cv : Try.prog.cellsOf 28 = 1 := by kernel_rfl
  have cs' : Try.prog.cellsOf 9 = 1 := by kernel_rfl
  rw [hC] at hl
  match cs, hl with
  | [v0, v1, v2, v3, v4, v5, v6, v7], _ =>
    match xs, hxl with
    | [y0, y1, y2, y3, y4, y5, y6, y7], _ =>
      have t0 : DataW.trod enc Try.prog W base spare held m 27 (([v0, v1, v2, v3, v4, v5, v6, v7].drop 0).take (Try.prog.cellsOf 27)) = some y0 := hg 0 _ rfl
      have t1 : DataW.trod enc Try.prog W base spare held m 3 (([v0, v1, v2, v3, v4, v5, v6, v7].drop 1).take (Try.prog.cellsOf 3)) = some y1 := hg 1 _ rfl
      have t2 : DataW.trod enc Try.prog W base spare held m 3 (([v0, v1, v2, v3, v4, v5, v6, v7].drop 2).take (Try.prog.cellsOf 3)) = some y2 := hg 2 _ rfl
      have t3 : DataW.trod enc Try.prog W base spare held m 28 (([v0, v1, v2, v3, v4, v5, v6, v7].drop 3).take (Try.prog.cellsOf 28)) = some y3 := hg 3 _ rfl
      have t4 : DataW.trod enc Try.prog W base spare held m 9 (([v0, v1, v2, v3, v4, v5, v6, v7].drop 4).take (Try.prog.cellsOf 9)) = some y4 := hg 4 _ rfl
      have t5 : DataW.trod enc Try.prog W base spare held m 9 (([v0, v1, v2, v3, v4, v5, v6, v7].drop 5).take (Try.prog.cellsOf 9)) = some y5 := hg 5 _ rfl
      have t6 : DataW.trod enc Try.prog W base spare held m 9 (([v0, v1, v2, v3, v4, v5, v6, v7].drop 6).take (Try.prog.cellsOf 9)) = some y6 := hg 6 _ rfl
      have t7 : DataW.trod enc Try.prog W base spare held m 3 (([v0, v1, v2, v3, v4, v5, v6, v7].drop 7).take (Try.prog.cellsOf 3)) = some y7 := hg 7 _ rfl
      simp only [ck, ci, cv, cs'] at t0 t1 t2 t3 t4 t5 t6 t7
      obtain ⟨a0, e0, _, _⟩ := DataW.trod_int Try.underlying27 t0
      obtain ⟨a1, e1, _, _⟩ := DataW.trod_int Try.underlying3 t1
      obtain ⟨a2, e2, _, _⟩ := DataW.trod_int Try.underlying3 t2
      obtain ⟨a3, e3, _, _⟩ := DataW.trod_int Try.underlying28 t3
      obtain ⟨a4, e4, _, k4⟩ := DataW.trod_string Try.underlying9 t4
      obtain ⟨a5, e5, _, k5⟩ := DataW.trod_string Try.underlying9 t5
      obtain ⟨a6, e6, _, k6⟩ := DataW.trod_string Try.underlying9 t6
      obtain ⟨a7, e7, _, _⟩ := DataW.trod_int Try.underlying3 t7
      simp at e0 e1 e2 e3 e4 e5 e6 e7
      exact ⟨⟨a0, a1, a2, a3, a4, a5, a6, a7⟩, by simp [opC, e0, e1, e2, e3, e4, e5, e6, e7], k4, k5, k6⟩
theorem isOps_of {H : Type} {enc : TypeId × Value → H} {W : World} {a : Option Addr} {len cap : Nat} {d : DataW H} {p : List MemPlace}
    (h0 : DataW.Trod enc Try.prog W 0 (fun _ => true) true 31 (.slice a len cap) d p) : ∃ xs, IsOpsC cap W a len xs := by
  obtain ⟨fuel, hf⟩ := h0
  have hC : Try.prog.cellsOf 30 = 8 := by kernel_rfl
  rcases open_slice Try.underlying31 hf with ⟨hcs, _⟩ | ⟨x, l, c, m, n, D, Pl, hcs, _, hl, hm, hmm, _, hi⟩
  · simp [Value.cells] at hcs
    obtain ⟨rfl, rfl, rfl⟩ := hcs
    exact ⟨[], ⟨rfl, fun x hx => by simp at hx, fun h => absurd h (by omega)⟩, Nat.le_refl _⟩
  · simp [Value.cells] at hcs
    obtain ⟨rfl, rfl, rfl⟩ := hcs
    have hm' : m = cap := by simpa using hmm
    rw [hC] at hi
    have hat : ∀ i, i < len → ∃ y : Opr, OpOk y ∧ ∀ j u, (opC y)[j]? = some u → W.cell? (x.add (i * 8 + j)) = some u := by
      intro i hil
      obtain ⟨cs, hc, ht⟩ := hi i (by omega)
      obtain ⟨_, hcl, hat⟩ := World.cells?_some hc
      obtain ⟨y, rfl, hok⟩ := op_trod ht
      refine ⟨y, hok, fun j u hu => ?_⟩
      have hj : j < 8 := (List.getElem?_eq_some_iff.1 hu).1
      rw [← add_add, hat j hj]; exact hu
    obtain ⟨xs, hxl, hx⟩ := list_of hat
    refine ⟨xs, ⟨hxl, fun y hy => ?_, fun hpos => ?_⟩, hl⟩
    · obtain ⟨i, hi', rfl⟩ := List.getElem_of_mem hy
      exact (hx i _ (List.getElem?_eq_getElem hi')).1
    · obtain ⟨y0, hy0⟩ : ∃ y, xs[0]? = some y := ⟨_, List.getElem?_eq_getElem (by omega)⟩
      have hc0 := (hx 0 y0 hy0).2 0 _ rfl
      have hx' : x.add (0 * 8 + 0) = x := by simp [Addr.add]
      rw [hx'] at hc0
      have hs := spot_of_cell hc0
      have hb := World.block_lt_of_cell? W _ hc0
      obtain ⟨b, o, sp⟩ := x
      simp only [Addr.mk.injEq, true_and] at hs
      subst hs
      have hadd : ∀ i, (⟨b, o, none⟩ : Addr).add i = ⟨b, o + i, none⟩ := by
        intro i
        by_cases h0 : i = 0
        · subst h0; simp [Addr.add]
        · simp [Addr.add, h0]
      refine ⟨b, o, rfl, hb, fun i y hy => OpAt.of (fun j hj => ?_)⟩
      have hj' : (opC y)[j]? = some ((opC y)[j]'(by rw [opC_length]; exact hj)) := List.getElem?_eq_getElem _
      have := (hx i y hy).2 j _ hj'
      rw [hadd] at this
      rw [hj', Nat.add_assoc]; exact this
theorem lo_of_ops {w : World} {a : Option Addr} {n c : Nat} {xs : List Opr} (h : IsOps w a n xs) (hc : n ≤ c) : ∃ b o, Lo w a n c b o xs := by
  obtain ⟨h1, _, h3⟩ := h
  by_cases hn : 0 < n
  · obtain ⟨b, o, ha, _, hat⟩ := h3 hn
    exact ⟨b, o, h1, fun _ => ha, hat, hc⟩
  · obtain rfl : n = 0 := by omega
    obtain rfl : xs = [] := List.eq_nil_of_length_eq_zero h1
    exact ⟨0, 0, rfl, fun h => by omega, fun i x hx => by simp at hx, hc⟩

def fewB (o : Opr) : Bool := decide (o.key.size ≤ 60 ∧ o.val.size ≤ 60 ∧ o.old.size ≤ 60)
/-- few: at most so many operations, with short strings. -/
def fewL (l : List Opr) (m : Nat) : Bool := (l.take (m + 1)).all fewB && decide (l.length ≤ m)
theorem fewL_bad {l : List Opr} {m k : Nat} {x : Opr} (hx : l[k]? = some x) (hk : k ≤ m) (h : fewB x = false) : fewL l m = false := by
  unfold fewL
  have : (l.take (m + 1)).all fewB = false := by
    rw [List.all_eq_false]
    refine ⟨x, ?_, by simp [h]⟩
    exact List.mem_of_getElem? (i := k) (by rw [List.getElem?_take, if_pos (by omega)]; exact hx)
  rw [this]; rfl
theorem fewL_end {l : List Opr} {m k : Nat} (h : ∀ j x, j < k → l[j]? = some x → fewB x = true) (hk : l.length ≤ k ∨ m < k) : fewL l m = decide (l.length ≤ m) := by
  unfold fewL
  have : (l.take (m + 1)).all fewB = true := by
    rw [List.all_eq_true]
    intro x hx
    obtain ⟨j, hj, rfl⟩ := List.getElem_of_mem hx
    have hj2 := hj
    rw [List.length_take] at hj2
    rw [List.getElem_take]
    exact h j _ (by omega) (List.getElem?_eq_getElem (by omega))
  rw [this]; simp

set_option maxRecDepth 100000 in
set_option maxHeartbeats 4000000 in
theorem few_any {w : World} {a : Option Addr} {n c b o : Nat} {l : List Opr} (hL : Lo w a n c b o l) (m : Nat) (hm : m ≤ 100) :
    Calls Try.prog 13 #[.slice a n c, .int .i64 (m : Int)] w (Ret (.bool (fewL l m)) (fun w' => w = w')) := by
  have hbad := fun (k : Nat) (x : Opr) => @fewL_bad l m k x
  have hend := fun (k : Nat) => @fewL_end l m k
  rw [hL.len] at hend
  generalize fewL l m = R at *
  have HBAD := Lib.hid hbad
  have HEND := Lib.hid hend
  have HL := Lib.hid hL
  clear hbad hend hL
  go_enter Try.func13, Try.ntmps13
  go_wp2_with fail
  go_loop [5] (fun i => ∃ k : Nat, k ≤ n ∧ k ≤ m + 1 ∧ i = .int .i64 k ∧ Hid (∀ (j : Nat) (x : Opr), j < k → l[j]? = some x → fewB x = true)) (fun i => n - (intOf i).toNat)
  case atStart => exact ⟨0, by omega, by omega, rfl, Lib.hid (fun j x hj => by omega)⟩
  case round =>
    obtain ⟨k, hk, hkm, rfl, HI⟩ := hrel
    by_cases hlt : k < n
    · have hb1 : (k : Int) < (n : Int) := by omega
      by_cases hle : k ≤ m
      · have hb2 : decide (k ≤ m) = true := by simpa using hle
        obtain ⟨x, hx, hat⟩ := HL.out.get hlt
        have hix := ix_op (c := c) HL.out.ad hlt
        obtain ⟨s0, s1, s2, s3, s4, s5, s6, s7⟩ := hat
        have HX := Lib.hid hx
        clear hx s0 s1 s2 s3 s7
        by_cases h4 : 60 < x.key.size
        · have d4 : decide ((60 : Int) < (x.key.size : Int)) = true := by simp; omega
          have hR := HBAD.out k x HX.out hle (by unfold fewB; simp; omega)
          have HR := Lib.hid hR
          clear hR
          go_wp2
          go_ret
          exact ⟨by rw [HR.out]; rfl, rfl⟩
        · have d4 : decide ((60 : Int) < (x.key.size : Int)) = false := by simp; omega
          by_cases h5 : 60 < x.val.size
          · have d5 : decide ((60 : Int) < (x.val.size : Int)) = true := by simp; omega
            have hR := HBAD.out k x HX.out hle (by unfold fewB; simp; omega)
            have HR := Lib.hid hR
            clear hR
            go_wp2
            go_ret
            exact ⟨by rw [HR.out]; rfl, rfl⟩
          · have d5 : decide ((60 : Int) < (x.val.size : Int)) = false := by simp; omega
            by_cases h6 : 60 < x.old.size
            · have d6 : decide ((60 : Int) < (x.old.size : Int)) = true := by simp; omega
              have hR := HBAD.out k x HX.out hle (by unfold fewB; simp; omega)
              have HR := Lib.hid hR
              clear hR
              go_wp2
              go_ret
              exact ⟨by rw [HR.out]; rfl, rfl⟩
            · have d6 : decide ((60 : Int) < (x.old.size : Int)) = false := by simp; omega
              have hfb : fewB x = true := by unfold fewB; simp; omega
              have HFB := Lib.hid hfb
              clear hfb
              go_wp2
              go_round
              case rel =>
                refine ⟨k + 1, by omega, by omega, by go_num, Lib.hid (fun j y hj hy => ?_)⟩
                by_cases e : j = k
                · subst e
                  rw [HX.out] at hy; cases hy; exact HFB.out
                · exact HI.out j y (by omega) hy
              case measure => simp [intOf]; omega
      · have hb2 : decide (k ≤ m) = false := by simpa using hle
        have hR := HEND.out k HI.out (.inr (by omega))
        have HR := Lib.hid hR
        have hnm : decide (n ≤ m) = false := by simp; omega
        clear hR
        go_wp2
        go_ret
        exact ⟨by rw [HR.out, hnm]; rfl, rfl⟩
    · obtain rfl : k = n := by omega
      have hR := HEND.out k HI.out (.inl (by omega))
      have HR := Lib.hid hR
      clear hR
      by_cases hle : k ≤ m
      · have hb2 : decide (k ≤ m) = true := by simpa using hle
        go_wp2
        go_ret
        exact ⟨by rw [HR.out, hb2]; rfl, rfl⟩
      · have hb2 : decide (k ≤ m) = false := by simpa using hle
        go_wp2
        go_ret
        exact ⟨by rw [HR.out, hb2]; rfl, rfl⟩
end Go.Proofs.Ytegoggnocpgoiaa
