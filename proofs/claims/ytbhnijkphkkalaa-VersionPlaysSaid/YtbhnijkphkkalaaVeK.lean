/- The law's helpers: made, read, write, ends, steps. -/
import Derived.Test.YtbhnijkphkkalaaVeJ
namespace Go.Proofs.Ytbhnijkphkkalaa
open Go.ChangeShapes Go.WideShapes Go.ChangeAt Go.RowKit
set_option linter.unusedVariables false

/-- What 'made' has after k words. -/
def part (xs : List Int) (k : Nat) : List Int := xs.take k ++ List.replicate (xs.length - k) 0
theorem part_zero (xs : List Int) : part xs 0 = List.replicate xs.length 0 := by simp [part]
theorem part_all (xs : List Int) : part xs xs.length = xs := by simp [part]
theorem part_len (xs : List Int) (k : Nat) (h : k ≤ xs.length) : (part xs k).length = xs.length := by simp [part]; omega
theorem part_succ (xs : List Int) (k : Nat) (x : Int) (h : xs[k]? = some x) : part xs (k + 1) = (part xs k).set k x := by
  have hk : k < xs.length := (List.getElem?_eq_some_iff.1 h).1
  apply List.ext_getElem?
  intro j
  rw [List.getElem?_set]
  unfold part
  by_cases hj : k = j
  · subst hj
    rw [if_pos rfl, if_pos (by simp; omega), List.getElem?_append_left (by simp; omega), List.getElem?_take, if_pos (by omega), h]
  · rw [if_neg hj]
    by_cases hlt : j < k
    · rw [List.getElem?_append_left (by simp; omega), List.getElem?_append_left (by simp; omega), List.getElem?_take, List.getElem?_take, if_pos (by omega), if_pos hlt]
    · rw [List.getElem?_append_right (by simp; omega), List.getElem?_append_right (by simp; omega), List.getElem?_replicate, List.getElem?_replicate]
      simp only [List.length_take]
      have e1 : min (k + 1) xs.length = k + 1 := by omega
      have e2 : min k xs.length = k := by omega
      rw [e1, e2]
      by_cases hl : j < xs.length
      · rw [if_pos (by omega), if_pos (by omega)]
      · rw [if_neg (by omega), if_neg (by omega)]
theorem part_succ_zero (xs : List Int) (k : Nat) (h : xs[k]? = some 0) : part xs (k + 1) = part xs k := by
  rw [part_succ xs k 0 h]
  have hk : k < xs.length := (List.getElem?_eq_some_iff.1 h).1
  apply List.ext_getElem?
  intro j
  rw [List.getElem?_set]
  split
  · rename_i e
    subst e
    rw [if_pos (by rw [part_len _ _ (by omega)]; exact hk)]
    unfold part
    rw [List.getElem?_append_right (by simp; omega), List.getElem?_replicate, if_pos (by simp; omega)]
  · rfl
theorem made_any {w : World} {xs : List Int} {v : Value} (hv : Rd w v (u64s xs)) (h1 : 1 ≤ xs.length) (h2 : xs.length ≤ 65536) :
    Calls Try.prog 20 #[v] w (fun e w' => ∃ p d c, Ret (.pointer (some ⟨p, 0, none⟩)) (fun w' => Frm [] w w' ∧ MemAt w' p d c xs ∧ w.heap.size ≤ p ∧ w.heap.size ≤ d) e w') := by
  rcases hv with ⟨_, hl⟩ | ⟨b, o, cc, rfl, hl, hb, hr⟩
  · have : xs = [] := by simpa [u64s] using hl
    subst this; simp at h1
  have hlen : (u64s xs).length = xs.length := by simp [u64s]
  rw [hlen]
  have R1 := Lib.hid hr
  clear hr hl hlen
  go_enter Try.func20, Try.ntmps20
  go_wp2_with fail
  refine (new_ok w xs.length h1 h2).mono ?_
  rintro e w1 ⟨p, d, rfl, hF1, hM1, hp, hd⟩
  rw [← part_zero] at hM1
  go_wp2_with fail
  go_loopw [2, 5, 6, 21, 22, 23, 24, 25, 26, 27, 28, 29, 30, 31, 32, 33, 34, 35] (fun r _ _ i _ _ _ _ _ _ _ _ _ _ _ _ _ _ wr => ∃ k : Nat, r = .pointer none ∧ k ≤ xs.length ∧ i = .int .i64 k ∧ Frm [] w wr ∧ MemAt wr p d xs.length (part xs k)) (fun _ _ _ i _ _ _ _ _ _ _ _ _ _ _ _ _ _ _ => xs.length - (intOf i).toNat)
  case atStart => exact ⟨0, rfl, Nat.zero_le _, rfl, hF1, hM1⟩
  case round =>
    obtain ⟨k, rfl, hk, rfl, hF, hM⟩ := hrel
    by_cases hlt : k < xs.length
    · obtain ⟨x, hx⟩ : ∃ x, xs[k]? = some x := ⟨_, List.getElem?_eq_getElem hlt⟩
      have hcx : _ = some (Value.int .u64 x) := (hF.cell (i := o + k) hb (by simp)).trans (R1.out k _ (by rw [u64s, List.getElem?_map, hx]; rfl))
      have HX := Lib.hid hx
      clear hx
      have hbw := Nat.lt_of_lt_of_le hb hF.size
      by_cases hz : x = 0
      · have hz1 : (x != 0) = false := by simp [hz]
        have HZ := Lib.hid hz
        clear hz
        go_wp2
        go_roundw
        case rel => exact ⟨k + 1, rfl, by omega, by go_num, hF, by rw [part_succ_zero xs k (by rw [HX.out, HZ.out])]; exact hM⟩
        case measure => simp [intOf]; omega
      · have hz1 : (x != 0) = true := by simp [hz]
        clear hz
        go_wp2_with fail
        refine (Store_ok hM k x (by rw [part_len _ _ hk]; exact hlt)).mono ?_
        rintro e w2 ⟨rfl, hF2, hM2⟩
        have hFF : Frm [] w w2 := hF.trans_new hF2 (by simp; omega)
        rw [← part_succ xs k x HX.out] at hM2
        clear hF2
        go_wp2
        go_roundw
        case rel => exact ⟨k + 1, rfl, by omega, by go_num, hFF, hM2⟩
        case measure => simp [intOf]; omega
    · obtain rfl : k = xs.length := by omega
      go_wp2
      go_ret
      rw [part_all] at hM
      exact ⟨p, d, _, rfl, hF, hM, hp, hd⟩


/-- An arena and a program. -/
structure Sit (w : World) (p d c q b cq : Nat) (P : Pg) (ws : List Int) : Prop where
  mem : MemAt w p d c ws
  pg : At w q b cq P
  ap : Ap p d q b
  ok : Ok P
  nn : ∀ x ∈ ws, 0 ≤ x
  nb : ∀ x ∈ P.buf, 0 ≤ x
theorem Sit.frm {D : List Nat} {w w' : World} {p d c q b cq : Nat} {P : Pg} {ws : List Int} (h : Sit w p d c q b cq P ws) (hf : Frm D w w') (hp : p ∉ D) (hd : d ∉ D) (hq : q ∉ D) (hb : b ∉ D) : Sit w' p d c q b cq P ws :=
  ⟨h.mem.frm hf hp hd, h.pg.frm hf hq hb, h.ap, h.ok, h.nn, h.nb⟩
theorem Sit.frm0 {w w' : World} {p d c q b cq : Nat} {P : Pg} {ws : List Int} (h : Sit w p d c q b cq P ws) (hf : Frm [] w w') : Sit w' p d c q b cq P ws := h.frm hf (by simp) (by simp) (by simp) (by simp)
theorem Sit.step {w : World} {p d c q b cq : Nat} {P : Pg} {ws : List Int} (h : Sit w p d c q b cq P ws) :
    Calls Try.prog (fStep P.R) #[.pointer (some ⟨q, 0, none⟩), .iface 39 (.pointer (some ⟨p, 0, none⟩))] w
      (Ret (.tuple #[.bool (stp P ws).1, .int .i64 (stp P ws).2.1]) (fun w' => Frm [d, q, b] w w' ∧ Sit w' p d c q b cq (stp P ws).2.2.1 (stp P ws).2.2.2)) := by
  refine (Step_any h.mem h.pg h.ap h.ok h.nn).mono fun e w' hh => ⟨hh.1, hh.2.1, hh.2.2.1, hh.2.2.2, h.ap, ?_, ?_, ?_⟩
  · exact (h.ok.stp h.nn h.nb).1
  · exact (h.ok.stp h.nn h.nb).2.1
  · exact (h.ok.stp h.nn h.nb).2.2.1
theorem Sit.stepR {w : World} {p d c q b cq : Nat} {P P' : Pg} {ws ws' : List Int} {x : Bool} {y : Int} (h : Sit w p d c q b cq P ws) (e : stp P ws = (x, y, P', ws')) :
    Calls Try.prog (fStep P.R) #[.pointer (some ⟨q, 0, none⟩), .iface 39 (.pointer (some ⟨p, 0, none⟩))] w
      (Ret (.tuple #[.bool x, .int .i64 y]) (fun w' => Frm [d, q, b] w w' ∧ Sit w' p d c q b cq P' ws')) := by
  have := h.step
  rw [e] at this
  exact this
theorem stp_R {P P' : Pg} {ws ws' : List Int} {x : Bool} {y : Int} (h : stp P ws = (x, y, P', ws')) (hok : Ok P) (hw : ∀ x ∈ ws, 0 ≤ x) (hb : ∀ x ∈ P.buf, 0 ≤ x) : P'.R = P.R := by
  have := (hok.stp hw hb).2.2.2.2.1
  rw [h] at this; exact this

/-- Steps to the end, none of which waits, or has an error. -/
inductive Ends : Nat → Pg → List Int → Pg → List Int → Prop
  | last {P P' : Pg} {ws ws' : List Int} (h : stp P ws = (false, 0, P', ws')) (h5 : P'.st = 5) : Ends 1 P ws P' ws'
  | more {n : Nat} {P P1 P' : Pg} {ws ws1 ws' : List Int} (h : stp P ws = (false, 0, P1, ws1)) (h5 : P1.st ≠ 5) (r : Ends n P1 ws1 P' ws') : Ends (n + 1) P ws P' ws'
/-- Some steps, none of which waits, or has an error. -/
inductive Stps : Nat → Pg → List Int → Pg → List Int → Prop
  | nil (P : Pg) (ws : List Int) : Stps 0 P ws P ws
  | cons {n : Nat} {P P1 P' : Pg} {ws ws1 ws' : List Int} (h : stp P ws = (false, 0, P1, ws1)) (r : Stps n P1 ws1 P' ws') : Stps (n + 1) P ws P' ws'
theorem Ends.pos {n : Nat} {P P' : Pg} {ws ws' : List Int} (h : Ends n P ws P' ws') : 1 ≤ n := by cases h <;> omega
theorem Ends.R {n : Nat} {P P' : Pg} {ws ws' : List Int} (h : Ends n P ws P' ws') (hok : Ok P) (hw : ∀ x ∈ ws, 0 ≤ x) (hb : ∀ x ∈ P.buf, 0 ≤ x) : P'.R = P.R := by
  induction h with
  | last h h5 => exact stp_R h hok hw hb
  | more h h5 r ih =>
    have := hok.stp hw hb
    rw [h] at this
    rw [ih this.1 this.2.1 this.2.2.1, stp_R h hok hw hb]
def endsO : Nat → Pg → List Int → Option (Nat × Pg × List Int)
  | 0, _, _ => none
  | n + 1, P, ws => match stp P ws with
    | (false, 0, P', ws') => if P'.st = 5 then some (1, P', ws') else match endsO n P' ws' with
      | some (m, P2, ws2) => some (m + 1, P2, ws2)
      | none => none
    | _ => none
theorem ends_of {f n : Nat} {P P' : Pg} {ws ws' : List Int} (h : endsO f P ws = some (n, P', ws')) : Ends n P ws P' ws' := by
  induction f generalizing n P ws with
  | zero => simp [endsO] at h
  | succ f ih =>
    unfold endsO at h
    split at h
    · rename_i P1 ws1 e
      split at h
      · rename_i h5
        simp only [Option.some.injEq, Prod.mk.injEq] at h
        obtain ⟨rfl, rfl, rfl⟩ := h
        exact .last e h5
      · rename_i h5
        split at h
        · rename_i m P2 ws2 e2
          simp only [Option.some.injEq, Prod.mk.injEq] at h
          obtain ⟨rfl, rfl, rfl⟩ := h
          exact .more e h5 (ih e2)
        · cases h
    · cases h
def stpsO : Nat → Pg → List Int → Option (Pg × List Int)
  | 0, P, ws => some (P, ws)
  | n + 1, P, ws => match stp P ws with
    | (false, 0, P', ws') => stpsO n P' ws'
    | _ => none
theorem stps_of {n : Nat} {P P' : Pg} {ws ws' : List Int} (h : stpsO n P ws = some (P', ws')) : Stps n P ws P' ws' := by
  induction n generalizing P ws with
  | zero =>
    simp only [stpsO, Option.some.injEq, Prod.mk.injEq] at h
    obtain ⟨rfl, rfl⟩ := h; exact .nil _ _
  | succ n ih =>
    unfold stpsO at h
    split at h
    · rename_i P1 ws1 e
      exact .cons e (ih h)
    · cases h
def EndsAt (w : World) (p d c q b cq n : Nat) (R : Bool) (P' : Pg) (ws' : List Int) (j : Nat) (wr : World) : Prop :=
  ∃ P ws, P.R = R ∧ Frm [d, q, b] w wr ∧ Sit wr p d c q b cq P ws ∧ Ends (n - j) P ws P' ws'
set_option maxRecDepth 100000 in
set_option maxHeartbeats 1000000 in
theorem ends_any {w : World} {p d c q b cq n : Nat} {P P' : Pg} {ws ws' : List Int} (h : Sit w p d c q b cq P ws) (hn : n ≤ 300) (hE : Ends n P ws P' ws') :
    Calls Try.prog 27 #[.iface (Ip P.R) (.pointer (some ⟨q, 0, none⟩)), .pointer (some ⟨p, 0, none⟩)] w
      (Ret (.int .i64 n) (fun w' => Frm [d, q, b] w w' ∧ Sit w' p d c q b cq P' ws')) := by
  have hm := m_Step P.R q
  have hc1 := c_Step P.R
  have hm2 := m_Done P.R q
  have hc2 := c_Done P.R
  have HE : Hid (EndsAt w p d c q b cq n P.R P' ws' 0 w) := Lib.hid ⟨P, ws, rfl, Frm.refl _ _, h, hE⟩
  have hn1 := hE.pos
  obtain ⟨R, hR⟩ : ∃ R, R = P.R := ⟨_, rfl⟩
  rw [← hR] at hm hc1 hm2 hc2 HE ⊢
  clear h hE hR
  go_enter Try.func27, Try.ntmps27
  go_wp2_with fail
  go_loopw [5] (fun i wr => ∃ j : Nat, j < n ∧ i = .int .i64 ((j : Int) + 1) ∧ Hid (EndsAt w p d c q b cq n R P' ws' j wr)) (fun i _ => 301 - (intOf i).toNat)
  case atStart => exact ⟨0, by omega, rfl, HE⟩
  case round =>
    clear HE
    obtain ⟨j, hj, rfl, HS⟩ := hrel
    obtain ⟨P1, ws1, hR1, hF, hS, hE⟩ := HS.out
    clear HS
    have hj2 : (j : Int) + 1 ≤ 300 := by omega
    have hst := (hS.ok.stp hS.nn hS.nb).2.2.2.2.1
    cases hE' : n - j with
    | zero => omega
    | succ m =>
      rw [hE'] at hE
      generalize hm' : m + 1 = m1 at hE
      cases hE with
      | last he h5 =>
        have H := Lib.hid (hS.stepR he)
        have HR := Lib.hid hR1
        have HF := Lib.hid hF
        have H5 := Lib.hid h5
        have HJ := Lib.hid (show j + 1 = n by omega)
        rw [hR1] at H
        rw [he] at hst
        have HT := Lib.hid (hst.trans hR1)
        clear hR1 hF hS he h5 hst hE' hm' hj
        go_wp2_with fail
        refine H.out.mono ?_
        rintro e w1 ⟨rfl, hF1, hS1⟩
        have HD := Done_any hS1.pg hS1.ok
        rw [HT.out, decide_eq_true H5.out] at HD
        have HDD := Lib.hid HD
        have HA := Lib.hid hS1
        have HFF := Lib.hid (HF.out.trans hF1)
        clear hF1 hS1 HD
        go_wp2_with fail
        refine HDD.out.mono ?_
        rintro e w2 ⟨rfl, rfl⟩
        go_wp2
        go_ret
        exact ⟨by have := HJ.out; subst this; go_num, HFF.out, HA.out⟩
      | more he h5 r =>
        rename_i n1 P2 ws2
        have H := Lib.hid (hS.stepR he)
        have HR := Lib.hid hR1
        have HF := Lib.hid hF
        have H5 := Lib.hid h5
        have HJ := Lib.hid (show n - (j + 1) = n1 by omega)
        have HJ2 := Lib.hid (show j + 1 < n by have := r.pos; omega)
        have HRR := Lib.hid r
        rw [hR1] at H
        rw [he] at hst
        have HT := Lib.hid (hst.trans hR1)
        clear hR1 hF hS he h5 hst hE' hm' hj r
        go_wp2_with fail
        refine H.out.mono ?_
        rintro e w1 ⟨rfl, hF1, hS1⟩
        have HD := Done_any hS1.pg hS1.ok
        rw [HT.out, decide_eq_false H5.out] at HD
        have HDD := Lib.hid HD
        have HA := Lib.hid hS1
        have HFF := Lib.hid (HF.out.trans hF1)
        clear hF1 hS1 HD
        go_wp2_with fail
        refine HDD.out.mono ?_
        rintro e w2 ⟨rfl, rfl⟩
        go_wp2
        go_roundw
        case rel => exact ⟨j + 1, HJ2.out, by go_num, Lib.hid ⟨_, _, HT.out, HFF.out, HA.out, by rw [HJ.out]; exact HRR.out⟩⟩
        case measure => simp [intOf]; omega
def StpsAt (w : World) (p d c q b cq n : Nat) (R : Bool) (P' : Pg) (ws' : List Int) (j : Nat) (wr : World) : Prop :=
  ∃ P ws, P.R = R ∧ Frm [d, q, b] w wr ∧ Sit wr p d c q b cq P ws ∧ Stps (n - j) P ws P' ws'
set_option maxRecDepth 100000 in
set_option maxHeartbeats 1000000 in
theorem steps_any {w : World} {p d c q b cq n : Nat} {P P' : Pg} {ws ws' : List Int} (h : Sit w p d c q b cq P ws) (hn : n ≤ 300) (hE : Stps n P ws P' ws') :
    Calls Try.prog 32 #[.iface (Ip P.R) (.pointer (some ⟨q, 0, none⟩)), .pointer (some ⟨p, 0, none⟩), .int .i64 n] w
      (Ret (.bool true) (fun w' => Frm [d, q, b] w w' ∧ Sit w' p d c q b cq P' ws')) := by
  have hm := m_Step P.R q
  have hc1 := c_Step P.R
  have HE : Hid (StpsAt w p d c q b cq n P.R P' ws' 0 w) := Lib.hid ⟨P, ws, rfl, Frm.refl _ _, h, hE⟩
  obtain ⟨R, hR⟩ : ∃ R, R = P.R := ⟨_, rfl⟩
  rw [← hR] at hm hc1 HE ⊢
  clear h hE hR
  go_enter Try.func32, Try.ntmps32
  go_wp2_with fail
  go_loopw [7] (fun i wr => ∃ j : Nat, j ≤ n ∧ i = .int .i64 j ∧ Hid (StpsAt w p d c q b cq n R P' ws' j wr)) (fun i _ => n - (intOf i).toNat)
  case atStart => exact ⟨0, by omega, rfl, HE⟩
  case round =>
    clear HE
    obtain ⟨j, hj, rfl, HS⟩ := hrel
    obtain ⟨P1, ws1, hR1, hF, hS, hE⟩ := HS.out
    clear HS
    by_cases hlt : j < n
    · obtain ⟨m, hm0⟩ : ∃ m, n - j = m + 1 := ⟨n - j - 1, by omega⟩
      have hst := (hS.ok.stp hS.nn hS.nb).2.2.2.2.1
      rw [hm0] at hE
      cases hE with
      | cons he r =>
        have H := Lib.hid (hS.stepR he)
        have HF := Lib.hid hF
        have HJ := Lib.hid (show n - (j + 1) = m by omega)
        have HRR := Lib.hid r
        rw [hR1] at H
        rw [he] at hst
        have HT := Lib.hid (hst.trans hR1)
        clear hR1 hF hS he hst hm0 hj r
        go_wp2_with fail
        refine H.out.mono ?_
        rintro e w1 ⟨rfl, hF1, hS1⟩
        have HA := Lib.hid hS1
        have HFF := Lib.hid (HF.out.trans hF1)
        clear hF1 hS1
        go_wp2
        go_roundw
        case rel => exact ⟨j + 1, by omega, by go_num, Lib.hid ⟨_, _, HT.out, HFF.out, HA.out, by rw [HJ.out]; exact HRR.out⟩⟩
        case measure => simp [intOf]; omega
    · obtain rfl : j = n := by omega
      rw [Nat.sub_self] at hE
      cases hE with
      | nil =>
        have HA := Lib.hid hS
        have HF := Lib.hid hF
        clear hF hS hR1
        go_wp2
        go_ret
        exact ⟨rfl, HF.out, HA.out⟩
#print axioms steps_any
end Go.Proofs.Ytbhnijkphkkalaa
