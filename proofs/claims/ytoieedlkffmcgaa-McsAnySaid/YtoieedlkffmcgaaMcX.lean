/- The law's helpers: word, made, same, steps, waits. -/
import Derived.Test.YtoieedlkffmcgaaMcW
namespace Go.Proofs.Ytoieedlkffmcgaa
open Go.ChangeShapes Go.WideShapes Go.ChangeAt Go.RowKit
set_option linter.unusedVariables false

theorem lword_yes {w : World} {p d c : Nat} {ws : List Int} (hM : MemAt w p d c ws) (x : Nat) (v : Int) (hx : ws[x]? = some v) :
    Calls Try.prog 17 #[.pointer (some ⟨p, 0, none⟩), .int .i64 x, .int .u64 v] w (Ret (.bool true) (fun w' => Frm [d] w w' ∧ MemAt w' p d c ws)) := by
  have H := Lib.hid (Load_ok hM x v hx)
  clear hM hx
  go_enter Try.func17, Try.ntmps17
  go_wp2_with fail
  refine H.out.mono ?_
  rintro e w1 ⟨rfl, hF, hM⟩
  have HF := Lib.hid hF
  have HM := Lib.hid hM
  clear hF hM
  go_wp2
  go_ret
  exact ⟨rfl, HF.out, HM.out⟩

/-- What 'made' has after k words. -/
def part (xs : List Int) (k : Nat) : List Int := xs.take k ++ List.replicate (xs.length - k) 0
theorem part_zero (xs : List Int) : part xs 0 = List.replicate xs.length 0 := by simp [part]
theorem part_all (xs : List Int) : part xs xs.length = xs := by simp [part]
theorem part_len (xs : List Int) (k : Nat) (h : k ≤ xs.length) : (part xs k).length = xs.length := by simp [part]; omega
theorem part_succ (xs : List Int) (k : Nat) (x : Int) (h : xs[k]? = some x) : part xs (k + 1) = (part xs k).set k x := by
  have hk : k < xs.length := (List.getElem?_eq_some_iff.1 h).1
  apply List.ext_getElem?
  intro j
  rw [List.getElem?_set]
  unfold part
  by_cases hj : k = j
  · subst hj
    rw [if_pos rfl, if_pos (by simp; omega), List.getElem?_append_left (by simp; omega), List.getElem?_take, if_pos (by omega), h]
  · rw [if_neg hj]
    by_cases hlt : j < k
    · rw [List.getElem?_append_left (by simp; omega), List.getElem?_append_left (by simp; omega), List.getElem?_take, List.getElem?_take, if_pos (by omega), if_pos hlt]
    · rw [List.getElem?_append_right (by simp; omega), List.getElem?_append_right (by simp; omega), List.getElem?_replicate, List.getElem?_replicate]
      simp only [List.length_take]
      have e1 : min (k + 1) xs.length = k + 1 := by omega
      have e2 : min k xs.length = k := by omega
      rw [e1, e2]
      by_cases hl : j < xs.length
      · rw [if_pos (by omega), if_pos (by omega)]
      · rw [if_neg (by omega), if_neg (by omega)]
theorem part_succ_zero (xs : List Int) (k : Nat) (h : xs[k]? = some 0) : part xs (k + 1) = part xs k := by
  rw [part_succ xs k 0 h]
  have hk : k < xs.length := (List.getElem?_eq_some_iff.1 h).1
  apply List.ext_getElem?
  intro j
  rw [List.getElem?_set]
  split
  · rename_i e
    subst e
    rw [if_pos (by rw [part_len _ _ (by omega)]; exact hk)]
    unfold part
    rw [List.getElem?_append_right (by simp; omega), List.getElem?_replicate, if_pos (by simp; omega)]
  · rfl
theorem made_any {w : World} {xs : List Int} {v : Value} (hv : Rd w v (u64s xs)) (h1 : 1 ≤ xs.length) (h2 : xs.length ≤ 65536) :
    Calls Try.prog 10 #[v] w (fun e w' => ∃ p d c, Ret (.pointer (some ⟨p, 0, none⟩)) (fun w' => Frm [] w w' ∧ MemAt w' p d c xs ∧ w.heap.size ≤ p ∧ w.heap.size ≤ d) e w') := by
  rcases hv with ⟨_, hl⟩ | ⟨b, o, cc, rfl, hl, hb, hr⟩
  · have : xs = [] := by simpa [u64s] using hl
    subst this; simp at h1
  have hlen : (u64s xs).length = xs.length := by simp [u64s]
  rw [hlen]
  have R1 := Lib.hid hr
  clear hr hl hlen
  go_enter Try.func10, Try.ntmps10
  go_wp2_with fail
  refine (new_ok w xs.length h1 h2).mono ?_
  rintro e w1 ⟨p, d, rfl, hF1, hM1, hp, hd⟩
  rw [← part_zero] at hM1
  go_wp2_with fail
  go_loopw [2, 5, 6, 21, 22, 23, 24, 25, 26, 27, 28, 29, 30, 31, 32, 33, 34, 35] (fun r _ _ i _ _ _ _ _ _ _ _ _ _ _ _ _ _ wr => ∃ k : Nat, r = .pointer none ∧ k ≤ xs.length ∧ i = .int .i64 k ∧ Frm [] w wr ∧ MemAt wr p d xs.length (part xs k)) (fun _ _ _ i _ _ _ _ _ _ _ _ _ _ _ _ _ _ _ => xs.length - (intOf i).toNat)
  case atStart => exact ⟨0, rfl, Nat.zero_le _, rfl, hF1, hM1⟩
  case round =>
    obtain ⟨k, rfl, hk, rfl, hF, hM⟩ := hrel
    by_cases hlt : k < xs.length
    · obtain ⟨x, hx⟩ : ∃ x, xs[k]? = some x := ⟨_, List.getElem?_eq_getElem hlt⟩
      have hcx : _ = some (Value.int .u64 x) := (hF.cell (i := o + k) hb (by simp)).trans (R1.out k _ (by rw [u64s, List.getElem?_map, hx]; rfl))
      have HX := Lib.hid hx
      clear hx
      have hbw := Nat.lt_of_lt_of_le hb hF.size
      by_cases hz : x = 0
      · have hz1 : (x != 0) = false := by simp [hz]
        have HZ := Lib.hid hz
        clear hz
        go_wp2
        go_roundw
        case rel => exact ⟨k + 1, rfl, by omega, by go_num, hF, by rw [part_succ_zero xs k (by rw [HX.out, HZ.out])]; exact hM⟩
        case measure => simp [intOf]; omega
      · have hz1 : (x != 0) = true := by simp [hz]
        clear hz
        go_wp2_with fail
        refine (Store_ok hM k x (by rw [part_len _ _ hk]; exact hlt)).mono ?_
        rintro e w2 ⟨rfl, hF2, hM2⟩
        have hFF : Frm [] w w2 := hF.trans_new hF2 (by simp; omega)
        rw [← part_succ xs k x HX.out] at hM2
        clear hF2
        go_wp2
        go_roundw
        case rel => exact ⟨k + 1, rfl, by omega, by go_num, hFF, hM2⟩
        case measure => simp [intOf]; omega
    · obtain rfl : k = xs.length := by omega
      go_wp2
      go_ret
      rw [part_all] at hM
      exact ⟨p, d, _, rfl, hF, hM, hp, hd⟩

/-- The law's same. -/
theorem same_ok {w : World} {p d c : Nat} {ws ls : List Int} {a : Option Addr} {n cc : Nat} (hM : MemAt w p d c ws) (hr : Rd w (.slice a n cc) (u64s ls)) (hn : ls.length = n) (he : ws = ls) :
    Calls Try.prog 29 #[.pointer (some ⟨p, 0, none⟩), .slice a n cc] w (Ret (.bool true) (fun w' => Frm [] w w')) := by
  subst he hn
  have hle := hM.le
  have H := Lib.hid (words_ok hM 0 ws.length (Nat.zero_le _) (Nat.le_refl _))
  have HR := Lib.hid hr
  clear hM hr
  go_enter Try.func29, Try.ntmps29
  go_wp2_with fail
  refine H.out.mono ?_
  rintro e w1 ⟨v, rfl, hF, hO⟩
  have e0 : (ws.drop 0).take (ws.length - 0) = ws := by simp
  rw [e0] at hO
  have HF := Lib.hid hF
  have HO := Lib.hid hO.rd
  have HR1 := Lib.hid (HR.out.frm hF (by simp))
  clear hF hO e0
  go_wp2_with fail
  refine (same_any HO.out HR1.out (by omega) (by omega)).mono ?_
  rintro e w2 ⟨m, rfl, rfl⟩
  have hdec : decide (ws = ws) = true := by simp
  rw [hdec]
  clear hdec
  go_wp2
  go_ret
  exact ⟨rfl, HF.out.drewN _⟩

/-- Some steps of a program, none of which waits, or has an error. -/
inductive Stn (b t L k : Nat) (back : Bool) : Nat → Int → Int → Bool → List Int → Int → Int → Bool → List Int → Prop
  | nil (s o : Int) (e : Bool) (ws : List Int) : Stn b t L k back 0 s o e ws s o e ws
  | cons {n : Nat} {s o s1 o1 s2 o2 : Int} {e1 e2 : Bool} {ws ws1 ws2 : List Int} (h : Stp b t L k ws back s o e1 s1 o1 ws1 false 0) (hok : e1 = false → Ok back s1 o1) (r : Stn b t L k back n s1 o1 e1 ws1 s2 o2 e2 ws2) : Stn b t L k back (n + 1) s o false ws s2 o2 e2 ws2

/-- What is true within some steps. -/
def Goes (w : World) (p d c q b t L k : Nat) (back : Bool) (n : Nat) (s2 o2 : Int) (e2 : Bool) (ws2 : List Int) (wr : World) : Prop :=
  ∃ s o e ws, Aftr p d c q back b t L k w ws s o e wr ∧ Stn b t L k back n s o e ws s2 o2 e2 ws2
set_option maxRecDepth 100000 in
set_option maxHeartbeats 1000000 in
theorem steps_any {w : World} {p d c : Nat} {ws : List Int} {q b t L k : Nat} {back e e2 : Bool} {s o s2 o2 : Int} {ws2 : List Int} {n : Nat} (hM : MemAt w p d c ws) (hR : PgR w q back b t L k s o e) (hd : q ≠ d) (hp : q ≠ p)
    (hn : n ≤ 1000) (hS : Stn b t L k back n s o e ws s2 o2 e2 ws2) :
    Calls Try.prog 14 #[.iface (Ip back) (.pointer (some ⟨q, 0, none⟩)), .iface 29 (.pointer (some ⟨p, 0, none⟩)), .int .i64 n, .bool e2] w (Ret (.bool true) (Aftr p d c q back b t L k w ws2 s2 o2 e2)) := by
  have hm := m_Step back q
  have hc1 := c_Step back
  have hm2 := m_Done back q
  have hc2 := c_Done back
  have hG : Goes w p d c q b t L k back n s2 o2 e2 ws2 w := ⟨s, o, e, ws, ⟨Frm.refl _ _, hM, hR⟩, hS⟩
  clear hM hR hS
  go_enter Try.func14, Try.ntmps14
  go_wp2_with fail
  go_loopw [9] (fun i wr => ∃ j : Nat, j ≤ n ∧ i = .int .i64 j ∧ Goes w p d c q b t L k back (n - j) s2 o2 e2 ws2 wr) (fun i _ => n - (intOf i).toNat)
  case atStart => exact ⟨0, Nat.zero_le _, rfl, hG⟩
  case round =>
    clear hG
    obtain ⟨j, hj, rfl, s1, o1, e1, ws1, ⟨hF, hM, hR⟩, hS⟩ := hrel
    by_cases hlt : j < n
    · obtain ⟨m, hm0⟩ : ∃ m, n - j = m + 1 := ⟨n - j - 1, by omega⟩
      rw [hm0] at hS
      cases hS with
      | cons h hok r =>
        have H := Lib.hid (Step_any hM hR hd hp h hok)
        have HR := Lib.hid r
        have HF := Lib.hid hF
        have HM0 := Lib.hid hm0
        clear hM hR hF h hok r hm0
        go_wp2_with fail
        refine H.out.mono ?_
        rintro e' w1 ⟨rfl, hF1, hM1, hR1⟩
        have HA : Hid (Goes w p d c q b t L k back m s2 o2 e2 ws2 w1) := Lib.hid ⟨_, _, _, _, ⟨HF.out.trans hF1, hM1, hR1⟩, HR.out⟩
        clear hF1 hM1 hR1
        go_wp2
        go_roundw
        case rel => exact ⟨j + 1, by omega, by go_num, by rw [show n - (j + 1) = m by have := HM0.out; omega]; exact HA.out⟩
        case measure => simp [intOf]; omega
    · obtain rfl : j = n := by omega
      rw [Nat.sub_self] at hS
      cases hS with
      | nil =>
        have H := Lib.hid (Done_any hR)
        have HA : Hid (Aftr p d c q back b t L k w ws2 s2 o2 e2 wr) := Lib.hid ⟨hF, hM, hR⟩
        have hbe : (e2 == e2) = true := by simp
        clear hF hM hR
        go_wp2_with fail
        refine H.out.mono ?_
        rintro e' w1 ⟨rfl, rfl⟩
        go_wp2
        go_ret
        exact ⟨by first | rfl | rw [hbe], HA.out⟩
set_option maxRecDepth 100000 in
/-- The law's waits. -/
theorem waits_yes {w : World} {p d c : Nat} {ws ws' : List Int} {q b t L k : Nat} {back : Bool} {s o s' o' : Int} (hM : MemAt w p d c ws) (hR : PgR w q back b t L k s o false) (hd : q ≠ d) (hp : q ≠ p)
    (hS : Stp b t L k ws back s o false s' o' ws' true 0) (hok : Ok back s' o') :
    Calls Try.prog 21 #[.iface (Ip back) (.pointer (some ⟨q, 0, none⟩)), .iface 29 (.pointer (some ⟨p, 0, none⟩))] w (Ret (.bool true) (Aftr p d c q back b t L k w ws' s' o' false)) := by
  have hm := m_Step back q
  have hc1 := c_Step back
  have hm2 := m_Done back q
  have hc2 := c_Done back
  have H := Lib.hid (Step_any hM hR hd hp hS (fun _ => hok))
  clear hM hR hS hok
  go_enter Try.func21, Try.ntmps21
  go_wp2_with fail
  refine H.out.mono ?_
  rintro e' w1 ⟨rfl, hF1, hM1, hR1⟩
  have HD := Lib.hid (Done_any hR1)
  have HA : Hid (Aftr p d c q back b t L k w ws' s' o' false w1) := Lib.hid ⟨hF1, hM1, hR1⟩
  clear hF1 hM1 hR1
  go_wp2_with fail
  refine HD.out.mono ?_
  rintro e' w2 ⟨rfl, rfl⟩
  go_wp2
  go_ret
  exact ⟨rfl, HA.out⟩
#print axioms waits_yes
end Go.Proofs.Ytoieedlkffmcgaa
