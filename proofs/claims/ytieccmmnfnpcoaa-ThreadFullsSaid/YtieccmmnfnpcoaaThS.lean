/- slices.Equal, Same, Len of arenas. -/
import Derived.Test.YtieccmmnfnpcoaaMcS
namespace Go.Proofs.Ytieccmmnfnpcoaa
open Go.ChangeShapes Go.WideShapes Go.ChangeAt Go.RowKit
theorem equal_aux (w : World) (xs ys : List Int) (b1 o1 c1 b2 o2 c2 n : Nat) (hn : n ≤ 2147483647) (hx : xs.length = n) (hy : ys.length = n)
    (r1 : ∀ i x, xs[i]? = some x → w.cell? ⟨b1, o1 + i, none⟩ = some (.int .u64 x)) (r2 : ∀ i x, ys[i]? = some x → w.cell? ⟨b2, o2 + i, none⟩ = some (.int .u64 x)) :
    Calls Try.prog 77 #[.slice (some ⟨b1, o1, none⟩) n c1, .slice (some ⟨b2, o2, none⟩) n c2] w (fun e w' => ∃ m, Ret (.bool (decide (xs = ys))) (fun w' => w' = w.drewN m) e w') := by
  have hnn : ((n : Int) != n) = false := by simp
  have R1 := Lib.hid r1
  have R2 := Lib.hid r2
  have HLX := Lib.hid hx
  have HLY := Lib.hid hy
  clear r1 r2 hx hy
  go_enter Try.func77, Try.ntmps77
  go_wp2
  go_loopw [13] (fun i wr => ∃ k : Nat, k ≤ n ∧ i = .int .i64 k ∧ (∀ j, j < k → xs[j]? = ys[j]?) ∧ ∃ m, wr = w.drewN m) (fun i _ => n - (intOf i).toNat)
  case atStart => exact ⟨0, Nat.zero_le _, rfl, fun j hj => absurd hj (Nat.not_lt_zero j), 0, rfl⟩
  case round =>
    obtain ⟨k, hk, rfl, hpre, m, rfl⟩ := hrel
    have HP := Lib.hid hpre
    clear hpre
    by_cases hlt : k < n
    · obtain ⟨x, hxk⟩ : ∃ x, xs[k]? = some x := ⟨_, List.getElem?_eq_getElem (by rw [HLX.out]; exact hlt)⟩
      obtain ⟨y, hyk⟩ : ∃ y, ys[k]? = some y := ⟨_, List.getElem?_eq_getElem (by rw [HLY.out]; exact hlt)⟩
      have cx := R1.out k x hxk
      have cy := R2.out k y hyk
      have HX := Lib.hid hxk
      have HY := Lib.hid hyk
      clear hxk hyk
      by_cases hxy : x = y
      · subst hxy
        have ht : (x != x) = false := by simp
        go_wp2
        go_quiet (fail)
        go_wp2
        go_roundw
        case rel => exact ⟨k + 1, by omega, by go_num, fun j hj => by
          rcases Nat.lt_succ_iff_lt_or_eq.1 hj with h | h
          · exact HP.out j h
          · rw [h, HX.out, HY.out], _, rfl⟩
        case measure => simp [intOf]; omega
      · have ht : (x != y) = true := by simpa using hxy
        have HN := Lib.hid hxy
        clear hxy
        go_wp2
        go_quiet (fail)
        go_wp2
        go_ret
        refine ⟨_, ?_, World.drewN_drewN _ _ _⟩
        have : xs ≠ ys := fun e => by have := HX.out; rw [e, HY.out] at this; exact HN.out (by injection this with h; exact h.symm)
        simp [this]
    · obtain rfl : k = n := by omega
      go_wp2
      go_ret
      refine ⟨_, ?_, rfl⟩
      have : xs = ys := List.ext_getElem? fun j => by
        rcases Nat.lt_or_ge j k with h | h
        · exact HP.out j h
        · rw [List.getElem?_eq_none (by rw [HLX.out]; exact h), List.getElem?_eq_none (by rw [HLY.out]; exact h)]
      simp [this]

theorem equal_any {w : World} {xs ys : List Int} {v1 v2 : Value} (h1 : Rd w v1 (u64s xs)) (h2 : Rd w v2 (u64s ys)) (hx : xs.length ≤ 2147483647) (hy : ys.length ≤ 2147483647) :
    Calls Try.prog 77 #[v1, v2] w (fun e w' => ∃ m, Ret (.bool (decide (xs = ys))) (fun w' => w' = w.drewN m) e w') := by
  obtain ⟨a1, c1, rfl, e1⟩ : ∃ a1 c1, v1 = .slice a1 xs.length c1 ∧ (0 < xs.length → ∃ b o, a1 = some ⟨b, o, none⟩ ∧ ∀ i x, xs[i]? = some x → w.cell? ⟨b, o + i, none⟩ = some (.int .u64 x)) := by
    rcases h1 with ⟨hv, hl⟩ | ⟨b, o, c, hv, hl, hb, hr⟩
    · have : xs = [] := by simpa [u64s] using hl
      subst this
      exact ⟨none, 0, hv, fun h => absurd h (by simp)⟩
    · exact ⟨_, c, by simpa [u64s] using hv, fun _ => ⟨b, o, rfl, fun i x hi => hr i _ (by simp [u64s, hi])⟩⟩
  obtain ⟨a2, c2, rfl, e2⟩ : ∃ a2 c2, v2 = .slice a2 ys.length c2 ∧ (0 < ys.length → ∃ b o, a2 = some ⟨b, o, none⟩ ∧ ∀ i x, ys[i]? = some x → w.cell? ⟨b, o + i, none⟩ = some (.int .u64 x)) := by
    rcases h2 with ⟨hv, hl⟩ | ⟨b, o, c, hv, hl, hb, hr⟩
    · have : ys = [] := by simpa [u64s] using hl
      subst this
      exact ⟨none, 0, hv, fun h => absurd h (by simp)⟩
    · exact ⟨_, c, by simpa [u64s] using hv, fun _ => ⟨b, o, rfl, fun i x hi => hr i _ (by simp [u64s, hi])⟩⟩
  clear h1 h2
  by_cases hl : xs.length = ys.length
  · by_cases h0 : 0 < xs.length
    · obtain ⟨b1, o1, rfl, r1⟩ := e1 h0
      obtain ⟨b2, o2, rfl, r2⟩ := e2 (by omega)
      rw [← hl]
      exact equal_aux w xs ys b1 o1 c1 b2 o2 c2 xs.length hx rfl hl.symm r1 r2
    · have hx0 : xs = [] := List.length_eq_zero_iff.1 (by omega)
      have hy0 : ys = [] := List.length_eq_zero_iff.1 (by omega)
      subst hx0 hy0
      clear e1 e2
      go_enter Try.func77, Try.ntmps77
      go_wp2
      refine wp_loop_rounds 1 ?_
      rw [rounds_succ]
      go_wp2
      go_ret
      exact ⟨0, rfl, rfl⟩
  · have hb : ((xs.length : Int) != ys.length) = true := by simp; omega
    have hd : decide (xs = ys) = false := by simp; intro e; exact hl (by rw [e])
    rw [hd]
    clear e1 e2 hl hd
    go_enter Try.func77, Try.ntmps77
    go_wp2
    go_ret
    exact ⟨0, rfl, rfl⟩
theorem equal_q {w : World} {xs ys : List Int} {v1 v2 : Value} (h1 : Rd w v1 (u64s xs)) (h2 : Rd w v2 (u64s ys)) (hx : xs.length ≤ 2147483647) (hy : ys.length ≤ 2147483647) (n : Nat) :
    Calls Try.prog 77 #[v1, v2] (w.drewN n) fun e w'' => e = .returned (.bool (decide (xs = ys))) ∧ ∃ m, w'' = w.drewN m :=
  Calls.quiet_of ((equal_any (h1.frm ((Frm.refl [] _).drewN _) (by simp)) (h2.frm ((Frm.refl [] _).drewN _) (by simp)) hx hy).mono fun _ _ hh => ⟨hh.choose_spec.1, _, hh.choose_spec.2⟩)

theorem same_mem {w : World} {p d c p' d' c' : Nat} {ws us : List Int} (hM : MemAt w p d c ws) (hN : MemAt w p' d' c' us) :
    Calls Try.prog 43 #[.pointer (some ⟨p, 0, none⟩), .pointer (some ⟨p', 0, none⟩)] w
    (fun e w' => ∃ m, Ret (.bool (decide (ws = us))) (fun w' => w' = w.drewN m) e w') := by
  have hcp := hM.cellp
  have hcn := hN.cellp
  have r1 : Rd w (.slice (some ⟨d, 0, none⟩) ws.length c) (u64s ws) := .inr ⟨d, 0, c, by simp [u64s], by simpa [u64s] using hM.cap, hM.dlt, fun i u hu => by
    obtain ⟨x, hx, rfl⟩ := u64s_get hu; rw [Nat.zero_add]; exact hM.celld hx⟩
  have r2 : Rd w (.slice (some ⟨d', 0, none⟩) us.length c') (u64s us) := .inr ⟨d', 0, c', by simp [u64s], by simpa [u64s] using hN.cap, hN.dlt, fun i u hu => by
    obtain ⟨x, hx, rfl⟩ := u64s_get hu; rw [Nat.zero_add]; exact hN.celld hx⟩
  have hl1 := hM.le
  have hl2 := hN.le
  go_enter Try.func43, Try.ntmps43
  go_wp2_with fail
  go_quiet (first
    | (go_at_call 53; with_reducible exact none_mem_q hM _)
    | (go_at_call 53; with_reducible exact none_mem_q hN _)
    | (go_at_call 77; exact equal_q r1 r2 (by omega) (by omega) _))
  go_wp2
  go_ret
  exact ⟨_, rfl, rfl⟩
end Go.Proofs.Ytieccmmnfnpcoaa
