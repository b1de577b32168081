/- Two lists of words compared: ticketlineref01.Same, slices.Equal. -/
import Derived.Test.YtieccmmnfnpcoaaMcN
namespace Go.Proofs.Ytieccmmnfnpcoaa
open Go.ChangeShapes Go.WideShapes Go.ChangeAt Go.RowKit

theorem same_aux (w : World) (xs ys : List Int) (b1 o1 c1 b2 o2 c2 n : Nat) (hn : n ≤ 2147483647) (hx : xs.length = n) (hy : ys.length = n)
    (r1 : ∀ i x, xs[i]? = some x → w.cell? ⟨b1, o1 + i, none⟩ = some (.int .u64 x)) (r2 : ∀ i x, ys[i]? = some x → w.cell? ⟨b2, o2 + i, none⟩ = some (.int .u64 x)) :
    Calls Try.prog 15 #[.slice (some ⟨b1, o1, none⟩) n c1, .slice (some ⟨b2, o2, none⟩) n c2] w (fun e w' => ∃ m, Ret (.bool (decide (xs = ys))) (fun w' => w' = w.drewN m) e w') := by
  have hnn : ((n : Int) != n) = false := by simp
  have R1 := Lib.hid r1
  have R2 := Lib.hid r2
  have HLX := Lib.hid hx
  have HLY := Lib.hid hy
  clear r1 r2 hx hy
  go_enter Try.func15, Try.ntmps15
  go_wp2
  go_loopw [5] (fun i wr => ∃ k : Nat, k ≤ n ∧ i = .int .i64 k ∧ (∀ j, j < k → xs[j]? = ys[j]?) ∧ ∃ m, wr = w.drewN m) (fun i _ => n - (intOf i).toNat)
  case atStart => exact ⟨0, Nat.zero_le _, rfl, fun j hj => absurd hj (Nat.not_lt_zero j), 0, rfl⟩
  case round =>
    obtain ⟨k, hk, rfl, hpre, m, rfl⟩ := hrel
    have HP := Lib.hid hpre
    clear hpre
    by_cases hlt : k < n
    · obtain ⟨x, hxk⟩ : ∃ x, xs[k]? = some x := ⟨_, List.getElem?_eq_getElem (by rw [HLX.out]; exact hlt)⟩
      obtain ⟨y, hyk⟩ : ∃ y, ys[k]? = some y := ⟨_, List.getElem?_eq_getElem (by rw [HLY.out]; exact hlt)⟩
      have cx := R1.out k x hxk
      have cy := R2.out k y hyk
      have HX := Lib.hid hxk
      have HY := Lib.hid hyk
      clear hxk hyk
      by_cases hxy : x = y
      · subst hxy
        have ht : (x != x) = false := by simp
        go_wp2
        go_quiet (fail)
        go_wp2
        go_roundw
        case rel => exact ⟨k + 1, by omega, by go_num, fun j hj => by
          rcases Nat.lt_succ_iff_lt_or_eq.1 hj with h | h
          · exact HP.out j h
          · rw [h, HX.out, HY.out], _, rfl⟩
        case measure => simp [intOf]; omega
      · have ht : (x != y) = true := by simpa using hxy
        have HN := Lib.hid hxy
        clear hxy
        go_wp2
        go_quiet (fail)
        go_wp2
        go_ret
        refine ⟨_, ?_, World.drewN_drewN _ _ _⟩
        have : xs ≠ ys := fun e => by have := HX.out; rw [e, HY.out] at this; exact HN.out (by injection this with h; exact h.symm)
        simp [this]
    · obtain rfl : k = n := by omega
      go_wp2
      go_ret
      refine ⟨_, ?_, rfl⟩
      have : xs = ys := List.ext_getElem? fun j => by
        rcases Nat.lt_or_ge j k with h | h
        · exact HP.out j h
        · rw [List.getElem?_eq_none (by rw [HLX.out]; exact h), List.getElem?_eq_none (by rw [HLY.out]; exact h)]
      simp [this]

theorem same_any {w : World} {xs ys : List Int} {v1 v2 : Value} (h1 : Rd w v1 (u64s xs)) (h2 : Rd w v2 (u64s ys)) (hx : xs.length ≤ 2147483647) (hy : ys.length ≤ 2147483647) :
    Calls Try.prog 15 #[v1, v2] w (fun e w' => ∃ m, Ret (.bool (decide (xs = ys))) (fun w' => w' = w.drewN m) e w') := by
  obtain ⟨a1, c1, rfl, e1⟩ : ∃ a1 c1, v1 = .slice a1 xs.length c1 ∧ (0 < xs.length → ∃ b o, a1 = some ⟨b, o, none⟩ ∧ ∀ i x, xs[i]? = some x → w.cell? ⟨b, o + i, none⟩ = some (.int .u64 x)) := by
    rcases h1 with ⟨hv, hl⟩ | ⟨b, o, c, hv, hl, hb, hr⟩
    · have : xs = [] := by simpa [u64s] using hl
      subst this
      exact ⟨none, 0, hv, fun h => absurd h (by simp)⟩
    · exact ⟨_, c, by simpa [u64s] using hv, fun _ => ⟨b, o, rfl, fun i x hi => hr i _ (by simp [u64s, hi])⟩⟩
  obtain ⟨a2, c2, rfl, e2⟩ : ∃ a2 c2, v2 = .slice a2 ys.length c2 ∧ (0 < ys.length → ∃ b o, a2 = some ⟨b, o, none⟩ ∧ ∀ i x, ys[i]? = some x → w.cell? ⟨b, o + i, none⟩ = some (.int .u64 x)) := by
    rcases h2 with ⟨hv, hl⟩ | ⟨b, o, c, hv, hl, hb, hr⟩
    · have : ys = [] := by simpa [u64s] using hl
      subst this
      exact ⟨none, 0, hv, fun h => absurd h (by simp)⟩
    · exact ⟨_, c, by simpa [u64s] using hv, fun _ => ⟨b, o, rfl, fun i x hi => hr i _ (by simp [u64s, hi])⟩⟩
  clear h1 h2
  by_cases hl : xs.length = ys.length
  · by_cases h0 : 0 < xs.length
    · obtain ⟨b1, o1, rfl, r1⟩ := e1 h0
      obtain ⟨b2, o2, rfl, r2⟩ := e2 (by omega)
      rw [← hl]
      exact same_aux w xs ys b1 o1 c1 b2 o2 c2 xs.length hx rfl hl.symm r1 r2
    · have hx0 : xs = [] := List.length_eq_zero_iff.1 (by omega)
      have hy0 : ys = [] := List.length_eq_zero_iff.1 (by omega)
      subst hx0 hy0
      clear e1 e2
      go_enter Try.func15, Try.ntmps15
      go_wp2
      refine wp_loop_rounds 1 ?_
      rw [rounds_succ]
      go_wp2
      go_ret
      exact ⟨0, rfl, rfl⟩
  · have hb : ((xs.length : Int) != ys.length) = true := by simp; omega
    have hd : decide (xs = ys) = false := by simp; intro e; exact hl (by rw [e])
    rw [hd]
    clear e1 e2 hl hd
    go_enter Try.func15, Try.ntmps15
    go_wp2
    go_ret
    exact ⟨0, rfl, rfl⟩

theorem u64s_get {xs : List Int} {i : Nat} {u : Value} (h : (u64s xs)[i]? = some u) : ∃ x, xs[i]? = some x ∧ u = .int .u64 x := by
  rw [u64s, List.getElem?_map] at h
  cases hx : xs[i]? with
  | none => rw [hx] at h; cases h
  | some x => rw [hx] at h; exact ⟨x, rfl, by cases h; rfl⟩

/-- Words that a call has made for itself. -/
def Own (B : Nat) (w : World) (v : Value) (xs : List Int) : Prop := w.ownsRow B 28 1 v xs.length (u64s xs)
theorem Own.rd {B : Nat} {w : World} {v : Value} {xs : List Int} (h : Own B w v xs) : Rd w v (u64s xs) := by
  obtain ⟨_, h⟩ := h
  rcases h with ⟨hv, hn⟩ | ⟨g, cap, cur, hv, hg, hh, hc, hm, hz, ht⟩
  · exact .inl ⟨hv, by rw [List.length_eq_zero_iff.1 hn]; rfl⟩
  · refine .inr ⟨g, 0, cap, by simpa [u64s] using hv, by simpa [u64s] using hc, lt_of_heap hh, fun i u hu => ?_⟩
    rw [cell_of_heap hh, ← Array.getElem?_toList]
    have hi : i < xs.length := by have := (List.getElem?_eq_some_iff.1 hu).1; simpa [u64s] using this
    rw [← ht, List.getElem?_take, if_pos (by omega)] at hu
    rw [Nat.zero_add]; exact hu
theorem Own.from_ {B : Nat} {w : World} {v : Value} {xs : List Int} (h : Own B w v xs) : From B v := by
  obtain ⟨_, h⟩ := h
  rcases h with ⟨hv, hn⟩ | ⟨g, cap, cur, hv, hg, _⟩
  · intro b hb; rw [hv] at hb; cases hb
  · intro b hb; rw [hv] at hb; cases hb; exact hg
theorem Own.frm {B : Nat} {D : List Nat} {w w' : World} {v : Value} {xs : List Int} (h : Own B w v xs) (hf : Frm D w w') (hd : ∀ b, v.ownBlock = some b → b ∉ D) : Own B w' v xs := by
  obtain ⟨h0, h⟩ := h
  refine ⟨h0, ?_⟩
  rcases h with h | ⟨g, cap, cur, hv, hg, hh, r⟩
  · exact .inl h
  · exact .inr ⟨g, cap, cur, hv, hg, hf.heap hh (hd g (by rw [hv]; rfl)), r⟩

theorem clone_any {w : World} {xs : List Int} {b o c n : Nat} (hn : xs.length = n) (hx : xs.length ≤ 2147483647) (r1 : ∀ i x, xs[i]? = some x → w.cell? ⟨b, o + i, none⟩ = some (.int .u64 x)) (hb : b < w.heap.size) :
    Calls Try.prog 54 #[.slice (some ⟨b, o, none⟩) n c] w
    (fun e w' => ∃ v, Ret v (fun w' => Frm [] w w' ∧ Own w.heap.size w' v xs ∧ v ≠ .slice none 0 0) e w') := by
  subst hn
  obtain ⟨i0, hi, hz0, hz1, hz2⟩ := info_parts info_u64
  have hown : (w.alloc (.cells #[] 28)).ownsRow w.heap.size 28 1 (.slice (some ⟨w.heap.size, 0, none⟩) 0 0) 0 [] :=
    ⟨by simp, .inr ⟨w.heap.size, 0, #[], rfl, Nat.le_refl _, heap_alloc_new _ _, by omega, by unfold maxLen; omega, by simp, by simp⟩⟩
  have hcell : ∀ j u, (u64s xs)[j]? = some u → (w.alloc (.cells #[] 28)).cell? ((⟨b, o, none⟩ : Addr).add j) = some u := by
    intro j u hu
    obtain ⟨x, hx, rfl⟩ := u64s_get hu
    have ea : (⟨b, o, none⟩ : Addr).add j = ⟨b, o + j, none⟩ := by simp [Addr.add]
    rw [ea]
    rw [World.cell?_alloc_past _ _ _ hb]
    exact r1 j x hx
  have hnil := fun (w : World) => Lib.run_eql_slice_nil (P := Try.prog) w 22 28 (some ⟨b, o, none⟩) xs.length c 0 0 Try.underlying22
  have R1 := Lib.hid r1
  have HC := Lib.hid hcell
  clear r1 hcell
  go_enter Try.func54, Try.ntmps54
  go_wp2_with (at_builtin; go_loud (refine wpList_append_own _ rfl _ _ 22 rfl w.heap.size 28 i0 (.int .u64 0) 1 8 Try.underlying22 hi hz0 hz1 hz2 rfl (by decide) _ _ _ rfl hown ⟨b, o, none⟩ xs.length c (u64s xs) rfl (by simp [u64s]) HC.out (by intro u hu; obtain ⟨x, _, rfl⟩ := List.mem_map.1 hu; rfl) (by unfold maxLen; omega) (by omega) (by simp) ?_); intro v' w1 hown' hgrow hnl)
  go_ret
  refine ⟨_, rfl, ?_, ?_, ?_⟩
  · exact ((Frm.refl _ _).alloc _).trans_new (Frm.grown hgrow (D := [w.heap.size]) (by intro k hk; cases hk; simp)) (by simp)
  · have : w1.ownsRow w.heap.size 28 1 v' (0 + xs.length) ([] ++ u64s xs) := hown'
    rw [Nat.zero_add, List.nil_append] at this
    exact this
  · intro e; have := (hnl.1 e).1; cases this

theorem Rd_take {w : World} {d : Nat} {ws : List Int} (hr : ∀ i x, ws[i]? = some x → w.cell? ⟨d, i, none⟩ = some (.int .u64 x)) (fr tt : Nat) :
    ∀ i x, ((ws.drop fr).take (tt - fr))[i]? = some x → w.cell? ⟨d, fr + i, none⟩ = some (.int .u64 x) := by
  intro i x hx
  rw [List.getElem?_take] at hx
  split at hx
  · rw [List.getElem?_drop] at hx; exact hr _ _ hx
  · cases hx

theorem words_ok {w : World} {p d c : Nat} {ws : List Int} (hM : MemAt w p d c ws) (fr tt : Nat) (h1 : fr ≤ tt) (h2 : tt ≤ ws.length) :
    Calls Try.prog 14 #[.pointer (some ⟨p, 0, none⟩), .int .i64 fr, .int .i64 tt] w
    (fun e w' => ∃ v, Ret (.tuple #[v, .int .i64 0]) (fun w' => Frm [] w w' ∧ Own w.heap.size w' v ((ws.drop fr).take (tt - fr))) e w') := by
  have hcp := hM.cellp
  have hle := hM.le
  have hcap := hM.cap
  have hb1 : decide ((fr : Int) < 0) = false := by simp
  have hb2 : decide ((tt : Int) < fr) = false := by simp; omega
  have hb3 : decide ((ws.length : Int) < tt) = false := by simp; omega
  go_enter Try.func14, Try.ntmps14
  go_wp2_with (go_at_call 53; refine (none_mem hM).mono ?_; rintro e w' ⟨rfl, rfl⟩)
  · refine (clone_any (xs := (ws.drop fr).take (tt - fr)) (by simp; omega) (by simp; omega) (fun i x hx => by rw [List.getElem?_eq_none (by simp; omega)] at hx; cases hx) hM.dlt).mono ?_
    rintro e w1 ⟨v, rfl, hF, hO, _⟩
    go_wp2
    go_ret2
    exact ⟨_, rfl, hF, hO⟩
  · refine (clone_any (xs := (ws.drop fr).take (tt - fr)) (by simp; omega) (by simp; omega) (Rd_take (fun i x hx => hM.celld hx) fr tt) hM.dlt).mono ?_
    rintro e w1 ⟨v, rfl, hF, hO, _⟩
    go_wp2
    go_ret2
    exact ⟨_, rfl, hF, hO⟩
theorem words_bad {w : World} {p d c : Nat} {ws : List Int} (hM : MemAt w p d c ws) (fr tt : Int) (hh : fr < 0 ∨ tt < fr ∨ ws.length < tt) :
    Calls Try.prog 14 #[.pointer (some ⟨p, 0, none⟩), .int .i64 fr, .int .i64 tt] w
    (Ret (.tuple #[.slice none 0 0, .int .i64 3]) (fun w' => w = w')) := by
  have hcp := hM.cellp
  by_cases k1 : fr < 0
  · have hb1 : decide (fr < 0) = true := by simpa using k1
    go_enter Try.func14, Try.ntmps14
    go_wp2_with (go_at_call 53; refine (none_mem hM).mono ?_; rintro e w' ⟨rfl, rfl⟩)
    go_ret2
    exact ⟨rfl, rfl⟩
  · have hb1 : decide (fr < 0) = false := by simpa using k1
    by_cases k2 : tt < fr
    · have hb2 : decide (tt < fr) = true := by simpa using k2
      go_enter Try.func14, Try.ntmps14
      go_wp2_with (go_at_call 53; refine (none_mem hM).mono ?_; rintro e w' ⟨rfl, rfl⟩)
      go_ret2
      exact ⟨rfl, rfl⟩
    · have hb2 : decide (tt < fr) = false := by simpa using k2
      have hb3 : decide ((ws.length : Int) < tt) = true := by simp; omega
      go_enter Try.func14, Try.ntmps14
      go_wp2_with (go_at_call 53; refine (none_mem hM).mono ?_; rintro e w' ⟨rfl, rfl⟩)
      go_ret2
      exact ⟨rfl, rfl⟩

theorem copy_ok {w : World} {p d c : Nat} {ws : List Int} (hM : MemAt w p d c ws) :
    Calls Try.prog 12 #[.pointer (some ⟨p, 0, none⟩)] w
    (fun e w' => ∃ p' d' c', Ret (.pointer (some ⟨p', 0, none⟩)) (fun w' => Frm [] w w' ∧ MemAt w' p' d' c' ws ∧ w.heap.size ≤ p' ∧ w.heap.size ≤ d') e w') := by
  have hcp := hM.cellp
  have hle := hM.le
  go_enter Try.func12, Try.ntmps12
  go_wp2_with (go_at_call 53; refine (none_mem hM).mono ?_; rintro e w' ⟨rfl, rfl⟩)
  refine (clone_any (xs := ws) rfl (by omega) (fun i x hx => by rw [Nat.zero_add]; exact hM.celld hx) hM.dlt).mono ?_
  rintro e w1 ⟨v, rfl, hF, hO, hv⟩
  obtain ⟨h0, hO | ⟨g, cap, cur, rfl, hg, hh, hcap, hmax, hsz, htk⟩⟩ := hO
  · exact absurd hO.1 hv
  have HH := Lib.hid hh
  have HT := Lib.hid htk
  have HZ := Lib.hid hsz
  clear hv hh htk hsz h0
  go_wp2
  go_ret
  refine ⟨_, g, cap, rfl, hF.alloc _, ⟨heap_alloc_new _ _, ⟨cur, heap_alloc_old _ HH.out, by have := HZ.out; omega, ?_⟩, ?_, hcap, hM.pos, hM.le⟩, by simpa using hF.size, hg⟩
  · intro i x hx
    have hi : i < ws.length := (List.getElem?_eq_some_iff.1 hx).1
    have : (u64s ws)[i]? = some (Value.int .u64 x) := by rw [u64s, List.getElem?_map, hx]; rfl
    rw [← HT.out, List.getElem?_take, if_pos (by omega)] at this
    rw [← Array.getElem?_toList]; exact this
  · have := lt_of_heap HH.out; omega

theorem none_mem_q {w : World} {p d c : Nat} {ws : List Int} (hM : MemAt w p d c ws) (n : Nat) :
    Calls Try.prog 53 #[.pointer (some ⟨p, 0, none⟩)] (w.drewN n) fun e w'' => e = .returned (.bool false) ∧ ∃ m, w'' = w.drewN m :=
  Calls.quiet_of_same ((none_mem (hM.drewN n)).mono fun _ _ hh => ⟨hh.1, hh.2.symm⟩)
end Go.Proofs.Ytieccmmnfnpcoaa
