/- The reference: Do (out of stage 1's text; by gen_vpb.py). -/
import Derived.Test.YtbhnijkphkkalaaVeS
namespace Go.Proofs.Ytbhnijkphkkalaa
open Go.ChangeShapes Go.WideShapes Go.ChangeAt Go.RowKit

theorem again {ws : List Int} {k wd bf af : Int} (h0 : mErr ws.length k wd = 0) : ∃ b y : Int, mRes ws ⟨k, wd, bf, af⟩ = ⟨k, wd, b, y⟩ ∧ mWs ws ⟨k, wd, bf, af⟩ = ws.set wd.toNat y ∧
    ws[wd.toNat]? = some b ∧ (k = 1 → y = b) ∧ mRes ws ⟨k, wd, b, y⟩ = ⟨k, wd, b, y⟩ ∧ mWs ws ⟨k, wd, b, y⟩ = ws.set wd.toNat y ∧ 0 ≤ wd ∧ wd < ws.length ∧ 1 ≤ k ∧ k ≤ 4 := by
  have hk : ¬ (k < 1 ∨ 4 < k) := by intro h; unfold mErr at h0; rw [if_pos h] at h0; cases h0
  have hw : ¬ (wd < 0 ∨ (ws.length : Int) ≤ wd) := by intro h; unfold mErr at h0; rw [if_neg hk, if_pos h] at h0; cases h0
  have hlt : wd.toNat < ws.length := by omega
  refine ⟨ws.getD wd.toNat 0, aft k bf af (ws.getD wd.toNat 0), ?_, ?_, ?_, ?_, ?_, ?_, by omega, by omega, by omega, by omega⟩
  · simp [mRes, h0]
  · simp [mWs, h0]
  · rw [List.getD_eq_getElem?_getD, List.getElem?_eq_getElem hlt]; rfl
  · intro h; subst h; simp [aft]
  · have e : aft k (ws.getD wd.toNat 0) (aft k bf af (ws.getD wd.toNat 0)) (ws.getD wd.toNat 0) = aft k bf af (ws.getD wd.toNat 0) := by
      generalize ws.getD wd.toNat 0 = x
      unfold aft
      by_cases h1 : k = 2 ∨ k = 4
      · simp [h1]
      · by_cases h2 : k = 3
        · subst h2; simp
        · simp [h1, h2]
    unfold mRes
    simp only []
    rw [if_pos h0, e]
  · have e : aft k (ws.getD wd.toNat 0) (aft k bf af (ws.getD wd.toNat 0)) (ws.getD wd.toNat 0) = aft k bf af (ws.getD wd.toNat 0) := by
      generalize ws.getD wd.toNat 0 = x
      unfold aft
      by_cases h1 : k = 2 ∨ k = 4
      · simp [h1]
      · by_cases h2 : k = 3
        · subst h2; simp
        · simp [h1, h2]
    unfold mWs
    simp only []
    rw [if_pos h0, e]

theorem Rd.cells {w : World} {b o c n : Nat} {ws : List Int} (h : Rd w (.slice (some ⟨b, o, none⟩) n c) (u64s ws)) : b < w.heap.size ∧ ∀ i x, ws[i]? = some x → w.cell? ⟨b, o + i, none⟩ = some (.int .u64 x) := by
  rcases h with ⟨hv, _⟩ | ⟨b', o', c', hv, _, hb, hr⟩
  · cases hv
  · injection hv with h1 h2 h3
    injection h1 with h1
    injection h1 with h4 h5
    subst h4 h5
    exact ⟨hb, fun i x hx => hr i _ (by rw [u64s, List.getElem?_map, hx]; rfl)⟩
def kindB (k : Int) : Bool := decide (1 ≤ k) && decide (k ≤ 4)
theorem refkind_any (w : World) (k : Int) : Calls Try.prog 48 #[.int .i64 k] w (Ret (.bool (kindB k)) (fun w' => w = w')) := by
  by_cases h1 : 1 ≤ k
  · have hb1 : decide (1 ≤ k) = true := by simpa using h1
    go_enter Try.func48, Try.ntmps48
    go_wp2
    all_goals go_ret
    all_goals exact ⟨by simp [kindB, h1], rfl⟩
  · have hb1 : decide (1 ≤ k) = false := by simpa using h1
    go_enter Try.func48, Try.ntmps48
    go_wp2
    all_goals go_ret
    all_goals exact ⟨by unfold kindB; rw [hb1]; rfl, rfl⟩

set_option maxHeartbeats 3200000 in
theorem refdo_any {w : World} {ws : List Int} {b o c : Nat} (hrd : Rd w (.slice (some ⟨b, o, none⟩) ws.length c) (u64s ws)) (hb : b < w.heap.size) (hcl : ∀ i x, ws[i]? = some x → w.cell? ⟨b, o + i, none⟩ = some (.int .u64 x)) (hle : ws.length ≤ 65536) (k wd bf af : Int) :
    Calls Try.prog 39 #[.slice (some ⟨b, o, none⟩) ws.length c, .agg #[.int .i64 k, .int .i64 wd, .int .u64 bf, .int .u64 af]] w
    (fun e w' => ∃ v, Ret (.tuple #[v, .agg #[.int .i64 (mRes ws ⟨k, wd, bf, af⟩).k, .int .i64 (mRes ws ⟨k, wd, bf, af⟩).w, .int .u64 (mRes ws ⟨k, wd, bf, af⟩).b, .int .u64 (mRes ws ⟨k, wd, bf, af⟩).a], .int .i64 (mErr ws.length k wd)])
      (fun w' => Frm [] w w' ∧ Rd w' v (u64s (mWs ws ⟨k, wd, bf, af⟩)) ∧ (v = .slice (some ⟨b, o, none⟩) ws.length c ∨ From w.heap.size v)) e w') := by
  by_cases hk : k < 1 ∨ 4 < k
  · have he : mErr ws.length k wd = 2 := by simp [mErr, hk]
    have hr : mRes ws ⟨k, wd, bf, af⟩ = ⟨0, 0, 0, 0⟩ := by simp [mRes, he]
    have hw : mWs ws ⟨k, wd, bf, af⟩ = ws := by simp [mWs, he]
    have hkb : kindB k = false := by
      unfold kindB
      rcases hk with h | h
      · simp [show ¬ 1 ≤ k by omega]
      · simp [show ¬ k ≤ 4 by omega]
    rw [hr, hw, he]
    clear hr hw he
    have HCL := Lib.hid hcl
    clear hcl
    go_enter Try.func39, Try.ntmps39
    go_wp2_with (go_at_call 48; refine (refkind_any _ _).mono ?_; rintro e w' ⟨rfl, rfl⟩)
    refine bodyPost_ret (v := .tuple #[.slice (some ⟨b, o, none⟩) ws.length c, .agg #[.int .i64 0, .int .i64 0, .int .u64 0, .int .u64 0], .int .i64 2]) (by simp [results, Try.results39, go_sem]) rfl ⟨_, rfl, ((Frm.refl _ _).alloc _).alloc _, hrd.frm (((Frm.refl [] _).alloc _).alloc _) (by simp), .inl rfl⟩
  · have hkb : kindB k = true := by simp [kindB, show 1 ≤ k by omega, show k ≤ 4 by omega]
    by_cases hwd : wd < 0 ∨ (ws.length : Int) ≤ wd
    · have he : mErr ws.length k wd = 3 := by simp [mErr, hk, hwd]
      have hr : mRes ws ⟨k, wd, bf, af⟩ = ⟨0, 0, 0, 0⟩ := by simp [mRes, he]
      have hw : mWs ws ⟨k, wd, bf, af⟩ = ws := by simp [mWs, he]
      rw [hr, hw, he]
      clear hr hw he
      have HCL := Lib.hid hcl
      clear hcl
      by_cases hw1 : wd < 0
      · have hb3 : decide (wd < 0) = true := by simpa using hw1
        go_enter Try.func39, Try.ntmps39
        go_wp2_with (go_at_call 48; refine (refkind_any _ _).mono ?_; rintro e w' ⟨rfl, rfl⟩)
        refine bodyPost_ret (v := .tuple #[.slice (some ⟨b, o, none⟩) ws.length c, .agg #[.int .i64 0, .int .i64 0, .int .u64 0, .int .u64 0], .int .i64 3]) (by simp [results, Try.results39, go_sem]) rfl ⟨_, rfl, ((Frm.refl _ _).alloc _).alloc _, hrd.frm (((Frm.refl [] _).alloc _).alloc _) (by simp), .inl rfl⟩
      · have hb3 : decide (wd < 0) = false := by simpa using hw1
        have hb4 : decide ((ws.length : Int) ≤ wd) = true := by simp; omega
        go_enter Try.func39, Try.ntmps39
        go_wp2_with (go_at_call 48; refine (refkind_any _ _).mono ?_; rintro e w' ⟨rfl, rfl⟩)
        refine bodyPost_ret (v := .tuple #[.slice (some ⟨b, o, none⟩) ws.length c, .agg #[.int .i64 0, .int .i64 0, .int .u64 0, .int .u64 0], .int .i64 3]) (by simp [results, Try.results39, go_sem]) rfl ⟨_, rfl, ((Frm.refl _ _).alloc _).alloc _, hrd.frm (((Frm.refl [] _).alloc _).alloc _) (by simp), .inl rfl⟩
    · have hb3 : decide (wd < 0) = false := by simp; omega
      have hb4 : decide ((ws.length : Int) ≤ wd) = false := by simp; omega
      have he : mErr ws.length k wd = 0 := by simp [mErr, hk, hwd]
      obtain ⟨x, y, hr, hw, hx, _, _, _, hwd0, hwdl, hk1, hk4⟩ := again (bf := bf) (af := af) he
      have hya : y = aft k bf af x := by
        have h1 : (mRes ws ⟨k, wd, bf, af⟩).a = y := by rw [hr]
        have h2 : (mRes ws ⟨k, wd, bf, af⟩).b = x := by rw [hr]
        rw [← h1, ← h2]
        unfold mRes
        simp only []
        rw [if_pos he]
      rw [hr, hw, he]
      clear hr hw he
      have hcx := hcl wd.toNat x hx
      have hwl : wd.toNat < ws.length := by omega
      have HCL := Lib.hid hcl
      have HX := Lib.hid hx
      clear hcl hx hk hwd
      obtain ⟨i0, hi, hz0, hz1, hz2⟩ := info_parts info_u64
      have hown : ∀ w : World, w.ownsRow w.heap.size 22 1 (.slice none 0 0) 0 [] := fun w => ⟨by simp, .inl ⟨rfl, rfl⟩⟩
      have HOWN := Lib.hid hown
      clear hown
      have hcase : (k = 1 ∧ y = x) ∨ (k = 3 ∧ bf = x ∧ y = af) ∨ (k = 3 ∧ bf ≠ x ∧ y = x) ∨ (k ≠ 1 ∧ k ≠ 3 ∧ y = af) := by
        rw [hya]
        unfold aft
        by_cases h1 : k = 1
        · subst h1; simp
        · by_cases h3 : k = 3
          · subst h3
            by_cases h4 : bf = x
            · simp [h4]
            · simp [h4, Ne.symm h4]
          · have : k = 2 ∨ k = 4 := by omega
            simp [this, h1, h3]
      clear hya
      have hfin : ∀ (w4 : World) (v' : Value), (w4.ownsRow (w.heap.size + 1 + 1) 22 1 v' ws.length (u64s ws)) → ((w.alloc (.cells #[.int .i64 k, .int .i64 wd, .int .u64 bf, .int .u64 af] 91)).alloc (.cells #[.int .i64 0, .int .i64 0, .int .u64 0, .int .u64 0] 91)).grownBy w4 none → ∃ g cap cur, v' = .slice (some ⟨g, 0, none⟩) ws.length cap ∧ w.heap.size + 1 + 1 ≤ g ∧ w4.heap[g]? = some (.cells cur 22 (0, 0)) ∧ ws.length ≤ cap ∧ cur.size = cap ∧ (∀ (i : Nat) (z : Int), ws[i]? = some z → cur[i]? = some (Value.int .u64 z)) := by
        intro w4 v' ho hg
        obtain ⟨_, ho⟩ := ho
        rcases ho with ⟨_, h0⟩ | ⟨g, cap, cur, hv, hg, hh, hc, hm, hz, ht⟩
        · omega
        · refine ⟨g, cap, cur, hv, hg, hh, hc, by omega, fun i z hz => ?_⟩
          have hi : i < ws.length := (List.getElem?_eq_some_iff.1 hz).1
          have : (u64s ws)[i]? = some (Value.int .u64 z) := by rw [u64s, List.getElem?_map, hz]; rfl
          rw [← ht, List.getElem?_take, if_pos (by omega), Array.getElem?_toList] at this
          exact this
      have HFIN := Lib.hid hfin
      clear hfin
      rcases hcase with ⟨rfl, rfl⟩ | ⟨rfl, rfl, rfl⟩ | ⟨rfl, hbx, rfl⟩ | ⟨hn1, hn3, rfl⟩
      · have t1 : True := trivial
        go_enter Try.func39, Try.ntmps39
        go_wp2_with (first
          | (go_at_call 48; refine (refkind_any _ _).mono ?_; rintro e w' ⟨rfl, rfl⟩)
          | (at_builtin; refine wpList_append_own _ rfl _ _ 23 rfl _ 22 i0 (.int .u64 0) 1 8 Try.underlying23 hi hz0 hz1 hz2 rfl (by decide) _ _ _ rfl (HOWN.out _) ⟨b, o, none⟩ ws.length c (u64s ws) rfl (by simp [u64s]) ?c1 ?c2 (by unfold maxLen; omega) (by omega) (Nat.le_refl _) ?_))
        case c1 =>
          intro j u hu
          obtain ⟨z, hz, rfl⟩ := u64s_get hu
          have ea : (⟨b, o, none⟩ : Addr).add j = ⟨b, o + j, none⟩ := by
            by_cases h0 : j = 0
            · subst h0; simp [Addr.add]
            · simp [Addr.add, h0]
          rw [ea]
          exact ((((Frm.refl [] w).alloc _).alloc _).cell hb (by simp)).trans (HCL.out j z hz)
        case c2 =>
          intro u hu
          obtain ⟨z, _, rfl⟩ := List.mem_map.1 hu
          rfl
        intro v' w4 ho hg _
        obtain ⟨g, cap, cur, rfl, hgl, hh, hcap, hcs, hcur⟩ := HFIN.out w4 v' ho (show (((w.alloc (.cells #[.int .i64 1, .int .i64 wd, .int .u64 bf, .int .u64 af] 91)).alloc (.cells #[.int .i64 0, .int .i64 0, .int .u64 0, .int .u64 0] 91))).grownBy w4 none from hg)
        have hg' : (((w.alloc (.cells #[.int .i64 1, .int .i64 wd, .int .u64 bf, .int .u64 af] 91)).alloc (.cells #[.int .i64 0, .int .i64 0, .int .u64 0, .int .u64 0] 91))).grownBy w4 none := hg
        have hF4 : Frm [] w w4 := (((Frm.refl _ _).alloc _).alloc _).trans (Frm.grown hg' (by intro k hk; cases hk))
        have hFX : Frm [] ((w.alloc (.cells #[.int .i64 1, .int .i64 wd, .int .u64 bf, .int .u64 af] 91)).alloc (.cells #[.int .i64 0, .int .i64 0, .int .u64 0, .int .u64 0] 91)) w4 := Frm.grown hg' (by intro k hk; cases hk)
        have hB4 := hFX.heap (heap_alloc_old _ (heap_alloc_new w (.cells #[.int .i64 1, .int .i64 wd, .int .u64 bf, .int .u64 af] 91))) (by simp)
        have hR4 := hFX.heap (heap_alloc_at (w := w.alloc (.cells #[.int .i64 1, .int .i64 wd, .int .u64 bf, .int .u64 af] 91)) (.cells #[.int .i64 0, .int .i64 0, .int .u64 0, .int .u64 0] 91) (k := w.heap.size + 1) (by simp)) (by simp)
        have hgs := lt_of_heap hh
        have hRl := lt_of_heap hR4
        obtain ⟨b0, b1, b2, b3⟩ := cells4 hB4
        obtain ⟨r0, r1, r2, r3⟩ := cells4 hR4
        have cg : w4.cell? ⟨g, wd.toNat, none⟩ = some (.int .u64 y) := by rw [cell_of_heap hh]; exact hcur _ _ HX.out
        have fg : w4.frozen? ⟨g, wd.toNat, none⟩ = false := frozen_of_heap hh
        have HB := Lib.hid hB4
        have HR := Lib.hid hR4
        have HH := Lib.hid hh
        have HC := Lib.hid hcur
        clear ho hg hg' hFX hB4 hR4 hh hcur hcs
        go_wp2_with fail
        have hF5 : Frm [] w (w4.setCell ⟨g, wd.toNat, none⟩ (.int .u64 y)) := hF4.setCell _ _ (.inr (by show w.heap.size ≤ g; omega))
        have hB5 : (w4.setCell ⟨g, wd.toNat, none⟩ (.int .u64 y)).heap[w.heap.size]? = _ := heap_setCell_far _ _ (by show g ≠ _; omega) HB.out
        have hR5 : (w4.setCell ⟨g, wd.toNat, none⟩ (.int .u64 y)).heap[w.heap.size + 1]? = _ := heap_setCell_far _ _ (by show g ≠ _; omega) HR.out
        have hG5 := heap_setCell_at (i := wd.toNat) (.int .u64 y) HH.out
        generalize w4.setCell ⟨g, wd.toNat, none⟩ (.int .u64 y) = w5 at hF5 hB5 hR5 hG5 ⊢
        clear b0 b1 b2 b3 r0 r1 r2 r3 cg fg hF4 HB HR HH
        obtain ⟨b0, b1, b2, b3⟩ := cells4 hB5
        obtain ⟨r0, r1, r2, r3⟩ := cells4 hR5
        obtain ⟨f0, f1, f2, f3⟩ := frozen4 hR5
        have HR := Lib.hid hR5
        have HG := Lib.hid hG5
        clear hB5 hR5 hG5
        go_region
        have hRz := setCells4 HR.out (.int .i64 1) (.int .i64 wd) (.int .u64 y) (.int .u64 y)
        have hFz : Frm [] w ((((w5.setCell ⟨w.heap.size + 1, 0, none⟩ (.int .i64 1)).setCell ⟨w.heap.size + 1, 1, none⟩ (.int .i64 wd)).setCell ⟨w.heap.size + 1, 2, none⟩ (.int .u64 y)).setCell ⟨w.heap.size + 1, 3, none⟩ (.int .u64 y)) := hF5.set4 _ _ _ _ _ _ _ _ _ (.inr (Nat.le_succ _))
        have hGz := heap_set4_far (w.heap.size + 1) 0 1 2 3 (.int .i64 1) (.int .i64 wd) (.int .u64 y) (.int .u64 y) (by omega) HG.out
        have hrdz : Rd ((((w5.setCell ⟨w.heap.size + 1, 0, none⟩ (.int .i64 1)).setCell ⟨w.heap.size + 1, 1, none⟩ (.int .i64 wd)).setCell ⟨w.heap.size + 1, 2, none⟩ (.int .u64 y)).setCell ⟨w.heap.size + 1, 3, none⟩ (.int .u64 y)) (.slice (some ⟨g, 0, none⟩) ws.length cap) (u64s (ws.set wd.toNat y)) := by
          refine .inr ⟨g, 0, cap, by simp [u64s], by simp [u64s]; omega, lt_of_heap hGz, fun i u hu => ?_⟩
          obtain ⟨z, hz, rfl⟩ := u64s_get hu
          rw [cell_of_heap hGz, Nat.zero_add, Array.getElem?_setIfInBounds]
          rw [List.getElem?_set] at hz
          split
          · rename_i e
            subst e
            rw [if_pos rfl, if_pos hwl] at hz
            have := HC.out _ _ HX.out
            rw [if_pos (Array.getElem?_eq_some_iff.1 this).1]
            cases hz; rfl
          · rename_i e
            rw [if_neg e] at hz
            exact HC.out _ _ hz
        generalize ((((w5.setCell ⟨w.heap.size + 1, 0, none⟩ (.int .i64 1)).setCell ⟨w.heap.size + 1, 1, none⟩ (.int .i64 wd)).setCell ⟨w.heap.size + 1, 2, none⟩ (.int .u64 y)).setCell ⟨w.heap.size + 1, 3, none⟩ (.int .u64 y)) = wz at hRz hFz hrdz ⊢
        obtain ⟨z0, z1, z2, z3⟩ := cells4 hRz
        go_wp2
        refine bodyPost_ret (v := .tuple #[.slice (some ⟨g, 0, none⟩) ws.length cap, .agg #[(.int .i64 1), (.int .i64 wd), (.int .u64 y), (.int .u64 y)], .int .i64 0]) (by simp [results, Try.results39, go_sem, z0, z1, z2, z3]) rfl ⟨_, rfl, hFz.drew, hrdz.frm ((Frm.refl [] _).drew) (by simp), .inr (by intro b' hb'; cases hb'; show w.heap.size ≤ g; omega)⟩
      · have t1 : (bf != bf) = false := by simp
        go_enter Try.func39, Try.ntmps39
        go_wp2_with (first
          | (go_at_call 48; refine (refkind_any _ _).mono ?_; rintro e w' ⟨rfl, rfl⟩)
          | (at_builtin; refine wpList_append_own _ rfl _ _ 23 rfl _ 22 i0 (.int .u64 0) 1 8 Try.underlying23 hi hz0 hz1 hz2 rfl (by decide) _ _ _ rfl (HOWN.out _) ⟨b, o, none⟩ ws.length c (u64s ws) rfl (by simp [u64s]) ?c1 ?c2 (by unfold maxLen; omega) (by omega) (Nat.le_refl _) ?_))
        case c1 =>
          intro j u hu
          obtain ⟨z, hz, rfl⟩ := u64s_get hu
          have ea : (⟨b, o, none⟩ : Addr).add j = ⟨b, o + j, none⟩ := by
            by_cases h0 : j = 0
            · subst h0; simp [Addr.add]
            · simp [Addr.add, h0]
          rw [ea]
          exact ((((Frm.refl [] w).alloc _).alloc _).cell hb (by simp)).trans (HCL.out j z hz)
        case c2 =>
          intro u hu
          obtain ⟨z, _, rfl⟩ := List.mem_map.1 hu
          rfl
        intro v' w4 ho hg _
        obtain ⟨g, cap, cur, rfl, hgl, hh, hcap, hcs, hcur⟩ := HFIN.out w4 v' ho (show (((w.alloc (.cells #[.int .i64 3, .int .i64 wd, .int .u64 bf, .int .u64 y] 91)).alloc (.cells #[.int .i64 0, .int .i64 0, .int .u64 0, .int .u64 0] 91))).grownBy w4 none from hg)
        have hg' : (((w.alloc (.cells #[.int .i64 3, .int .i64 wd, .int .u64 bf, .int .u64 y] 91)).alloc (.cells #[.int .i64 0, .int .i64 0, .int .u64 0, .int .u64 0] 91))).grownBy w4 none := hg
        have hF4 : Frm [] w w4 := (((Frm.refl _ _).alloc _).alloc _).trans (Frm.grown hg' (by intro k hk; cases hk))
        have hFX : Frm [] ((w.alloc (.cells #[.int .i64 3, .int .i64 wd, .int .u64 bf, .int .u64 y] 91)).alloc (.cells #[.int .i64 0, .int .i64 0, .int .u64 0, .int .u64 0] 91)) w4 := Frm.grown hg' (by intro k hk; cases hk)
        have hB4 := hFX.heap (heap_alloc_old _ (heap_alloc_new w (.cells #[.int .i64 3, .int .i64 wd, .int .u64 bf, .int .u64 y] 91))) (by simp)
        have hR4 := hFX.heap (heap_alloc_at (w := w.alloc (.cells #[.int .i64 3, .int .i64 wd, .int .u64 bf, .int .u64 y] 91)) (.cells #[.int .i64 0, .int .i64 0, .int .u64 0, .int .u64 0] 91) (k := w.heap.size + 1) (by simp)) (by simp)
        have hgs := lt_of_heap hh
        have hRl := lt_of_heap hR4
        obtain ⟨b0, b1, b2, b3⟩ := cells4 hB4
        obtain ⟨r0, r1, r2, r3⟩ := cells4 hR4
        have cg : w4.cell? ⟨g, wd.toNat, none⟩ = some (.int .u64 bf) := by rw [cell_of_heap hh]; exact hcur _ _ HX.out
        have fg : w4.frozen? ⟨g, wd.toNat, none⟩ = false := frozen_of_heap hh
        have HB := Lib.hid hB4
        have HR := Lib.hid hR4
        have HH := Lib.hid hh
        have HC := Lib.hid hcur
        clear ho hg hg' hFX hB4 hR4 hh hcur hcs
        go_wp2_with fail
        have hF5 : Frm [] w (w4.setCell ⟨g, wd.toNat, none⟩ (.int .u64 y)) := hF4.setCell _ _ (.inr (by show w.heap.size ≤ g; omega))
        have hB5 : (w4.setCell ⟨g, wd.toNat, none⟩ (.int .u64 y)).heap[w.heap.size]? = _ := heap_setCell_far _ _ (by show g ≠ _; omega) HB.out
        have hR5 : (w4.setCell ⟨g, wd.toNat, none⟩ (.int .u64 y)).heap[w.heap.size + 1]? = _ := heap_setCell_far _ _ (by show g ≠ _; omega) HR.out
        have hG5 := heap_setCell_at (i := wd.toNat) (.int .u64 y) HH.out
        generalize w4.setCell ⟨g, wd.toNat, none⟩ (.int .u64 y) = w5 at hF5 hB5 hR5 hG5 ⊢
        clear b0 b1 b2 b3 r0 r1 r2 r3 cg fg hF4 HB HR HH
        obtain ⟨b0, b1, b2, b3⟩ := cells4 hB5
        obtain ⟨r0, r1, r2, r3⟩ := cells4 hR5
        obtain ⟨f0, f1, f2, f3⟩ := frozen4 hR5
        have HR := Lib.hid hR5
        have HG := Lib.hid hG5
        clear hB5 hR5 hG5
        go_region
        have hRz := setCells4 HR.out (.int .i64 3) (.int .i64 wd) (.int .u64 bf) (.int .u64 y)
        have hFz : Frm [] w ((((w5.setCell ⟨w.heap.size + 1, 0, none⟩ (.int .i64 3)).setCell ⟨w.heap.size + 1, 1, none⟩ (.int .i64 wd)).setCell ⟨w.heap.size + 1, 2, none⟩ (.int .u64 bf)).setCell ⟨w.heap.size + 1, 3, none⟩ (.int .u64 y)) := hF5.set4 _ _ _ _ _ _ _ _ _ (.inr (Nat.le_succ _))
        have hGz := heap_set4_far (w.heap.size + 1) 0 1 2 3 (.int .i64 3) (.int .i64 wd) (.int .u64 bf) (.int .u64 y) (by omega) HG.out
        have hrdz : Rd ((((w5.setCell ⟨w.heap.size + 1, 0, none⟩ (.int .i64 3)).setCell ⟨w.heap.size + 1, 1, none⟩ (.int .i64 wd)).setCell ⟨w.heap.size + 1, 2, none⟩ (.int .u64 bf)).setCell ⟨w.heap.size + 1, 3, none⟩ (.int .u64 y)) (.slice (some ⟨g, 0, none⟩) ws.length cap) (u64s (ws.set wd.toNat y)) := by
          refine .inr ⟨g, 0, cap, by simp [u64s], by simp [u64s]; omega, lt_of_heap hGz, fun i u hu => ?_⟩
          obtain ⟨z, hz, rfl⟩ := u64s_get hu
          rw [cell_of_heap hGz, Nat.zero_add, Array.getElem?_setIfInBounds]
          rw [List.getElem?_set] at hz
          split
          · rename_i e
            subst e
            rw [if_pos rfl, if_pos hwl] at hz
            have := HC.out _ _ HX.out
            rw [if_pos (Array.getElem?_eq_some_iff.1 this).1]
            cases hz; rfl
          · rename_i e
            rw [if_neg e] at hz
            exact HC.out _ _ hz
        generalize ((((w5.setCell ⟨w.heap.size + 1, 0, none⟩ (.int .i64 3)).setCell ⟨w.heap.size + 1, 1, none⟩ (.int .i64 wd)).setCell ⟨w.heap.size + 1, 2, none⟩ (.int .u64 bf)).setCell ⟨w.heap.size + 1, 3, none⟩ (.int .u64 y)) = wz at hRz hFz hrdz ⊢
        obtain ⟨z0, z1, z2, z3⟩ := cells4 hRz
        go_wp2
        refine bodyPost_ret (v := .tuple #[.slice (some ⟨g, 0, none⟩) ws.length cap, .agg #[(.int .i64 3), (.int .i64 wd), (.int .u64 bf), (.int .u64 y)], .int .i64 0]) (by simp [results, Try.results39, go_sem, z0, z1, z2, z3]) rfl ⟨_, rfl, hFz.drew, hrdz.frm ((Frm.refl [] _).drew) (by simp), .inr (by intro b' hb'; cases hb'; show w.heap.size ≤ g; omega)⟩
      · have t1 : (y != bf) = true := by simpa using Ne.symm hbx
        clear hbx
        go_enter Try.func39, Try.ntmps39
        go_wp2_with (first
          | (go_at_call 48; refine (refkind_any _ _).mono ?_; rintro e w' ⟨rfl, rfl⟩)
          | (at_builtin; refine wpList_append_own _ rfl _ _ 23 rfl _ 22 i0 (.int .u64 0) 1 8 Try.underlying23 hi hz0 hz1 hz2 rfl (by decide) _ _ _ rfl (HOWN.out _) ⟨b, o, none⟩ ws.length c (u64s ws) rfl (by simp [u64s]) ?c1 ?c2 (by unfold maxLen; omega) (by omega) (Nat.le_refl _) ?_))
        case c1 =>
          intro j u hu
          obtain ⟨z, hz, rfl⟩ := u64s_get hu
          have ea : (⟨b, o, none⟩ : Addr).add j = ⟨b, o + j, none⟩ := by
            by_cases h0 : j = 0
            · subst h0; simp [Addr.add]
            · simp [Addr.add, h0]
          rw [ea]
          exact ((((Frm.refl [] w).alloc _).alloc _).cell hb (by simp)).trans (HCL.out j z hz)
        case c2 =>
          intro u hu
          obtain ⟨z, _, rfl⟩ := List.mem_map.1 hu
          rfl
        intro v' w4 ho hg _
        obtain ⟨g, cap, cur, rfl, hgl, hh, hcap, hcs, hcur⟩ := HFIN.out w4 v' ho (show (((w.alloc (.cells #[.int .i64 3, .int .i64 wd, .int .u64 bf, .int .u64 af] 91)).alloc (.cells #[.int .i64 0, .int .i64 0, .int .u64 0, .int .u64 0] 91))).grownBy w4 none from hg)
        have hg' : (((w.alloc (.cells #[.int .i64 3, .int .i64 wd, .int .u64 bf, .int .u64 af] 91)).alloc (.cells #[.int .i64 0, .int .i64 0, .int .u64 0, .int .u64 0] 91))).grownBy w4 none := hg
        have hF4 : Frm [] w w4 := (((Frm.refl _ _).alloc _).alloc _).trans (Frm.grown hg' (by intro k hk; cases hk))
        have hFX : Frm [] ((w.alloc (.cells #[.int .i64 3, .int .i64 wd, .int .u64 bf, .int .u64 af] 91)).alloc (.cells #[.int .i64 0, .int .i64 0, .int .u64 0, .int .u64 0] 91)) w4 := Frm.grown hg' (by intro k hk; cases hk)
        have hB4 := hFX.heap (heap_alloc_old _ (heap_alloc_new w (.cells #[.int .i64 3, .int .i64 wd, .int .u64 bf, .int .u64 af] 91))) (by simp)
        have hR4 := hFX.heap (heap_alloc_at (w := w.alloc (.cells #[.int .i64 3, .int .i64 wd, .int .u64 bf, .int .u64 af] 91)) (.cells #[.int .i64 0, .int .i64 0, .int .u64 0, .int .u64 0] 91) (k := w.heap.size + 1) (by simp)) (by simp)
        have hgs := lt_of_heap hh
        have hRl := lt_of_heap hR4
        obtain ⟨b0, b1, b2, b3⟩ := cells4 hB4
        obtain ⟨r0, r1, r2, r3⟩ := cells4 hR4
        have cg : w4.cell? ⟨g, wd.toNat, none⟩ = some (.int .u64 y) := by rw [cell_of_heap hh]; exact hcur _ _ HX.out
        have fg : w4.frozen? ⟨g, wd.toNat, none⟩ = false := frozen_of_heap hh
        have HB := Lib.hid hB4
        have HR := Lib.hid hR4
        have HH := Lib.hid hh
        have HC := Lib.hid hcur
        clear ho hg hg' hFX hB4 hR4 hh hcur hcs
        go_wp2_with fail
        have hF5 : Frm [] w (w4.setCell ⟨g, wd.toNat, none⟩ (.int .u64 y)) := hF4.setCell _ _ (.inr (by show w.heap.size ≤ g; omega))
        have hB5 : (w4.setCell ⟨g, wd.toNat, none⟩ (.int .u64 y)).heap[w.heap.size]? = _ := heap_setCell_far _ _ (by show g ≠ _; omega) HB.out
        have hR5 : (w4.setCell ⟨g, wd.toNat, none⟩ (.int .u64 y)).heap[w.heap.size + 1]? = _ := heap_setCell_far _ _ (by show g ≠ _; omega) HR.out
        have hG5 := heap_setCell_at (i := wd.toNat) (.int .u64 y) HH.out
        generalize w4.setCell ⟨g, wd.toNat, none⟩ (.int .u64 y) = w5 at hF5 hB5 hR5 hG5 ⊢
        clear b0 b1 b2 b3 r0 r1 r2 r3 cg fg hF4 HB HR HH
        obtain ⟨b0, b1, b2, b3⟩ := cells4 hB5
        obtain ⟨r0, r1, r2, r3⟩ := cells4 hR5
        obtain ⟨f0, f1, f2, f3⟩ := frozen4 hR5
        have HR := Lib.hid hR5
        have HG := Lib.hid hG5
        clear hB5 hR5 hG5
        go_region
        have hRz := setCells4 HR.out (.int .i64 3) (.int .i64 wd) (.int .u64 y) (.int .u64 y)
        have hFz : Frm [] w ((((w5.setCell ⟨w.heap.size + 1, 0, none⟩ (.int .i64 3)).setCell ⟨w.heap.size + 1, 1, none⟩ (.int .i64 wd)).setCell ⟨w.heap.size + 1, 2, none⟩ (.int .u64 y)).setCell ⟨w.heap.size + 1, 3, none⟩ (.int .u64 y)) := hF5.set4 _ _ _ _ _ _ _ _ _ (.inr (Nat.le_succ _))
        have hGz := heap_set4_far (w.heap.size + 1) 0 1 2 3 (.int .i64 3) (.int .i64 wd) (.int .u64 y) (.int .u64 y) (by omega) HG.out
        have hrdz : Rd ((((w5.setCell ⟨w.heap.size + 1, 0, none⟩ (.int .i64 3)).setCell ⟨w.heap.size + 1, 1, none⟩ (.int .i64 wd)).setCell ⟨w.heap.size + 1, 2, none⟩ (.int .u64 y)).setCell ⟨w.heap.size + 1, 3, none⟩ (.int .u64 y)) (.slice (some ⟨g, 0, none⟩) ws.length cap) (u64s (ws.set wd.toNat y)) := by
          refine .inr ⟨g, 0, cap, by simp [u64s], by simp [u64s]; omega, lt_of_heap hGz, fun i u hu => ?_⟩
          obtain ⟨z, hz, rfl⟩ := u64s_get hu
          rw [cell_of_heap hGz, Nat.zero_add, Array.getElem?_setIfInBounds]
          rw [List.getElem?_set] at hz
          split
          · rename_i e
            subst e
            rw [if_pos rfl, if_pos hwl] at hz
            have := HC.out _ _ HX.out
            rw [if_pos (Array.getElem?_eq_some_iff.1 this).1]
            cases hz; rfl
          · rename_i e
            rw [if_neg e] at hz
            exact HC.out _ _ hz
        generalize ((((w5.setCell ⟨w.heap.size + 1, 0, none⟩ (.int .i64 3)).setCell ⟨w.heap.size + 1, 1, none⟩ (.int .i64 wd)).setCell ⟨w.heap.size + 1, 2, none⟩ (.int .u64 y)).setCell ⟨w.heap.size + 1, 3, none⟩ (.int .u64 y)) = wz at hRz hFz hrdz ⊢
        obtain ⟨z0, z1, z2, z3⟩ := cells4 hRz
        go_wp2
        refine bodyPost_ret (v := .tuple #[.slice (some ⟨g, 0, none⟩) ws.length cap, .agg #[(.int .i64 3), (.int .i64 wd), (.int .u64 y), (.int .u64 y)], .int .i64 0]) (by simp [results, Try.results39, go_sem, z0, z1, z2, z3]) rfl ⟨_, rfl, hFz.drew, hrdz.frm ((Frm.refl [] _).drew) (by simp), .inr (by intro b' hb'; cases hb'; show w.heap.size ≤ g; omega)⟩
      · have t1 : (k == 1) = false := by simp [hn1]
        have t3 : (k == 3) = false := by simp [hn3]
        clear hn1 hn3
        go_enter Try.func39, Try.ntmps39
        go_wp2_with (first
          | (go_at_call 48; refine (refkind_any _ _).mono ?_; rintro e w' ⟨rfl, rfl⟩)
          | (at_builtin; refine wpList_append_own _ rfl _ _ 23 rfl _ 22 i0 (.int .u64 0) 1 8 Try.underlying23 hi hz0 hz1 hz2 rfl (by decide) _ _ _ rfl (HOWN.out _) ⟨b, o, none⟩ ws.length c (u64s ws) rfl (by simp [u64s]) ?c1 ?c2 (by unfold maxLen; omega) (by omega) (Nat.le_refl _) ?_))
        case c1 =>
          intro j u hu
          obtain ⟨z, hz, rfl⟩ := u64s_get hu
          have ea : (⟨b, o, none⟩ : Addr).add j = ⟨b, o + j, none⟩ := by
            by_cases h0 : j = 0
            · subst h0; simp [Addr.add]
            · simp [Addr.add, h0]
          rw [ea]
          exact ((((Frm.refl [] w).alloc _).alloc _).cell hb (by simp)).trans (HCL.out j z hz)
        case c2 =>
          intro u hu
          obtain ⟨z, _, rfl⟩ := List.mem_map.1 hu
          rfl
        intro v' w4 ho hg _
        obtain ⟨g, cap, cur, rfl, hgl, hh, hcap, hcs, hcur⟩ := HFIN.out w4 v' ho (show (((w.alloc (.cells #[.int .i64 k, .int .i64 wd, .int .u64 bf, .int .u64 y] 91)).alloc (.cells #[.int .i64 0, .int .i64 0, .int .u64 0, .int .u64 0] 91))).grownBy w4 none from hg)
        have hg' : (((w.alloc (.cells #[.int .i64 k, .int .i64 wd, .int .u64 bf, .int .u64 y] 91)).alloc (.cells #[.int .i64 0, .int .i64 0, .int .u64 0, .int .u64 0] 91))).grownBy w4 none := hg
        have hF4 : Frm [] w w4 := (((Frm.refl _ _).alloc _).alloc _).trans (Frm.grown hg' (by intro k hk; cases hk))
        have hFX : Frm [] ((w.alloc (.cells #[.int .i64 k, .int .i64 wd, .int .u64 bf, .int .u64 y] 91)).alloc (.cells #[.int .i64 0, .int .i64 0, .int .u64 0, .int .u64 0] 91)) w4 := Frm.grown hg' (by intro k hk; cases hk)
        have hB4 := hFX.heap (heap_alloc_old _ (heap_alloc_new w (.cells #[.int .i64 k, .int .i64 wd, .int .u64 bf, .int .u64 y] 91))) (by simp)
        have hR4 := hFX.heap (heap_alloc_at (w := w.alloc (.cells #[.int .i64 k, .int .i64 wd, .int .u64 bf, .int .u64 y] 91)) (.cells #[.int .i64 0, .int .i64 0, .int .u64 0, .int .u64 0] 91) (k := w.heap.size + 1) (by simp)) (by simp)
        have hgs := lt_of_heap hh
        have hRl := lt_of_heap hR4
        obtain ⟨b0, b1, b2, b3⟩ := cells4 hB4
        obtain ⟨r0, r1, r2, r3⟩ := cells4 hR4
        have cg : w4.cell? ⟨g, wd.toNat, none⟩ = some (.int .u64 x) := by rw [cell_of_heap hh]; exact hcur _ _ HX.out
        have fg : w4.frozen? ⟨g, wd.toNat, none⟩ = false := frozen_of_heap hh
        have HB := Lib.hid hB4
        have HR := Lib.hid hR4
        have HH := Lib.hid hh
        have HC := Lib.hid hcur
        clear ho hg hg' hFX hB4 hR4 hh hcur hcs
        go_wp2_with fail
        have hF5 : Frm [] w (w4.setCell ⟨g, wd.toNat, none⟩ (.int .u64 y)) := hF4.setCell _ _ (.inr (by show w.heap.size ≤ g; omega))
        have hB5 : (w4.setCell ⟨g, wd.toNat, none⟩ (.int .u64 y)).heap[w.heap.size]? = _ := heap_setCell_far _ _ (by show g ≠ _; omega) HB.out
        have hR5 : (w4.setCell ⟨g, wd.toNat, none⟩ (.int .u64 y)).heap[w.heap.size + 1]? = _ := heap_setCell_far _ _ (by show g ≠ _; omega) HR.out
        have hG5 := heap_setCell_at (i := wd.toNat) (.int .u64 y) HH.out
        generalize w4.setCell ⟨g, wd.toNat, none⟩ (.int .u64 y) = w5 at hF5 hB5 hR5 hG5 ⊢
        clear b0 b1 b2 b3 r0 r1 r2 r3 cg fg hF4 HB HR HH
        obtain ⟨b0, b1, b2, b3⟩ := cells4 hB5
        obtain ⟨r0, r1, r2, r3⟩ := cells4 hR5
        obtain ⟨f0, f1, f2, f3⟩ := frozen4 hR5
        have HR := Lib.hid hR5
        have HG := Lib.hid hG5
        clear hB5 hR5 hG5
        go_region
        have hRz := setCells4 HR.out (.int .i64 k) (.int .i64 wd) (.int .u64 x) (.int .u64 y)
        have hFz : Frm [] w ((((w5.setCell ⟨w.heap.size + 1, 0, none⟩ (.int .i64 k)).setCell ⟨w.heap.size + 1, 1, none⟩ (.int .i64 wd)).setCell ⟨w.heap.size + 1, 2, none⟩ (.int .u64 x)).setCell ⟨w.heap.size + 1, 3, none⟩ (.int .u64 y)) := hF5.set4 _ _ _ _ _ _ _ _ _ (.inr (Nat.le_succ _))
        have hGz := heap_set4_far (w.heap.size + 1) 0 1 2 3 (.int .i64 k) (.int .i64 wd) (.int .u64 x) (.int .u64 y) (by omega) HG.out
        have hrdz : Rd ((((w5.setCell ⟨w.heap.size + 1, 0, none⟩ (.int .i64 k)).setCell ⟨w.heap.size + 1, 1, none⟩ (.int .i64 wd)).setCell ⟨w.heap.size + 1, 2, none⟩ (.int .u64 x)).setCell ⟨w.heap.size + 1, 3, none⟩ (.int .u64 y)) (.slice (some ⟨g, 0, none⟩) ws.length cap) (u64s (ws.set wd.toNat y)) := by
          refine .inr ⟨g, 0, cap, by simp [u64s], by simp [u64s]; omega, lt_of_heap hGz, fun i u hu => ?_⟩
          obtain ⟨z, hz, rfl⟩ := u64s_get hu
          rw [cell_of_heap hGz, Nat.zero_add, Array.getElem?_setIfInBounds]
          rw [List.getElem?_set] at hz
          split
          · rename_i e
            subst e
            rw [if_pos rfl, if_pos hwl] at hz
            have := HC.out _ _ HX.out
            rw [if_pos (Array.getElem?_eq_some_iff.1 this).1]
            cases hz; rfl
          · rename_i e
            rw [if_neg e] at hz
            exact HC.out _ _ hz
        generalize ((((w5.setCell ⟨w.heap.size + 1, 0, none⟩ (.int .i64 k)).setCell ⟨w.heap.size + 1, 1, none⟩ (.int .i64 wd)).setCell ⟨w.heap.size + 1, 2, none⟩ (.int .u64 x)).setCell ⟨w.heap.size + 1, 3, none⟩ (.int .u64 y)) = wz at hRz hFz hrdz ⊢
        obtain ⟨z0, z1, z2, z3⟩ := cells4 hRz
        go_wp2
        refine bodyPost_ret (v := .tuple #[.slice (some ⟨g, 0, none⟩) ws.length cap, .agg #[(.int .i64 k), (.int .i64 wd), (.int .u64 x), (.int .u64 y)], .int .i64 0]) (by simp [results, Try.results39, go_sem, z0, z1, z2, z3]) rfl ⟨_, rfl, hFz.drew, hrdz.frm ((Frm.refl [] _).drew) (by simp), .inr (by intro b' hb'; cases hb'; show w.heap.size ≤ g; omega)⟩
theorem mWs_len (ws : List Int) (a : Acc) : (mWs ws a).length = ws.length := by unfold mWs; split <;> simp
theorem refdo_n {w : World} {ws : List Int} {b o c n : Nat} (hn : ws.length = n) (h0 : 0 < n) (hrd : Rd w (.slice (some ⟨b, o, none⟩) n c) (u64s ws)) (hle : n ≤ 65536) (x : Acc) :
    Calls Try.prog 39 #[.slice (some ⟨b, o, none⟩) n c, .agg #[.int .i64 x.k, .int .i64 x.w, .int .u64 x.b, .int .u64 x.a]] w
    (fun e w' => ∃ b' o' c', Ret (.tuple #[.slice (some ⟨b', o', none⟩) n c', .agg #[.int .i64 (mRes ws x).k, .int .i64 (mRes ws x).w, .int .u64 (mRes ws x).b, .int .u64 (mRes ws x).a], .int .i64 (mErr n x.k x.w)])
      (fun w' => Frm [] w w' ∧ Rd w' (.slice (some ⟨b', o', none⟩) n c') (u64s (mWs ws x)) ∧ (b' = b ∨ w.heap.size ≤ b')) e w') := by
  subst hn
  obtain ⟨hb, hc⟩ := hrd.cells
  refine (refdo_any hrd hb hc hle x.k x.w x.b x.a).mono fun e w' hh => ?_
  obtain ⟨v, h1, h2, h3, h4⟩ := hh
  rcases h4 with rfl | h4
  · exact ⟨b, o, c, h1, h2, h3, .inl rfl⟩
  · have h3' : Rd w' v (u64s (mWs ws x)) := h3
    rcases h3' with ⟨_, hnil⟩ | ⟨b', o', c', rfl, hl, hb', hr⟩
    · have h5 : (mWs ws x).length = 0 := by have : mWs ws x = [] := by simpa [u64s] using hnil
                                            rw [this]; rfl
      rw [mWs_len] at h5; omega
    · have e : (u64s (mWs ws x)).length = ws.length := by simp [u64s, mWs_len]
      rw [e] at h1 h3 h4
      exact ⟨b', o', c', h1, h2, h3, .inr (h4 b' rfl)⟩

end Go.Proofs.Ytbhnijkphkkalaa
